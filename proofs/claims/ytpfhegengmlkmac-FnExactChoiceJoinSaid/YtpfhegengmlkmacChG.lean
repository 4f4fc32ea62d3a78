/- One spot more in the map of spots: the operations of a drawn region. -/
import Derived.Test.YtpfhegengmlkmacChJ
namespace Go.Proofs.Ytpfhegengmlkmac
open Go.RowKit Go.BigFrame

theorem GrpS.keep {w w' : World} {B b n : Nat} {D : DataW Value} {V : ByteArray → Value} {S : ByteArray → List Spot} (h : GrpS w B b n D V S) (hb : Below w.heap.size w w') : GrpS w' B b n D V S :=
  ⟨h.own.kept (grown_below hb none) (by simp), h.lt, h.eq, h.has, fun s => own_keep (h.row s) hb, h.far⟩

theorem Try.infoP : (Try.prog.info? 119).map (fun i => (i.zero, i.size, i.bytes)) = some (some (.agg #[.int .i64 0, .int .i64 0]), 2, 16) := by kernel_rfl

theorem wp_append_spot {o : Oper} {a : Act} {w : World} {K : Act → World → Prop} {Q : Exit → Act → World → Prop} (s x : Operand)
    (ho : o.op = .call { callee := .builtin .append, args := #[s, x], argTypes := #[117, 117] }) (base : Nat) (v : Value) (l : List Spot) (hs : a.eval s = v) (hg : GathP w base v l) (hbase : base ≤ w.heap.size)
    (ad : Nat) (p : Spot) (hx : a.eval x = .slice (some ⟨ad, 0, none⟩) 1 1) (c0 : w.cell? ⟨ad, 0, none⟩ = some (.int .i64 (p.1 : Int))) (c1 : w.cell? ⟨ad, 1, none⟩ = some (.int .i64 (p.2 : Int))) (hl : l.length ≤ 1048576)
    (h : ∀ v' w', w'.ownsRow base 119 2 v' (l.length + 1) (scells l ++ [.int .i64 (p.1 : Int), .int .i64 (p.2 : Int)]) → w.grownBy w' v.ownBlock → (v'.ownBlock = v.ownBlock ∨ v'.ownBlock = some w.heap.size) → K (a.put o.dst v') w') : o.wp Try.prog a w K Q := by
  obtain ⟨i0, hi, hz0, hz1, hz2⟩ := info_parts Try.infoP
  obtain ⟨v', w', hr, h2, h3, _, h5⟩ := run_append_own_at (P := Try.prog) w base 117 o.type 119 i0 (.agg #[.int .i64 0, .int .i64 0]) 2 16 Try.underlying117 hi hz0 hz1 hz2 rfl (by decide) v l.length (scells l) hg ⟨ad, 0, none⟩ 1 1 [.int .i64 (p.1 : Int), .int .i64 (p.2 : Int)] rfl (by
      intro j u hj
      match j, hj with
      | 0, hj => simp at hj; subst hj; exact c0
      | 1, hj => simp at hj; subst hj; exact c1) (by simp [Value.oneCell']) (by unfold maxLen; omega) (by omega) hbase
  unfold Oper.wp execOp
  simp only [ho, resolve, invoke, builtin, Sem.run_bind, Sem.run_pure, Result.andThen_ok, List.map_toArray, List.map_cons, List.map_nil, hs, hx, hr]
  exact h _ w' h2 h3 h5

theorem Try.keyed : Maps.Keyed Try.prog 9 := Maps.string_keyed Try.underlying9

theorem key_text (s : ByteArray) (hs : s.size ≤ maxLen) : keyOf Try.prog 9 (.string s) = some (litS s) := by
  rw [keyOf_string Try.underlying9]
  simp [mapKey, Try.underlying9, litS, hs]

theorem Try.zeroSp (w : World) : (zeroValue 117).run Try.prog w = .ok (.slice none 0 0) w := by kernel_rfl

theorem wp_update_spot {o : Oper} {a : Act} {w : World} {K : Act → World → Prop} {Q : Exit → Act → World → Prop} (m x y : Operand) (hop : o.op = Op.mapUpdate 141 m x y) (b n : Nat) (D : DataW Value) (hm : a.eval m = .map (some b)) (hown : w.ownsMap Try.prog 9 heldE b n D) (hn : n < maxLen) (s : ByteArray) (hs : s.size ≤ maxLen) (v : Value) (hx : a.eval x = .string s) (hy : a.eval y = v)
    (h : ∀ w', w'.ownsMap Try.prog 9 heldE b (n + 1) (D.put (litS s) (.held v)) → w.grownBy w' (some b) → K (a.put o.dst undef) w') : o.wp Try.prog a w K Q := by
  obtain ⟨w', hrun, r1, r2⟩ := hown.update Try.keyed Try.underlying141 hn (key := .string s) (val := v) (kl := litS s) (d := .held v) (ps := []) (key_text s hs) rfl
  unfold Oper.wp
  simp [execOp, hop, hm, hx, hy, hrun, Result.andThen]
  exact h w' r1 r2

theorem lookup_spot {w : World} {b n : Nat} {D : DataW Value} {V : ByteArray → Value} {S : ByteArray → List Spot} {B : Nat} (h : GrpS w B b n D V S) (s : ByteArray) (hs : s.size ≤ maxLen) : (Instr.lookup 141 (.map (some b)) (.string s) false).run Try.prog w = .ok (V s) w := by
  obtain ⟨v, ps, hrun, hv⟩ := h.own.lookup Try.keyed Try.underlying141 (Try.zeroSp w) (zd := .held (.slice none 0 0)) (zp := []) rfl (key_text s hs)
  unfold heldE at hv
  simp only [Option.some.injEq, Prod.mk.injEq] at hv
  rw [h.eq s] at hv
  obtain rfl : v = V s := by simpa using hv.1
  exact hrun

/-- All spots ahead of place (k, j) are in S; and S has no others than spots. -/
def SpotsTo (ws : List (List ItemL)) (k j : Nat) (S : ByteArray → List Spot) : Prop := (∀ s p, p ∈ S s → SpotOf ws s p) ∧ ∀ s p, SpotOf ws s p → (p.1 < k ∨ (p.1 = k ∧ p.2 < j)) → p ∈ S s
theorem spotsTo_start (ws : List (List ItemL)) : SpotsTo ws 0 0 (fun _ => []) := ⟨fun s p h => by simp at h, fun s p _ h => by omega⟩
theorem SpotsTo.empty {ws : List (List ItemL)} {k : Nat} {S : ByteArray → List Spot} (h : SpotsTo ws k 0 S) (hk : k < ws.length) (h0 : ws[k].length = 0) : SpotsTo ws (k + 1) 0 S := ⟨h.1, fun s p hp hlt => by
  rcases Nat.lt_or_ge p.1 k with hl | hl
  · exact h.2 s p hp (.inl hl)
  · obtain ⟨_, h3, _⟩ := hp
    have e : p.1 = k := by omega
    exfalso
    simp only [e] at h3
    omega⟩
theorem SpotsTo.whole {ws : List (List ItemL)} {k : Nat} {S : ByteArray → List Spot} (hk : k < ws.length) (h0 : 0 < ws[k].length) (h : SpotsTo ws k (ws[k][ws[k].length - 1]).2.length S) : SpotsTo ws (k + 1) 0 S := ⟨h.1, fun s p hp hlt => by
  rcases Nat.lt_or_ge p.1 k with hl | hl
  · exact h.2 s p hp (.inl hl)
  · have e : p.1 = k := by omega
    have hp2 := hp
    obtain ⟨_, _, h4, _⟩ := hp2
    refine h.2 s p hp (.inr ⟨e, ?_⟩)
    simp only [e] at h4
    exact h4⟩
open Classical in
theorem SpotsTo.step {ws : List (List ItemL)} {k j : Nat} {S : ByteArray → List Spot} (h : SpotsTo ws k j S) (hk : k < ws.length) (h0 : 0 < ws[k].length) (hj : j < (ws[k][ws[k].length - 1]).2.length) {s : ByteArray} (hs : ((ws[k][ws[k].length - 1]).2[j]).1 = s) : SpotsTo ws k (j + 1) (fun t => if t = s then S s ++ [(k, j)] else S t) := by
  have hnew : SpotOf ws s (k, j) := ⟨hk, h0, hj, hs⟩
  refine ⟨fun t p hp => ?_, fun t p hp hlt => ?_⟩
  · by_cases e : t = s
    · subst e
      simp only [↓reduceIte] at hp
      rcases List.mem_append.1 hp with hp | hp
      · exact h.1 _ p hp
      · obtain rfl : p = (k, j) := by simpa using hp
        exact hnew
    · simp only [if_neg e] at hp
      exact h.1 t p hp
  · by_cases hq : p.1 < k ∨ (p.1 = k ∧ p.2 < j)
    · have hm := h.2 t p hp hq
      by_cases e : t = s
      · subst e
        simp only [↓reduceIte]
        exact List.mem_append_left _ hm
      · simp only [if_neg e]
        exact hm
    · have e1 : p = (k, j) := Prod.ext (by show p.1 = k; omega) (by show p.2 = j; omega)
      subst e1
      obtain ⟨_, _, _, hs'⟩ := hp
      simp only at hs'
      have e : t = s := by rw [← hs', hs]
      simp only [if_pos e]
      exact List.mem_append_right _ (by simp)

end Go.Proofs.Ytpfhegengmlkmac
