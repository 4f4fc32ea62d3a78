/- A slice of marks that the call itself gathers by append. -/
import Derived.Test.YtpfhegengmlkmacGreatDoorLat
import Derived.Deep.AppendLies
namespace Go.Proofs.YtpfhegengmlkmacGreatDoor
open Go.RowKit Go.BigFrame

/-- The cells of marks, two a mark. -/
def mcells : List (ByteArray × Int) → List Value
  | [] => []
  | m :: r => .string m.1 :: .int .i64 m.2 :: mcells r
theorem mcells_length : ∀ l, (mcells l).length = l.length * 2
  | [] => rfl
  | m :: r => by simp [mcells, mcells_length r]; omega
theorem mcells_append : ∀ l r, mcells (l ++ r) = mcells l ++ mcells r
  | [], _ => rfl
  | m :: l, r => by simp [mcells, mcells_append l r]
theorem mcells_at : ∀ (l : List (ByteArray × Int)) (k : Nat) (h : k < l.length), (mcells l)[k * 2]? = some (.string l[k].1) ∧ (mcells l)[k * 2 + 1]? = some (.int .i64 l[k].2)
  | m :: r, 0, _ => by simp [mcells]
  | m :: r, k + 1, h => by
    have := mcells_at r k (by simpa using h)
    have e0 : (k + 1) * 2 = k * 2 + 1 + 1 := by omega
    have e1 : (k + 1) * 2 + 1 = k * 2 + 1 + 1 + 1 := by omega
    rw [e0]
    simp only [mcells, List.getElem?_cons_succ, List.getElem_cons_succ]
    exact this

/-- The slice value 'v' holds the marks 'l', in a block of the call's own, from number 'B' on; or it is nil, and there are none. -/
def Gath (w : World) (B : Nat) (v : Value) (l : List (ByteArray × Int)) : Prop := w.ownsRow B 144 2 v l.length (mcells l)

theorem Gath.none (w : World) (B : Nat) : Gath w B (.slice none 0 0) [] := World.ownsRow_nil _ _ _ _

theorem Gath.form {w : World} {B : Nat} {v : Value} {l : List (ByteArray × Int)} (h : Gath w B v l) :
    (v = .slice Option.none 0 0 ∧ l = []) ∨ ∃ g cap, v = .slice (some ⟨g, 0, Option.none⟩) l.length cap ∧ B ≤ g ∧ Own w g l := by
  obtain ⟨hl, h | ⟨g, cap, cur, hv, hg, hh, hn, hc, hs, ht⟩⟩ := h
  · exact .inl ⟨h.1, List.length_eq_zero_iff.1 h.2⟩
  · refine .inr ⟨g, cap, hv, hg, cap * 2, fun i => (cur[i]?).getD undef, ?_, by omega, fun k hk => ?_⟩
    · refine ⟨cur, hh, hs, fun i hi => ?_⟩
      have hi' : i < cur.size := by omega
      simp [Array.getElem?_eq_getElem hi']
    · have h2 := mcells_at l k hk
      have hlen := mcells_length l
      rw [← ht] at h2
      rw [List.getElem?_take_of_lt (by omega), List.getElem?_take_of_lt (by omega)] at h2
      simp only [Array.getElem?_toList] at h2
      simp only [h2.1, h2.2]
      exact ⟨rfl, rfl⟩

theorem Gath.shape {w : World} {B : Nat} {v : Value} {l : List (ByteArray × Int)} (h : Gath w B v l) : ∃ a cap, v = .slice a l.length cap ∧ Row w a l := by
  rcases h.form with ⟨hv, rfl⟩ | ⟨g, cap, hv, _, ho⟩
  · exact ⟨_, _, hv, fun k hk => absurd hk (Nat.not_lt_zero k)⟩
  · exact ⟨_, _, hv, ho.row⟩

theorem Gath.keep {w w' : World} {B : Nat} {v : Value} {l : List (ByteArray × Int)} (h : Gath w B v l) (hb : Below w.heap.size w w') : Gath w' B v l := by
  obtain ⟨hl, h | ⟨g, cap, cur, hv, hg, hh, r⟩⟩ := h
  · exact ⟨hl, .inl h⟩
  · refine ⟨hl, .inr ⟨g, cap, cur, hv, hg, ?_, r⟩⟩
    rw [hb.block g ?_]
    · exact hh
    · rcases Nat.lt_or_ge g w.heap.size with hlt | hge
      · exact hlt
      · rw [Array.getElem?_eq_none hge] at hh; cases hh

theorem Gath.lower {w : World} {B B' : Nat} {v : Value} {l : List (ByteArray × Int)} (h : Gath w B v l) (hB : B' ≤ B) : Gath w B' v l := by
  obtain ⟨hl, h | ⟨g, cap, cur, hv, hg, r⟩⟩ := h
  · exact ⟨hl, .inl h⟩
  · exact ⟨hl, .inr ⟨g, cap, cur, hv, Nat.le_trans hB hg, r⟩⟩

theorem Gath.snoc {w : World} {B : Nat} {v : Value} {l : List (ByteArray × Int)} {s : ByteArray} {x : Int} (h : w.ownsRow B 144 2 v (l.length + 1) (mcells l ++ [.string s, .int .i64 x])) : Gath w B v (l ++ [(s, x)]) := by
  unfold Gath
  rw [mcells_append, List.length_append]
  exact h

/-- Behind an append onto what was gathered: below B all is as it was. -/
theorem Gath.grown {W w w' : World} {B : Nat} {v : Value} {l : List (ByteArray × Int)} (h : Gath w B v l) (hb : Below B W w) (hB : B ≤ w.heap.size) (hg : w.grownBy w' v.ownBlock) : Below B W w' :=
  hb.grown hg hB (fun k e => by
    rcases h.form with ⟨rfl, _⟩ | ⟨g, cap, rfl, hle, _⟩
    · cases e
    · simp [Value.ownBlock] at e; omega)

theorem two_new (w : World) (x y : Value) (t : TypeId) : ∀ j u, [x, y][j]? = some u → (w.alloc (.cells #[x, y] t)).cell? ((⟨w.heap.size, 0, none⟩ : Addr).add j) = some u := by
  intro j u hj
  match j, hj with
  | 0, hj => simp at hj; subst hj; simp [Addr.add, go_sem]
  | 1, hj => simp at hj; subst hj; simp [Addr.add, go_sem]

theorem Tryz.infoM : (Tryz.prog.info? 144).map (fun i => (i.zero, i.size, i.bytes)) = some (some (.agg #[.string .empty, .int .i64 0]), 2, 24) := by kernel_rfl

end Go.Proofs.YtpfhegengmlkmacGreatDoor
