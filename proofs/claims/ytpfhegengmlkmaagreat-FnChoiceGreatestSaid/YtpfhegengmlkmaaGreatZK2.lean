/- Texts of this claim, one behind the other. -/
import Derived.ArgAppend
import Derived.Laws.OwnMore
import Derived.Test.YtpfhegengmlkmaaGreatZK1
namespace Go.Proofs.YtpfhegengmlkmaaGreat
open Go.RowKit Go.BigFrame

/-- Behind an append: new blocks alone, or the row itself, which has room for two marks. -/
def Appended (base : Nat) (w w' : World) : Prop := w.grownBy w' none ∨ ∃ g, base ≤ g ∧ (∃ u, w.cell? ⟨g, 3, none⟩ = some u) ∧ w.grownBy w' (some g)

theorem run_append_mark (ty : TypeId) (base : Nat) (v : Value) (l : List (ByteArray × Int)) (w : World) (hg : Gath w base v l) (hv : l = [] → v = .slice none 0 0) (ad : Addr) (m : ByteArray × Int)
    (c0 : w.cell? ad = some (.string m.1)) (c1 : w.cell? (ad.add 1) = some (.int .i64 m.2)) (hl : l.length ≤ 1048576) (hbase : base ≤ w.heap.size) :
    ∃ v' w', (Builtin.append_ #[35, 35] ty #[v, .slice (some ad) 1 1]).run Tryz.prog w = .ok v' w' ∧ Gath w' base v' (l ++ [m]) ∧ Appended base w w' := by
  obtain ⟨i0, hi, hz0, hz1, hz2⟩ := info_parts Tryz.infoM
  have hnews : ∀ j u, ([.string m.1, .int .i64 m.2] : List Value)[j]? = some u → w.cell? (ad.add j) = some u := by
    intro j u hj
    match j, hj with
    | 0, hj => simp at hj; subst hj; rw [show ad.add 0 = ad from by cases ad with | mk b o s => cases s <;> simp [Addr.add]]; exact c0
    | 1, hj => simp at hj; subst hj; exact c1
  have h1 : ∀ u ∈ ([.string m.1, .int .i64 m.2] : List Value), u.oneCell' = true := by simp [Value.oneCell']
  have hmc : mcells (l ++ [m]) = mcells l ++ [.string m.1, .int .i64 m.2] := by rw [mcells_append]; rfl
  by_cases hnil : l = []
  · obtain rfl := hv hnil
    obtain ⟨g, cap, w', hr, h2, h3, _, _⟩ := run_append_lies (P := Tryz.prog) w 35 ty base 72 i0 (.agg #[.string .empty, .int .i64 0]) 2 24 Tryz.underlying35 hi hz0 hz1 hz2 rfl (by decide) _ _ _ hg ad 1 1 [.string m.1, .int .i64 m.2] rfl hnews h1 (by decide) (by unfold maxLen; omega) (by omega) hbase _ rfl
    refine ⟨_, w', hr, ?_, .inl h3⟩
    unfold Gath
    rw [hmc, List.length_append]
    exact h2
  · have hpos : 0 < l.length := List.length_pos_iff.2 hnil
    obtain ⟨hlen, h | ⟨g, cap, cur, rfl, hbg, hh, hnc, hcm, hcs, htk⟩⟩ := id hg
    · exact absurd (List.length_eq_zero_iff.1 h.2) hnil
    by_cases hroom : l.length + 1 ≤ cap
    · obtain ⟨w', hr, h2, h3⟩ := run_append_fits (P := Tryz.prog) w base 35 ty 72 i0 2 Tryz.underlying35 hi hz1 g l.length cap (mcells l) hg ad 1 1 [.string m.1, .int .i64 m.2] rfl hnews h1 hroom
      refine ⟨_, w', hr, ?_, .inr ⟨g, hbg, ?_, h3⟩⟩
      · unfold Gath
        rw [hmc, List.length_append]
        exact h2
      · have h3 : 3 < cur.size := by omega
        refine ⟨cur[3], ?_⟩
        unfold World.cell?
        simp [hh, h3]
    · have holds : ∀ j u, (mcells l)[j]? = some u → w.cell? ((⟨g, 0, none⟩ : Addr).add j) = some u := by
        intro j u hj
        have hjl : j < (mcells l).length := (List.getElem?_eq_some_iff.1 hj).1
        rw [← htk, List.getElem?_take_of_lt (by rw [mcells_length] at hjl; exact hjl)] at hj
        have e : (⟨g, 0, none⟩ : Addr).add j = ⟨g, j, none⟩ := by unfold Addr.add; by_cases h : j = 0 <;> simp [h]
        rw [e]
        unfold World.cell?
        simp only [hh]
        simpa using hj
      obtain ⟨v', w', hr, h2, h3⟩ := run_append_arg_grows (P := Tryz.prog) w 35 ty 72 i0 (.agg #[.string .empty, .int .i64 0]) 2 24 Tryz.underlying35 hi hz0 hz1 hz2 rfl (by decide) ⟨g, 0, none⟩ l.length cap (mcells l) (mcells_length l) holds ad 1 1 [.string m.1, .int .i64 m.2] rfl hnews (by omega) (by unfold maxLen; omega) (by omega)
      refine ⟨v', w', hr, ?_, .inl h3⟩
      refine Gath.lower (B := w.heap.size) ?_ hbase
      unfold Gath
      rw [hmc, List.length_append]
      exact h2

theorem wp_append_mark {o : Oper} {a : Act} {w : World} {K : Act → World → Prop} {Q : Exit → Act → World → Prop} (s x : Operand)
    (ho : o.op = .call { callee := .builtin .append, args := #[s, x], argTypes := #[35, 35] }) (base : Nat) (v : Value) (l : List (ByteArray × Int)) (hs : a.eval s = v) (hg : Gath w base v l) (hv : l = [] → v = .slice none 0 0) (ad : Addr) (m : ByteArray × Int)
    (hx : a.eval x = .slice (some ad) 1 1) (c0 : w.cell? ad = some (.string m.1)) (c1 : w.cell? (ad.add 1) = some (.int .i64 m.2)) (hl : l.length ≤ 1048576) (hbase : base ≤ w.heap.size)
    (h : ∀ v' w', Gath w' base v' (l ++ [m]) → Appended base w w' → K (a.put o.dst v') w') : o.wp Tryz.prog a w K Q := by
  obtain ⟨v', w', hr, h2, h3⟩ := run_append_mark o.type base v l w hg hv ad m c0 c1 hl hbase
  unfold Oper.wp execOp
  simp only [ho, resolve, invoke, builtin, Sem.run_bind, Sem.run_pure, Result.andThen_ok, List.map_toArray, List.map_cons, List.map_nil, hs, hx, hr]
  exact h v' w' h2 h3

theorem Appended.size {base : Nat} {w w' : World} (h : Appended base w w') : w.heap.size ≤ w'.heap.size := by
  rcases h with h | ⟨g, _, _, h⟩
  · exact h.size
  · exact h.size
theorem Appended.below {base B : Nat} {W w w' : World} (h : Appended base w w') (hb : Below B W w) (hB : B ≤ base) (hw : B ≤ w.heap.size) : Below B W w' := by
  rcases h with h | ⟨g, hg, _, h⟩
  · exact hb.grown h hw (fun k e => by cases e)
  · exact hb.grown h hw (fun k e => by simp at e; omega)
/-- What lies ahead of the gathered rows is as it was. -/
theorem Appended.far {base : Nat} {w w' : World} (h : Appended base w w') (hw : base ≤ w.heap.size) : Below base w w' := h.below (Below.refl _ _) (Nat.le_refl _) hw

end Go.Proofs.YtpfhegengmlkmaaGreat
