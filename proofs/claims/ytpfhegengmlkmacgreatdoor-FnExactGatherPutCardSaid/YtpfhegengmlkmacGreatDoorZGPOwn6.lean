/- Texts of this claim, one behind the other. -/
import Derived.Test.YtpfhegengmlkmacGreatDoorGath
import Derived.ArgAppend
import Derived.Laws.OwnMore
import Derived.Test.YtpfhegengmlkmacGreatDoorJoinM
import Derived.Test.YtpfhegengmlkmacGreatDoorClone
import Derived.Test.YtpfhegengmlkmacGreatDoorMt
import Derived.Test.YtpfhegengmlkmacGreatDoorStrs
import Derived.Test.YtpfhegengmlkmacGreatDoorZGPOwn5
/- Walk: spec.ChoiceJoin. -/
namespace Go.Proofs.YtpfhegengmlkmacGreatDoor
open Go.RowKit Go.BigFrame
set_option maxRecDepth 100000

theorem gath_row {w : World} {B : Nat} {v : Value} {l : List (ByteArray × Int)} (h : Gath w B v l) : ∃ a c, v = .slice a l.length c ∧ l.length ≤ c ∧ Row w a l := by
  obtain ⟨a, c, rfl, hr⟩ := h.shape
  refine ⟨a, c, rfl, ?_, hr⟩
  rcases h.2 with ⟨e, h0⟩ | ⟨g, cap, cur, e, _, _, hn, _⟩
  · omega
  · cases e
    exact hn

set_option maxHeartbeats 1600000 in
theorem specCJ_any (a a' : Option Addr) (cap cap' : Nat) (ws : List (List ItemL)) (ps : List Int) (w : World) (hf : FitW ws) (hr : RowW w a ws) (hp : ps.length ≤ maxLen) (hr' : RowZ w a' ps) :
    Calls Tryz.prog 45 #[.slice a ws.length cap, .slice a' ps.length cap'] w fun e w' => (∃ v m ok, e = .returned (.tuple #[v, .bool ok]) ∧ Gath w' w.heap.size v m ∧ IsCJ ws ps m ok) ∧ Below w.heap.size w w' := by
  go_enter Tryz.func45, Tryz.ntmps45
  go_wp2_with fail
  refine (specChoiceAgrees_any a cap ws a' cap' ps _ hf hr hp hr').mono ?_
  rintro e w1 ⟨⟨r, rfl, hr1⟩, b1⟩
  have HR : Hid (r = true ↔ ChP ws ps) := hr1
  clear hr1
  cases r with
  | false =>
    have HN : Hid (¬ ChP ws ps) := fun h => by have := HR.out.2 h; simp at this
    go_wp2_with fail
    exact bodyPost_ret (v := .tuple #[.slice none 0 0, .bool false]) (by simp [results, Tryz.results45, go_sem]) rfl ⟨⟨_, [], false, rfl, Gath.none _ _, .inr ⟨rfl, rfl, .inl HN.out⟩⟩, b1⟩
  | true =>
    have HC : Hid (ChP ws ps) := HR.out.1 rfl
    have hl6 := HC.out.1.2.1
    have hlp := HC.out.2.1
    have hpl : ps.length ≤ 6 := by omega
    clear HR hlp
    go_wp2_with fail
    go_loopw [6, 7] (fun out i wr => ∃ (k : Nat) (m : List (ByteArray × Int)), k ≤ ps.length ∧ i = .int .i64 k ∧ Gath wr w.heap.size out m ∧ Hid (JoinsTo ws ps k m) ∧ Below w.heap.size w wr) (fun _ i _ => ps.length - (intOf i).toNat)
    case atStart => exact ⟨0, [], Nat.zero_le _, rfl, Gath.none _ _, rfl, b1⟩
    case round =>
      obtain ⟨k, m, hk, rfl, hg, HJ, hbl⟩ := hrel
      by_cases hlt : k < ps.length
      · obtain ⟨hkw, q, hqe, hq, hpk⟩ := in_nat HC.out.2.2.1 hlt
        obtain ⟨b1, o1, rfl, g1, s1, t1, f1, _, r1⟩ := hr.below hbl k hkw
        obtain ⟨b2, o2, rfl, g2, f2⟩ := hr'.below hbl k hlt
        rw [hqe] at f2
        obtain ⟨b3, o3, rfl, g3, _, vv, f3, ⟨sa, sc, rfl, hsc, rm⟩⟩ := r1 q hq
        have hfm := (hf.2 k hkw).2 q hq
        have k0 : (0 : Int) ≤ (k : Int) := by omega
        have k1 : (k : Int) < (ps.length : Int) := by omega
        have k2 : (k : Int) < (ws.length : Int) := by omega
        have q0 : (0 : Int) ≤ (q : Int) := by omega
        have q1 : (q : Int) < (ws[k].length : Int) := by omega
        have HPK : Hid (pkM ws ps k = (ws[k][q]).2) := hpk
        have hst := HJ.out.stamp
        have hm12 := hst.1
        have HMS : Hid (∀ j, (h : j < m.length) → m[j].1.size ≤ maxLen) := fun j hj => by have := (hst.2.1 j hj).1.2.1; unfold maxLen; omega
        obtain ⟨oa, oc, rfl, _, horow⟩ := gath_row hg
        clear hqe hpk hst
        have SW : (wr.drew).cell? ⟨b1, o1 + k, none⟩ = some (.slice (some ⟨b3, o3, none⟩) ws[k].length t1) ∧ (wr.drew).cell? ⟨b2, o2 + k, none⟩ = some (.int .i64 (q : Int)) ∧ (wr.drew).cell? ⟨b3, o3 + q * 2 + 1, none⟩ = some (.slice sa (ws[k][q]).2.length sc) := ⟨f1, f2, f3⟩
        go_wp2_with fail
        refine wp_region_held_drew (S := fun u => u.cell? ⟨b1, o1 + k, none⟩ = some (.slice (some ⟨b3, o3, none⟩) ws[k].length t1) ∧ u.cell? ⟨b2, o2 + k, none⟩ = some (.int .i64 (q : Int)) ∧ u.cell? ⟨b3, o3 + q * 2 + 1, none⟩ = some (.slice sa (ws[k][q]).2.length sc)) (by kernel_rfl) SW (fun _ => ?_)
        refine wpAnyH_take (i := 0) (v := .slice oa m.length oc) rfl (by kernel_rfl) (by kernel_rfl) (by kernel_rfl) (fun _ _ _ h => h) (Or.inl ⟨by rfl, ?_⟩) SW ?_
        · rintro u ⟨q1, q2, q3⟩
          go_simp
        simp only [Act.put, List.setIfInBounds_toArray]
        refine wpAnyH_take (i := 1) (v := .slice (some ⟨b1, o1, none⟩) ws.length cap) rfl (by kernel_rfl) (by kernel_rfl) (by kernel_rfl) (fun _ _ _ h => h) (Or.inl ⟨by rfl, ?_⟩) SW ?_
        · rintro u ⟨q1, q2, q3⟩
          go_simp
        simp only [Act.put]
        refine wpAnyH_take (i := 2) (v := .int .i64 k) rfl (by kernel_rfl) (by kernel_rfl) (by kernel_rfl) (fun _ _ _ h => h) (Or.inl ⟨by rfl, ?_⟩) SW ?_
        · rintro u ⟨q1, q2, q3⟩
          go_simp
        simp only [Act.put]
        refine wpAnyH_take (i := 3) (v := .pointer (some ⟨b1, o1 + k, none⟩)) rfl (by kernel_rfl) (by kernel_rfl) (by kernel_rfl) (fun _ _ _ h => h) (Or.inl ⟨by rfl, ?_⟩) SW ?_
        · rintro u ⟨q1, q2, q3⟩
          go_simp
        simp only [Act.put]
        refine wpAnyH_take (i := 4) (v := .slice (some ⟨b3, o3, none⟩) ws[k].length t1) rfl (by kernel_rfl) (by kernel_rfl) (by kernel_rfl) (fun _ _ _ h => h) (Or.inl ⟨by rfl, ?_⟩) SW ?_
        · rintro u ⟨q1, q2, q3⟩
          go_simp
        simp only [Act.put]
        refine wpAnyH_take (i := 5) (v := .slice (some ⟨b2, o2, none⟩) ps.length cap') rfl (by kernel_rfl) (by kernel_rfl) (by kernel_rfl) (fun _ _ _ h => h) (Or.inl ⟨by rfl, ?_⟩) SW ?_
        · rintro u ⟨q1, q2, q3⟩
          go_simp
        simp only [Act.put]
        refine wpAnyH_take (i := 6) (v := .int .i64 k) rfl (by kernel_rfl) (by kernel_rfl) (by kernel_rfl) (fun _ _ _ h => h) (Or.inl ⟨by rfl, ?_⟩) SW ?_
        · rintro u ⟨q1, q2, q3⟩
          go_simp
        simp only [Act.put]
        refine wpAnyH_take (i := 7) (v := .pointer (some ⟨b2, o2 + k, none⟩)) rfl (by kernel_rfl) (by kernel_rfl) (by kernel_rfl) (fun _ _ _ h => h) (Or.inl ⟨by rfl, ?_⟩) SW ?_
        · rintro u ⟨q1, q2, q3⟩
          go_simp
        simp only [Act.put]
        refine wpAnyH_take (i := 8) (v := .int .i64 q) rfl (by kernel_rfl) (by kernel_rfl) (by kernel_rfl) (fun _ _ _ h => h) (Or.inl ⟨by rfl, ?_⟩) SW ?_
        · rintro u ⟨q1, q2, q3⟩
          go_simp
        simp only [Act.put]
        refine wpAnyH_take (i := 9) (v := .pointer (some ⟨b3, o3 + q * 2, none⟩)) rfl (by kernel_rfl) (by kernel_rfl) (by kernel_rfl) (fun _ _ _ h => h) (Or.inl ⟨by rfl, ?_⟩) SW ?_
        · rintro u ⟨q1, q2, q3⟩
          go_simp
        simp only [Act.put]
        refine wpAnyH_take (i := 10) (v := .pointer (some ⟨b3, o3 + q * 2 + 1, none⟩)) rfl (by kernel_rfl) (by kernel_rfl) (by kernel_rfl) (fun _ _ _ h => h) (Or.inl ⟨by rfl, ?_⟩) SW ?_
        · rintro u ⟨q1, q2, q3⟩
          go_simp
        simp only [Act.put]
        refine wpAnyH_take (i := 11) (v := .slice sa (ws[k][q]).2.length sc) rfl (by kernel_rfl) (by kernel_rfl) (by kernel_rfl) (fun _ _ _ h => h) (Or.inl ⟨by rfl, ?_⟩) SW ?_
        · rintro u ⟨q1, q2, q3⟩
          go_simp
        simp only [Act.put]
        refine wpAnyH_ready (rs := [12]) (by kernel_rfl) (by simp) ?_
        refine AllReadyH.cons rfl (fun K hK => ?_) AllReadyH.nil
        rw [if_pos (by rfl)]
        go_simp
        have hbd : Below wr.heap.size wr wr.drew := (Below.refl _ _).drew
        refine (specJoin_any oa sa oc sc m (ws[k][q]).2 _ (by unfold maxLen; omega) hfm.1 (horow.below hbd) (rm.below hbd) HMS.out hfm.2).mono ?_
        rintro e w2 ⟨⟨v2, m2, ok2, rfl, hg2, hj2⟩, b2'⟩
        obtain ⟨va, vc, rfl, _, _⟩ := gath_row hg2
        rw [← HPK.out] at hj2
        have HJ2 : Hid (IsJ m (pkM ws ps k) m2 ok2) := hj2
        clear hj2
        have b2d : Below wr.heap.size wr w2 := hbd.trans (b2'.mono hbd.size)
        have B2 : Below w.heap.size w w2 := hbl.trans (b2d.mono hbl.size)
        have S2 : w2.cell? ⟨b1, o1 + k, none⟩ = some (.slice (some ⟨b3, o3, none⟩) ws[k].length t1) ∧ w2.cell? ⟨b2, o2 + k, none⟩ = some (.int .i64 (q : Int)) ∧ w2.cell? ⟨b3, o3 + q * 2 + 1, none⟩ = some (.slice sa (ws[k][q]).2.length sc) := ⟨cell_on b2d g1 f1, cell_on b2d g2 f2, cell_on b2d g3 f3⟩
        refine hK.out _ _ S2 (fun _ => ?_)
        clear hK K SW
        refine wpAnyH_take (i := 13) (v := .tuple #[.slice va m2.length vc, .bool ok2]) rfl (by kernel_rfl) (by kernel_rfl) (by kernel_rfl) (fun _ _ _ h => h) (Or.inl ⟨by rfl, ?_⟩) S2 ?_
        · rintro u ⟨q1, q2, q3⟩
          go_simp
        simp only [Act.put, List.setIfInBounds_toArray]
        refine wpAnyH_take (i := 14) (v := .slice va m2.length vc) rfl (by kernel_rfl) (by kernel_rfl) (by kernel_rfl) (fun _ _ _ h => h) (Or.inl ⟨by rfl, ?_⟩) S2 ?_
        · rintro u ⟨q1, q2, q3⟩
          go_simp
        simp only [Act.put]
        refine wpAnyH_take (i := 15) (v := .bool ok2) rfl (by kernel_rfl) (by kernel_rfl) (by kernel_rfl) (fun _ _ _ h => h) (Or.inl ⟨by rfl, ?_⟩) S2 ?_
        · rintro u ⟨q1, q2, q3⟩
          go_simp
        simp only [Act.put]
        refine wpAnyH_ready (rs := [16]) (by kernel_rfl) (by simp) ?_
        refine AllReadyH.cons rfl (fun K hK => ?_) AllReadyH.nil
        rw [if_pos (by rfl)]
        go_simp
        refine hK.out _ _ S2 (fun _ => ?_)
        clear hK K
        refine wpAnyH_ready (rs := [17]) (by kernel_rfl) (by simp) ?_
        refine AllReadyH.cons rfl (fun K hK => ?_) AllReadyH.nil
        rw [if_pos (by rfl)]
        go_simp
        refine hK.out _ _ S2 (fun _ => ?_)
        clear hK K
        refine wpAnyH_done (by kernel_rfl) ?_ _
        clear S2
        cases ok2 with
        | false =>
          have HF : Hid (IsCJ ws ps [] false) := .inr ⟨rfl, rfl, .inr ⟨k, m, m2, hlt, HJ.out, HJ2.out⟩⟩
          go_wp2_with fail
          exact bodyPost_ret (v := .tuple #[.slice none 0 0, .bool false]) (by simp [results, Tryz.results45, go_sem]) rfl ⟨⟨_, [], false, rfl, Gath.none _ _, HF.out⟩, B2⟩
        | true =>
          have HST : Hid (JoinsTo ws ps (k + 1) m2) := ⟨m, HJ.out, HJ2.out⟩
          go_wp2_with fail
          exact ⟨⟨k + 1, m2, by omega, by go_num, hg2.lower hbl.size, HST, B2⟩, by simp [intOf]; omega⟩
      · have HF : Hid (IsCJ ws ps m true) := .inl ⟨rfl, HC.out, by
          have e : k = ps.length := by omega
          rw [← e]; exact HJ.out⟩
        go_wp2_with fail
        exact bodyPost_ret (by simp [results, Tryz.results45, go_sem]) rfl ⟨⟨_, m, true, rfl, hg, HF.out⟩, hbl⟩

end Go.Proofs.YtpfhegengmlkmacGreatDoor
/- append of one mark onto marks that the call gathers: which blocks turn. -/
namespace Go.Proofs.YtpfhegengmlkmacGreatDoor
open Go.RowKit Go.BigFrame

/-- Behind an append: new blocks alone, or the row itself, which has room for two marks. -/
def Appended (base : Nat) (w w' : World) : Prop := w.grownBy w' none ∨ ∃ g, base ≤ g ∧ (∃ u, w.cell? ⟨g, 3, none⟩ = some u) ∧ w.grownBy w' (some g)

theorem run_append_mark (ty : TypeId) (base : Nat) (v : Value) (l : List (ByteArray × Int)) (w : World) (hg : Gath w base v l) (hv : l = [] → v = .slice none 0 0) (ad : Addr) (m : ByteArray × Int)
    (c0 : w.cell? ad = some (.string m.1)) (c1 : w.cell? (ad.add 1) = some (.int .i64 m.2)) (hl : l.length ≤ 1048576) (hbase : base ≤ w.heap.size) :
    ∃ v' w', (Builtin.append_ #[34, 34] ty #[v, .slice (some ad) 1 1]).run Tryz.prog w = .ok v' w' ∧ Gath w' base v' (l ++ [m]) ∧ Appended base w w' := by
  obtain ⟨i0, hi, hz0, hz1, hz2⟩ := info_parts Tryz.infoM
  have hnews : ∀ j u, ([.string m.1, .int .i64 m.2] : List Value)[j]? = some u → w.cell? (ad.add j) = some u := by
    intro j u hj
    match j, hj with
    | 0, hj => simp at hj; subst hj; rw [show ad.add 0 = ad from by cases ad with | mk b o s => cases s <;> simp [Addr.add]]; exact c0
    | 1, hj => simp at hj; subst hj; exact c1
  have h1 : ∀ u ∈ ([.string m.1, .int .i64 m.2] : List Value), u.oneCell' = true := by simp [Value.oneCell']
  have hmc : mcells (l ++ [m]) = mcells l ++ [.string m.1, .int .i64 m.2] := by rw [mcells_append]; rfl
  by_cases hnil : l = []
  · obtain rfl := hv hnil
    obtain ⟨g, cap, w', hr, h2, h3, _, _⟩ := run_append_lies (P := Tryz.prog) w 34 ty base 144 i0 (.agg #[.string .empty, .int .i64 0]) 2 24 Tryz.underlying34 hi hz0 hz1 hz2 rfl (by decide) _ _ _ hg ad 1 1 [.string m.1, .int .i64 m.2] rfl hnews h1 (by decide) (by unfold maxLen; omega) (by omega) hbase _ rfl
    refine ⟨_, w', hr, ?_, .inl h3⟩
    unfold Gath
    rw [hmc, List.length_append]
    exact h2
  · have hpos : 0 < l.length := List.length_pos_iff.2 hnil
    obtain ⟨hlen, h | ⟨g, cap, cur, rfl, hbg, hh, hnc, hcm, hcs, htk⟩⟩ := id hg
    · exact absurd (List.length_eq_zero_iff.1 h.2) hnil
    by_cases hroom : l.length + 1 ≤ cap
    · obtain ⟨w', hr, h2, h3⟩ := run_append_fits (P := Tryz.prog) w base 34 ty 144 i0 2 Tryz.underlying34 hi hz1 g l.length cap (mcells l) hg ad 1 1 [.string m.1, .int .i64 m.2] rfl hnews h1 hroom
      refine ⟨_, w', hr, ?_, .inr ⟨g, hbg, ?_, h3⟩⟩
      · unfold Gath
        rw [hmc, List.length_append]
        exact h2
      · have h3 : 3 < cur.size := by omega
        refine ⟨cur[3], ?_⟩
        unfold World.cell?
        simp [hh, h3]
    · have holds : ∀ j u, (mcells l)[j]? = some u → w.cell? ((⟨g, 0, none⟩ : Addr).add j) = some u := by
        intro j u hj
        have hjl : j < (mcells l).length := (List.getElem?_eq_some_iff.1 hj).1
        rw [← htk, List.getElem?_take_of_lt (by rw [mcells_length] at hjl; exact hjl)] at hj
        have e : (⟨g, 0, none⟩ : Addr).add j = ⟨g, j, none⟩ := by unfold Addr.add; by_cases h : j = 0 <;> simp [h]
        rw [e]
        unfold World.cell?
        simp only [hh]
        simpa using hj
      obtain ⟨v', w', hr, h2, h3⟩ := run_append_arg_grows (P := Tryz.prog) w 34 ty 144 i0 (.agg #[.string .empty, .int .i64 0]) 2 24 Tryz.underlying34 hi hz0 hz1 hz2 rfl (by decide) ⟨g, 0, none⟩ l.length cap (mcells l) (mcells_length l) holds ad 1 1 [.string m.1, .int .i64 m.2] rfl hnews (by omega) (by unfold maxLen; omega) (by omega)
      refine ⟨v', w', hr, ?_, .inl h3⟩
      refine Gath.lower (B := w.heap.size) ?_ hbase
      unfold Gath
      rw [hmc, List.length_append]
      exact h2

theorem wp_append_mark {o : Oper} {a : Act} {w : World} {K : Act → World → Prop} {Q : Exit → Act → World → Prop} (s x : Operand)
    (ho : o.op = .call { callee := .builtin .append, args := #[s, x], argTypes := #[34, 34] }) (base : Nat) (v : Value) (l : List (ByteArray × Int)) (hs : a.eval s = v) (hg : Gath w base v l) (hv : l = [] → v = .slice none 0 0) (ad : Addr) (m : ByteArray × Int)
    (hx : a.eval x = .slice (some ad) 1 1) (c0 : w.cell? ad = some (.string m.1)) (c1 : w.cell? (ad.add 1) = some (.int .i64 m.2)) (hl : l.length ≤ 1048576) (hbase : base ≤ w.heap.size)
    (h : ∀ v' w', Gath w' base v' (l ++ [m]) → Appended base w w' → K (a.put o.dst v') w') : o.wp Tryz.prog a w K Q := by
  obtain ⟨v', w', hr, h2, h3⟩ := run_append_mark o.type base v l w hg hv ad m c0 c1 hl hbase
  unfold Oper.wp execOp
  simp only [ho, resolve, invoke, builtin, Sem.run_bind, Sem.run_pure, Result.andThen_ok, List.map_toArray, List.map_cons, List.map_nil, hs, hx, hr]
  exact h v' w' h2 h3

theorem Appended.size {base : Nat} {w w' : World} (h : Appended base w w') : w.heap.size ≤ w'.heap.size := by
  rcases h with h | ⟨g, _, _, h⟩
  · exact h.size
  · exact h.size
theorem Appended.below {base B : Nat} {W w w' : World} (h : Appended base w w') (hb : Below B W w) (hB : B ≤ base) (hw : B ≤ w.heap.size) : Below B W w' := by
  rcases h with h | ⟨g, hg, _, h⟩
  · exact hb.grown h hw (fun k e => by cases e)
  · exact hb.grown h hw (fun k e => by simp at e; omega)
/-- What lies ahead of the gathered rows is as it was. -/
theorem Appended.far {base : Nat} {w w' : World} (h : Appended base w w') (hw : base ≤ w.heap.size) : Below base w w' := h.below (Below.refl _ _) (Nat.le_refl _) hw

end Go.Proofs.YtpfhegengmlkmacGreatDoor
/- append of one mark onto marks that the call gathers: which blocks turn, as the iterator's rounds ask it. -/
namespace Go.Proofs.YtpfhegengmlkmacGreatDoor
open Go.RowKit Go.BigFrame

theorem Appended.ks {base lo hi : Nat} {w w' : World} (h : Appended base w w') (hb : lo ≤ base) : KS lo hi w w' := by
  rcases h with h | ⟨g, hg, ⟨u, hu⟩, h⟩
  · exact ⟨h.size, fun k o _ hk _ => (h.block k (Array.getElem?_eq_some_iff.1 hk).1 (by simp)).trans hk⟩
  · refine ⟨h.size, fun k o hn hk _ => (h.block k (Array.getElem?_eq_some_iff.1 hk).1 ?_).trans hk⟩
    intro e
    obtain rfl : k = g := by simpa using e
    rcases hn with hn | ⟨_, hn⟩
    · omega
    · rw [hu] at hn; cases hn
theorem Appended.keeps {base : Nat} {w w' : World} (h : Appended base w w') : KeepsOthers w w' := by
  rcases h with h | ⟨g, hg, ⟨u, hu⟩, h⟩
  · exact KeepsOthers.of_grownBy h (fun j o e => by cases e)
  · refine KeepsOthers.of_grownBy h (fun j o e hj => ?_)
    obtain rfl : g = j := by simpa using e
    obtain ⟨ob, h1, h2⟩ := cell_obj hu
    rw [h1] at hj
    cases hj
    exact h2

end Go.Proofs.YtpfhegengmlkmacGreatDoor
/- The walk of impl.StampJoin. -/
namespace Go.Proofs.YtpfhegengmlkmacGreatDoor
open Go.RowKit Go.Shelf Go.BigFrame
attribute [local go_sem] Oper.semAt_some

/-- The two results in their boxes, as they were laid. -/
structure Res2 (b : Nat) (w : World) : Prop where
  c0 : w.cell? ⟨b, 0, none⟩ = some (.slice none 0 0)
  f0 : w.frozen? ⟨b, 0, none⟩ = false
  c1 : w.cell? ⟨b + 1, 0, none⟩ = some (.bool false)
  f1 : w.frozen? ⟨b + 1, 0, none⟩ = false
theorem Res2.lt {b : Nat} {w : World} (h : Res2 b w) : b + 1 < w.heap.size := block_lt_of_cell h.c1
theorem Res2.below {b : Nat} {w w' : World} (h : Res2 b w) (hb : Below w.heap.size w w') : Res2 b w' := by
  have h1 := h.lt
  exact ⟨cell_on hb (by omega) h.c0, (hb.frozen (p := ⟨b, 0, none⟩) (by simp only; omega)).trans h.f0, cell_on hb h1 h.c1, (hb.frozen (p := ⟨b + 1, 0, none⟩) h1).trans h.f1⟩
theorem Res2.kept {b : Nat} {w w' : World} {row : Option Nat} (h : Res2 b w) (hg : w.grownBy w' row) (hr : ∀ r, row = some r → ∃ o : Obj, w.heap[r]? = some o ∧ o.isCells = false) : Res2 b w' :=
  ⟨cell_kept h.c0 hg hr, (frozen_kept h.c0 hg hr).trans h.f0, cell_kept h.c1 hg hr, (frozen_kept h.c1 hg hr).trans h.f1⟩

theorem Res2.upto {b B : Nat} {w w' : World} (h : Res2 b w) (hb : Below B w w') (hB : b + 1 < B) : Res2 b w' :=
  ⟨(hb.cell (p := ⟨b, 0, none⟩) (by simp only; omega)).trans h.c0, (hb.frozen (p := ⟨b, 0, none⟩) (by simp only; omega)).trans h.f0, (hb.cell (p := ⟨b + 1, 0, none⟩) hB).trans h.c1, (hb.frozen (p := ⟨b + 1, 0, none⟩) hB).trans h.f1⟩
theorem Res2.set {b J : Nat} {w : World} (h : Res2 b w) (h0 : b ≠ J) (h1 : b + 1 ≠ J) (v : Value) : Res2 b (w.setCell ⟨J, 0, none⟩ v) :=
  ⟨(far_set _ _ h0).trans h.c0, (World.frozen?_of_block (Below.heap_setCell _ _ _ _ h0)).trans h.f0, (far_set _ _ h1).trans h.c1, (World.frozen?_of_block (Below.heap_setCell _ _ _ _ h1)).trans h.f1⟩
theorem Gath.kept {w w' : World} {B : Nat} {v : Value} {l : List (ByteArray × Int)} {row : Option Nat} (h : Gath w B v l) (hg : w.grownBy w' row) (hr : ∀ r, row = some r → ∃ o : Obj, w.heap[r]? = some o ∧ o.isCells = false) : Gath w' B v l := by
  obtain ⟨hl, h | ⟨g, cap, cur, hv, hgB, hh, r⟩⟩ := h
  · exact ⟨hl, .inl h⟩
  · exact ⟨hl, .inr ⟨g, cap, cur, hv, hgB, (grownBy_keeps_cells hg hr hh rfl).trans hh, r⟩⟩
theorem Gath.far {w w' : World} {B : Nat} {v : Value} {l : List (ByteArray × Int)} (h : Gath w B v l) (hk : ∀ k, B ≤ k → k < w.heap.size → w'.heap[k]? = w.heap[k]?) : Gath w' B v l := by
  obtain ⟨hl, h | ⟨g, cap, cur, hv, hgB, hh, r⟩⟩ := h
  · exact ⟨hl, .inl h⟩
  · exact ⟨hl, .inr ⟨g, cap, cur, hv, hgB, (hk g hgB (Array.getElem?_eq_some_iff.1 hh).1).trans hh, r⟩⟩
/-- What holds between two rounds: the results' boxes at r and r + 1; the join so far in the box J, its marks from block B on. -/
def JInv (r J B : Nat) (pre : List PM) (W : World) : Prop :=
  Res2 r W ∧ (∃ jv, W.cell? ⟨J, 0, none⟩ = some jv ∧ W.frozen? ⟨J, 0, none⟩ = false ∧ Gath W B jv (joinP (pre.map PM.p)) ∧ (pre = [] → jv = .slice none 0 0)) ∧ pre.length ≤ 12 ∧ B ≤ W.heap.size
theorem JInv.kept {r J B : Nat} {pre : List PM} {w w' : World} {row : Option Nat} (h : JInv r J B pre w) (hg : w.grownBy w' row) (hr : ∀ r, row = some r → ∃ o : Obj, w.heap[r]? = some o ∧ o.isCells = false) : JInv r J B pre w' := by
  obtain ⟨h1, ⟨jv, c, f, g, e⟩, h3, h4⟩ := h
  exact ⟨h1.kept hg hr, ⟨jv, cell_kept c hg hr, (frozen_kept c hg hr).trans f, g.kept hg hr, e⟩, h3, Nat.le_trans h4 hg.size⟩
theorem JInv.below {r J B : Nat} {pre : List PM} {w w' : World} (h : JInv r J B pre w) (hb : Below w.heap.size w w') : JInv r J B pre w' := by
  obtain ⟨h1, ⟨jv, c, f, g, e⟩, h3, h4⟩ := h
  have hl := block_lt_of_cell c
  exact ⟨h1.below hb, ⟨jv, cell_on hb hl c, (hb.frozen (p := ⟨J, 0, none⟩) hl).trans f, g.keep hb, e⟩, h3, Nat.le_trans h4 hb.size⟩
theorem none_kept {W W' : World} {row : Option Nat} {b : Nat} {v : Value} (h : W.cell? ⟨b, 0, none⟩ = some v) (hn : W.cell? ⟨b, 3, none⟩ = none) (hg : W.grownBy W' row) (hrow : ∀ r, row = some r → ∃ o : Obj, W.heap[r]? = some o ∧ o.isCells = false) : W'.cell? ⟨b, 3, none⟩ = none := by
  obtain ⟨o, ho, hc⟩ := cells_of_cell h
  rw [World.cell?_of_block (w := W) (w' := W') (a := ⟨b, 3, none⟩) (grownBy_keeps_cells hg hrow ho hc)]; exact hn
theorem join_len (pre : List PM) : (joinP (pre.map PM.p)).length = pre.length := by simp [joinP]
theorem join_snoc (pre : List PM) (x : PM) : joinP ((pre ++ [x]).map PM.p) = joinP (pre.map PM.p) ++ [laterM x.p.1 x.p.2] := by simp [joinP]
theorem later_size (x : PM) : (laterM x.p.1 x.p.2).1.size ≤ 1048576 := by
  unfold laterM
  split
  · exact x.h.2
  · exact x.h.1

set_option maxRecDepth 100000 in
set_option maxHeartbeats 4000000 in
theorem implJoin_any (aa ab : Option Addr) (ca cb : Nat) (la lb : List (ByteArray × Int)) (w : World) (hla : la.length ≤ maxLen) (hlb : lb.length ≤ maxLen) (hca : la.length ≤ ca) (hcb : lb.length ≤ cb) (ha : Row w aa la) (hb : Row w ab lb)
    (hsa : ∀ j, (h : j < la.length) → la[j].1.size ≤ maxLen) (hsb : ∀ j, (h : j < lb.length) → lb[j].1.size ≤ maxLen) :
    Calls Tryz.prog 141 #[.slice aa la.length ca, .slice ab lb.length cb] w fun e w' => (∃ v m ok, e = .returned (.tuple #[v, .bool ok]) ∧ Gath w' w.heap.size v m ∧ IsJ la lb m ok) ∧ Below w.heap.size w w' := by
  refine (callsIn_wide (n := 5)).1 ?_
  refine callsIn_of_wp_marks Tryz.func141 rfl trivial ?_ rfl
  simp only [Tryz.ntmps141, List.size_toArray, List.length_cons, List.length_nil, Nat.reduceAdd, Nat.reduceSub, Array.replicate_succ, Array.replicate_zero, List.push_toArray, List.append_toArray, List.nil_append, List.cons_append]
  gi_wp2_with fail
  have hba : Below w.heap.size w ((w.alloc (.cells #[.slice none 0 0] 34)).alloc (.cells #[.bool false] 4)) := ((Below.refl _ _).alloc (Nat.le_refl _) _).alloc (by simp) _
  have R0 : Res2 w.heap.size ((w.alloc (.cells #[.slice none 0 0] 34)).alloc (.cells #[.bool false] 4)) := ⟨by simp [go_sem], by simp [go_sem], by simp [go_sem], by simp [go_sem]⟩
  generalize (w.alloc (.cells #[.slice none 0 0] 34)).alloc (.cells #[.bool false] 4) = w0 at *
  refine ⟨trivial, (callsIn_wide.2 (implStampOk_any aa ca la _ hla (ha.below hba) hsa)).mono ?_⟩
  rintro e w1 ⟨⟨r, rfl, hr1⟩, hb1⟩
  have B1 : Below w.heap.size w w1 := hba.trans (hb1.mono hba.size)
  have R1 := R0.below hb1
  have z1 := R1.lt
  obtain ⟨c0, f0, c1, f1⟩ := R1
  cases r
  · have hn : ¬ StampP la := fun h => by simpa using hr1.2 h
    clear hr1
    gi_wp2_with fail
    refine ⟨trivial, ?_⟩
    gi_wp2_with fail
    refine ⟨.tuple #[.slice none 0 0, .bool false], ?_, ⟨_, [], false, rfl, Gath.none _ _, .inl ⟨fun h => hn h.1, rfl, rfl⟩⟩, (B1.setCell (p := ⟨w.heap.size, 0, none⟩) (Nat.le_refl _) _).setCell (p := ⟨w.heap.size + 1, 0, none⟩) (Nat.le_succ _) _⟩
    simp [results, Tryz.f141, go_sem, c0, c1]
  have hya : StampP la := hr1.1 rfl
  clear hr1
  gi_wp2_with fail
  refine ⟨trivial, (callsIn_wide.2 (implStampOk_any ab cb lb _ hlb (hb.below B1) hsb)).mono ?_⟩
  rintro e w2 ⟨⟨r, rfl, hr2⟩, hb2⟩
  have B2 : Below w.heap.size w w2 := B1.trans (hb2.mono B1.size)
  have R2 := (R0.below hb1).below hb2
  have z2 := R2.lt
  clear hb2 z1 B1 c0 f0 c1 f1 hb1 R0
  cases r
  · have hn : ¬ StampP lb := fun h => by simpa using hr2.2 h
    clear hr2
    obtain ⟨c0, f0, c1, f1⟩ := R2
    gi_wp2_with fail
    refine ⟨.tuple #[.slice none 0 0, .bool false], ?_, ⟨_, [], false, rfl, Gath.none _ _, .inl ⟨fun h => hn h.2, rfl, rfl⟩⟩, (B2.setCell (p := ⟨w.heap.size, 0, none⟩) (Nat.le_refl _) _).setCell (p := ⟨w.heap.size + 1, 0, none⟩) (Nat.le_succ _) _⟩
    simp [results, Tryz.f141, go_sem, c0, c1]
  have hyb : StampP lb := hr2.1 rfl
  clear hr2
  gi_wp2_with fail
  refine ⟨trivial, (callsIn_wide.2 (sideBySide_any aa ab _ _ ca cb _)).mono ?_⟩
  rintro e w3 ⟨rfl, rfl⟩
  simp only [World.size_alloc]
  obtain ⟨W0, hW0⟩ : ∃ W0, ((w2.alloc (.cells #[.slice none 0 0] 34)).alloc (.cells #[.slice aa la.length ca] 34)).alloc (.cells #[.slice ab lb.length cb] 34) = W0 := ⟨_, rfl⟩
  have cO : W0.cell? ⟨w2.heap.size, 0, none⟩ = some (.slice none 0 0) := by rw [← hW0]; simp [go_sem]
  have fO : W0.frozen? ⟨w2.heap.size, 0, none⟩ = false := by rw [← hW0]; simp [go_sem]
  have cA : W0.cell? ⟨w2.heap.size + 1, 0, none⟩ = some (.slice aa la.length ca) := by rw [← hW0]; simp [go_sem]
  have cB : W0.cell? ⟨w2.heap.size + 1 + 1, 0, none⟩ = some (.slice ab lb.length cb) := by rw [← hW0]; simp [go_sem]
  have nA3 : W0.cell? ⟨w2.heap.size + 1, 3, none⟩ = none := by rw [← hW0]; simp [go_sem]
  have nB3 : W0.cell? ⟨w2.heap.size + 1 + 1, 3, none⟩ = none := by rw [← hW0]; simp [go_sem]
  have hsz : W0.heap.size = w2.heap.size + 3 := by rw [← hW0]; simp
  have b20 : Below w2.heap.size w2 W0 := by rw [← hW0]; exact (((Below.refl _ _).alloc (Nat.le_refl _) _).alloc (by simp) _).alloc (by simp; omega) _
  have B0 : Below w.heap.size w W0 := B2.trans (b20.mono B2.size)
  have R0 := R2.below b20
  rw [hW0]
  clear hW0 b20 R2
  gi_wp2_with fail
  refine wpIn_rangeFunc_ownH (n := 5) rfl (by omega) (gf := 177) (lb := #[.pointer (some ⟨w2.heap.size + 1, 0, none⟩), .pointer (some ⟨w2.heap.size + 1 + 1, 0, none⟩)]) rfl trivial (enters_of Tryz.func177 (by kernel_rfl) rfl)
    (side_stops 4 w.heap.size (w2.heap.size + 1) (w2.heap.size + 1) (w2.heap.size + 1 + 1) aa ab ca cb la lb hca hcb hya hyb (Nat.le_refl _) (by omega) W0 (by omega) cA cB nA3 nB3 (ha.low.below B0) (hb.low.below B0)) KS.trans (fun W l o o' _ h1 h2 _ => KS.put W l o o' h1 h2) (Below.refl _ _) (fun _ => rfl)
    (fun pre W => JInv w.heap.size w2.heap.size W0.heap.size pre W ∧ Below w.heap.size w W)
    (fun c pre W => (c = .ret ∧ 12 < pre.length ∧ Res2 w.heap.size W) ∧ Below w.heap.size w W)
    (OwnFrom.and (Go.Own.from (I := JInv w.heap.size w2.heap.size W0.heap.size) (fun s A B row hs hg hr => JInv.kept hs hg hr) _) (ownFrom_below (Nat.le_refl _) (by omega)))
    (fun c => OwnFrom.and (Go.Own.from (fun s A B row hs hg hr => ⟨hs.1, hs.2.1, hs.2.2.kept hg hr⟩) _) (ownFrom_below (Nat.le_refl _) (by omega)))
    ⟨⟨R0, ⟨_, cO, fO, Gath.none _ _, fun _ => rfl⟩, by simp, Nat.le_refl _⟩, B0⟩
    (fun x a' W => ∃ bx bz, W0.heap.size ≤ bx ∧ W0.heap.size ≤ bz ∧ (W.cell? ⟨bx, 0, none⟩ = some (.string x.p.1.1) ∧ W.cell? ⟨bx, 1, none⟩ = some (.int .i64 x.p.1.2) ∧ W.cell? ⟨bz, 0, none⟩ = some (.string x.p.2.1) ∧ W.cell? ⟨bz, 1, none⟩ = some (.int .i64 x.p.2.2) ∧ W.cell? ⟨bx, 3, none⟩ = none ∧ W.cell? ⟨bz, 3, none⟩ = none) ∧ a' = { tmps := #[.slice aa la.length ca, .slice ab lb.length cb, undef, undef, .pointer (some ⟨w.heap.size, 0, none⟩), .pointer (some ⟨w.heap.size + 1, 0, none⟩), .pointer (some ⟨w2.heap.size, 0, none⟩), .pointer (some ⟨bx, 0, none⟩), .pointer (some ⟨bz, 0, none⟩), .slice aa la.length ca, .bool true, .bool false, .bool false, .slice ab lb.length cb, .bool true, .bool false, .bool false, .slice aa la.length ca, .slice ab lb.length cb, .func (.func 177) #[] #[.pointer (some ⟨w2.heap.size + 1, 0, none⟩), .pointer (some ⟨w2.heap.size + 1 + 1, 0, none⟩)], .agg #[.string x.p.1.1, .int .i64 x.p.1.2], .agg #[.string x.p.2.1, .int .i64 x.p.2.2], undef, undef, undef, undef, undef, undef, undef, undef, undef, undef, undef], defers := [] })
    (fun x a' s A B row hs hg hr => by
      obtain ⟨bx, bz, h1, h2, h3, h4⟩ := hs
      exact ⟨bx, bz, h1, h2, ⟨cell_kept h3.1 hg (fun r e => (hr r e).2), cell_kept h3.2.1 hg (fun r e => (hr r e).2), cell_kept h3.2.2.1 hg (fun r e => (hr r e).2), cell_kept h3.2.2.2.1 hg (fun r e => (hr r e).2), none_kept h3.1 h3.2.2.2.2.1 hg (fun r e => (hr r e).2), none_kept h3.2.2.1 h3.2.2.2.2.2 hg (fun r e => (hr r e).2)⟩, h4⟩) ?assign ?body ?done ?stop
  case assign =>
    rintro l pre x W K ⟨hI, hB⟩ hK
    simp only [encP]
    gi_wp2
    have hb2 : Below W.heap.size W ((W.alloc (.cells #[.string x.p.1.1, .int .i64 x.p.1.2] 144)).alloc (.cells #[.string x.p.2.1, .int .i64 x.p.2.2] 144)) := ((Below.refl _ _).alloc (Nat.le_refl _) _).alloc (by simp) _
    exact hK _ _ (keepsFrom_below _ hb2) (KS.of_below hb2) ⟨hI.below hb2, hB.trans (hb2.mono hB.size)⟩ ⟨W.heap.size, W.heap.size + 1, hI.2.2.2, Nat.le_succ_of_le hI.2.2.2, ⟨by simp [go_sem], by simp [go_sem], by simp [go_sem], by simp [go_sem], by simp [go_sem], by simp [go_sem]⟩, rfl⟩
  case body =>
    rintro l pre x a' W hle ⟨r, hr⟩ ⟨⟨hR, ⟨jv, hc, hf, hg, hnil⟩, hlen, hW0⟩, hB⟩ ⟨bx, bz, h1, h2, ⟨x0, x1, z0, z1, x3, z3⟩, rfl⟩ hlt
    have HIL := join_len pre
    obtain ⟨ag, capg, rfl, hrow⟩ := hg.shape
    rw [HIL] at hc hnil hg
    by_cases h12 : pre.length = 12
    · have h12' : ((pre.length : Int) == 12) = true := by simp [h12]
      obtain ⟨c0, f0, c1, f1⟩ := id hR
      have HR : Hid (∀ W', W' = (W.setCell ⟨w.heap.size, 0, none⟩ (.slice none 0 0)).setCell ⟨w.heap.size + 1, 0, none⟩ (.bool false) → KeepsFrom W0.heap.size W W' ∧ (12 < (pre ++ [x]).length ∧ Res2 w.heap.size W') ∧ Below w.heap.size w W') := by
        rintro W' rfl
        refine ⟨((KeepsOthers.setCell _ _ _).trans (KeepsOthers.setCell _ _ _)).from _, ⟨by simp; omega, ⟨by simp [go_sem, c0], by simp [go_sem, f0], by simp [go_sem, c1], by simp [go_sem, f1]⟩⟩, (hB.setCell (p := ⟨w.heap.size, 0, none⟩) (Nat.le_refl _) _).setCell (p := ⟨w.heap.size + 1, 0, none⟩) (Nat.le_succ _) _⟩
      gi_wp2_with fail
      have q := HR.out _ rfl
      exact ⟨q.1, ⟨rfl, q.2.1⟩, q.2.2⟩
    have h12' : ((pre.length : Int) == 12) = false := by simp; omega
    have HFIN : Hid (∀ (w6 w7 : World) (v7 : Value), Below W.heap.size W w6 → Gath w7 W0.heap.size v7 (joinP (pre.map PM.p) ++ [laterM x.p.1 x.p.2]) → Appended W0.heap.size w6 w7 →
        KeepsFrom W0.heap.size W (w7.setCell ⟨w2.heap.size, 0, none⟩ v7) ∧ KS w.heap.size (w2.heap.size + 1) W (w7.setCell ⟨w2.heap.size, 0, none⟩ v7) ∧ JInv w.heap.size w2.heap.size W0.heap.size (pre ++ [x]) (w7.setCell ⟨w2.heap.size, 0, none⟩ v7) ∧ Below w.heap.size w (w7.setCell ⟨w2.heap.size, 0, none⟩ v7)) := by
      intro w6 w7 v7 b6 hg7 ha7
      have hW6 : W0.heap.size ≤ w6.heap.size := Nat.le_trans hW0 b6.size
      have far7 := ha7.far hW6
      have cJ7 : w7.cell? ⟨w2.heap.size, 0, none⟩ = some (.slice ag pre.length capg) := (far7.cell (p := ⟨w2.heap.size, 0, none⟩) (by simp only; omega)).trans (cell_on b6 (block_lt_of_cell hc) hc)
      have fJ7 : w7.frozen? ⟨w2.heap.size, 0, none⟩ = false := (far7.frozen (p := ⟨w2.heap.size, 0, none⟩) (by simp only; omega)).trans ((b6.frozen (p := ⟨w2.heap.size, 0, none⟩) (by simp only; omega)).trans hf)
      have hz7 := (KeepsOthers.setCell w7 ⟨w2.heap.size, 0, none⟩ v7).size
      refine ⟨(keepsFrom_below _ b6).trans ((ha7.keeps.trans (KeepsOthers.setCell _ _ _)).from _), ((KS.of_below b6).trans (ha7.ks B0.size)).trans ⟨hz7, fun k o hk h _ => ?_⟩, ⟨((hR.below b6).upto far7 (by omega)).set (by omega) (by omega) v7, ⟨v7, World.cell?_setCell_same' _ _ _ (by rw [cJ7]; rfl), by simp [go_sem, fJ7], ?_, fun e => by simp at e⟩, by simp; omega, by have := ha7.size; omega⟩, ?_⟩
      · rw [Below.heap_setCell _ _ _ _ (by simp only; omega)]; exact h
      · rw [join_snoc]
        exact hg7.far fun k h1 h2 => Below.heap_setCell _ _ _ _ (by simp only; omega)
      · exact (ha7.below (hB.trans (b6.mono hB.size)) B0.size (Nat.le_trans B0.size hW6)).setCell (p := ⟨w2.heap.size, 0, none⟩) (by simp only; omega) _
    clear h12
    gi_wp2_with fail
    have HLX : Hid (bx < W.heap.size) := block_lt_of_cell x0
    have HLZ : Hid (bz < W.heap.size) := block_lt_of_cell z0
    have hdr : Below W.heap.size W W.drew := (Below.refl _ _).drew
    have hS4 : ∀ u, Below W.heap.size W u → u.cell? ⟨bx, 0, none⟩ = some (.string x.p.1.1) ∧ u.cell? ⟨bx, 1, none⟩ = some (.int .i64 x.p.1.2) ∧ u.cell? ⟨bz, 0, none⟩ = some (.string x.p.2.1) ∧ u.cell? ⟨bz, 1, none⟩ = some (.int .i64 x.p.2.2) := fun u hu =>
      ⟨cell_on hu (block_lt_of_cell x0) x0, cell_on hu (block_lt_of_cell x1) x1, cell_on hu (block_lt_of_cell z0) z0, cell_on hu (block_lt_of_cell z1) z1⟩
    have HS4 : Hid _ := hS4
    have hSJ : ∀ u, Below W.heap.size W u → u.cell? ⟨w2.heap.size, 0, none⟩ = some (.slice ag pre.length capg) := fun u hu => cell_on hu (block_lt_of_cell hc) hc
    have HSJ : Hid _ := hSJ
    clear hS4 hSJ
    refine wpIn_region_heldR (S := fun u => u.cell? ⟨bx, 0, none⟩ = some (.string x.p.1.1) ∧ u.cell? ⟨bx, 1, none⟩ = some (.int .i64 x.p.1.2) ∧ u.cell? ⟨bz, 0, none⟩ = some (.string x.p.2.1) ∧ u.cell? ⟨bz, 1, none⟩ = some (.int .i64 x.p.2.2)) (by kernel_rfl) (by kernel_rfl) (fun ⟨_, _, h⟩ => h) ?_
    refine wpAnyH_take (i := 1) (v := .agg #[.string x.p.1.1, .int .i64 x.p.1.2]) rfl (by kernel_rfl) (by kernel_rfl) (by kernel_rfl) (fun _ _ _ h => h) (Or.inl ⟨by rfl, ?_⟩) ⟨x0, x1, z0, z1⟩ ?_
    · rintro u ⟨q1, q2, q3, q4⟩
      go_simp
    simp only [Act.put, List.setIfInBounds_toArray]
    refine wpAnyH_take (i := 2) (v := .agg #[.string x.p.2.1, .int .i64 x.p.2.2]) rfl (by kernel_rfl) (by kernel_rfl) (by kernel_rfl) (fun _ _ _ h => h) (Or.inl ⟨by rfl, ?_⟩) ⟨x0, x1, z0, z1⟩ ?_
    · rintro u ⟨q1, q2, q3, q4⟩
      go_simp
    simp only [Act.put]
    refine wpAnyH_ready (rs := [0, 3]) (by kernel_rfl) (by simp) ?_
    refine AllReadyH.cons rfl (fun K hK => ?_) (AllReadyH.cons rfl (fun K hK => ?_) AllReadyH.nil)
    · rw [if_pos (by rfl)]
      have hcJ := HSJ.out _ hdr
      go_simp
      refine hK.out _ _ (HS4.out _ hdr) (fun _ => ?_)
      clear hK K hcJ
      refine wpAnyH_ready (rs := [3]) (by kernel_rfl) (by simp) ?_
      refine AllReadyH.cons rfl (fun K hK => ?_) AllReadyH.nil
      rw [if_pos (by rfl)]
      go_simp
      refine (later_any _ _ _).mono ?_
      rintro e w4 ⟨rfl, hb4⟩
      have b4 := hdr.trans (hb4.mono hdr.size)
      refine hK.out _ _ (HS4.out _ b4) (fun _ => ?_)
      clear hK K
      refine wpAnyH_ready (rs := [4]) (by kernel_rfl) (by simp) ?_
      refine AllReadyH.cons rfl (fun K hK => ?_) AllReadyH.nil
      rw [if_pos (by rfl)]
      go_simp
      refine (fresh_any _ _ _ (by have := later_size x; omega)).mono ?_
      rintro e w5 ⟨rfl, hb5⟩
      have b5 := b4.trans (hb5.mono b4.size)
      refine hK.out _ _ (HS4.out _ b5) (fun _ => ?_)
      clear hK K
      refine wpAnyH_ready (rs := [5]) (by kernel_rfl) (by simp) ?_
      refine AllReadyH.cons rfl (fun K hK => ?_) AllReadyH.nil
      rw [if_pos (by rfl)]
      go_simp
      have b6 := b5.alloc b5.size (.cells #[.string (laterM x.p.1 x.p.2).1, .int .i64 (laterM x.p.1 x.p.2).2] 144)
      refine hK.out _ _ (HS4.out _ b6) (fun _ => ?_)
      clear hK K
      refine wpAnyH_ready (rs := [6]) (by kernel_rfl) (by simp) ?_
      refine AllReadyH.cons rfl (fun K hK => ?_) AllReadyH.nil
      rw [if_pos (by rfl)]
      have m0 := box0 w5 (.string (laterM x.p.1 x.p.2).1) (.int .i64 (laterM x.p.1 x.p.2).2) 144
      have m1 := box1 w5 (.string (laterM x.p.1 x.p.2).1) (.int .i64 (laterM x.p.1 x.p.2).2) 144
      generalize hw6 : w5.alloc (.cells #[.string (laterM x.p.1 x.p.2).1, .int .i64 (laterM x.p.1 x.p.2).2] 144) = w6 at *
      clear hw6
      refine wp_append_mark _ _ rfl W0.heap.size _ (joinP (pre.map PM.p)) rfl (hg.keep b6) (fun h => hnil (by simpa [joinP] using h)) ⟨w5.heap.size, 0, none⟩ (laterM x.p.1 x.p.2) rfl m0 (by simpa [Addr.add] using m1) (by omega) (Nat.le_trans hW0 b6.size) ?_
      intro v7 w7 hg7 ha7
      have hW6 : W0.heap.size ≤ w6.heap.size := Nat.le_trans hW0 b6.size
      have far7 := ha7.far hW6
      have cJ7 : w7.cell? ⟨w2.heap.size, 0, none⟩ = some (.slice ag pre.length capg) := (far7.cell (p := ⟨w2.heap.size, 0, none⟩) (by simp only; omega)).trans (HSJ.out _ b6)
      have fJ7 : w7.frozen? ⟨w2.heap.size, 0, none⟩ = false := (far7.frozen (p := ⟨w2.heap.size, 0, none⟩) (by simp only; omega)).trans ((b6.frozen (p := ⟨w2.heap.size, 0, none⟩) (by simp only; omega)).trans hf)
      have ks6 : KS w.heap.size (w2.heap.size + 1) W w7 := (KS.of_below b6).trans (ha7.ks B0.size)
      have nx : bx < W.heap.size := HLX.out
      have nz : bz < W.heap.size := HLZ.out
      refine hK.out _ _ ⟨ks6.cell (.inr ⟨by omega, x3⟩) x0, ks6.cell (.inr ⟨by omega, x3⟩) x1, ks6.cell (.inr ⟨by omega, z3⟩) z0, ks6.cell (.inr ⟨by omega, z3⟩) z1⟩ (fun hS7 => ?_)
      clear hK K
      refine wpAnyH_ready (rs := [7]) (by kernel_rfl) (by simp) ?_
      refine AllReadyH.cons rfl (fun K hK => ?_) AllReadyH.nil
      rw [if_pos (by rfl)]
      obtain ⟨a7, n7, rfl, hrow7⟩ := hg7.shape
      go_simp
      refine hK.out _ _ ⟨(far_set _ _ (by omega)).trans hS7.1, (far_set _ _ (by omega)).trans hS7.2.1, (far_set _ _ (by omega)).trans hS7.2.2.1, (far_set _ _ (by omega)).trans hS7.2.2.2⟩ (fun _ => ?_)
      refine wpAnyH_done (by kernel_rfl) ?_ _
      refine HFIN.out w6 w7 _ b6 ?_ ha7
      simp only [List.length_append, List.length_cons, List.length_nil, Nat.zero_add, HIL] at hg7
      exact hg7
    · rw [if_pos (by rfl)]
      go_simp
      refine (later_any _ _ _).mono ?_
      rintro e w4 ⟨rfl, hb4⟩
      have b4 := hdr.trans (hb4.mono hdr.size)
      refine hK.out _ _ (HS4.out _ b4) (fun _ => ?_)
      clear hK K
      refine wpAnyH_ready (rs := [0, 4]) (by kernel_rfl) (by simp) ?_
      refine AllReadyH.cons rfl (fun K hK => ?_) (AllReadyH.cons rfl (fun K hK => ?_) AllReadyH.nil)
      · rw [if_pos (by rfl)]
        have hcJ := HSJ.out _ b4
        go_simp
        refine hK.out _ _ (HS4.out _ b4) (fun _ => ?_)
        clear hK K hcJ
        refine wpAnyH_ready (rs := [4]) (by kernel_rfl) (by simp) ?_
        refine AllReadyH.cons rfl (fun K hK => ?_) AllReadyH.nil
        rw [if_pos (by rfl)]
        go_simp
        refine (fresh_any _ _ _ (by have := later_size x; omega)).mono ?_
        rintro e w5 ⟨rfl, hb5⟩
        have b5 := b4.trans (hb5.mono b4.size)
        refine hK.out _ _ (HS4.out _ b5) (fun _ => ?_)
        clear hK K
        refine wpAnyH_ready (rs := [5]) (by kernel_rfl) (by simp) ?_
        refine AllReadyH.cons rfl (fun K hK => ?_) AllReadyH.nil
        rw [if_pos (by rfl)]
        go_simp
        have b6 := b5.alloc b5.size (.cells #[.string (laterM x.p.1 x.p.2).1, .int .i64 (laterM x.p.1 x.p.2).2] 144)
        refine hK.out _ _ (HS4.out _ b6) (fun _ => ?_)
        clear hK K
        refine wpAnyH_ready (rs := [6]) (by kernel_rfl) (by simp) ?_
        refine AllReadyH.cons rfl (fun K hK => ?_) AllReadyH.nil
        rw [if_pos (by rfl)]
        have m0 := box0 w5 (.string (laterM x.p.1 x.p.2).1) (.int .i64 (laterM x.p.1 x.p.2).2) 144
        have m1 := box1 w5 (.string (laterM x.p.1 x.p.2).1) (.int .i64 (laterM x.p.1 x.p.2).2) 144
        generalize hw6 : w5.alloc (.cells #[.string (laterM x.p.1 x.p.2).1, .int .i64 (laterM x.p.1 x.p.2).2] 144) = w6 at *
        clear hw6
        refine wp_append_mark _ _ rfl W0.heap.size _ (joinP (pre.map PM.p)) rfl (hg.keep b6) (fun h => hnil (by simpa [joinP] using h)) ⟨w5.heap.size, 0, none⟩ (laterM x.p.1 x.p.2) rfl m0 (by simpa [Addr.add] using m1) (by omega) (Nat.le_trans hW0 b6.size) ?_
        intro v7 w7 hg7 ha7
        have hW6 : W0.heap.size ≤ w6.heap.size := Nat.le_trans hW0 b6.size
        have far7 := ha7.far hW6
        have cJ7 : w7.cell? ⟨w2.heap.size, 0, none⟩ = some (.slice ag pre.length capg) := (far7.cell (p := ⟨w2.heap.size, 0, none⟩) (by simp only; omega)).trans (HSJ.out _ b6)
        have fJ7 : w7.frozen? ⟨w2.heap.size, 0, none⟩ = false := (far7.frozen (p := ⟨w2.heap.size, 0, none⟩) (by simp only; omega)).trans ((b6.frozen (p := ⟨w2.heap.size, 0, none⟩) (by simp only; omega)).trans hf)
        have ks6 : KS w.heap.size (w2.heap.size + 1) W w7 := (KS.of_below b6).trans (ha7.ks B0.size)
        have nx : bx < W.heap.size := HLX.out
        have nz : bz < W.heap.size := HLZ.out
        refine hK.out _ _ ⟨ks6.cell (.inr ⟨by omega, x3⟩) x0, ks6.cell (.inr ⟨by omega, x3⟩) x1, ks6.cell (.inr ⟨by omega, z3⟩) z0, ks6.cell (.inr ⟨by omega, z3⟩) z1⟩ (fun hS7 => ?_)
        clear hK K
        refine wpAnyH_ready (rs := [7]) (by kernel_rfl) (by simp) ?_
        refine AllReadyH.cons rfl (fun K hK => ?_) AllReadyH.nil
        rw [if_pos (by rfl)]
        obtain ⟨a7, n7, rfl, hrow7⟩ := hg7.shape
        go_simp
        refine hK.out _ _ ⟨(far_set _ _ (by omega)).trans hS7.1, (far_set _ _ (by omega)).trans hS7.2.1, (far_set _ _ (by omega)).trans hS7.2.2.1, (far_set _ _ (by omega)).trans hS7.2.2.2⟩ (fun _ => ?_)
        refine wpAnyH_done (by kernel_rfl) ?_ _
        refine HFIN.out w6 w7 _ b6 ?_ ha7
        simp only [List.length_append, List.length_cons, List.length_nil, Nat.zero_add, HIL] at hg7
        exact hg7
      · rw [if_pos (by rfl)]
        go_simp
        refine (fresh_any _ _ _ (by have := later_size x; omega)).mono ?_
        rintro e w5 ⟨rfl, hb5⟩
        have b5 := b4.trans (hb5.mono b4.size)
        refine hK.out _ _ (HS4.out _ b5) (fun _ => ?_)
        clear hK K
        refine wpAnyH_ready (rs := [0, 5]) (by kernel_rfl) (by simp) ?_
        refine AllReadyH.cons rfl (fun K hK => ?_) (AllReadyH.cons rfl (fun K hK => ?_) AllReadyH.nil)
        · rw [if_pos (by rfl)]
          have hcJ := HSJ.out _ b5
          go_simp
          refine hK.out _ _ (HS4.out _ b5) (fun _ => ?_)
          clear hK K hcJ
          refine wpAnyH_ready (rs := [5]) (by kernel_rfl) (by simp) ?_
          refine AllReadyH.cons rfl (fun K hK => ?_) AllReadyH.nil
          rw [if_pos (by rfl)]
          go_simp
          have b6 := b5.alloc b5.size (.cells #[.string (laterM x.p.1 x.p.2).1, .int .i64 (laterM x.p.1 x.p.2).2] 144)
          refine hK.out _ _ (HS4.out _ b6) (fun _ => ?_)
          clear hK K
          refine wpAnyH_ready (rs := [6]) (by kernel_rfl) (by simp) ?_
          refine AllReadyH.cons rfl (fun K hK => ?_) AllReadyH.nil
          rw [if_pos (by rfl)]
          have m0 := box0 w5 (.string (laterM x.p.1 x.p.2).1) (.int .i64 (laterM x.p.1 x.p.2).2) 144
          have m1 := box1 w5 (.string (laterM x.p.1 x.p.2).1) (.int .i64 (laterM x.p.1 x.p.2).2) 144
          generalize hw6 : w5.alloc (.cells #[.string (laterM x.p.1 x.p.2).1, .int .i64 (laterM x.p.1 x.p.2).2] 144) = w6 at *
          clear hw6
          refine wp_append_mark _ _ rfl W0.heap.size _ (joinP (pre.map PM.p)) rfl (hg.keep b6) (fun h => hnil (by simpa [joinP] using h)) ⟨w5.heap.size, 0, none⟩ (laterM x.p.1 x.p.2) rfl m0 (by simpa [Addr.add] using m1) (by omega) (Nat.le_trans hW0 b6.size) ?_
          intro v7 w7 hg7 ha7
          have hW6 : W0.heap.size ≤ w6.heap.size := Nat.le_trans hW0 b6.size
          have far7 := ha7.far hW6
          have cJ7 : w7.cell? ⟨w2.heap.size, 0, none⟩ = some (.slice ag pre.length capg) := (far7.cell (p := ⟨w2.heap.size, 0, none⟩) (by simp only; omega)).trans (HSJ.out _ b6)
          have fJ7 : w7.frozen? ⟨w2.heap.size, 0, none⟩ = false := (far7.frozen (p := ⟨w2.heap.size, 0, none⟩) (by simp only; omega)).trans ((b6.frozen (p := ⟨w2.heap.size, 0, none⟩) (by simp only; omega)).trans hf)
          have ks6 : KS w.heap.size (w2.heap.size + 1) W w7 := (KS.of_below b6).trans (ha7.ks B0.size)
          have nx : bx < W.heap.size := HLX.out
          have nz : bz < W.heap.size := HLZ.out
          refine hK.out _ _ ⟨ks6.cell (.inr ⟨by omega, x3⟩) x0, ks6.cell (.inr ⟨by omega, x3⟩) x1, ks6.cell (.inr ⟨by omega, z3⟩) z0, ks6.cell (.inr ⟨by omega, z3⟩) z1⟩ (fun hS7 => ?_)
          clear hK K
          refine wpAnyH_ready (rs := [7]) (by kernel_rfl) (by simp) ?_
          refine AllReadyH.cons rfl (fun K hK => ?_) AllReadyH.nil
          rw [if_pos (by rfl)]
          obtain ⟨a7, n7, rfl, hrow7⟩ := hg7.shape
          go_simp
          refine hK.out _ _ ⟨(far_set _ _ (by omega)).trans hS7.1, (far_set _ _ (by omega)).trans hS7.2.1, (far_set _ _ (by omega)).trans hS7.2.2.1, (far_set _ _ (by omega)).trans hS7.2.2.2⟩ (fun _ => ?_)
          refine wpAnyH_done (by kernel_rfl) ?_ _
          refine HFIN.out w6 w7 _ b6 ?_ ha7
          simp only [List.length_append, List.length_cons, List.length_nil, Nat.zero_add, HIL] at hg7
          exact hg7
        · rw [if_pos (by rfl)]
          go_simp
          have b6 := b5.alloc b5.size (.cells #[.string (laterM x.p.1 x.p.2).1, .int .i64 (laterM x.p.1 x.p.2).2] 144)
          refine hK.out _ _ (HS4.out _ b6) (fun _ => ?_)
          clear hK K
          refine wpAnyH_ready (rs := [0]) (by kernel_rfl) (by simp) ?_
          refine AllReadyH.cons rfl (fun K hK => ?_) AllReadyH.nil
          rw [if_pos (by rfl)]
          have hcJ := HSJ.out _ b6
          go_simp
          refine hK.out _ _ (HS4.out _ b6) (fun _ => ?_)
          clear hK K hcJ
          refine wpAnyH_ready (rs := [6]) (by kernel_rfl) (by simp) ?_
          refine AllReadyH.cons rfl (fun K hK => ?_) AllReadyH.nil
          rw [if_pos (by rfl)]
          have m0 := box0 w5 (.string (laterM x.p.1 x.p.2).1) (.int .i64 (laterM x.p.1 x.p.2).2) 144
          have m1 := box1 w5 (.string (laterM x.p.1 x.p.2).1) (.int .i64 (laterM x.p.1 x.p.2).2) 144
          generalize hw6 : w5.alloc (.cells #[.string (laterM x.p.1 x.p.2).1, .int .i64 (laterM x.p.1 x.p.2).2] 144) = w6 at *
          clear hw6
          refine wp_append_mark _ _ rfl W0.heap.size _ (joinP (pre.map PM.p)) rfl (hg.keep b6) (fun h => hnil (by simpa [joinP] using h)) ⟨w5.heap.size, 0, none⟩ (laterM x.p.1 x.p.2) rfl m0 (by simpa [Addr.add] using m1) (by omega) (Nat.le_trans hW0 b6.size) ?_
          intro v7 w7 hg7 ha7
          have hW6 : W0.heap.size ≤ w6.heap.size := Nat.le_trans hW0 b6.size
          have far7 := ha7.far hW6
          have cJ7 : w7.cell? ⟨w2.heap.size, 0, none⟩ = some (.slice ag pre.length capg) := (far7.cell (p := ⟨w2.heap.size, 0, none⟩) (by simp only; omega)).trans (HSJ.out _ b6)
          have fJ7 : w7.frozen? ⟨w2.heap.size, 0, none⟩ = false := (far7.frozen (p := ⟨w2.heap.size, 0, none⟩) (by simp only; omega)).trans ((b6.frozen (p := ⟨w2.heap.size, 0, none⟩) (by simp only; omega)).trans hf)
          have ks6 : KS w.heap.size (w2.heap.size + 1) W w7 := (KS.of_below b6).trans (ha7.ks B0.size)
          have nx : bx < W.heap.size := HLX.out
          have nz : bz < W.heap.size := HLZ.out
          refine hK.out _ _ ⟨ks6.cell (.inr ⟨by omega, x3⟩) x0, ks6.cell (.inr ⟨by omega, x3⟩) x1, ks6.cell (.inr ⟨by omega, z3⟩) z0, ks6.cell (.inr ⟨by omega, z3⟩) z1⟩ (fun hS7 => ?_)
          clear hK K
          refine wpAnyH_ready (rs := [7]) (by kernel_rfl) (by simp) ?_
          refine AllReadyH.cons rfl (fun K hK => ?_) AllReadyH.nil
          rw [if_pos (by rfl)]
          obtain ⟨a7, n7, rfl, hrow7⟩ := hg7.shape
          go_simp
          refine hK.out _ _ ⟨(far_set _ _ (by omega)).trans hS7.1, (far_set _ _ (by omega)).trans hS7.2.1, (far_set _ _ (by omega)).trans hS7.2.2.1, (far_set _ _ (by omega)).trans hS7.2.2.2⟩ (fun _ => ?_)
          refine wpAnyH_done (by kernel_rfl) ?_ _
          refine HFIN.out w6 w7 _ b6 ?_ ha7
          simp only [List.length_append, List.length_cons, List.length_nil, Nat.zero_add, HIL] at hg7
          exact hg7
  case done =>
    rintro D ys W hD hS ⟨⟨hR, ⟨jv, hc, hf, hg, hnil⟩, hlen, hW0⟩, hB⟩ hK
    have hJ := joinP_of (stamp_sorted hya) (stamp_sorted hyb) (pairs_spec _ la lb (stamp_sorted hya) (stamp_sorted hyb) (Nat.le_refl _))
    rw [← hS] at hJ
    have HIL := join_len ys
    obtain ⟨ag, capg, rfl, hrow⟩ := hg.shape
    obtain ⟨c0, f0, c1, f1⟩ := id hR
    have HJ : Hid (JoinOf la lb (joinP (ys.map PM.p))) := hJ
    clear hJ
    generalize joinP (ys.map PM.p) = jl at *
    have hz := hR.lt
    rw [HIL] at hc hg
    gi_wp2
    have hg' : Gath ((W.setCell ⟨w.heap.size, 0, none⟩ (.slice ag ys.length capg)).setCell ⟨w.heap.size + 1, 0, none⟩ (.bool true)) W0.heap.size (.slice ag ys.length capg) jl :=
      hg.far fun k h1 h2 => (Below.heap_setCell _ _ _ _ (by simp only; omega)).trans (Below.heap_setCell _ _ _ _ (by simp only; omega))
    have hK' := ((KeepsOthers.setCell W ⟨w.heap.size, 0, none⟩ (.slice ag ys.length capg)).trans (KeepsOthers.setCell _ ⟨w.heap.size + 1, 0, none⟩ (.bool true))).same D _ hK rfl
    refine ⟨by simp, .inl ⟨_, _, rfl, run_takeDeferred hK', ?_⟩⟩
    have d0 : ((W.setCell ⟨w.heap.size, 0, none⟩ (.slice ag ys.length capg)).setCell ⟨w.heap.size + 1, 0, none⟩ (.bool true)).cell? ⟨w.heap.size, 0, none⟩ = some (.slice ag ys.length capg) := by simp [go_sem, c0]
    have d1 : ((W.setCell ⟨w.heap.size, 0, none⟩ (.slice ag ys.length capg)).setCell ⟨w.heap.size + 1, 0, none⟩ (.bool true)).cell? ⟨w.heap.size + 1, 0, none⟩ = some (.bool true) := by simp [go_sem, c1]
    have hr' : ∀ r, some D = some r → ∃ o : Obj, ((W.setCell ⟨w.heap.size, 0, none⟩ (.slice ag ys.length capg)).setCell ⟨w.heap.size + 1, 0, none⟩ (.bool true)).heap[r]? = some o ∧ o.isCells = false := fun r e => by cases e; exact ⟨_, hK', rfl⟩
    have e0 := cell_kept d0 (grownBy_putObj' _ D (.deferred none)) hr'
    have e1 := cell_kept d1 (grownBy_putObj' _ D (.deferred none)) hr'
    have hg5 := hg'.kept (grownBy_putObj' _ D (.deferred none)) hr'
    have hB2 := ((hB.setCell (p := ⟨w.heap.size, 0, none⟩) (Nat.le_refl _) (.slice ag ys.length capg)).setCell (p := ⟨w.heap.size + 1, 0, none⟩) (Nat.le_succ _) (.bool true)).trans (belowK_b (w := w) (Nat.le_refl _) _ D _ (.deferred none) (by omega) hK' rfl rfl)
    refine ⟨.tuple #[.slice ag ys.length capg, .bool true], ?_, ⟨_, jl, true, rfl, hg5.lower B0.size, .inr ⟨hya, hyb, jl, HJ.out, .inl ⟨by omega, rfl, rfl⟩⟩⟩, hB2⟩
    simp [results, Tryz.f141, go_sem, e0, e1]
  case stop =>
    rintro D c pre W hD hpre ⟨⟨rfl, h12, hR⟩, hB⟩ hK
    have hJ := joinP_of (stamp_sorted hya) (stamp_sorted hyb) (pairs_spec _ la lb (stamp_sorted hya) (stamp_sorted hyb) (Nat.le_refl _))
    have hlen : 12 < (joinP (pairsF (la.length + lb.length) la lb)).length := by
      have := hpre.length_le
      simp only [joinP, List.length_map] at this ⊢
      omega
    gi_wp2
    refine ⟨by simp, .inl ⟨_, _, rfl, run_takeDeferred hK, ?_⟩⟩
    have hR5 := hR.kept (grownBy_putObj' _ D (.deferred none)) (fun r e => by cases e; exact ⟨_, hK, rfl⟩)
    refine ⟨.tuple #[.slice none 0 0, .bool false], ?_, ⟨_, [], false, rfl, Gath.none _ _, .inr ⟨hya, hyb, _, hJ, .inr ⟨hlen, rfl, rfl⟩⟩⟩, hB.trans (belowK_b (w := w) (Nat.le_refl _) W D _ _ (by omega) hK rfl rfl)⟩
    simp [results, Tryz.f141, go_sem, hR5.c0, hR5.c1]

end Go.Proofs.YtpfhegengmlkmacGreatDoor
/- Walk: impl.ChoiceJoin. -/
namespace Go.Proofs.YtpfhegengmlkmacGreatDoor
open Go.RowKit Go.BigFrame
set_option maxRecDepth 100000

set_option maxHeartbeats 1600000 in
theorem implCJ_any (a a' : Option Addr) (cap cap' : Nat) (ws : List (List ItemL)) (ps : List Int) (w : World) (hf : FitW ws) (hr : RowW w a ws) (hp : ps.length ≤ maxLen) (hr' : RowZ w a' ps) :
    Calls Tryz.prog 97 #[.slice a ws.length cap, .slice a' ps.length cap'] w fun e w' => (∃ v m ok, e = .returned (.tuple #[v, .bool ok]) ∧ Gath w' w.heap.size v m ∧ IsCJ ws ps m ok) ∧ Below w.heap.size w w' := by
  go_enter Tryz.func97, Tryz.ntmps97
  go_wp2_with fail
  refine (readChoices_any a cap ws _ hf hr).mono ?_
  rintro e w1 ⟨hE, b1⟩
  have hr1 := hr'.below b1
  rcases hE with ⟨a1, c1, a2, c2, sh, rfl, hok, hc1, hc2, hrv, hrg, hsw⟩ | ⟨rfl, hno⟩
  · have HOK : Hid (OkW ws) := hok
    have HSW : Hid (ShW ws sh) := hsw
    clear hok hsw
    have hcb := chB_new hrv hrg hc1 hc2
    have hbx : Below w1.heap.size w1 (w1.alloc (.cells #[.slice a1 ws.length c1, .slice a2 sh.length c2] 213)) := (Below.refl _ _).alloc (Nat.le_refl _) _
    have BX : Below w.heap.size w (w1.alloc (.cells #[.slice a1 ws.length c1, .slice a2 sh.length c2] 213)) := b1.trans (hbx.mono b1.size)
    have hrx := hr1.below hbx
    go_wp2_with fail
    generalize w1.alloc (.cells #[.slice a1 ws.length c1, .slice a2 sh.length c2] 213) = W at *
    refine (has_any w W w1.heap.size ws sh a' cap' ps hcb HOK.out.2.1 hp hrx).mono ?_
    rintro e w2 ⟨⟨r, rfl, hr2⟩, b2⟩
    have HR : Hid (r = true ↔ ps.length = ws.length ∧ InW ws ps) := hr2
    clear hr2
    have B2 : Below w.heap.size w w2 := BX.trans (b2.mono BX.size)
    cases r with
    | false =>
      have HN : Hid (¬ ChP ws ps) := fun h => by have := HR.out.2 ⟨h.2.1, h.2.2.1⟩; simp at this
      go_wp2_with fail
      exact bodyPost_ret (v := .tuple #[.slice none 0 0, .bool false]) (by simp [results, Tryz.results97, go_sem]) rfl ⟨⟨_, [], false, rfl, Gath.none _ _, .inr ⟨rfl, rfl, .inl HN.out⟩⟩, B2⟩
    | true =>
      have hh := HR.out.1 rfl
      have HIN : Hid (InW ws ps) := hh.2
      have HLEN : Hid (ps.length = ws.length) := hh.1
      clear HR hh
      go_wp2_with fail
      refine (agrees_any w w2 w1.heap.size ws sh a' cap' ps (hcb.below b2) B2 HOK.out HLEN.out HIN.out (hrx.below b2) HSW.out).mono ?_
      rintro e w3 ⟨⟨r, rfl, hr3⟩, b3⟩
      have HR : Hid (r = true ↔ ChP ws ps) := hr3.trans ⟨fun h => ⟨HOK.out, HLEN.out, HIN.out, h⟩, fun h => h.2.2.2⟩
      clear hr3
      have B3 : Below w.heap.size w w3 := B2.trans (b3.mono B2.size)
      cases r with
      | false =>
        have HN : Hid (¬ ChP ws ps) := fun h => by have := HR.out.2 h; simp at this
        go_wp2_with fail
        exact bodyPost_ret (v := .tuple #[.slice none 0 0, .bool false]) (by simp [results, Tryz.results97, go_sem]) rfl ⟨⟨_, [], false, rfl, Gath.none _ _, .inr ⟨rfl, rfl, .inl HN.out⟩⟩, B3⟩
      | true =>
        have HC : Hid (ChP ws ps) := HR.out.1 rfl
        have hpl : ps.length ≤ 6 := by have := HLEN.out; have := HOK.out.2.1; omega
        clear HR
        replace hcb := (hcb.below b2).below b3
        replace hrx := (hrx.below b2).below b3
        go_wp2_with fail
        go_loopw [7, 8, 30] (fun okv jv i wr => ∃ (k : Nat) (m : List (ByteArray × Int)), k ≤ ps.length ∧ i = .int .i64 k ∧ Gath wr w.heap.size jv m ∧ Hid (JoinsTo ws ps k m) ∧ Below w3.heap.size w3 wr) (fun _ _ i _ => ps.length - (intOf i).toNat)
        case atStart => exact ⟨0, [], Nat.zero_le _, rfl, Gath.none _ _, rfl, Below.refl _ _⟩
        case round =>
          obtain ⟨k, m, hk, rfl, hg, HJ, hbl⟩ := hrel
          have B4 : Below w.heap.size w wr := B3.trans (hbl.mono B3.size)
          by_cases hlt : k < ps.length
          · obtain ⟨hkw, q, hqe, hq, hpk⟩ := in_nat HC.out.2.2.1 hlt
            obtain ⟨hcl, va, vc, va', vc', e0, hvc, e1, hvc', hv, hgg⟩ := hcb.below hbl
            obtain ⟨g, o, rfl, hwo⟩ := hv k hkw
            obtain ⟨b2, o2, rfl, g2, f2⟩ := hrx.below hbl k hlt
            rw [hqe] at f2
            have hfm := (hf.2 k hkw).2 q hq
            have k0 : (0 : Int) ≤ (k : Int) := by omega
            have k1 : (k : Int) < (ps.length : Int) := by omega
            have k2 : (k : Int) < (ws.length : Int) := by omega
            have HPK : Hid (pkM ws ps k = (ws[k][q]).2) := hpk
            have hst := HJ.out.stamp
            have hm12 := hst.1
            have HMS : Hid (∀ j, (h : j < m.length) → m[j].1.size ≤ maxLen) := fun j hj => by have := (hst.2.1 j hj).1.2.1; unfold maxLen; omega
            obtain ⟨oa, oc, rfl, hoc, horow⟩ := gath_row hg
            clear hqe hpk hst hgg hv
            go_wp2_with fail
            refine (at_off w wr g (o + k * 10) ws[k] q hwo hq).mono ?_
            rintro e w4 ⟨⟨vv, rfl, ⟨sa, sc, rfl, hsc, hrow⟩⟩, b4⟩
            have B5 : Below w.heap.size w w4 := B4.trans (b4.mono B4.size)
            have hfd := field_stamp (ws[k][q]).1 sa (ws[k][q]).2.length sc
            go_wp2_with fail
            refine (implJoin_any oa sa oc sc m (ws[k][q]).2 _ (by unfold maxLen; omega) hfm.1 hoc hsc (horow.below b4) (hrow.below B5) HMS.out hfm.2).mono ?_
            rintro e w5 ⟨⟨v2, m2, ok2, rfl, hg2, hj2⟩, b5⟩
            obtain ⟨va2, vc2, rfl, _, _⟩ := gath_row hg2
            rw [← HPK.out] at hj2
            have HJ2 : Hid (IsJ m (pkM ws ps k) m2 ok2) := hj2
            clear hj2
            have b45 : Below wr.heap.size wr w5 := b4.trans (b5.mono b4.size)
            cases ok2 with
            | false =>
              have HF : Hid (IsCJ ws ps [] false) := .inr ⟨rfl, rfl, .inr ⟨k, m, m2, hlt, HJ.out, HJ2.out⟩⟩
              go_wp2_with fail
              exact bodyPost_ret (v := .tuple #[.slice none 0 0, .bool false]) (by simp [results, Tryz.results97, go_sem]) rfl ⟨⟨_, [], false, rfl, Gath.none _ _, HF.out⟩, B4.trans (b45.mono B4.size)⟩
            | true =>
              have HST : Hid (JoinsTo ws ps (k + 1) m2) := ⟨m, HJ.out, HJ2.out⟩
              go_wp2_with fail
              exact ⟨⟨k + 1, m2, by omega, by go_num, hg2.lower B5.size, HST, hbl.trans (b45.mono hbl.size)⟩, by simp [intOf]; omega⟩
          · have HF : Hid (IsCJ ws ps m true) := .inl ⟨rfl, HC.out, by
              have e : k = ps.length := by omega
              rw [← e]; exact HJ.out⟩
            go_wp2_with fail
            exact bodyPost_ret (by simp [results, Tryz.results97, go_sem]) rfl ⟨⟨_, m, true, rfl, hg, HF.out⟩, B4⟩
  · have HN : Hid (¬ ChP ws ps) := fun h => hno h.1
    clear hno
    go_wp2_with fail
    exact bodyPost_ret (v := .tuple #[.slice none 0 0, .bool false]) (by simp [results, Tryz.results97, go_sem]) rfl ⟨⟨_, [], false, rfl, Gath.none _ _, .inr ⟨rfl, rfl, .inl HN.out⟩⟩, b1.alloc b1.size _⟩

end Go.Proofs.YtpfhegengmlkmacGreatDoor
/- Numbers of an answer: marked, and held against the marks. -/
namespace Go.Proofs.YtpfhegengmlkmacGreatDoor
open Go.RowKit Go.BigFrame

/-- The marks of numbers. -/
def numsZ (k : Int) (n : Nat) : List Int := (List.range n).map fun (i : Nat) => k + (i : Int)
theorem numsZ_len (k : Int) (n : Nat) : (numsZ k n).length = n := by simp [numsZ]
theorem numsZ_at (k : Int) (n j : Nat) (h : j < (numsZ k n).length) : (numsZ k n)[j] = k + (j : Int) := by simp [numsZ]

theorem NumB.but {w w' : World} {g b : Nat} {l : List Int} (h : NumB w g l) (hb : But b w w') (hne : g ≠ b) : NumB w' g l := by
  have hlt := h.lt
  obtain ⟨m, f, h, hf⟩ := h
  exact ⟨m, f, h.of_block (hb.block g hlt hne), hf⟩
theorem NumB.span {w w' : World} {g lo hi : Nat} {l : List Int} (h : NumB w g l) (hs : Span lo hi w w') (hd : g < lo ∨ hi ≤ g) : NumB w' g l := by
  have hlt := h.lt
  obtain ⟨m, f, h, hf⟩ := h
  exact ⟨m, f, h.of_block (hs.block g hlt hd), hf⟩
/-- The numbers of an answer lie in a block between two. -/
def SafeZ (w : World) (lo hi : Nat) (a : Option Addr) (l : List Int) : Prop := l = [] ∨ ∃ g, a = some ⟨g, 0, none⟩ ∧ lo ≤ g ∧ g < hi ∧ NumB w g l
theorem SafeZ.row {w : World} {lo hi : Nat} {a : Option Addr} {l : List Int} (h : SafeZ w lo hi a l) : RowZ w a l := by
  rcases h with rfl | ⟨g, rfl, _, _, hn⟩
  · exact fun k hk => absurd hk (Nat.not_lt_zero k)
  · exact hn.row
theorem SafeZ.below {w w' : World} {lo hi : Nat} {a : Option Addr} {l : List Int} (h : SafeZ w lo hi a l) (hb : Below w.heap.size w w') : SafeZ w' lo hi a l := by
  rcases h with rfl | ⟨g, rfl, h1, h2, hn⟩
  · exact .inl rfl
  · exact .inr ⟨g, rfl, h1, h2, hn.below hb⟩
theorem SafeZ.span {w w' : World} {lo hi lo' hi' : Nat} {a : Option Addr} {l : List Int} (h : SafeZ w lo hi a l) (hs : Span lo' hi' w w') (hd : hi ≤ lo' ∨ hi' ≤ lo) : SafeZ w' lo hi a l := by
  rcases h with rfl | ⟨g, rfl, h1, h2, hn⟩
  · exact .inl rfl
  · exact .inr ⟨g, rfl, h1, h2, hn.span hs (by omega)⟩

/-- The first j numbers marked. -/
def mixN (k : Int) (l : List Int) (j : Nat) : List Int := (numsZ k j) ++ l.drop j
theorem mixN_len (k : Int) (l : List Int) {j : Nat} (h : j ≤ l.length) : (mixN k l j).length = l.length := by simp [mixN, numsZ]; omega
theorem mixN_step (k : Int) (l : List Int) {j : Nat} (h : j < l.length) : (mixN k l j).set j (k + (j : Int)) = mixN k l (j + 1) := by
  apply List.ext_getElem
  · rw [List.length_set, mixN_len k l (by omega), mixN_len k l (by omega)]
  · intro i h1 h2
    have hl : i < l.length := by rw [List.length_set, mixN_len k l (by omega)] at h1; exact h1
    rw [List.getElem_set]
    simp only [mixN, List.getElem_append, numsZ_len]
    by_cases e : j = i
    · subst e
      simp [numsZ]
    · simp only [if_neg e]
      by_cases e2 : i < j
      · simp only [e2, ↓reduceDIte, show i < j + 1 by omega]
        simp [numsZ]
      · simp only [e2, ↓reduceDIte, show ¬ i < j + 1 by omega, List.getElem_drop]
        congr 1
        omega

set_option maxHeartbeats 800000 in
theorem markIntS_num (g cap : Nat) (l : List Int) (k : Int) (w : World) (hn : l.length ≤ 1048576) (hk0 : 0 ≤ k) (hk1 : k ≤ 10000000) (ho : NumB w g l) :
    Calls Tryz.prog 33 #[.slice (some ⟨g, 0, none⟩) l.length cap, .int .i64 k] w fun e w' => e = .returned (.int .i64 (k + (l.length : Int))) ∧ NumB w' g (numsZ k l.length) ∧ But g w w' := by
  go_enter Tryz.func33, Tryz.ntmps33
  go_wp2_with fail
  go_loopw [1, 5] (fun kk i wr => ∃ j : Nat, j ≤ l.length ∧ i = .int .i64 j ∧ kk = .int .i64 (k + (j : Int)) ∧ NumB wr g (mixN k l j) ∧ But g w wr) (fun _ i _ => l.length - (intOf i).toNat)
  case atStart => exact ⟨0, Nat.zero_le _, rfl, by simp, by simpa [mixN, numsZ] using ho, But.refl _ _⟩
  case round =>
    obtain ⟨j, hj, rfl, rfl, hnb, hb⟩ := hrel
    by_cases hlt : j < l.length
    · have hv0 := hnb.cell (j := j) (by rw [mixN_len k l (by omega)]; omega)
      have hz0 := hnb.frozen j
      have hset := hnb.set j (k + (j : Int))
      rw [mixN_step k l hlt] at hset
      have j0 : (0 : Int) ≤ (j : Int) := by omega
      have j1 : (j : Int) < (l.length : Int) := by omega
      go_wp2_with fail
      exact ⟨⟨j + 1, by omega, by go_num, by congr 1; omega, hset, hb.setCell _ _⟩, by simp [intOf]; omega⟩
    · obtain rfl : j = l.length := by omega
      have he : mixN k l l.length = numsZ k l.length := by simp [mixN]
      rw [he] at hnb
      go_wp2_with fail
      go_ret
      exact ⟨rfl, hnb, hb⟩

set_option maxHeartbeats 800000 in
theorem markIntS_none (a : Option Addr) (cap : Nat) (k : Int) (w : World) :
    Calls Tryz.prog 33 #[.slice a 0 cap, .int .i64 k] w fun e w' => e = .returned (.int .i64 k) ∧ w' = w := by
  go_enter Tryz.func33, Tryz.ntmps33
  go_wp2_with fail
  go_loopw [1, 5] (fun kk i wr => i = .int .i64 0 ∧ kk = .int .i64 k ∧ wr = w) (fun _ _ _ => 0)
  case atStart => exact ⟨rfl, rfl, rfl⟩
  case round =>
    obtain ⟨rfl, rfl, rfl⟩ := hrel
    go_wp2_with fail
    go_ret
    exact ⟨rfl, rfl⟩
theorem markSafeZ_any (a : Option Addr) (cap lo hi : Nat) (l : List Int) (k : Int) (w : World) (hn : l.length ≤ 1048576) (hk0 : 0 ≤ k) (hk1 : k ≤ 10000000) (hs : SafeZ w lo hi a l) :
    Calls Tryz.prog 33 #[.slice a l.length cap, .int .i64 k] w fun e w' => e = .returned (.int .i64 (k + (l.length : Int))) ∧ SafeZ w' lo hi a (numsZ k l.length) ∧ Span lo hi w w' := by
  rcases hs with rfl | ⟨g, rfl, h1, h2, ho⟩
  · exact (markIntS_none a cap k w).mono fun e w' ⟨he, hw⟩ => ⟨by rw [he]; simp, .inl rfl, by rw [hw]; exact Span.refl _ _ _⟩
  · exact (markIntS_num g cap l k w hn hk0 hk1 ho).mono fun e w' ⟨he, ho', hb⟩ => ⟨he, .inr ⟨g, rfl, h1, h2, ho'⟩, hb.span h1 h2⟩

set_option maxHeartbeats 800000 in
theorem heldIntS_any (a : Option Addr) (cap n : Nat) (k : Int) (w : World) (hn : n ≤ 1048576) (hk0 : 0 ≤ k) (hk1 : k ≤ 10000000) (hr : RowZ w a (numsZ k n)) :
    Calls Tryz.prog 35 #[.slice a n cap, .int .i64 k] w fun e w' => e = .returned (.int .i64 (k + (n : Int))) ∧ Below w.heap.size w w' := by
  go_enter Tryz.func35, Tryz.ntmps35
  go_wp2_with fail
  go_loopw [1, 5] (fun kk i wr => ∃ j : Nat, j ≤ n ∧ i = .int .i64 j ∧ kk = .int .i64 (k + (j : Int)) ∧ Below w.heap.size w wr) (fun _ i _ => n - (intOf i).toNat)
  case atStart => exact ⟨0, Nat.zero_le _, rfl, by simp, Below.refl _ _⟩
  case round =>
    obtain ⟨j, hj, rfl, rfl, hb⟩ := hrel
    by_cases hlt : j < n
    · obtain ⟨b, o, rfl, hblt, c0⟩ := hr.below hb j (by rw [numsZ_len]; exact hlt)
      rw [numsZ_at] at c0
      have j0 : (0 : Int) ≤ (j : Int) := by omega
      have j1 : (j : Int) < (n : Int) := by omega
      go_wp2_with fail
      exact ⟨⟨j + 1, by omega, by go_num, by congr 1; omega, hb⟩, by simp [intOf]; omega⟩
    · obtain rfl : j = n := by omega
      go_wp2_with fail
      go_ret
      exact ⟨rfl, hb⟩

end Go.Proofs.YtpfhegengmlkmacGreatDoor
/- Walks: valsAt, comes of gathers. -/
namespace Go.Proofs.YtpfhegengmlkmacGreatDoor
open Go.RowKit Go.BigFrame
set_option maxRecDepth 100000

theorem valsM_take {ws : List (List ItemL)} {ps : List Int} {k : Nat} (h : k < ps.length) : (valsM ws ps).take (k + 1) = (valsM ws ps).take k ++ [pkV ws ps k] := by
  rw [List.take_succ_eq_append_getElem (by rw [valsM_len]; exact h)]
  simp [valsM]

set_option maxHeartbeats 1600000 in
theorem valsAt_any (a0 a1 a2 a' : Option Addr) (c0 c1 c2 c' n0 n2 : Nat) (ws : List (List ItemL)) (ps : List Int) (w : World) (h6 : ws.length ≤ 6) (r1 : RowW w a1 ws) (hp : ps.length = ws.length) (hin : InW ws ps) (hr' : RowZ w a' ps) (hcap : ∀ k, (h : k < ws.length) → ws[k].length ≤ 1048576) :
    Calls Tryz.prog 99 #[.agg #[.slice a0 n0 c0, .slice a1 ws.length c1, .slice a2 n2 c2], .slice a' ps.length c'] w fun e w' => (∃ g c, e = .returned (.slice (some ⟨g, 0, none⟩) ps.length c) ∧ w.heap.size ≤ g ∧ NumB w' g (valsM ws ps)) ∧ Below w.heap.size w w' := by
  have HP : Hid (ps.length = ws.length) := hp
  have HIN : Hid (InW ws ps) := hin
  have HC : Hid (∀ k, (h : k < ws.length) → ws[k].length ≤ 1048576) := hcap
  have hp6 : ps.length ≤ 6 := by omega
  clear hp hin hcap
  obtain ⟨i0, hi, hy0, hy1, hy2⟩ := info_parts Tryz.infoZ
  have hmk : ∀ u : World, (Instr.makeSlice 37 (.int .i64 0) (.int .i64 (ps.length : Int))).run Tryz.prog u = .ok (.slice (some ⟨u.heap.size, 0, none⟩) 0 ps.length) (u.alloc (.cells (madeCells #[.int .i64 0] ps.length) 3)) := fun u => by
    have h := run_make (P := Tryz.prog) u 37 3 i0 (.int .i64 0) Tryz.underlying37 hi hy0 .i64 .i64 0 (ps.length : Int) (by omega) (by omega) (by rw [hy2]; omega) (by omega)
    simpa [hy1, Value.cells] using h
  have bG : Below w.heap.size w (w.alloc (.cells #[.slice a0 n0 c0, .slice a1 ws.length c1, .slice a2 n2 c2] 36)) := (Below.refl _ _).alloc (Nat.le_refl _) _
  have tG := tri_new w (.slice a0 n0 c0) (.slice a1 ws.length c1) (.slice a2 n2 c2) 36
  have hgz : (w.alloc (.cells #[.slice a0 n0 c0, .slice a1 ws.length c1, .slice a2 n2 c2] 36)).heap.size = w.heap.size + 1 := by simp
  go_enter Tryz.func99, Tryz.ntmps99
  go_wp2_with fail
  generalize w.alloc (.cells #[.slice a0 n0 c0, .slice a1 ws.length c1, .slice a2 n2 c2] 36) = WG at *
  have hg0 : GathN (WG.alloc (.cells (madeCells #[.int .i64 0] ps.length) 3)) WG.heap.size (.slice (some ⟨WG.heap.size, 0, none⟩) 0 ps.length) [] :=
    ⟨rfl, .inr ⟨WG.heap.size, ps.length, madeCells #[.int .i64 0] ps.length, rfl, Nat.le_refl _, heap_alloc_new WG _, Nat.zero_le _, by unfold maxLen; omega, by rw [size_madeCells]; omega, rfl⟩⟩
  have hb0 : Below WG.heap.size WG (WG.alloc (.cells (madeCells #[.int .i64 0] ps.length) 3)) := (Below.refl _ _).alloc (Nat.le_refl _) _
  have HZ : Hid (WG.heap.size = w.heap.size + 1) := hgz
  rw [← hgz]
  clear hgz
  generalize WG.alloc (.cells (madeCells #[.int .i64 0] ps.length) 3) = WA at *
  clear hmk
  go_loopw [5, 13] (fun pv i wr => ∃ k : Nat, k ≤ ps.length ∧ i = .int .i64 k ∧ (∃ g cap, pv = .slice (some ⟨g, 0, none⟩) k cap ∧ GathN wr WG.heap.size (.slice (some ⟨g, 0, none⟩) k cap) ((valsM ws ps).take k)) ∧ Below WG.heap.size WG wr) (fun _ i _ => ps.length - (intOf i).toNat)
  case atStart => exact ⟨0, Nat.zero_le _, rfl, ⟨_, _, rfl, hg0⟩, hb0⟩
  case round =>
    clear hg0 hb0
    obtain ⟨k, hk, rfl, ⟨g, cap, rfl, hgn⟩, hbl⟩ := hrel
    have hz := hbl.size
    have hBw : Below w.heap.size w wr := bG.trans (hbl.mono bG.size)
    have htl : ((valsM ws ps).take k).length = k := by rw [List.length_take, valsM_len]; omega
    by_cases hlt : k < ps.length
    · have hkw : k < ws.length := by rw [← HP.out]; exact hlt
      obtain ⟨bp, op, rfl, hbp, cp⟩ := hr'.below hBw k hlt
      have hpk := HIN.out.2 k hlt
      rw [getD_get _ _ hkw] at hpk
      obtain ⟨q, hq⟩ : ∃ q : Nat, ps[k] = (q : Int) := ⟨ps[k].toNat, by omega⟩
      rw [hq] at cp hpk
      have hqw : q < ws[k].length := by omega
      obtain ⟨bw, ow, rfl, hbw, s1, t1, cw, ht1, hri⟩ := r1.below hBw k hkw
      obtain ⟨bi, oi, rfl, hbi, ci, _⟩ := hri q hqw
      have cG := cell_on hbl (by have := HZ.out; omega) tG.c1
      have HV : Hid (pkV ws ps k = ws[k][q].1) := by
        unfold Hid pkV
        rw [getD_get _ _ hkw, getD_get _ _ hlt, hq, Int.toNat_natCast, getD_get _ _ hqw]
      have HT : Hid ((valsM ws ps).take (k + 1) = (valsM ws ps).take k ++ [ws[k][q].1]) := by unfold Hid; rw [valsM_take hlt, HV.out]
      have k0 : (0 : Int) ≤ (k : Int) := by omega
      have k1 : (k : Int) < (ps.length : Int) := by omega
      have k2 : (k : Int) < (ws.length : Int) := by omega
      have q0 : (0 : Int) ≤ (q : Int) := by omega
      have q1 : (q : Int) < (ws[k].length : Int) := by omega
      clear hq hpk
      generalize ws[k][q].1 = vv at *
      go_wp2_with (first | (at_builtin; refine wpList_append_lies _ rfl _ _ 37 rfl WG.heap.size 3 i0 (.int .i64 0) 1 8 Tryz.underlying37 hi hy0 hy1 hy2 rfl (by decide) _ _ _ rfl (own_keep (show World.ownsRow _ _ _ _ _ _ _ from hgn) ((Below.refl _ _).alloc (Nat.le_refl _) _)) ⟨wr.heap.size, 0, none⟩ 1 1 [.int .i64 vv] rfl rfl (one_new wr _ _) (by simp [Value.oneCell']) (by decide) (by unfold maxLen; omega) (by omega) (by simp; omega) _ rfl ?_; intro g' cap' w5 hown' hgrow _ _))
      have hgs := GathN.snoc hown'
      rw [← HT.out, htl] at hgs
      have hB5 : Below WG.heap.size WG w5 := (hbl.alloc hz _).grown hgrow (by simp; omega) (fun q hq => by have := own_from (show World.ownsRow _ _ _ _ _ _ _ from hgn) q hq; omega)
      exact ⟨⟨k + 1, by omega, by go_num, ⟨g', cap', rfl, hgs⟩, hB5⟩, by simp [intOf]; omega⟩
    · obtain rfl : k = ps.length := by omega
      have he : (valsM ws ps).take ps.length = valsM ws ps := List.take_of_length_le (by rw [valsM_len]; exact Nat.le_refl _)
      rw [he] at hgn
      have hz' := HZ.out
      obtain ⟨hgB, hnb⟩ := hgn.block
      clear he hz'
      go_wp2_with fail
      go_ret
      exact ⟨⟨g, cap, rfl, by have := HZ.out; omega, hnb⟩, hBw⟩

theorem Safe.widenS {w : World} {lo hi lo' hi' : Nat} {a : Option Addr} {m : List (ByteArray × Int)} (h : Safe w lo hi a m) (h1 : lo' ≤ lo) (h2 : hi ≤ hi') : Safe w lo' hi' a m := by
  rcases h with e | ⟨g, e, h3, h4, h5⟩
  · exact .inl e
  · exact .inr ⟨g, e, by omega, by omega, h5⟩
/-- What comes answers. -/
def ComE (w w' : World) (ws : List (List ItemL)) (sh : List (ByteArray × Int)) (e : Ending) : Prop :=
  ∃ out ok, BestP ws out ok ∧ ((ok = false ∧ e = .returned (.iface 161 (.agg #[]))) ∨ (ok = true ∧ ∃ j okj, IsCJ ws out j okj ∧
    ((okj = false ∧ e = .returned (.iface 162 (.agg #[]))) ∨ (okj = true ∧ ∃ o, IsOrd sh j o ∧
      ((o ≠ 1 ∧ e = .returned (.iface 161 (.agg #[]))) ∨ (o = 1 ∧ ∃ gv cv ja cj mid, e = .returned (.iface 165 (.agg #[.slice (some ⟨gv, 0, none⟩) (valsM ws out).length cv, .slice ja j.length cj])) ∧ w.heap.size ≤ mid ∧ mid ≤ w'.heap.size ∧ j.length ≤ cj ∧ Safe w' w.heap.size mid ja j ∧ mid ≤ gv ∧ NumB w' gv (valsM ws out)))))))

set_option maxHeartbeats 1600000 in
theorem comes_any (a0 a1 a2 : Option Addr) (c0 c1 c2 n0 : Nat) (ws : List (List ItemL)) (sh : List (ByteArray × Int)) (w : World) (h6 : ws.length ≤ 6) (hst : ∀ l ∈ ws, StampsP l) (r1 : RowW w a1 ws) (hs : StampP sh) (hc2 : sh.length ≤ c2) (r2 : Row w a2 sh) :
    Calls Tryz.prog 53 #[.agg #[.slice a0 n0 c0, .slice a1 ws.length c1, .slice a2 sh.length c2]] w fun e w' => ComE w w' ws sh e ∧ Below w.heap.size w w' := by
  have hf := stamps_fitW h6 hst
  have hfs := stamp_fit hs
  have bG : Below w.heap.size w (w.alloc (.cells #[.slice a0 n0 c0, .slice a1 ws.length c1, .slice a2 sh.length c2] 36)) := (Below.refl _ _).alloc (Nat.le_refl _) _
  have tG := tri_new w (.slice a0 n0 c0) (.slice a1 ws.length c1) (.slice a2 sh.length c2) 36
  go_enter Tryz.func53, Tryz.ntmps53
  go_wp2_with fail
  generalize w.alloc (.cells #[.slice a0 n0 c0, .slice a1 ws.length c1, .slice a2 sh.length c2] 36) = WG at *
  refine (implCB_any a1 c1 ws _ hf (r1.below bG)).mono ?_
  rintro e w1 ⟨hE, b1⟩
  have B1 : Below w.heap.size w w1 := bG.trans (b1.mono bG.size)
  replace tG := tG.keep b1
  rcases hE with ⟨gp, cp, out, rfl, hbest, hgp, hnb⟩ | ⟨rfl, hbest⟩
  · have HB : Hid (BestP ws out true) := hbest
    have hch := best_in hbest
    have HCH : Hid (ChP ws out) := hch
    have hol : out.length ≤ 6 := by have := hch.2.1; have := hch.1.2.1; omega
    clear hch hbest
    obtain ⟨p0, p1, p2, _, _, _⟩ := id tG
    go_wp2_with fail
    refine (implCJ_any a1 (some ⟨gp, 0, none⟩) c1 cp ws out _ hf (r1.below B1) (by unfold maxLen; omega) hnb.row).mono ?_
    rintro e w2 ⟨⟨v2, j, okj, rfl, hg2, hj⟩, b2⟩
    obtain ⟨ja, cj, hv2, hsj⟩ := hg2.safe
    obtain ⟨ja', cj', hv2', hcj, _⟩ := gath_row hg2
    obtain ⟨rfl, rfl⟩ : ja = ja' ∧ cj = cj' := by
      have h := hv2.symm.trans hv2'
      simp only [Value.slice.injEq] at h
      exact ⟨h.1, h.2.2⟩
    subst hv2
    have HJ : Hid (IsCJ ws out j okj) := hj
    have hjs := hj.stamp
    have hjf := stamp_fit hjs
    clear hj
    have B2 : Below w.heap.size w w2 := B1.trans (b2.mono B1.size)
    replace tG := tG.keep b2
    have hnb2 := hnb.below b2
    clear p0 p1 p2
    obtain ⟨p0, p1, p2, _, _, _⟩ := id tG
    have z1 := B1.size
    cases okj with
    | false =>
      go_wp2_with fail
      go_ret
      exact ⟨⟨out, true, HB.out, .inr ⟨rfl, j, false, HJ.out, .inl ⟨rfl, rfl⟩⟩⟩, B2⟩
    | true =>
      go_wp2_with fail
      refine (implOrder_any a2 ja c2 cj sh j _ hfs.1 hjf.1 hc2 hcj (r2.below B2) hsj.row hfs.2 hjf.2).mono ?_
      rintro e w3 ⟨⟨o, rfl, ho⟩, b3⟩
      have HO : Hid (IsOrd sh j o) := ho
      clear ho
      have B3 : Below w.heap.size w w3 := B2.trans (b3.mono B2.size)
      replace tG := tG.keep b3
      replace hsj := hsj.below b3
      have hnb3 := hnb2.below b3
      clear p0 p1 p2
      obtain ⟨p0, p1, p2, _, _, _⟩ := id tG
      by_cases ho1 : o = 1
      · subst ho1
        go_wp2_with fail
        refine (valsAt_any a0 a1 a2 (some ⟨gp, 0, none⟩) c0 c1 c2 cp n0 sh.length ws out _ h6 (r1.below B3) HCH.out.2.1 HCH.out.2.2.1 hnb3.row (fun k hk => by have := (hst _ (List.getElem_mem hk)).1; omega)).mono ?_
        rintro e w4 ⟨⟨gv, cv, rfl, hgv, hnv⟩, b4⟩
        have hvl := valsM_len ws out
        have HVL : Hid ((valsM ws out).length = out.length) := hvl
        clear hvl
        go_wp2_with fail
        go_ret
        exact ⟨⟨out, true, HB.out, .inr ⟨rfl, j, true, HJ.out, .inr ⟨rfl, 1, HO.out, .inr ⟨rfl, gv, cv, ja, cj, w3.heap.size, by rw [HVL.out]; rfl, B3.size, b4.size, hcj, (hsj.widenS (by omega) b3.size).below b4, hgv, hnv⟩⟩⟩⟩, B3.trans (b4.mono B3.size)⟩
      · go_wp2_with fail
        go_ret
        exact ⟨⟨out, true, HB.out, .inr ⟨rfl, j, true, HJ.out, .inr ⟨rfl, o, HO.out, .inl ⟨ho1, rfl⟩⟩⟩⟩, B3⟩
  · have HB : Hid (BestP ws [] false) := hbest
    clear hbest
    go_wp2_with fail
    go_ret
    exact ⟨⟨[], false, HB.out, .inl ⟨rfl, rfl⟩⟩, B1⟩

end Go.Proofs.YtpfhegengmlkmacGreatDoor
/- Walks: markStringS. -/
namespace Go.Proofs.YtpfhegengmlkmacGreatDoor
open Go.RowKit Go.BigFrame

set_option maxHeartbeats 800000 in
theorem markStringS_any (b cap : Nat) (l : List ByteArray) (k : Int) (w : World) (hn : l.length ≤ 1048576) (hk0 : 0 ≤ k) (hk1 : k ≤ 10000000) (ho : PartS w b l l.length) :
    Calls Tryz.prog 30 #[.slice (some ⟨b, 0, none⟩) l.length cap, .int .i64 k] w fun e w' => e = .returned (.int .i64 (k + (l.length : Int))) ∧ But b w w' := by
  obtain ⟨f, hf, _⟩ := ho
  have hp : ∃ f, w.rowIs b 9 l.length f := ⟨f, hf⟩
  clear hf
  go_enter Tryz.func30, Tryz.ntmps30
  go_wp2_with fail
  go_loopw [1, 5] (fun kk i wr => ∃ j : Nat, j ≤ l.length ∧ i = .int .i64 j ∧ kk = .int .i64 (k + (j : Int)) ∧ (∃ f, wr.rowIs b 9 l.length f) ∧ But b w wr) (fun _ i _ => l.length - (intOf i).toNat)
  case atStart => exact ⟨0, Nat.zero_le _, rfl, by simp, hp, But.refl _ _⟩
  case round =>
    obtain ⟨j, hj, rfl, rfl, ⟨f, hpj⟩, hb⟩ := hrel
    by_cases hlt : j < l.length
    · have hpl := hpj.lt
      go_wp2_with (first | (go_at_call 66; refine (markText_any _ _ (by omega)).mono ?_; rintro e w1 ⟨rfl, hb1⟩; have hp1 := hpj.of_block (hb1.block b hpl); have hv0 := hp1.cell hlt; have hz0 := hp1.frozen j))
      exact ⟨⟨j + 1, by omega, by go_num, by congr 1; omega, ⟨_, hp1.set _ _⟩, (hb.trans (But.of_below hb1)).setCell _ _⟩, by simp [intOf]; omega⟩
    · obtain rfl : j = l.length := by omega
      go_wp2_with fail
      go_ret
      exact ⟨rfl, hb⟩

end Go.Proofs.YtpfhegengmlkmacGreatDoor
/- The walk of the law FnExactGatherNew. -/
namespace Go.Proofs.YtpfhegengmlkmacGreatDoor
open Go.RowKit Go.BigFrame
set_option maxRecDepth 100000

theorem eqN_any (a0 a1 a2 b0 b1 b2 : Option Addr) (c0 c1 c2 d0 d1 d2 : Nat) (nm : List ByteArray) (w : World) (hf : FitS nm) (h6 : nm.length ≤ 6) (r0 : RowS w a0 nm) (r1 : RowW w a1 (List.replicate nm.length [])) (q0 : RowS w b0 nm) (q1 : RowW w b1 (List.replicate nm.length [])) :
    Calls Tryz.prog 12 #[.agg #[.slice a0 nm.length c0, .slice a1 nm.length c1, .slice a2 0 c2], .agg #[.slice b0 nm.length d0, .slice b1 nm.length d1, .slice b2 0 d2]] w fun e w' => e = .returned (.bool true) ∧ Below w.heap.size w w' := by
  have h := eqGather_same a0 a1 a2 b0 b1 b2 c0 c1 c2 d0 d1 d2 (newG nm) w ⟨hf, ⟨by simp [newG]; unfold maxLen; omega, fun j hj => by
    have e : (newG nm).wins[j] = [] := by simp [newG]
    rw [e]
    exact ⟨by simp, fun i hi => by simp at hi⟩⟩, ⟨by simp [newG], fun j hj => by simp [newG] at hj⟩⟩ r0 r1 (fun k hk => absurd hk (Nat.not_lt_zero k)) q0 q1 (fun k hk => absurd hk (Nat.not_lt_zero k))
  simpa only [newG, List.length_replicate, List.length_nil] using h
theorem IsN.fit {ins nm : List ByteArray} {ok : Bool} (h : IsN ins nm ok) : FitS nm ∧ nm.length ≤ 6 := by
  rcases h with ⟨rfl, h1, rfl⟩ | ⟨rfl, _, rfl⟩
  · exact ⟨⟨by have := h1.2.1; unfold maxLen; omega, fun j hj => by have := (h1.2.2 j hj).1.2.1; unfold maxLen; omega⟩, h1.2.1⟩
  · exact ⟨⟨by simp, fun j hj => by simp at hj⟩, by simp⟩

theorem Tri.span {w w' : World} {b lo hi : Nat} {x y z : Value} (h : Tri w b x y z) (hs : Span lo hi w w') (hd : b < lo ∨ hi ≤ b) : Tri w' b x y z := by
  have hlt : b < w.heap.size := block_lt_of_cell h.c0
  have e := hs.block b hlt hd
  exact ⟨(World.cell?_of_block (a := ⟨b, 0, none⟩) e).trans h.c0, (World.cell?_of_block (a := ⟨b, 1, none⟩) e).trans h.c1, (World.cell?_of_block (a := ⟨b, 2, none⟩) e).trans h.c2, (World.frozen?_of_block (a := ⟨b, 0, none⟩) e).trans h.f0, (World.frozen?_of_block (a := ⟨b, 1, none⟩) e).trans h.f1, (World.frozen?_of_block (a := ⟨b, 2, none⟩) e).trans h.f2⟩

end Go.Proofs.YtpfhegengmlkmacGreatDoor
