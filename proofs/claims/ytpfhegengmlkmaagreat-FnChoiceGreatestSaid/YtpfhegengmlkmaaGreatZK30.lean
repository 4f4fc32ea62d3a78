/- Texts of this claim, one behind the other. -/
import Derived.Lib.Strings
import Derived.Lib.Walk
import Derived.Lib.BufferWrite
import Derived.Lib.UnsafeStr
import Derived.Laws.MakeOwn
import Derived.Deep.RegionHeld3
import Derived.Test.YtpfhegengmlkmaaGreatZK1
import Derived.Test.YtpfhegengmlkmaaGreatZK2
import Derived.Test.YtpfhegengmlkmaaGreatZK4
import Derived.Test.YtpfhegengmlkmaaGreatZK12
import Derived.Test.YtpfhegengmlkmaaGreatZK13
import Derived.Test.YtpfhegengmlkmaaGreatZK21
import Derived.Test.YtpfhegengmlkmaaGreatZK22
import Derived.Test.YtpfhegengmlkmaaGreatZK23
import Derived.Test.YtpfhegengmlkmaaGreatZK28
import Derived.Test.YtpfhegengmlkmaaGreatZK29
namespace Go.Proofs.YtpfhegengmlkmaaGreat
open Go.RowKit Go.BigFrame
set_option maxRecDepth 100000

theorem gath_row {w : World} {B : Nat} {v : Value} {l : List (ByteArray × Int)} (h : Gath w B v l) : ∃ a c, v = .slice a l.length c ∧ l.length ≤ c ∧ Row w a l := by
  obtain ⟨a, c, rfl, hr⟩ := h.shape
  refine ⟨a, c, rfl, ?_, hr⟩
  rcases h.2 with ⟨e, h0⟩ | ⟨g, cap, cur, e, _, _, hn, _⟩
  · omega
  · cases e
    exact hn

set_option maxHeartbeats 1600000 in
theorem specCJ_any (a a' : Option Addr) (cap cap' : Nat) (ws : List (List ItemL)) (ps : List Int) (w : World) (hf : FitW ws) (hr : RowW w a ws) (hp : ps.length ≤ maxLen) (hr' : RowZ w a' ps) :
    Calls Tryz.prog 15 #[.slice a ws.length cap, .slice a' ps.length cap'] w fun e w' => (∃ v m ok, e = .returned (.tuple #[v, .bool ok]) ∧ Gath w' w.heap.size v m ∧ IsCJ ws ps m ok) ∧ Below w.heap.size w w' := by
  go_enter Tryz.func15, Tryz.ntmps15
  go_wp2_with fail
  refine (specChoiceAgrees_any a cap ws a' cap' ps _ hf hr hp hr').mono ?_
  rintro e w1 ⟨⟨r, rfl, hr1⟩, b1⟩
  have HR : Hid (r = true ↔ ChP ws ps) := hr1
  clear hr1
  cases r with
  | false =>
    have HN : Hid (¬ ChP ws ps) := fun h => by have := HR.out.2 h; simp at this
    go_wp2_with fail
    exact bodyPost_ret (v := .tuple #[.slice none 0 0, .bool false]) (by simp [results, Tryz.results15, go_sem]) rfl ⟨⟨_, [], false, rfl, Gath.none _ _, .inr ⟨rfl, rfl, .inl HN.out⟩⟩, b1⟩
  | true =>
    have HC : Hid (ChP ws ps) := HR.out.1 rfl
    have hl6 := HC.out.1.2.1
    have hlp := HC.out.2.1
    have hpl : ps.length ≤ 6 := by omega
    clear HR hlp
    go_wp2_with fail
    go_loopw [6, 7] (fun out i wr => ∃ (k : Nat) (m : List (ByteArray × Int)), k ≤ ps.length ∧ i = .int .i64 k ∧ Gath wr w.heap.size out m ∧ Hid (JoinsTo ws ps k m) ∧ Below w.heap.size w wr) (fun _ i _ => ps.length - (intOf i).toNat)
    case atStart => exact ⟨0, [], Nat.zero_le _, rfl, Gath.none _ _, rfl, b1⟩
    case round =>
      obtain ⟨k, m, hk, rfl, hg, HJ, hbl⟩ := hrel
      by_cases hlt : k < ps.length
      · obtain ⟨hkw, q, hqe, hq, hpk⟩ := in_nat HC.out.2.2.1 hlt
        obtain ⟨b1, o1, rfl, g1, s1, t1, f1, _, r1⟩ := hr.below hbl k hkw
        obtain ⟨b2, o2, rfl, g2, f2⟩ := hr'.below hbl k hlt
        rw [hqe] at f2
        obtain ⟨b3, o3, rfl, g3, _, vv, f3, ⟨sa, sc, rfl, hsc, rm⟩⟩ := r1 q hq
        have hfm := (hf.2 k hkw).2 q hq
        have k0 : (0 : Int) ≤ (k : Int) := by omega
        have k1 : (k : Int) < (ps.length : Int) := by omega
        have k2 : (k : Int) < (ws.length : Int) := by omega
        have q0 : (0 : Int) ≤ (q : Int) := by omega
        have q1 : (q : Int) < (ws[k].length : Int) := by omega
        have HPK : Hid (pkM ws ps k = (ws[k][q]).2) := hpk
        have hst := HJ.out.stamp
        have hm12 := hst.1
        have HMS : Hid (∀ j, (h : j < m.length) → m[j].1.size ≤ maxLen) := fun j hj => by have := (hst.2.1 j hj).1.2.1; unfold maxLen; omega
        obtain ⟨oa, oc, rfl, _, horow⟩ := gath_row hg
        clear hqe hpk hst
        have SW : (wr.drew).cell? ⟨b1, o1 + k, none⟩ = some (.slice (some ⟨b3, o3, none⟩) ws[k].length t1) ∧ (wr.drew).cell? ⟨b2, o2 + k, none⟩ = some (.int .i64 (q : Int)) ∧ (wr.drew).cell? ⟨b3, o3 + q * 2 + 1, none⟩ = some (.slice sa (ws[k][q]).2.length sc) := ⟨f1, f2, f3⟩
        go_wp2_with fail
        refine wp_region_held_drew (S := fun u => u.cell? ⟨b1, o1 + k, none⟩ = some (.slice (some ⟨b3, o3, none⟩) ws[k].length t1) ∧ u.cell? ⟨b2, o2 + k, none⟩ = some (.int .i64 (q : Int)) ∧ u.cell? ⟨b3, o3 + q * 2 + 1, none⟩ = some (.slice sa (ws[k][q]).2.length sc)) (by kernel_rfl) SW (fun _ => ?_)
        refine wpAnyH_take (i := 0) (v := .slice oa m.length oc) rfl (by kernel_rfl) (by kernel_rfl) (by kernel_rfl) (fun _ _ _ h => h) (Or.inl ⟨by rfl, ?_⟩) SW ?_
        · rintro u ⟨q1, q2, q3⟩
          go_simp
        simp only [Act.put, List.setIfInBounds_toArray]
        refine wpAnyH_take (i := 1) (v := .slice (some ⟨b1, o1, none⟩) ws.length cap) rfl (by kernel_rfl) (by kernel_rfl) (by kernel_rfl) (fun _ _ _ h => h) (Or.inl ⟨by rfl, ?_⟩) SW ?_
        · rintro u ⟨q1, q2, q3⟩
          go_simp
        simp only [Act.put]
        refine wpAnyH_take (i := 2) (v := .int .i64 k) rfl (by kernel_rfl) (by kernel_rfl) (by kernel_rfl) (fun _ _ _ h => h) (Or.inl ⟨by rfl, ?_⟩) SW ?_
        · rintro u ⟨q1, q2, q3⟩
          go_simp
        simp only [Act.put]
        refine wpAnyH_take (i := 3) (v := .pointer (some ⟨b1, o1 + k, none⟩)) rfl (by kernel_rfl) (by kernel_rfl) (by kernel_rfl) (fun _ _ _ h => h) (Or.inl ⟨by rfl, ?_⟩) SW ?_
        · rintro u ⟨q1, q2, q3⟩
          go_simp
        simp only [Act.put]
        refine wpAnyH_take (i := 4) (v := .slice (some ⟨b3, o3, none⟩) ws[k].length t1) rfl (by kernel_rfl) (by kernel_rfl) (by kernel_rfl) (fun _ _ _ h => h) (Or.inl ⟨by rfl, ?_⟩) SW ?_
        · rintro u ⟨q1, q2, q3⟩
          go_simp
        simp only [Act.put]
        refine wpAnyH_take (i := 5) (v := .slice (some ⟨b2, o2, none⟩) ps.length cap') rfl (by kernel_rfl) (by kernel_rfl) (by kernel_rfl) (fun _ _ _ h => h) (Or.inl ⟨by rfl, ?_⟩) SW ?_
        · rintro u ⟨q1, q2, q3⟩
          go_simp
        simp only [Act.put]
        refine wpAnyH_take (i := 6) (v := .int .i64 k) rfl (by kernel_rfl) (by kernel_rfl) (by kernel_rfl) (fun _ _ _ h => h) (Or.inl ⟨by rfl, ?_⟩) SW ?_
        · rintro u ⟨q1, q2, q3⟩
          go_simp
        simp only [Act.put]
        refine wpAnyH_take (i := 7) (v := .pointer (some ⟨b2, o2 + k, none⟩)) rfl (by kernel_rfl) (by kernel_rfl) (by kernel_rfl) (fun _ _ _ h => h) (Or.inl ⟨by rfl, ?_⟩) SW ?_
        · rintro u ⟨q1, q2, q3⟩
          go_simp
        simp only [Act.put]
        refine wpAnyH_take (i := 8) (v := .int .i64 q) rfl (by kernel_rfl) (by kernel_rfl) (by kernel_rfl) (fun _ _ _ h => h) (Or.inl ⟨by rfl, ?_⟩) SW ?_
        · rintro u ⟨q1, q2, q3⟩
          go_simp
        simp only [Act.put]
        refine wpAnyH_take (i := 9) (v := .pointer (some ⟨b3, o3 + q * 2, none⟩)) rfl (by kernel_rfl) (by kernel_rfl) (by kernel_rfl) (fun _ _ _ h => h) (Or.inl ⟨by rfl, ?_⟩) SW ?_
        · rintro u ⟨q1, q2, q3⟩
          go_simp
        simp only [Act.put]
        refine wpAnyH_take (i := 10) (v := .pointer (some ⟨b3, o3 + q * 2 + 1, none⟩)) rfl (by kernel_rfl) (by kernel_rfl) (by kernel_rfl) (fun _ _ _ h => h) (Or.inl ⟨by rfl, ?_⟩) SW ?_
        · rintro u ⟨q1, q2, q3⟩
          go_simp
        simp only [Act.put]
        refine wpAnyH_take (i := 11) (v := .slice sa (ws[k][q]).2.length sc) rfl (by kernel_rfl) (by kernel_rfl) (by kernel_rfl) (fun _ _ _ h => h) (Or.inl ⟨by rfl, ?_⟩) SW ?_
        · rintro u ⟨q1, q2, q3⟩
          go_simp
        simp only [Act.put]
        refine wpAnyH_ready (rs := [12]) (by kernel_rfl) (by simp) ?_
        refine AllReadyH.cons rfl (fun K hK => ?_) AllReadyH.nil
        rw [if_pos (by rfl)]
        go_simp
        have hbd : Below wr.heap.size wr wr.drew := (Below.refl _ _).drew
        refine (specJoin_any oa sa oc sc m (ws[k][q]).2 _ (by unfold maxLen; omega) hfm.1 (horow.below hbd) (rm.below hbd) HMS.out hfm.2).mono ?_
        rintro e w2 ⟨⟨v2, m2, ok2, rfl, hg2, hj2⟩, b2'⟩
        obtain ⟨va, vc, rfl, _, _⟩ := gath_row hg2
        rw [← HPK.out] at hj2
        have HJ2 : Hid (IsJ m (pkM ws ps k) m2 ok2) := hj2
        clear hj2
        have b2d : Below wr.heap.size wr w2 := hbd.trans (b2'.mono hbd.size)
        have B2 : Below w.heap.size w w2 := hbl.trans (b2d.mono hbl.size)
        have S2 : w2.cell? ⟨b1, o1 + k, none⟩ = some (.slice (some ⟨b3, o3, none⟩) ws[k].length t1) ∧ w2.cell? ⟨b2, o2 + k, none⟩ = some (.int .i64 (q : Int)) ∧ w2.cell? ⟨b3, o3 + q * 2 + 1, none⟩ = some (.slice sa (ws[k][q]).2.length sc) := ⟨cell_on b2d g1 f1, cell_on b2d g2 f2, cell_on b2d g3 f3⟩
        refine hK.out _ _ S2 (fun _ => ?_)
        clear hK K SW
        refine wpAnyH_take (i := 13) (v := .tuple #[.slice va m2.length vc, .bool ok2]) rfl (by kernel_rfl) (by kernel_rfl) (by kernel_rfl) (fun _ _ _ h => h) (Or.inl ⟨by rfl, ?_⟩) S2 ?_
        · rintro u ⟨q1, q2, q3⟩
          go_simp
        simp only [Act.put, List.setIfInBounds_toArray]
        refine wpAnyH_take (i := 14) (v := .slice va m2.length vc) rfl (by kernel_rfl) (by kernel_rfl) (by kernel_rfl) (fun _ _ _ h => h) (Or.inl ⟨by rfl, ?_⟩) S2 ?_
        · rintro u ⟨q1, q2, q3⟩
          go_simp
        simp only [Act.put]
        refine wpAnyH_take (i := 15) (v := .bool ok2) rfl (by kernel_rfl) (by kernel_rfl) (by kernel_rfl) (fun _ _ _ h => h) (Or.inl ⟨by rfl, ?_⟩) S2 ?_
        · rintro u ⟨q1, q2, q3⟩
          go_simp
        simp only [Act.put]
        refine wpAnyH_ready (rs := [16]) (by kernel_rfl) (by simp) ?_
        refine AllReadyH.cons rfl (fun K hK => ?_) AllReadyH.nil
        rw [if_pos (by rfl)]
        go_simp
        refine hK.out _ _ S2 (fun _ => ?_)
        clear hK K
        refine wpAnyH_ready (rs := [17]) (by kernel_rfl) (by simp) ?_
        refine AllReadyH.cons rfl (fun K hK => ?_) AllReadyH.nil
        rw [if_pos (by rfl)]
        go_simp
        refine hK.out _ _ S2 (fun _ => ?_)
        clear hK K
        refine wpAnyH_done (by kernel_rfl) ?_ _
        clear S2
        cases ok2 with
        | false =>
          have HF : Hid (IsCJ ws ps [] false) := .inr ⟨rfl, rfl, .inr ⟨k, m, m2, hlt, HJ.out, HJ2.out⟩⟩
          go_wp2_with fail
          exact bodyPost_ret (v := .tuple #[.slice none 0 0, .bool false]) (by simp [results, Tryz.results15, go_sem]) rfl ⟨⟨_, [], false, rfl, Gath.none _ _, HF.out⟩, B2⟩
        | true =>
          have HST : Hid (JoinsTo ws ps (k + 1) m2) := ⟨m, HJ.out, HJ2.out⟩
          go_wp2_with fail
          exact ⟨⟨k + 1, m2, by omega, by go_num, hg2.lower hbl.size, HST, B2⟩, by simp [intOf]; omega⟩
      · have HF : Hid (IsCJ ws ps m true) := .inl ⟨rfl, HC.out, by
          have e : k = ps.length := by omega
          rw [← e]; exact HJ.out⟩
        go_wp2_with fail
        exact bodyPost_ret (by simp [results, Tryz.results15, go_sem]) rfl ⟨⟨_, m, true, rfl, hg, HF.out⟩, hbl⟩

end Go.Proofs.YtpfhegengmlkmaaGreat

namespace Go.Proofs.YtpfhegengmlkmaaGreat
open Go.RowKit Go.BigFrame

theorem Appended.keeps {base : Nat} {w w' : World} (h : Appended base w w') : KeepsOthers w w' := by
  rcases h with h | ⟨g, hg, ⟨u, hu⟩, h⟩
  · exact KeepsOthers.of_grownBy h (fun j o e => by cases e)
  · refine KeepsOthers.of_grownBy h (fun j o e hj => ?_)
    obtain rfl : g = j := by simpa using e
    obtain ⟨ob, h1, h2⟩ := cell_obj hu
    rw [h1] at hj
    cases hj
    exact h2

end Go.Proofs.YtpfhegengmlkmaaGreat

namespace Go.Proofs.YtpfhegengmlkmaaGreat
open Go.RowKit Go.Shelf Go.BigFrame
attribute [local go_sem] Oper.semAt_some

/-- The two results in their boxes, as they were laid. -/
structure Res2 (b : Nat) (w : World) : Prop where
  c0 : w.cell? ⟨b, 0, none⟩ = some (.slice none 0 0)
  f0 : w.frozen? ⟨b, 0, none⟩ = false
  c1 : w.cell? ⟨b + 1, 0, none⟩ = some (.bool false)
  f1 : w.frozen? ⟨b + 1, 0, none⟩ = false
theorem Res2.lt {b : Nat} {w : World} (h : Res2 b w) : b + 1 < w.heap.size := block_lt_of_cell h.c1
theorem Res2.below {b : Nat} {w w' : World} (h : Res2 b w) (hb : Below w.heap.size w w') : Res2 b w' := by
  have h1 := h.lt
  exact ⟨cell_on hb (by omega) h.c0, (hb.frozen (p := ⟨b, 0, none⟩) (by simp only; omega)).trans h.f0, cell_on hb h1 h.c1, (hb.frozen (p := ⟨b + 1, 0, none⟩) h1).trans h.f1⟩
theorem Res2.kept {b : Nat} {w w' : World} {row : Option Nat} (h : Res2 b w) (hg : w.grownBy w' row) (hr : ∀ r, row = some r → ∃ o : Obj, w.heap[r]? = some o ∧ o.isCells = false) : Res2 b w' :=
  ⟨cell_kept h.c0 hg hr, (frozen_kept h.c0 hg hr).trans h.f0, cell_kept h.c1 hg hr, (frozen_kept h.c1 hg hr).trans h.f1⟩

theorem Res2.upto {b B : Nat} {w w' : World} (h : Res2 b w) (hb : Below B w w') (hB : b + 1 < B) : Res2 b w' :=
  ⟨(hb.cell (p := ⟨b, 0, none⟩) (by simp only; omega)).trans h.c0, (hb.frozen (p := ⟨b, 0, none⟩) (by simp only; omega)).trans h.f0, (hb.cell (p := ⟨b + 1, 0, none⟩) hB).trans h.c1, (hb.frozen (p := ⟨b + 1, 0, none⟩) hB).trans h.f1⟩
theorem Res2.set {b J : Nat} {w : World} (h : Res2 b w) (h0 : b ≠ J) (h1 : b + 1 ≠ J) (v : Value) : Res2 b (w.setCell ⟨J, 0, none⟩ v) :=
  ⟨(far_set _ _ h0).trans h.c0, (World.frozen?_of_block (Below.heap_setCell _ _ _ _ h0)).trans h.f0, (far_set _ _ h1).trans h.c1, (World.frozen?_of_block (Below.heap_setCell _ _ _ _ h1)).trans h.f1⟩
theorem Gath.kept {w w' : World} {B : Nat} {v : Value} {l : List (ByteArray × Int)} {row : Option Nat} (h : Gath w B v l) (hg : w.grownBy w' row) (hr : ∀ r, row = some r → ∃ o : Obj, w.heap[r]? = some o ∧ o.isCells = false) : Gath w' B v l := by
  obtain ⟨hl, h | ⟨g, cap, cur, hv, hgB, hh, r⟩⟩ := h
  · exact ⟨hl, .inl h⟩
  · exact ⟨hl, .inr ⟨g, cap, cur, hv, hgB, (grownBy_keeps_cells hg hr hh rfl).trans hh, r⟩⟩
theorem Gath.far {w w' : World} {B : Nat} {v : Value} {l : List (ByteArray × Int)} (h : Gath w B v l) (hk : ∀ k, B ≤ k → k < w.heap.size → w'.heap[k]? = w.heap[k]?) : Gath w' B v l := by
  obtain ⟨hl, h | ⟨g, cap, cur, hv, hgB, hh, r⟩⟩ := h
  · exact ⟨hl, .inl h⟩
  · exact ⟨hl, .inr ⟨g, cap, cur, hv, hgB, (hk g hgB (Array.getElem?_eq_some_iff.1 hh).1).trans hh, r⟩⟩
/-- What holds between two rounds: the results' boxes at r and r + 1; the join so far in the box J, its marks from block B on. -/
def JInv (r J B : Nat) (pre : List PM) (W : World) : Prop :=
  Res2 r W ∧ (∃ jv, W.cell? ⟨J, 0, none⟩ = some jv ∧ W.frozen? ⟨J, 0, none⟩ = false ∧ Gath W B jv (joinP (pre.map PM.p)) ∧ (pre = [] → jv = .slice none 0 0)) ∧ pre.length ≤ 12 ∧ B ≤ W.heap.size
theorem JInv.kept {r J B : Nat} {pre : List PM} {w w' : World} {row : Option Nat} (h : JInv r J B pre w) (hg : w.grownBy w' row) (hr : ∀ r, row = some r → ∃ o : Obj, w.heap[r]? = some o ∧ o.isCells = false) : JInv r J B pre w' := by
  obtain ⟨h1, ⟨jv, c, f, g, e⟩, h3, h4⟩ := h
  exact ⟨h1.kept hg hr, ⟨jv, cell_kept c hg hr, (frozen_kept c hg hr).trans f, g.kept hg hr, e⟩, h3, Nat.le_trans h4 hg.size⟩
theorem JInv.below {r J B : Nat} {pre : List PM} {w w' : World} (h : JInv r J B pre w) (hb : Below w.heap.size w w') : JInv r J B pre w' := by
  obtain ⟨h1, ⟨jv, c, f, g, e⟩, h3, h4⟩ := h
  have hl := block_lt_of_cell c
  exact ⟨h1.below hb, ⟨jv, cell_on hb hl c, (hb.frozen (p := ⟨J, 0, none⟩) hl).trans f, g.keep hb, e⟩, h3, Nat.le_trans h4 hb.size⟩
end Go.Proofs.YtpfhegengmlkmaaGreat

namespace Go.Proofs.YtpfhegengmlkmaaGreat
open Go.RowKit Go.BigFrame
set_option maxRecDepth 100000

theorem valsM_take {ws : List (List ItemL)} {ps : List Int} {k : Nat} (h : k < ps.length) : (valsM ws ps).take (k + 1) = (valsM ws ps).take k ++ [pkV ws ps k] := by
  rw [List.take_succ_eq_append_getElem (by rw [valsM_len]; exact h)]
  simp [valsM]

end Go.Proofs.YtpfhegengmlkmaaGreat
