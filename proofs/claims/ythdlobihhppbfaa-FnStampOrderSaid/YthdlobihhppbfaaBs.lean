/- Walks: bsMarks, bsNames. -/
import Derived.Test.YthdlobihhppbfaaGathS
import Derived.Test.YthdlobihhppbfaaLawM
import Derived.Laws.StructEq
namespace Go.Proofs.Ythdlobihhppbfaa
open Go.RowKit Go.BigFrame

theorem take_eq_succ {la lb : List (ByteArray × Int)} {k : Nat} (h : la.take k = lb.take k) (ha : k < la.length) (hb : k < lb.length) (e : la[k] = lb[k]) : la.take (k + 1) = lb.take (k + 1) := by
  rw [List.take_succ_eq_append_getElem ha, List.take_succ_eq_append_getElem hb, h, e]

set_option maxHeartbeats 800000 in
theorem bsMarks_any (aa ab : Option Addr) (ca cb : Nat) (la lb : List (ByteArray × Int)) (w : World) (hla : la.length ≤ maxLen) (hlb : lb.length ≤ maxLen) (ha : Row w aa la) (hb : Row w ab lb) :
    Calls Try.prog 11 #[.slice aa la.length ca, .slice ab lb.length cb] w fun e w' => (∃ r : Bool, e = .returned (.bool r) ∧ (r = true ↔ la = lb)) ∧ Below w.heap.size w w' := by
  unfold maxLen at hla hlb
  go_enter Try.func11, Try.ntmps11
  by_cases hlen : la.length = lb.length
  · have hlen' : ((la.length : Int) != (lb.length : Int)) = false := by simp; omega
    go_wp2_with fail
    go_loopw [5] (fun i wr => ∃ k : Nat, k ≤ la.length ∧ i = .int .i64 k ∧ la.take k = lb.take k ∧ Below w.heap.size w wr) (fun i _ => la.length - (intOf i).toNat)
    case atStart => exact ⟨0, Nat.zero_le _, rfl, rfl, Below.refl _ _⟩
    case round =>
      obtain ⟨k, hk, rfl, hinv, hbl⟩ := hrel
      by_cases hlt : k < la.length
      · have hltb : k < lb.length := by omega
        obtain ⟨b1, o1, rfl, hlt1, c0, c1⟩ := ha k hlt
        obtain ⟨b2, o2, rfl, hlt2, d0, d1⟩ := hb k hltb
        have e0 := cell_on hbl hlt1 c0
        have e1 := cell_on hbl hlt1 c1
        have f0 := cell_on hbl hlt2 d0
        have f1 := cell_on hbl hlt2 d1
        have k0 : (0 : Int) ≤ (k : Int) := by omega
        have k1 : (k : Int) < (la.length : Int) := by omega
        have k2 : (k : Int) < (lb.length : Int) := by omega
        by_cases hs : la[k].1 = lb[k].1
        · have hs' : (la[k].1.toList == lb[k].1.toList) = true := toList_beq.2 hs
          by_cases hv : la[k].2 = lb[k].2
          · have hv' : (la[k].2 == lb[k].2) = true := by simp [hv]
            go_wp2_with fail
            go_quiet (fail)
            go_wp2_with fail
            exact ⟨⟨k + 1, by omega, by go_num, take_eq_succ hinv hlt hltb (Prod.ext hs hv), below_drewN hbl _⟩, by simp [intOf]; omega⟩
          · have hv' : (la[k].2 == lb[k].2) = false := by simp [hv]
            go_wp2_with fail
            go_quiet (fail)
            go_wp2_with fail
            go_ret
            exact ⟨⟨false, rfl, by simp; rintro rfl; exact hv rfl⟩, below_drewN hbl _⟩
        · have hs' : (la[k].1.toList == lb[k].1.toList) = false := toList_bne.2 hs
          go_wp2_with fail
          go_quiet (fail)
          go_wp2_with fail
          go_ret
          exact ⟨⟨false, rfl, by simp; rintro rfl; exact hs rfl⟩, below_drewN hbl _⟩
      · have hfin : la = lb := by
          rw [List.take_of_length_le (by omega), List.take_of_length_le (by omega)] at hinv
          exact hinv
        have HF : Hid (la = lb) := hfin
        clear hfin hinv
        go_wp2_with fail
        go_ret
        exact ⟨⟨true, rfl, by simp [HF.out]⟩, hbl⟩
  · have hlen' : ((la.length : Int) != (lb.length : Int)) = true := by simp; omega
    go_wp2_with fail
    go_ret
    exact ⟨⟨false, rfl, by simp; rintro rfl; exact hlen rfl⟩, Below.refl _ _⟩

set_option maxHeartbeats 800000 in
theorem bsNames_any (aa : Option Addr) (ca : Nat) (la : List (ByteArray × Int)) (w : World) (hla : la.length ≤ 1048576) (ha : Row w aa la) :
    Calls Try.prog 20 #[.slice aa la.length ca] w fun e w' => (∃ v, e = .returned v ∧ GathS w' w.heap.size v (namesM la)) ∧ Below w.heap.size w w' := by
  obtain ⟨i0, hi, hz0, hz1, hz2⟩ := info_parts Try.infoS
  go_enter Try.func20, Try.ntmps20
  go_wp2_with fail
  go_loopw [3, 4] (fun out i wr => ∃ k : Nat, k ≤ la.length ∧ i = .int .i64 k ∧ GathS wr w.heap.size out (namesM (la.take k)) ∧ Below w.heap.size w wr) (fun _ i _ => la.length - (intOf i).toNat)
  case atStart => exact ⟨0, Nat.zero_le _, rfl, gathS_none _ _, Below.refl _ _⟩
  case round =>
    obtain ⟨k, hk, rfl, hg, hbl⟩ := hrel
    have hzr := hbl.size
    by_cases hlt : k < la.length
    · obtain ⟨b1, o1, rfl, hlt1, c0, c1⟩ := ha k hlt
      have e0 := cell_on hbl hlt1 c0
      have k0 : (0 : Int) ≤ (k : Int) := by omega
      have k1 : (k : Int) < (la.length : Int) := by omega
      have HN : Hid (namesM (la.take (k + 1)) = namesM (la.take k) ++ [la[k].1]) := by rw [Hid, List.take_succ_eq_append_getElem hlt]; unfold namesM; rw [List.map_append]; rfl
      have hnl : (namesM (la.take k)).length ≤ 1048576 := by simp [namesM]; omega
      have hg4 : wr.ownsRow w.heap.size 9 1 _ (namesM (la.take k)).length ((namesM (la.take k)).map .string) := hg
      generalize namesM (la.take k) = o at *
      go_wp2_with (at_builtin; refine wpList_append_lies _ rfl _ _ 34 rfl w.heap.size 9 i0 (.string .empty) 1 16 Try.underlying34 hi hz0 hz1 hz2 rfl (by decide) _ _ _ rfl (hg4.alloc _) ⟨wr.heap.size, 0, none⟩ 1 1 [.string la[k].1] rfl rfl (one_new wr _ _) (by simp [Value.oneCell']) (by decide) (by unfold maxLen; omega) (by omega) (by simp; omega) _ rfl ?_; intro g' cap' w5 hown' hgrow _ _)
      have hob := ownsRow_block hg4
      refine ⟨⟨k + 1, by omega, by go_num, by rw [HN.out]; exact GathS.snoc hown', (hbl.alloc hzr _).grown hgrow (by simp; omega) hob⟩, by simp [intOf]; omega⟩
    · have HN : Hid (namesM (la.take k) = namesM la) := by rw [Hid, List.take_of_length_le (by omega)]
      rw [HN.out] at hg
      go_wp2_with fail
      go_ret
      exact ⟨⟨_, rfl, hg⟩, hbl⟩

end Go.Proofs.Ythdlobihhppbfaa
