/- Walk: bsMarks. -/
import Derived.Test.YtpfhegengmlkmaaDoorLat
import Derived.Test.YtpfhegengmlkmaaDoorMath
import Derived.Laws.StructEq
namespace Go.Proofs.YtpfhegengmlkmaaDoor
open Go.RowKit Go.BigFrame
set_option maxRecDepth 100000

theorem take_eq_succ {la lb : List (ByteArray × Int)} {k : Nat} (h : la.take k = lb.take k) (ha : k < la.length) (hb : k < lb.length) (e : la[k] = lb[k]) : la.take (k + 1) = lb.take (k + 1) := by
  rw [List.take_succ_eq_append_getElem ha, List.take_succ_eq_append_getElem hb, h, e]

set_option maxHeartbeats 800000 in
theorem bsMarks_any (aa ab : Option Addr) (ca cb : Nat) (la lb : List (ByteArray × Int)) (w : World) (hla : la.length ≤ maxLen) (hlb : lb.length ≤ maxLen) (ha : Row w aa la) (hb : Row w ab lb) :
    Calls Tryd.prog 9 #[.slice aa la.length ca, .slice ab lb.length cb] w fun e w' => (∃ r : Bool, e = .returned (.bool r) ∧ (r = true ↔ la = lb)) ∧ Below w.heap.size w w' := by
  unfold maxLen at hla hlb
  go_enter Tryd.func9, Tryd.ntmps9
  by_cases hlen : la.length = lb.length
  · have hlen' : ((la.length : Int) != (lb.length : Int)) = false := by simp; omega
    go_wp2_with fail
    go_loopw [5] (fun i wr => ∃ k : Nat, k ≤ la.length ∧ i = .int .i64 k ∧ la.take k = lb.take k ∧ Below w.heap.size w wr) (fun i _ => la.length - (intOf i).toNat)
    case atStart => exact ⟨0, Nat.zero_le _, rfl, rfl, Below.refl _ _⟩
    case round =>
      obtain ⟨k, hk, rfl, hinv, hbl⟩ := hrel
      by_cases hlt : k < la.length
      · have hltb : k < lb.length := by omega
        obtain ⟨b1, o1, rfl, hlt1, c0, c1⟩ := ha k hlt
        obtain ⟨b2, o2, rfl, hlt2, d0, d1⟩ := hb k hltb
        have e0 := cell_on hbl hlt1 c0
        have e1 := cell_on hbl hlt1 c1
        have f0 := cell_on hbl hlt2 d0
        have f1 := cell_on hbl hlt2 d1
        have k0 : (0 : Int) ≤ (k : Int) := by omega
        have k1 : (k : Int) < (la.length : Int) := by omega
        have k2 : (k : Int) < (lb.length : Int) := by omega
        by_cases hs : la[k].1 = lb[k].1
        · have hs' : (la[k].1.toList == lb[k].1.toList) = true := toList_beq.2 hs
          by_cases hv : la[k].2 = lb[k].2
          · have hv' : (la[k].2 == lb[k].2) = true := by simp [hv]
            go_wp2_with fail
            go_quiet (fail)
            go_wp2_with fail
            exact ⟨⟨k + 1, by omega, by go_num, take_eq_succ hinv hlt hltb (Prod.ext hs hv), below_drewN hbl _⟩, by simp [intOf]; omega⟩
          · have hv' : (la[k].2 == lb[k].2) = false := by simp [hv]
            go_wp2_with fail
            go_quiet (fail)
            go_wp2_with fail
            go_ret
            exact ⟨⟨false, rfl, by simp; rintro rfl; exact hv rfl⟩, below_drewN hbl _⟩
        · have hs' : (la[k].1.toList == lb[k].1.toList) = false := toList_bne.2 hs
          go_wp2_with fail
          go_quiet (fail)
          go_wp2_with fail
          go_ret
          exact ⟨⟨false, rfl, by simp; rintro rfl; exact hs rfl⟩, below_drewN hbl _⟩
      · have hfin : la = lb := by
          rw [List.take_of_length_le (by omega), List.take_of_length_le (by omega)] at hinv
          exact hinv
        have HF : Hid (la = lb) := hfin
        clear hfin hinv
        go_wp2_with fail
        go_ret
        exact ⟨⟨true, rfl, by simp [HF.out]⟩, hbl⟩
  · have hlen' : ((la.length : Int) != (lb.length : Int)) = true := by simp; omega
    go_wp2_with fail
    go_ret
    exact ⟨⟨false, rfl, by simp; rintro rfl; exact hlen rfl⟩, Below.refl _ _⟩

end Go.Proofs.YtpfhegengmlkmaaDoor
