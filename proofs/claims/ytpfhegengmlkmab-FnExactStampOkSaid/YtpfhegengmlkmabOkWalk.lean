/- The walk of the law FnExactStampOk. -/
import Derived.Test.YtpfhegengmlkmabWf
import Derived.Test.YtpfhegengmlkmabWc
namespace Go.Proofs.Ytpfhegengmlkmab
open Go.RowKit

theorem small_max {n : Nat} (h : (n : Int) ≤ 1048576) : n ≤ maxLen := by unfold maxLen; omega

set_option maxHeartbeats 800000 in
theorem lawOk_any (a : Option Addr) (cap : Nat) (l : List (ByteArray × Int)) (w : World) (hl : l.length ≤ maxLen) (hr : Row w a l) (hs : ∀ j, (h : j < l.length) → l[j].1.size ≤ maxLen) :
    Calls Try.prog 3 #[.slice a l.length cap] w fun e w' => e = .returned (.bool true) ∧ Below w.heap.size w w' := by
  go_enter Try.func3, Try.ntmps3
  go_wp2_with fail
  refine (szMarkS_any a cap l 1048576 _ hl hr hs (by omega) (by omega)).mono ?_
  rintro e w1 ⟨r, rfl, hr0, hr1, hr2, hb1⟩
  by_cases hneg : r < 0
  · go_wp2_with fail
    go_ret
    exact ⟨rfl, hb1⟩
  obtain ⟨hlen, hsz⟩ := hr2 (by omega)
  go_wp2_with fail
  refine (toMarkS_any a cap l _ (by omega) (hr.below hb1)).mono ?_
  rintro e w2 ⟨rfl, ho2, hb2⟩
  go_wp2_with fail
  refine (specOk_b _ _ l _ hl ho2.row hs).mono ?_
  rintro e w3 ⟨⟨r1, rfl, hr1⟩, hb3⟩
  have HR1 : Hid (r1 = true ↔ StampP l) := hr1
  clear hr1
  have hb12' : Below w.heap.size w w2 := hb1.trans (hb2.mono hb1.size)
  have hb12 : Below w.heap.size w w3 := hb12'.trans (hb3.mono hb12'.size)
  go_wp2_with fail
  refine (toMarkS_any a cap l _ (by omega) (hr.below hb12)).mono ?_
  rintro e w4 ⟨rfl, ho4, hb4⟩
  have hb14 : Below w.heap.size w w4 := hb12.trans (hb4.mono hb12.size)
  go_wp2_with fail
  refine (implStampOk_any _ _ l _ hl ho4.row hs).mono ?_
  rintro e w5 ⟨⟨r2, rfl, hr2'⟩, hb5⟩
  obtain rfl : r1 = r2 := by
    have h1 := HR1.out
    cases r1 <;> cases r2 <;> simp_all
  clear hr2' HR1
  have hb15 : Below w.heap.size w w5 := hb14.trans (hb5.mono hb14.size)
  go_wp2_with fail
  refine (toMarkS_any a cap l _ (by omega) (hr.below hb15)).mono ?_
  rintro e w6 ⟨rfl, ho6, hb6⟩
  have hb16 : Below w.heap.size w w6 := hb15.trans (hb6.mono hb15.size)
  go_wp2_with fail
  refine (eqMarkS_same _ _ _ _ l _ hl ((ho4.below hb5).below hb6).row ho6.row).mono ?_
  rintro e w7 ⟨rfl, hb7⟩
  go_wp2_with fail
  go_ret
  exact ⟨rfl, hb16.trans (hb7.mono hb16.size)⟩

end Go.Proofs.Ytpfhegengmlkmab
