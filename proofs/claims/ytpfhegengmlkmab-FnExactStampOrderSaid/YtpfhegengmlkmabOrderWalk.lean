/- The walk of the law FnExactStampOrder. -/
import Derived.Test.YtpfhegengmlkmabOrderI
import Derived.Test.YtpfhegengmlkmabWc
namespace Go.Proofs.Ytpfhegengmlkmab
open Go.RowKit

set_option maxHeartbeats 1600000 in
theorem lawOrder_any (aa ab : Option Addr) (ca cb : Nat) (la lb : List (ByteArray × Int)) (w : World) (hla : la.length ≤ maxLen) (hlb : lb.length ≤ maxLen) (ha : Row w aa la) (hb : Row w ab lb)
    (hsa : ∀ j, (h : j < la.length) → la[j].1.size ≤ maxLen) (hsb : ∀ j, (h : j < lb.length) → lb[j].1.size ≤ maxLen) :
    Calls Try.prog 7 #[.slice aa la.length ca, .slice ab lb.length cb] w fun e w' => e = .returned (.bool true) ∧ Below w.heap.size w w' := by
  go_enter Try.func7, Try.ntmps7
  go_wp2_with fail
  refine (szMarkS_any aa ca la 1048576 _ hla ha hsa (by omega) (by omega)).mono ?_
  rintro e w1 ⟨r, rfl, hr0, hr1, hr2, B1⟩
  by_cases hneg : r < 0
  · go_wp2_with fail
    go_ret
    exact ⟨rfl, B1⟩
  obtain ⟨hlena, _⟩ := hr2 (by omega)
  go_wp2_with fail
  refine (szMarkS_any ab cb lb r _ hlb (hb.below B1) hsb (by omega) (by omega)).mono ?_
  rintro e w2 ⟨r', rfl, hr0', hr1', hr2', b2⟩
  have B2 : Below w.heap.size w w2 := B1.trans (b2.mono B1.size)
  clear b2
  by_cases hneg' : r' < 0
  · go_wp2_with fail
    go_ret
    exact ⟨rfl, B2⟩
  obtain ⟨hlenb, _⟩ := hr2' (by omega)
  go_wp2_with fail
  refine (toMarkS_any aa ca la _ (by omega) (ha.below B2)).mono ?_
  rintro e w3 ⟨rfl, oa3, b3⟩
  have B3 : Below w.heap.size w w3 := B2.trans (b3.mono B2.size)
  clear b3
  go_wp2_with fail
  refine (toMarkS_any ab cb lb _ (by omega) (hb.below B3)).mono ?_
  rintro e w4 ⟨rfl, ob4, b4⟩
  have B4 : Below w.heap.size w w4 := B3.trans (b4.mono B3.size)
  have oa4 := oa3.below b4
  clear b4 oa3
  go_wp2_with fail
  refine (specOrder_any _ _ _ _ la lb _ hla hlb oa4.row ob4.row hsa hsb).mono ?_
  rintro e w5 ⟨⟨v1, rfl, hv1⟩, b5⟩
  have B5 : Below w.heap.size w w5 := B4.trans (b5.mono B4.size)
  clear b5 oa4 ob4
  go_wp2_with fail
  refine (toMarkS_any aa ca la _ (by omega) (ha.below B5)).mono ?_
  rintro e w6 ⟨rfl, oa6, b6⟩
  have B6 : Below w.heap.size w w6 := B5.trans (b6.mono B5.size)
  clear b6
  go_wp2_with fail
  refine (toMarkS_any ab cb lb _ (by omega) (hb.below B6)).mono ?_
  rintro e w7 ⟨rfl, ob7, b7⟩
  have B7 : Below w.heap.size w w7 := B6.trans (b7.mono B6.size)
  have oa7 := oa6.below b7
  clear b7 oa6
  go_wp2_with fail
  refine (implOrder_any _ _ _ _ la lb _ hla hlb (by omega) (by omega) oa7.row ob7.row hsa hsb).mono ?_
  rintro e w8 ⟨⟨v2, rfl, hv2⟩, b8⟩
  have B8 : Below w.heap.size w w8 := B7.trans (b8.mono B7.size)
  have oa8 := oa7.below b8
  have ob8 := ob7.below b8
  clear b8 oa7 ob7
  obtain rfl : v1 = v2 := hv1.one hv2
  clear hv1 hv2
  go_wp2_with fail
  refine (toMarkS_any aa ca la _ (by omega) (ha.below B8)).mono ?_
  rintro e w9 ⟨rfl, o9, b9⟩
  have B9 : Below w.heap.size w w9 := B8.trans (b9.mono B8.size)
  have oa9 := oa8.below b9
  have ob9 := ob8.below b9
  clear b9 oa8 ob8
  go_wp2_with fail
  refine (eqMarkS_same _ _ _ _ la _ hla oa9.row o9.row).mono ?_
  rintro e w10 ⟨rfl, b10⟩
  have B10 : Below w.heap.size w w10 := B9.trans (b10.mono B9.size)
  have ob10 := ob9.below b10
  clear b10 oa9 ob9 o9
  go_wp2_with fail
  refine (toMarkS_any ab cb lb _ (by omega) (hb.below B10)).mono ?_
  rintro e w11 ⟨rfl, o11, b11⟩
  have B11 : Below w.heap.size w w11 := B10.trans (b11.mono B10.size)
  have ob11 := ob10.below b11
  clear b11 ob10
  go_wp2_with fail
  refine (eqMarkS_same _ _ _ _ lb _ hlb ob11.row o11.row).mono ?_
  rintro e w12 ⟨rfl, b12⟩
  go_wp2_with fail
  go_ret
  exact ⟨rfl, B11.trans (b12.mono B11.size)⟩

end Go.Proofs.Ytpfhegengmlkmab
