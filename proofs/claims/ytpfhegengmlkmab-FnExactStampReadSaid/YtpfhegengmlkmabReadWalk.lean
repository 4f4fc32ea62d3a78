/- The walk of the law FnExactStampRead. -/
import Derived.Test.YtpfhegengmlkmabRdI4
import Derived.Test.YtpfhegengmlkmabSafe
import Derived.Test.YtpfhegengmlkmabWc
namespace Go.Proofs.Ytpfhegengmlkmab
open Go.RowKit

theorem IsR.small {t : ByteArray} {m : List (ByteArray × Int)} {ok : Bool} (h : IsR t m ok) : m.length ≤ 12 := h.stamp.1

set_option maxHeartbeats 1600000 in
theorem lawRead_any (t : ByteArray) (w : World) (hmax : t.size ≤ maxLen) :
    Calls Try.prog 9 #[.string t] w fun e w' => e = .returned (.bool true) ∧ Below w.heap.size w w' := by
  unfold maxLen at hmax
  go_enter Try.func9, Try.ntmps9
  by_cases hbig : 1048576 < t.size
  · go_wp2_with fail
    go_ret
    exact ⟨rfl, Below.refl _ _⟩
  go_wp2_with fail
  refine (specRead_any t _ (by omega)).mono ?_
  rintro e w5 ⟨⟨v0, m, ok, rfl, hg5, hm5⟩, B5⟩
  obtain ⟨a0, cap0, rfl, ht5⟩ := hg5.safe
  have hm12 := hm5.small
  have y5 := B5.size
  clear hg5
  go_wp2_with fail
  refine (implRead_any t _ (by omega)).mono ?_
  rintro e w8 ⟨⟨v1, m', ok', rfl, hg8, hm8⟩, b8⟩
  obtain ⟨rfl, rfl⟩ := hm5.one hm8
  have B8 : Below w.heap.size w w8 := B5.trans (b8.mono B5.size)
  obtain ⟨a1, cap1, rfl, hs8⟩ := hg8.safe
  have ht8 := ht5.below b8
  have y8 := b8.size
  have HM5 : Hid (IsR t m ok) := hm5
  clear hg8 ht5 b8 hm5 hm8
  go_wp2_with fail
  refine (eqMarkS_same _ _ _ _ m _ (by unfold maxLen; omega) hs8.row ht8.row).mono ?_
  rintro e w9 ⟨rfl, b9⟩
  have B9 : Below w.heap.size w w9 := B8.trans (b9.mono B8.size)
  have hs9 := hs8.below b9
  have ht9 := ht8.below b9
  have y9 := b9.size
  clear hs8 ht8 b9
  go_wp2_with fail
  refine (markSafe_any a1 cap1 _ _ m 1 _ (by omega) (by omega) (by omega) hs9).mono ?_
  rintro e w17 ⟨rfl, hs17, M17⟩
  have ht17 := ht9.span M17 (by omega)
  have B17 : Below w.heap.size w w17 := B9.trans (M17.below (by omega) B9.size)
  clear hs9 ht9 M17
  go_wp2_with fail
  refine (heldMarkS_any a1 cap1 m.length 1 _ (by omega) (by omega) (by omega) hs17.row).mono ?_
  rintro e w18 ⟨rfl, b18⟩
  have B18 : Below w.heap.size w w18 := B17.trans (b18.mono B17.size)
  have hs18 := hs17.below b18
  have ht18 := ht17.below b18
  clear hs17 ht17 b18
  go_wp2_with fail
  refine (implRead_any t _ (by omega)).mono ?_
  rintro e w21 ⟨⟨v2, m', ok', rfl, hg21, hm21⟩, b21⟩
  obtain ⟨rfl, rfl⟩ := HM5.out.one hm21
  have B21 : Below w.heap.size w w21 := B18.trans (b21.mono B18.size)
  obtain ⟨a2, cap2, rfl, hs21⟩ := hg21.safe
  have hu21 := hs18.below b21
  have ht21 := ht18.below b21
  clear hs18 ht18 b21 hg21 hm21
  go_wp2_with fail
  refine (eqMarkS_same _ _ _ _ m _ (by unfold maxLen; omega) hs21.row ht21.row).mono ?_
  rintro e w22 ⟨rfl, b22⟩
  have B22 : Below w.heap.size w w22 := B21.trans (b22.mono B21.size)
  have hu22 := hu21.below b22
  clear hs21 ht21 hu21 b22
  go_wp2_with fail
  refine (heldMarkS_any a1 cap1 m.length 1 _ (by omega) (by omega) (by omega) hu22.row).mono ?_
  rintro e w23 ⟨rfl, b23⟩
  go_wp2_with fail
  go_ret
  exact ⟨rfl, B22.trans (b23.mono B22.size)⟩

end Go.Proofs.Ytpfhegengmlkmab
