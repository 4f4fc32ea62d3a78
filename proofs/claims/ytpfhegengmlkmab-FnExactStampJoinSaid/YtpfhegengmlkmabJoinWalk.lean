/- The walk of the law FnExactStampJoin. -/
import Derived.Test.YtpfhegengmlkmabJoinI
import Derived.Test.YtpfhegengmlkmabSpecJ2
import Derived.Test.YtpfhegengmlkmabSafe
import Derived.Test.YtpfhegengmlkmabWc
namespace Go.Proofs.Ytpfhegengmlkmab
open Go.RowKit

theorem Safe.but {w w' : World} {lo hi b : Nat} {a : Option Addr} {m : List (ByteArray × Int)} (h : Safe w lo hi a m) (hb : But b w w') (hd : hi ≤ b ∨ b < lo) : Safe w' lo hi a m :=
  h.span (hb.span (Nat.le_refl b) (Nat.lt_succ_self b)) (by omega)

set_option maxHeartbeats 1600000 in
theorem lawJoin_any (aa ab : Option Addr) (ca cb : Nat) (la lb : List (ByteArray × Int)) (w : World) (hla : la.length ≤ maxLen) (hlb : lb.length ≤ maxLen) (ha : Row w aa la) (hb : Row w ab lb)
    (hsa : ∀ j, (h : j < la.length) → la[j].1.size ≤ maxLen) (hsb : ∀ j, (h : j < lb.length) → lb[j].1.size ≤ maxLen) :
    Calls Try.prog 5 #[.slice aa la.length ca, .slice ab lb.length cb] w fun e w' => e = .returned (.bool true) ∧ Below w.heap.size w w' := by
  go_enter Try.func5, Try.ntmps5
  go_wp2_with fail
  refine (szMarkS_any aa ca la 1048576 _ hla ha hsa (by omega) (by omega)).mono ?_
  rintro e w1 ⟨r, rfl, hr0, hr1, hr2, B1⟩
  by_cases hneg : r < 0
  · go_wp2_with fail
    go_ret
    exact ⟨rfl, B1⟩
  obtain ⟨hlena, _⟩ := hr2 (by omega)
  go_wp2_with fail
  refine (szMarkS_any ab cb lb r _ hlb (hb.below B1) hsb (by omega) (by omega)).mono ?_
  rintro e w2 ⟨r', rfl, hr0', hr1', hr2', b2⟩
  have B2 : Below w.heap.size w w2 := B1.trans (b2.mono B1.size)
  clear b2
  by_cases hneg' : r' < 0
  · go_wp2_with fail
    go_ret
    exact ⟨rfl, B2⟩
  obtain ⟨hlenb, _⟩ := hr2' (by omega)
  have hLa : la.length ≤ 1048576 := by omega
  have hLb : lb.length ≤ 1048576 := by omega
  clear hr2 hr2'
  -- spec
  go_wp2_with fail
  refine (toMarkS_any aa ca la _ hLa (ha.below B2)).mono ?_
  rintro e w3 ⟨rfl, oa3, b3⟩
  have B3 : Below w.heap.size w w3 := B2.trans (b3.mono B2.size)
  clear b3
  go_wp2_with fail
  refine (toMarkS_any ab cb lb _ hLb (hb.below B3)).mono ?_
  rintro e w4 ⟨rfl, ob4, b4⟩
  have B4 : Below w.heap.size w w4 := B3.trans (b4.mono B3.size)
  have oa4 := oa3.below b4
  clear b4 oa3
  go_wp2_with fail
  refine (specJoin_any _ _ _ _ la lb _ hla hlb oa4.row ob4.row hsa hsb).mono ?_
  rintro e w5 ⟨⟨v0, m, ok, rfl, hg5, hm5⟩, b5⟩
  have B5 : Below w.heap.size w w5 := B4.trans (b5.mono B4.size)
  obtain ⟨a0, cap0, rfl, hs5⟩ := hg5.safe
  have hm12 := hm5.small
  have z5 : w.heap.size ≤ w4.heap.size := B4.size
  have y5 := b5.size
  clear b5 oa4 ob4 hg5
  -- x0, x1
  go_wp2_with fail
  refine (toMarkS_any aa ca la _ hLa (ha.below B5)).mono ?_
  rintro e w6 ⟨rfl, oa6, b6⟩
  have B6 : Below w.heap.size w w6 := B5.trans (b6.mono B5.size)
  have hs6 := hs5.below b6
  go_wp2_with fail
  refine (toMarkS_any ab cb lb _ hLb (hb.below B6)).mono ?_
  rintro e w7 ⟨rfl, ob7, b7⟩
  have B7 : Below w.heap.size w w7 := B6.trans (b7.mono B6.size)
  have oa7 := oa6.below b7
  have hs7 := hs6.below b7
  have y6 : w5.heap.size < w6.heap.size := oa6.lt
  have y7 : w6.heap.size < w7.heap.size := ob7.lt
  clear hs5 hs6 b6 b7 oa6
  -- impl
  go_wp2_with fail
  refine (implJoin_any _ _ _ _ la lb _ hla hlb (by omega) (by omega) oa7.row ob7.row hsa hsb).mono ?_
  rintro e w8 ⟨⟨v1, m', ok', rfl, hg8, hm8⟩, b8⟩
  obtain ⟨rfl, rfl⟩ := hm5.one hm8
  have B8 : Below w.heap.size w w8 := B7.trans (b8.mono B7.size)
  obtain ⟨a1, cap1, rfl, hs8⟩ := hg8.safe
  have ht8 := hs7.below b8
  have oa8 := oa7.below b8
  have ob8 := ob7.below b8
  have y8 := b8.size
  clear hg8 hs7 b8 oa7 ob7
  go_wp2_with fail
  refine (eqMarkS_same _ _ _ _ m _ (by unfold maxLen; omega) hs8.row ht8.row).mono ?_
  rintro e w9 ⟨rfl, b9⟩
  have B9 : Below w.heap.size w w9 := B8.trans (b9.mono B8.size)
  have hs9 := hs8.below b9
  have ht9 := ht8.below b9
  have oa9 := oa8.below b9
  have ob9 := ob8.below b9
  have y9 := b9.size
  clear hs8 ht8 oa8 ob8 b9
  cases ok
  all_goals
    go_wp2_with fail
    refine (toMarkS_any aa ca la _ hLa (ha.below B9)).mono ?_
    rintro e w10 ⟨rfl, o10, b10⟩
    have B10 : Below w.heap.size w w10 := B9.trans (b10.mono B9.size)
    have hs10 := hs9.below b10
    have ht10 := ht9.below b10
    have oa10 := oa9.below b10
    have ob10 := ob9.below b10
    have y10 := b10.size
    clear hs9 ht9 oa9 ob9 b10
    go_wp2_with fail
    refine (eqMarkS_same _ _ _ _ la _ hla oa10.row o10.row).mono ?_
    rintro e w11 ⟨rfl, b11⟩
    have B11 : Below w.heap.size w w11 := B10.trans (b11.mono B10.size)
    have hs11 := hs10.below b11
    have ht11 := ht10.below b11
    have oa11 := oa10.below b11
    have ob11 := ob10.below b11
    have y11 := b11.size
    clear hs10 ht10 oa10 ob10 b11 o10
    go_wp2_with fail
    refine (toMarkS_any ab cb lb _ hLb (hb.below B11)).mono ?_
    rintro e w12 ⟨rfl, o12, b12⟩
    have B12 : Below w.heap.size w w12 := B11.trans (b12.mono B11.size)
    have hs12 := hs11.below b12
    have ht12 := ht11.below b12
    have oa12 := oa11.below b12
    have ob12 := ob11.below b12
    have y12 := b12.size
    clear hs11 ht11 oa11 ob11 b12
    go_wp2_with fail
    refine (eqMarkS_same _ _ _ _ lb _ hlb ob12.row o12.row).mono ?_
    rintro e w13 ⟨rfl, b13⟩
    have B13 : Below w.heap.size w w13 := B12.trans (b13.mono B12.size)
    have hs13 := hs12.below b13
    have ht13 := ht12.below b13
    have oa13 := oa12.below b13
    have ob13 := ob12.below b13
    have y13 := b13.size
    clear hs12 ht12 oa12 ob12 b13 o12
    -- the arguments are marked
    go_wp2_with fail
    refine (markMarkS_any _ _ la.length 1 _ hLa (by omega) (by omega) la rfl oa13).mono ?_
    rintro e w14 ⟨rfl, _, M14⟩
    have hs14 := hs13.but M14 (by omega)
    have ht14 := ht13.but M14 (by omega)
    have ob14 := M14.own ob13 (by omega)
    have B14 : Below w.heap.size w w14 := B13.trans (M14.below (by omega) B13.size)
    have y14 := M14.size
    clear hs13 ht13 oa13 ob13 M14
    go_wp2_with fail
    refine (markMarkS_any _ _ lb.length _ _ hLb (by omega) (by omega) lb rfl ob14).mono ?_
    rintro e w15 ⟨rfl, _, M15⟩
    have hs15 := hs14.but M15 (by omega)
    have ht15 := ht14.but M15 (by omega)
    have B15 : Below w.heap.size w w15 := B14.trans (M15.below (by omega) B14.size)
    have y15 := M15.size
    clear hs14 ht14 ob14 M15
    go_wp2_with fail
    refine (eqMarkS_same _ _ _ _ m _ (by unfold maxLen; omega) hs15.row ht15.row).mono ?_
    rintro e w16 ⟨rfl, b16⟩
    have B16 : Below w.heap.size w w16 := B15.trans (b16.mono B15.size)
    have hs16 := hs15.below b16
    have ht16 := ht15.below b16
    have y16 := b16.size
    clear hs15 ht15 b16
    -- the answer is marked
    go_wp2_with fail
    refine (markSafe_any a1 cap1 _ _ m 1 _ (by omega) (by omega) (by omega) hs16).mono ?_
    rintro e w17 ⟨rfl, hs17, M17⟩
    have ht17 := ht16.span M17 (by omega)
    have B17 : Below w.heap.size w w17 := B16.trans (M17.below (by omega) B16.size)
    clear hs16 ht16 M17
    go_wp2_with fail
    refine (heldMarkS_any a1 cap1 m.length 1 _ (by omega) (by omega) (by omega) hs17.row).mono ?_
    rintro e w18 ⟨rfl, b18⟩
    have B18 : Below w.heap.size w w18 := B17.trans (b18.mono B17.size)
    have hs18 := hs17.below b18
    have ht18 := ht17.below b18
    clear hs17 ht17 b18
    go_wp2_with fail
    refine (toMarkS_any aa ca la _ hLa (ha.below B18)).mono ?_
    rintro e w19 ⟨rfl, oa19, b19⟩
    have B19 : Below w.heap.size w w19 := B18.trans (b19.mono B18.size)
    have hs19 := hs18.below b19
    have ht19 := ht18.below b19
    clear hs18 ht18 b19
    go_wp2_with fail
    refine (toMarkS_any ab cb lb _ hLb (hb.below B19)).mono ?_
    rintro e w20 ⟨rfl, ob20, b20⟩
    have B20 : Below w.heap.size w w20 := B19.trans (b20.mono B19.size)
    have hs20 := hs19.below b20
    have ht20 := ht19.below b20
    have oa20 := oa19.below b20
    clear hs19 ht19 b20 oa19
    go_wp2_with fail
    refine (implJoin_any _ _ _ _ la lb _ hla hlb (by omega) (by omega) oa20.row ob20.row hsa hsb).mono ?_
    rintro e w21 ⟨⟨v2, m', ok', rfl, hg21, hm21⟩, b21⟩
    obtain ⟨rfl, rfl⟩ := hm5.one hm21
    have B21 : Below w.heap.size w w21 := B20.trans (b21.mono B20.size)
    obtain ⟨a2, cap2, rfl, hs21⟩ := hg21.safe
    have hu21 := hs20.below b21
    have ht21 := ht20.below b21
    clear hs20 ht20 b21 oa20 ob20 hg21
    go_wp2_with fail
    refine (eqMarkS_same _ _ _ _ m _ (by unfold maxLen; omega) hs21.row ht21.row).mono ?_
    rintro e w22 ⟨rfl, b22⟩
    have B22 : Below w.heap.size w w22 := B21.trans (b22.mono B21.size)
    have hu22 := hu21.below b22
    clear hs21 ht21 hu21 b22
    go_wp2_with fail
    refine (heldMarkS_any a1 cap1 m.length 1 _ (by omega) (by omega) (by omega) hu22.row).mono ?_
    rintro e w23 ⟨rfl, b23⟩
    go_wp2_with fail
    go_ret
    exact ⟨rfl, B22.trans (b23.mono B22.size)⟩

end Go.Proofs.Ytpfhegengmlkmab
