/- The walk of the law FnStampAgree. -/
import Derived.Test.YtpfhegengmlkmaaMkM
import Derived.Test.YtpfhegengmlkmaaDraw4b
import Derived.Test.YtpfhegengmlkmaaBs2
import Derived.Test.YtpfhegengmlkmaaJoinI
namespace Go.Proofs.Ytpfhegengmlkmaa
open Go.RowKit Go.BigFrame
set_option maxRecDepth 100000

set_option maxHeartbeats 3200000 in
theorem lawAgree_any (ab : Option Addr) (n c : Nat) (w : World) (h : Bytes w ab n c) (hn : n ≤ maxLen) :
    Calls Try.prog 5 #[.slice ab n c] w fun e w' => e = .returned (.bool true) ∧ Below w.heap.size w w' := by
  unfold maxLen at hn
  go_enter Try.func5, Try.ntmps5
  by_cases hbig : 1048576 < n
  · have hbig' : decide ((1048576 : Int) < (n : Int)) = true := by simp; omega
    go_wp2_with fail
    go_ret
    exact ⟨rfl, Below.refl _ _⟩
  have hbig' : decide ((1048576 : Int) < (n : Int)) = false := by simp; omega
  go_wp2_with fail
  refine (drawAgree_any ab n c _ h).mono ?_
  rintro e w1 ⟨⟨va, la, vb, lb, rfl, hm1, hs1⟩, B1⟩
  obtain ⟨aa, ca, rfl, ma⟩ := hm1.sl
  obtain ⟨a', cb, rfl, mb⟩ := hs1.sl
  clear hm1 hs1 h
  go_wp2_with fail
  refine (implAgree_any aa a' ca cb la lb _ ma.max mb.max ma.cap mb.cap ma.row mb.row ma.smax mb.smax).mono ?_
  rintro e w2 ⟨⟨r, rfl, hr2⟩, b2⟩
  replace ma := ma.below b2
  replace mb := mb.below b2
  have B2 : Below w.heap.size w w2 := B1.trans (b2.mono B1.size)
  clear b2 B1
  go_wp2_with fail
  refine (specAgree_any aa a' ca cb la lb _ ma.max mb.max ma.row mb.row ma.smax mb.smax).mono ?_
  rintro e w3 ⟨⟨r', rfl, hr3⟩, b3⟩
  obtain rfl : r' = r := by rw [Bool.eq_iff_iff, hr3, hr2]
  replace ma := ma.below b3
  replace mb := mb.below b3
  have B3 : Below w.heap.size w w3 := B2.trans (b3.mono B2.size)
  clear b3 B2 hr3
  go_wp2_with fail
  refine (implAgree_any a' aa cb ca lb la _ mb.max ma.max mb.cap ma.cap mb.row ma.row mb.smax ma.smax).mono ?_
  rintro e w4 ⟨⟨r, rfl, hr4⟩, b4⟩
  obtain rfl : r = r' := by rw [Bool.eq_iff_iff, hr4, hr2]; exact ⟨AgreeP.symm, AgreeP.symm⟩
  replace ma := ma.below b4
  replace mb := mb.below b4
  have B4 : Below w.heap.size w w4 := B3.trans (b4.mono B3.size)
  clear b4 B3 hr4
  go_wp2_with fail
  refine (implJoin_any aa a' ca cb la lb _ ma.max mb.max ma.cap mb.cap ma.row mb.row ma.smax mb.smax).mono ?_
  rintro e w5 ⟨⟨vj, lj, fits, rfl, hg5, hj⟩, b5⟩
  obtain ⟨aj, cj, rfl, mj⟩ := mk_stamp hg5 hj.stamp
  replace ma := ma.below b5
  replace mb := mb.below b5
  have B5 : Below w.heap.size w w5 := B4.trans (b5.mono B4.size)
  clear b5 B4 hg5
  cases fits
  · clear hj
    go_wp2_with fail
    go_ret
    exact ⟨rfl, B5⟩
  obtain ⟨ha, hb, hJ, hS⟩ := hj.fits
  have HCUT : Hid (r = true ↔ (onlyM (namesM la) lj = la ∧ onlyM (namesM lb) lj = lb)) := hr2.trans (agree_cut ha hb hJ)
  have HS : Hid (StampP lj) := hS
  clear hj ha hb hJ hS hr2
  go_wp2_with fail
  refine (bsNames_any aa ca la _ ma.few ma.row).mono ?_
  rintro e w6 ⟨⟨vn, rfl, hg6⟩, b6⟩
  obtain ⟨an, cn, rfl, hn6⟩ := hg6.shape
  replace ma := ma.below b6
  replace mb := mb.below b6
  replace mj := mj.below b6
  have B6 : Below w.heap.size w w6 := B5.trans (b6.mono B5.size)
  clear b6 B5 hg6
  go_wp2_with fail
  refine (implOnly_any aj cj lj an cn (namesM la) _ mj.few mj.row mj.sfew (by rw [namesM, List.length_map]; exact ma.few) hn6).mono ?_
  rintro e w7 ⟨⟨vo, lo, rfl, hg7, ho⟩, b7⟩
  obtain ⟨ao, co, rfl, mo⟩ := mk_stamp hg7 ho.stamp
  have HLO : Hid (lo = onlyM (namesM la) lj) := ho.1 HS.out
  replace ma := ma.below b7
  replace mb := mb.below b7
  replace mj := mj.below b7
  have B7 : Below w.heap.size w w7 := B6.trans (b7.mono B6.size)
  clear b7 B6 hg7 ho hn6
  go_wp2_with fail
  refine (bsMarks_any ao aa co ca lo la _ mo.max ma.max mo.row ma.row).mono ?_
  rintro e w8 ⟨⟨s, rfl, hs⟩, b8⟩
  replace ma := ma.below b8
  replace mb := mb.below b8
  replace mj := mj.below b8
  have B8 : Below w.heap.size w w8 := B7.trans (b8.mono B7.size)
  clear b8 B7 mo
  cases s
  · obtain rfl : r = false := by
      rw [Bool.eq_false_iff]
      intro hrt
      have h1 := (HCUT.out.1 hrt).1
      rw [HLO.out] at hs
      exact absurd (hs.2 h1) (by simp)
    clear hs HCUT
    go_wp2_with fail
    go_ret
    exact ⟨rfl, B8⟩
  have HA : Hid (onlyM (namesM la) lj = la) := by rw [Hid, ← HLO.out]; exact hs.1 rfl
  clear hs
  go_wp2_with fail
  refine (bsNames_any a' cb lb _ mb.few mb.row).mono ?_
  rintro e w9 ⟨⟨vn, rfl, hg9⟩, b9⟩
  obtain ⟨am, cm, rfl, hn9⟩ := hg9.shape
  replace mb := mb.below b9
  replace mj := mj.below b9
  have B9 : Below w.heap.size w w9 := B8.trans (b9.mono B8.size)
  clear b9 B8 hg9
  go_wp2_with fail
  refine (implOnly_any aj cj lj am cm (namesM lb) _ mj.few mj.row mj.sfew (by rw [namesM, List.length_map]; exact mb.few) hn9).mono ?_
  rintro e w10 ⟨⟨vo, lp, rfl, hg10, hp⟩, b10⟩
  obtain ⟨ap, cp, rfl, mp⟩ := mk_stamp hg10 hp.stamp
  have HLP : Hid (lp = onlyM (namesM lb) lj) := hp.1 HS.out
  replace mb := mb.below b10
  have B10 : Below w.heap.size w w10 := B9.trans (b10.mono B9.size)
  clear b10 B9 hg10 hp hn9
  go_wp2_with fail
  refine (bsMarks_any ap a' cp cb lp lb _ mp.max mb.max mp.row mb.row).mono ?_
  rintro e w11 ⟨⟨s, rfl, hs⟩, b11⟩
  have B11 : Below w.heap.size w w11 := B10.trans (b11.mono B10.size)
  clear b11 B10 mp
  obtain rfl : s = r := by rw [Bool.eq_iff_iff, hs, HCUT.out, HLP.out]; exact ⟨fun h => ⟨HA.out, h⟩, fun h => h.2⟩
  clear hs HCUT
  go_wp2_with fail
  go_ret
  exact ⟨by simp, B11⟩

end Go.Proofs.Ytpfhegengmlkmaa
