/- The walk of the law FnStampOrder. -/
import Derived.Test.YtpfhegengmlkmaaMkM
import Derived.Test.YtpfhegengmlkmaaBs
import Derived.Test.YtpfhegengmlkmaaDraw6
import Derived.Test.YtpfhegengmlkmaaOrderI
import Derived.Test.YtpfhegengmlkmaaSpecJ2
namespace Go.Proofs.Ytpfhegengmlkmaa
open Go.RowKit Go.BigFrame
set_option maxRecDepth 100000

set_option maxRecDepth 100000 in
set_option maxHeartbeats 6400000 in
theorem lawOrder_any (ak : Option Addr) (n c : Nat) (at_ : Option Addr) (n' c' : Nat) (w : World) (h : Bytes w ak n c) (hn : n ≤ maxLen) (h' : Bytes w at_ n' c') (hn' : n' ≤ maxLen) :
    Calls Try.prog 4 #[.slice ak n c, .slice at_ n' c'] w fun e w' => e = .returned (.bool true) ∧ Below w.heap.size w w' := by
  unfold maxLen at hn hn'
  go_enter Try.func4, Try.ntmps4
  by_cases hbig : 1048576 < n
  · have hbig' : decide ((1048576 : Int) < (n : Int)) = true := by simp; omega
    go_wp2_with fail
    go_ret
    exact ⟨rfl, Below.refl _ _⟩
  have hbig' : decide ((1048576 : Int) < (n : Int)) = false := by simp; omega
  by_cases hbig2 : 1048576 < n'
  · have hbig2' : decide ((1048576 : Int) < (n' : Int)) = true := by simp; omega
    go_wp2_with fail
    go_ret
    exact ⟨rfl, Below.refl _ _⟩
  have hbig2' : decide ((1048576 : Int) < (n' : Int)) = false := by simp; omega
  go_wp2_with fail
  refine (drawOrder_any ak n c _ h).mono ?_
  rintro e w1 ⟨⟨va, la, vb, lb, rfl, hm1, hs1⟩, B1⟩
  obtain ⟨aa, ca, rfl, ma⟩ := hm1.sl
  obtain ⟨ab, cb, rfl, mb⟩ := hs1.sl
  replace h' := h'.below B1
  clear hm1 hs1 h
  go_wp2_with fail
  refine (drawOrder_any at_ n' c' _ h').mono ?_
  rintro e w2 ⟨⟨vc, lc, vd, ld, rfl, hm2, hs2⟩, b2⟩
  obtain ⟨ac, cc, rfl, mc⟩ := hm2.sl
  obtain ⟨ad, cd, rfl, md⟩ := hs2.sl
  replace ma := ma.below b2
  replace mb := mb.below b2
  have B2 : Below w.heap.size w w2 := B1.trans (b2.mono B1.size)
  clear hm2 hs2 h' b2 B1
  go_wp2_with fail
  refine (implOrder_any aa ab ca cb la lb _ ma.max mb.max ma.cap mb.cap ma.row mb.row ma.smax mb.smax).mono ?_
  rintro e w3 ⟨⟨o, rfl, ho⟩, b3⟩
  replace ma := ma.below b3
  replace mb := mb.below b3
  replace mc := mc.below b3
  replace md := md.below b3
  have B3 : Below w.heap.size w w3 := B2.trans (b3.mono B2.size)
  clear b3 B2
  go_wp2_with fail
  refine (implOrder_any ab aa cb ca lb la _ mb.max ma.max mb.cap ma.cap mb.row ma.row mb.smax ma.smax).mono ?_
  rintro e w4 ⟨⟨p, rfl, hp⟩, b4⟩
  replace ma := ma.below b4
  replace mb := mb.below b4
  replace mc := mc.below b4
  replace md := md.below b4
  have B4 : Below w.heap.size w w4 := B3.trans (b4.mono B3.size)
  have HFL : Hid ((o = 1 → p = 2) ∧ (o = 2 → p = 1) ∧ (o ≠ 1 → o ≠ 2 → p = o)) := ord_flip ho hp
  have HSM : Hid (o = 0 ↔ (StampP la ∧ la = lb)) := ord_same ho
  have HLJ : Hid (∀ j v, o = 1 → IsJ lb lc j true → IsOrd la j v → v = 1) := fun j v h1 hj hv => less_join ho h1 hj hv
  clear hp
  clear b4 B3
  go_wp2_with fail
  refine (specOrder_any aa ab ca cb la lb _ ma.max mb.max ma.row mb.row ma.smax mb.smax).mono ?_
  rintro e w5 ⟨⟨o', rfl, ho'⟩, b5⟩
  replace ma := ma.below b5
  replace mb := mb.below b5
  replace mc := mc.below b5
  replace md := md.below b5
  have B5 : Below w.heap.size w w5 := B4.trans (b5.mono B4.size)
  obtain rfl := ho.one ho'
  clear ho ho'
  clear b5 B4
  by_cases h0 : o = 0
  · obtain rfl : p = 0 := by rw [HFL.out.2.2 (by omega) (by omega), h0]
    subst h0
    have HE : Hid (StampP la ∧ la = lb) := HSM.out.1 rfl
    clear HFL HLJ
    go_wp2_with fail
    refine (specOk_b aa ca la _ ma.max ma.row ma.smax).mono ?_
    rintro e w6 ⟨⟨r, rfl, hr⟩, b6⟩
    replace ma := ma.below b6
    replace mb := mb.below b6
    replace mc := mc.below b6
    replace md := md.below b6
    have B6 : Below w.heap.size w w6 := B5.trans (b6.mono B5.size)
    clear b6 B5
    obtain rfl : r = true := hr.2 HE.out.1
    clear hr
    go_wp2_with fail
    refine (bsMarks_any aa ab ca cb la lb _ ma.max mb.max ma.row mb.row).mono ?_
    rintro e w7 ⟨⟨q, rfl, hq⟩, b7⟩
    replace ma := ma.below b7
    replace mb := mb.below b7
    replace mc := mc.below b7
    replace md := md.below b7
    have B7 : Below w.heap.size w w7 := B6.trans (b7.mono B6.size)
    clear b7 B6
    obtain rfl : q = true := hq.2 HE.out.2
    clear hq HE HSM
    go_wp2_with fail
    refine (specJoin_any ab ac cb cc lb lc _ mb.max mc.max mb.row mc.row mb.smax mc.smax).mono ?_
    rintro e w8 ⟨⟨vj, lj, ok, rfl, hg, hj⟩, b8⟩
    replace ma := ma.below b8
    replace mb := mb.below b8
    replace mc := mc.below b8
    replace md := md.below b8
    have B8 : Below w.heap.size w w8 := B7.trans (b8.mono B7.size)
    obtain ⟨aj, cj, rfl, mj⟩ := mk_stamp hg hj.stamp
    have HJ : Hid (IsJ lb lc lj ok) := hj
    clear hg hj
    clear b8 B7
    cases ok
    · clear HJ
      go_wp2_with fail
      go_ret
      exact ⟨rfl, B8⟩
    go_wp2_with fail
    go_ret
    exact ⟨rfl, B8⟩
  have HN : Hid (¬ (StampP la ∧ la = lb)) := fun h => h0 (HSM.out.2 h)
  clear HSM
  by_cases h1 : o = 1
  · obtain rfl : p = 2 := HFL.out.1 h1
    subst h1
    clear HFL h0
    go_wp2_with fail
    refine (specOk_b aa ca la _ ma.max ma.row ma.smax).mono ?_
    rintro e w6 ⟨⟨r, rfl, hr⟩, b6⟩
    replace ma := ma.below b6
    replace mb := mb.below b6
    replace mc := mc.below b6
    replace md := md.below b6
    have B6 : Below w.heap.size w w6 := B5.trans (b6.mono B5.size)
    clear b6 B5
    cases r
    · clear hr HN
      go_wp2_with fail
      refine (specJoin_any ab ac cb cc lb lc _ mb.max mc.max mb.row mc.row mb.smax mc.smax).mono ?_
      rintro e w7 ⟨⟨vj, lj, ok, rfl, hg, hj⟩, b7⟩
      replace ma := ma.below b7
      replace mb := mb.below b7
      replace mc := mc.below b7
      replace md := md.below b7
      have B7 : Below w.heap.size w w7 := B6.trans (b7.mono B6.size)
      obtain ⟨aj, cj, rfl, mj⟩ := mk_stamp hg hj.stamp
      have HJ : Hid (IsJ lb lc lj ok) := hj
      clear hg hj
      clear b7 B6
      cases ok
      · clear HJ
        go_wp2_with fail
        go_ret
        exact ⟨rfl, B7⟩
      go_wp2_with fail
      refine (implOrder_any aa aj ca cj la lj _ ma.max mj.max ma.cap mj.cap ma.row mj.row ma.smax mj.smax).mono ?_
      rintro e w8 ⟨⟨v, rfl, hv⟩, b8⟩
      replace ma := ma.below b8
      replace mb := mb.below b8
      replace mc := mc.below b8
      replace md := md.below b8
      have B8 : Below w.heap.size w w8 := B7.trans (b8.mono B7.size)
      obtain rfl : v = 1 := HLJ.out lj v (by trivial) HJ.out hv
      clear hv HLJ HJ
      clear b8 B7
      go_wp2_with fail
      refine (implOrder_any ac ad cc cd lc ld _ mc.max md.max mc.cap md.cap mc.row md.row mc.smax md.smax).mono ?_
      rintro e w9 ⟨⟨v, rfl, hv⟩, b9⟩
      replace ma := ma.below b9
      replace mb := mb.below b9
      replace mc := mc.below b9
      replace md := md.below b9
      have B9 : Below w.heap.size w w9 := B8.trans (b9.mono B8.size)
      clear b9 B8
      go_wp2_with fail
      refine (specOrder_any ac ad cc cd lc ld _ mc.max md.max mc.row md.row mc.smax md.smax).mono ?_
      rintro e w10 ⟨⟨v', rfl, hv'⟩, b10⟩
      have B10 : Below w.heap.size w w10 := B9.trans (b10.mono B9.size)
      obtain rfl := hv.one hv'
      clear hv hv'
      clear b10 B9
      go_wp2_with fail
      go_ret
      exact ⟨by simp, B10⟩
    have HR : Hid (StampP la) := hr.1 rfl
    clear hr
    go_wp2_with fail
    refine (bsMarks_any aa ab ca cb la lb _ ma.max mb.max ma.row mb.row).mono ?_
    rintro e w7 ⟨⟨q, rfl, hq⟩, b7⟩
    replace ma := ma.below b7
    replace mb := mb.below b7
    replace mc := mc.below b7
    replace md := md.below b7
    have B7 : Below w.heap.size w w7 := B6.trans (b7.mono B6.size)
    clear b7 B6
    obtain rfl : q = false := by
      cases q
      · rfl
      · exact absurd ⟨HR.out, hq.1 rfl⟩ HN.out
    clear hq HN HR
    go_wp2_with fail
    refine (specJoin_any ab ac cb cc lb lc _ mb.max mc.max mb.row mc.row mb.smax mc.smax).mono ?_
    rintro e w8 ⟨⟨vj, lj, ok, rfl, hg, hj⟩, b8⟩
    replace ma := ma.below b8
    replace mb := mb.below b8
    replace mc := mc.below b8
    replace md := md.below b8
    have B8 : Below w.heap.size w w8 := B7.trans (b8.mono B7.size)
    obtain ⟨aj, cj, rfl, mj⟩ := mk_stamp hg hj.stamp
    have HJ : Hid (IsJ lb lc lj ok) := hj
    clear hg hj
    clear b8 B7
    cases ok
    · clear HJ
      go_wp2_with fail
      go_ret
      exact ⟨rfl, B8⟩
    go_wp2_with fail
    refine (implOrder_any aa aj ca cj la lj _ ma.max mj.max ma.cap mj.cap ma.row mj.row ma.smax mj.smax).mono ?_
    rintro e w9 ⟨⟨v, rfl, hv⟩, b9⟩
    replace ma := ma.below b9
    replace mb := mb.below b9
    replace mc := mc.below b9
    replace md := md.below b9
    have B9 : Below w.heap.size w w9 := B8.trans (b9.mono B8.size)
    obtain rfl : v = 1 := HLJ.out lj v (by trivial) HJ.out hv
    clear hv HLJ HJ
    clear b9 B8
    go_wp2_with fail
    refine (implOrder_any ac ad cc cd lc ld _ mc.max md.max mc.cap md.cap mc.row md.row mc.smax md.smax).mono ?_
    rintro e w10 ⟨⟨v, rfl, hv⟩, b10⟩
    replace ma := ma.below b10
    replace mb := mb.below b10
    replace mc := mc.below b10
    replace md := md.below b10
    have B10 : Below w.heap.size w w10 := B9.trans (b10.mono B9.size)
    clear b10 B9
    go_wp2_with fail
    refine (specOrder_any ac ad cc cd lc ld _ mc.max md.max mc.row md.row mc.smax md.smax).mono ?_
    rintro e w11 ⟨⟨v', rfl, hv'⟩, b11⟩
    have B11 : Below w.heap.size w w11 := B10.trans (b11.mono B10.size)
    obtain rfl := hv.one hv'
    clear hv hv'
    clear b11 B10
    go_wp2_with fail
    go_ret
    exact ⟨by simp, B11⟩
  clear HLJ
  by_cases h2 : o = 2
  · obtain rfl : p = 1 := HFL.out.2.1 h2
    subst h2
    clear HFL h0 h1
    go_wp2_with fail
    refine (specOk_b aa ca la _ ma.max ma.row ma.smax).mono ?_
    rintro e w6 ⟨⟨r, rfl, hr⟩, b6⟩
    replace ma := ma.below b6
    replace mb := mb.below b6
    replace mc := mc.below b6
    replace md := md.below b6
    have B6 : Below w.heap.size w w6 := B5.trans (b6.mono B5.size)
    clear b6 B5
    cases r
    · clear hr HN
      go_wp2_with fail
      refine (specJoin_any ab ac cb cc lb lc _ mb.max mc.max mb.row mc.row mb.smax mc.smax).mono ?_
      rintro e w7 ⟨⟨vj, lj, ok, rfl, hg, hj⟩, b7⟩
      replace ma := ma.below b7
      replace mb := mb.below b7
      replace mc := mc.below b7
      replace md := md.below b7
      have B7 : Below w.heap.size w w7 := B6.trans (b7.mono B6.size)
      obtain ⟨aj, cj, rfl, mj⟩ := mk_stamp hg hj.stamp
      have HJ : Hid (IsJ lb lc lj ok) := hj
      clear hg hj
      clear b7 B6
      cases ok
      · clear HJ
        go_wp2_with fail
        go_ret
        exact ⟨rfl, B7⟩
      go_wp2_with fail
      go_ret
      exact ⟨rfl, B7⟩
    have HR : Hid (StampP la) := hr.1 rfl
    clear hr
    go_wp2_with fail
    refine (bsMarks_any aa ab ca cb la lb _ ma.max mb.max ma.row mb.row).mono ?_
    rintro e w7 ⟨⟨q, rfl, hq⟩, b7⟩
    replace ma := ma.below b7
    replace mb := mb.below b7
    replace mc := mc.below b7
    replace md := md.below b7
    have B7 : Below w.heap.size w w7 := B6.trans (b7.mono B6.size)
    clear b7 B6
    obtain rfl : q = false := by
      cases q
      · rfl
      · exact absurd ⟨HR.out, hq.1 rfl⟩ HN.out
    clear hq HN HR
    go_wp2_with fail
    refine (specJoin_any ab ac cb cc lb lc _ mb.max mc.max mb.row mc.row mb.smax mc.smax).mono ?_
    rintro e w8 ⟨⟨vj, lj, ok, rfl, hg, hj⟩, b8⟩
    replace ma := ma.below b8
    replace mb := mb.below b8
    replace mc := mc.below b8
    replace md := md.below b8
    have B8 : Below w.heap.size w w8 := B7.trans (b8.mono B7.size)
    obtain ⟨aj, cj, rfl, mj⟩ := mk_stamp hg hj.stamp
    have HJ : Hid (IsJ lb lc lj ok) := hj
    clear hg hj
    clear b8 B7
    cases ok
    · clear HJ
      go_wp2_with fail
      go_ret
      exact ⟨rfl, B8⟩
    go_wp2_with fail
    go_ret
    exact ⟨rfl, B8⟩
  obtain rfl : p = o := HFL.out.2.2 h1 h2
  have o0 : (p == 0) = false := by simp [h0]
  have o1 : (p == 1) = false := by simp [h1]
  have o2 : (p == 2) = false := by simp [h2]
  have o1' : (p != 1) = true := by simp [h1]
  clear HFL h0 h1 h2
  go_wp2_with fail
  refine (specOk_b aa ca la _ ma.max ma.row ma.smax).mono ?_
  rintro e w6 ⟨⟨r, rfl, hr⟩, b6⟩
  replace ma := ma.below b6
  replace mb := mb.below b6
  replace mc := mc.below b6
  replace md := md.below b6
  have B6 : Below w.heap.size w w6 := B5.trans (b6.mono B5.size)
  clear b6 B5
  cases r
  · clear hr HN
    go_wp2_with fail
    refine (specJoin_any ab ac cb cc lb lc _ mb.max mc.max mb.row mc.row mb.smax mc.smax).mono ?_
    rintro e w7 ⟨⟨vj, lj, ok, rfl, hg, hj⟩, b7⟩
    replace ma := ma.below b7
    replace mb := mb.below b7
    replace mc := mc.below b7
    replace md := md.below b7
    have B7 : Below w.heap.size w w7 := B6.trans (b7.mono B6.size)
    obtain ⟨aj, cj, rfl, mj⟩ := mk_stamp hg hj.stamp
    have HJ : Hid (IsJ lb lc lj ok) := hj
    clear hg hj
    clear b7 B6
    cases ok
    · clear HJ
      go_wp2_with fail
      go_ret
      exact ⟨rfl, B7⟩
    go_wp2_with fail
    go_ret
    exact ⟨rfl, B7⟩
  have HR : Hid (StampP la) := hr.1 rfl
  clear hr
  go_wp2_with fail
  refine (bsMarks_any aa ab ca cb la lb _ ma.max mb.max ma.row mb.row).mono ?_
  rintro e w7 ⟨⟨q, rfl, hq⟩, b7⟩
  replace ma := ma.below b7
  replace mb := mb.below b7
  replace mc := mc.below b7
  replace md := md.below b7
  have B7 : Below w.heap.size w w7 := B6.trans (b7.mono B6.size)
  clear b7 B6
  obtain rfl : q = false := by
    cases q
    · rfl
    · exact absurd ⟨HR.out, hq.1 rfl⟩ HN.out
  clear hq HN HR
  go_wp2_with fail
  refine (specJoin_any ab ac cb cc lb lc _ mb.max mc.max mb.row mc.row mb.smax mc.smax).mono ?_
  rintro e w8 ⟨⟨vj, lj, ok, rfl, hg, hj⟩, b8⟩
  replace ma := ma.below b8
  replace mb := mb.below b8
  replace mc := mc.below b8
  replace md := md.below b8
  have B8 : Below w.heap.size w w8 := B7.trans (b8.mono B7.size)
  obtain ⟨aj, cj, rfl, mj⟩ := mk_stamp hg hj.stamp
  have HJ : Hid (IsJ lb lc lj ok) := hj
  clear hg hj
  clear b8 B7
  cases ok
  · clear HJ
    go_wp2_with fail
    go_ret
    exact ⟨rfl, B8⟩
  go_wp2_with fail
  go_ret
  exact ⟨rfl, B8⟩

end Go.Proofs.Ytpfhegengmlkmaa
