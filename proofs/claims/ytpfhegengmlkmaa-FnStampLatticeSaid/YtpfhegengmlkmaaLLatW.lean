/- The walk of the law FnStampLattice. -/
import Derived.Test.YtpfhegengmlkmaaMkM
import Derived.Test.YtpfhegengmlkmaaDraw4b
import Derived.Test.YtpfhegengmlkmaaBs
import Derived.Test.YtpfhegengmlkmaaJoinI
import Derived.Test.YtpfhegengmlkmaaOrderI
import Derived.Test.YtpfhegengmlkmaaSpecJ2
namespace Go.Proofs.Ytpfhegengmlkmaa
open Go.RowKit Go.BigFrame
set_option maxRecDepth 100000

theorem join_two {a b c j l m : List (ByteArray × Int)} {left : Bool} (hj : IsJ a b j true) (hl : IsJ j c l left) (hm : IsJ b c m false) : left = false := by
  have ha := hj.fits.1
  obtain rfl := hm.none
  exact (join_three hj hl hm (.inr ⟨ha, stampP_nil, a, joinOf_start (b := []) (stamp_sorted ha), .inl ⟨ha.1, rfl, rfl⟩⟩)).1 rfl

set_option maxRecDepth 100000 in
set_option maxHeartbeats 6400000 in
theorem lawLattice_any (ak : Option Addr) (n c : Nat) (at_ : Option Addr) (n' c' : Nat) (w : World) (h : Bytes w ak n c) (hn : n ≤ maxLen) (h' : Bytes w at_ n' c') (hn' : n' ≤ maxLen) :
    Calls Try.prog 3 #[.slice ak n c, .slice at_ n' c'] w fun e w' => e = .returned (.bool true) ∧ Below w.heap.size w w' := by
  unfold maxLen at hn hn'
  go_enter Try.func3, Try.ntmps3
  by_cases hbig : 1048576 < n
  · have hbig' : decide ((1048576 : Int) < (n : Int)) = true := by simp; omega
    go_wp2_with fail
    go_ret
    exact ⟨rfl, Below.refl _ _⟩
  have hbig' : decide ((1048576 : Int) < (n : Int)) = false := by simp; omega
  by_cases hbig2 : 1048576 < n'
  · have hbig2' : decide ((1048576 : Int) < (n' : Int)) = true := by simp; omega
    go_wp2_with fail
    go_ret
    exact ⟨rfl, Below.refl _ _⟩
  have hbig2' : decide ((1048576 : Int) < (n' : Int)) = false := by simp; omega
  go_wp2_with fail
  refine (drawJoin_any ak n c _ h).mono ?_
  rintro e w1 ⟨⟨va, la, vb, lb, rfl, hm1, hs1⟩, B1⟩
  obtain ⟨aa, ca, rfl, ma⟩ := hm1.sl
  obtain ⟨ab, cb, rfl, mb⟩ := hs1.sl
  replace h' := h'.below B1
  clear hm1 hs1 h
  go_wp2_with fail
  refine (drawText_any at_ n' c' _ h').mono ?_
  rintro e w2 ⟨⟨vc, lc, rfl, hm2⟩, b2⟩
  obtain ⟨ac, cc, rfl, mc⟩ := hm2.sl
  replace ma := ma.below b2
  replace mb := mb.below b2
  have B2 : Below w.heap.size w w2 := B1.trans (b2.mono B1.size)
  clear hm2 h' b2 B1
  go_wp2_with fail
  refine (implJoin_any aa ab ca cb la lb _ ma.max mb.max ma.cap mb.cap ma.row mb.row ma.smax mb.smax).mono ?_
  rintro e w3 ⟨⟨vj, lj, ok, rfl, hg3, hj⟩, b3⟩
  replace ma := ma.below b3
  replace mb := mb.below b3
  replace mc := mc.below b3
  have B3 : Below w.heap.size w w3 := B2.trans (b3.mono B2.size)
  obtain ⟨aj, cj, rfl, mj⟩ := mk_stamp hg3 hj.stamp
  clear hg3
  clear b3 B2
  go_wp2_with fail
  refine (specJoin_any aa ab ca cb la lb _ ma.max mb.max ma.row mb.row ma.smax mb.smax).mono ?_
  rintro e w4 ⟨⟨vj, lw, fits, rfl, hg4, hw⟩, b4⟩
  replace ma := ma.below b4
  replace mb := mb.below b4
  replace mc := mc.below b4
  replace mj := mj.below b4
  have B4 : Below w.heap.size w w4 := B3.trans (b4.mono B3.size)
  obtain ⟨rfl, rfl⟩ := hj.one hw
  obtain ⟨aw, cw, rfl, mw⟩ := mk_stamp hg4 hj.stamp
  clear hg4 hw
  clear b4 B3
  go_wp2_with fail
  refine (implJoin_any ab aa cb ca lb la _ mb.max ma.max mb.cap ma.cap mb.row ma.row mb.smax ma.smax).mono ?_
  rintro e w5 ⟨⟨vj, lk, also, rfl, hg5, hk⟩, b5⟩
  replace ma := ma.below b5
  replace mb := mb.below b5
  replace mc := mc.below b5
  replace mj := mj.below b5
  replace mw := mw.below b5
  have B5 : Below w.heap.size w w5 := B4.trans (b5.mono B4.size)
  obtain ⟨rfl, rfl⟩ := hj.comm.one hk
  obtain ⟨ak', ck, rfl, mk⟩ := mk_stamp hg5 hj.stamp
  clear hg5 hk
  clear b5 B4
  have HJ : Hid (IsJ la lb lj ok) := hj
  clear hj
  go_wp2_with fail
  refine (bsMarks_any aj aw cj cw lj lj _ mj.max mw.max mj.row mw.row).mono ?_
  rintro e w6 ⟨⟨q, rfl, hq⟩, b6⟩
  obtain rfl : q = true := hq.2 rfl
  replace ma := ma.below b6
  replace mb := mb.below b6
  replace mc := mc.below b6
  replace mj := mj.below b6
  replace mw := mw.below b6
  replace mk := mk.below b6
  have B6 : Below w.heap.size w w6 := B5.trans (b6.mono B5.size)
  clear b6 B5 hq
  go_wp2_with fail
  refine (bsMarks_any ak' aw ck cw lj lj _ mk.max mw.max mk.row mw.row).mono ?_
  rintro e w7 ⟨⟨q, rfl, hq⟩, b7⟩
  obtain rfl : q = true := hq.2 rfl
  replace ma := ma.below b7
  replace mb := mb.below b7
  replace mc := mc.below b7
  replace mj := mj.below b7
  have B7 : Below w.heap.size w w7 := B6.trans (b7.mono B6.size)
  clear b7 B6 hq mw mk
  cases ok
  · clear HJ
    go_wp2_with fail
    go_ret
    exact ⟨rfl, B7⟩
  have HU := join_above HJ.out
  have HF := HJ.out.fits
  go_wp2_with fail
  refine (implOrder_any aa aj ca cj la lj _ ma.max mj.max ma.cap mj.cap ma.row mj.row ma.smax mj.smax).mono ?_
  rintro e w8 ⟨⟨x, rfl, hx⟩, b8⟩
  replace ma := ma.below b8
  replace mb := mb.below b8
  replace mc := mc.below b8
  replace mj := mj.below b8
  have B8 : Below w.heap.size w w8 := B7.trans (b8.mono B7.size)
  have hx01 : x = 0 ∨ x = 1 := (ord_le hx).2 ⟨HF.1, HF.2.2.2, HU.1⟩
  clear hx
  clear b8 B7
  go_wp2_with fail
  refine (implOrder_any ab aj cb cj lb lj _ mb.max mj.max mb.cap mj.cap mb.row mj.row mb.smax mj.smax).mono ?_
  rintro e w9 ⟨⟨y, rfl, hy⟩, b9⟩
  replace ma := ma.below b9
  replace mb := mb.below b9
  replace mc := mc.below b9
  replace mj := mj.below b9
  have B9 : Below w.heap.size w w9 := B8.trans (b9.mono B8.size)
  have hy01 : y = 0 ∨ y = 1 := (ord_le hy).2 ⟨HF.2.1, HF.2.2.2, HU.2⟩
  clear hy
  clear b9 B8
  have HBC : Hid (∀ u v o, IsOrd la lc u → IsOrd lb lc v → IsOrd lj lc o → (u = 0 ∨ u = 1) → (v = 0 ∨ v = 1) → (o = 0 ∨ o = 1)) := fun u v o hu hv ho h1 h2 => by
    obtain ⟨_, hc, hac⟩ := (ord_le hu).1 h1
    obtain ⟨_, _, hbc⟩ := (ord_le hv).1 h2
    exact (ord_le ho).2 ⟨HF.2.2.2, hc, join_least HJ.out hc hac hbc⟩
  have HS : Hid (StampP lj) := HF.2.2.2
  clear HU HF
  rcases hx01 with rfl | rfl <;> rcases hy01 with rfl | rfl
  all_goals
    go_wp2_with fail
    refine (implJoin_any aj aj cj cj lj lj _ mj.max mj.max mj.cap mj.cap mj.row mj.row mj.smax mj.smax).mono ?_
    rintro e w10 ⟨⟨vs, ls, is, rfl, hg10, hs⟩, b10⟩
    replace ma := ma.below b10
    replace mb := mb.below b10
    replace mc := mc.below b10
    replace mj := mj.below b10
    have B10 : Below w.heap.size w w10 := B9.trans (b10.mono B9.size)
    obtain ⟨rfl, rfl⟩ := (IsJ.self HS.out).one hs
    obtain ⟨az, cs, rfl, ms⟩ := mk_stamp hg10 HS.out
    clear hg10 hs
    clear b10 B9
    go_wp2_with fail
    refine (bsMarks_any az aj cs cj lj lj _ ms.max mj.max ms.row mj.row).mono ?_
    rintro e w11 ⟨⟨q, rfl, hq⟩, b11⟩
    obtain rfl : q = true := hq.2 rfl
    replace ma := ma.below b11
    replace mb := mb.below b11
    replace mc := mc.below b11
    replace mj := mj.below b11
    have B11 : Below w.heap.size w w11 := B10.trans (b11.mono B10.size)
    clear b11 B10 hq ms
    go_wp2_with fail
    refine (specOrder_any aa ac ca cc la lc _ ma.max mc.max ma.row mc.row ma.smax mc.smax).mono ?_
    rintro e w12 ⟨⟨u, rfl, hu⟩, b12⟩
    replace ma := ma.below b12
    replace mb := mb.below b12
    replace mc := mc.below b12
    replace mj := mj.below b12
    have B12 : Below w.heap.size w w12 := B11.trans (b12.mono B11.size)
    have HOU : Hid (IsOrd la lc u) := hu
    clear hu
    clear b12 B11
    go_wp2_with fail
    refine (specOrder_any ab ac cb cc lb lc _ mb.max mc.max mb.row mc.row mb.smax mc.smax).mono ?_
    rintro e w13 ⟨⟨v, rfl, hv⟩, b13⟩
    replace ma := ma.below b13
    replace mb := mb.below b13
    replace mc := mc.below b13
    replace mj := mj.below b13
    have B13 : Below w.heap.size w w13 := B12.trans (b13.mono B12.size)
    have HOV : Hid (IsOrd lb lc v) := hv
    clear hv
    clear b13 B12
    by_cases hu01 : u = 0 ∨ u = 1
    · by_cases hv01 : v = 0 ∨ v = 1
      · have HO : Hid (∀ o, IsOrd lj lc o → (o = 0 ∨ o = 1)) := fun o ho => HBC.out u v o HOU.out HOV.out ho hu01 hv01
        clear HOU HOV HBC
        rcases hu01 with rfl | rfl <;> rcases hv01 with rfl | rfl
        all_goals
          go_wp2_with fail
          refine (implOrder_any aj ac cj cc lj lc _ mj.max mc.max mj.cap mc.cap mj.row mc.row mj.smax mc.smax).mono ?_
          rintro e w14 ⟨⟨o, rfl, ho⟩, b14⟩
          replace ma := ma.below b14
          replace mb := mb.below b14
          replace mc := mc.below b14
          replace mj := mj.below b14
          have B14 : Below w.heap.size w w14 := B13.trans (b14.mono B13.size)
          have ho01 := HO.out o ho
          clear ho HO
          clear b14 B13
          rcases ho01 with rfl | rfl
          all_goals
            go_wp2_with fail
            refine (implJoin_any aj ac cj cc lj lc _ mj.max mc.max mj.cap mc.cap mj.row mc.row mj.smax mc.smax).mono ?_
            rintro e w15 ⟨⟨vl, ll, left, rfl, hg15, hl⟩, b15⟩
            replace ma := ma.below b15
            replace mb := mb.below b15
            replace mc := mc.below b15
            replace mj := mj.below b15
            have B15 : Below w.heap.size w w15 := B14.trans (b15.mono B14.size)
            obtain ⟨al, cl, rfl, ml⟩ := mk_stamp hg15 hl.stamp
            have HL : Hid (IsJ lj lc ll left) := hl
            clear hg15 hl
            clear b15 B14
            go_wp2_with fail
            refine (implJoin_any ab ac cb cc lb lc _ mb.max mc.max mb.cap mc.cap mb.row mc.row mb.smax mc.smax).mono ?_
            rintro e w16 ⟨⟨vm, lm, mid, rfl, hg16, hm⟩, b16⟩
            replace ma := ma.below b16
            replace mb := mb.below b16
            replace mc := mc.below b16
            replace mj := mj.below b16
            replace ml := ml.below b16
            have B16 : Below w.heap.size w w16 := B15.trans (b16.mono B15.size)
            obtain ⟨am, cm, rfl, mm⟩ := mk_stamp hg16 hm.stamp
            have HM : Hid (IsJ lb lc lm mid) := hm
            clear hg16 hm
            clear b16 B15
            cases mid
            · obtain rfl : left = false := join_two HJ.out HL.out HM.out
              clear HL HM HJ
              go_wp2_with fail
              go_ret
              exact ⟨rfl, B16⟩
            go_wp2_with fail
            refine (implJoin_any aa am ca cm la lm _ ma.max mm.max ma.cap mm.cap ma.row mm.row ma.smax mm.smax).mono ?_
            rintro e w17 ⟨⟨vr, lr, right, rfl, hg17, hr⟩, b17⟩
            replace ml := ml.below b17
            have B17 : Below w.heap.size w w17 := B16.trans (b17.mono B16.size)
            obtain ⟨ar, cr, rfl, mr⟩ := mk_stamp hg17 hr.stamp
            obtain ⟨rfl, rfl⟩ := (join_three HJ.out HL.out HM.out hr).2 rfl
            clear hg17 hr HL HM HJ
            clear b17 B16
            go_wp2_with fail
            refine (bsMarks_any al ar cl cr ll ll _ ml.max mr.max ml.row mr.row).mono ?_
            rintro e w18 ⟨⟨q, rfl, hq⟩, b18⟩
            obtain rfl : q = true := hq.2 rfl
            have B18 : Below w.heap.size w w18 := B17.trans (b18.mono B17.size)
            clear b18 B17 hq
            go_wp2_with fail
            go_ret
            exact ⟨rfl, B18⟩
      · have v0 : (v == 0) = false := by simp; omega
        have v1 : (v == 1) = false := by simp; omega
        clear hv01 HOU HOV
        rcases hu01 with rfl | rfl
        all_goals
          go_wp2_with fail
          refine (implJoin_any aj ac cj cc lj lc _ mj.max mc.max mj.cap mc.cap mj.row mc.row mj.smax mc.smax).mono ?_
          rintro e w15 ⟨⟨vl, ll, left, rfl, hg15, hl⟩, b15⟩
          replace ma := ma.below b15
          replace mb := mb.below b15
          replace mc := mc.below b15
          replace mj := mj.below b15
          have B15 : Below w.heap.size w w15 := B13.trans (b15.mono B13.size)
          obtain ⟨al, cl, rfl, ml⟩ := mk_stamp hg15 hl.stamp
          have HL : Hid (IsJ lj lc ll left) := hl
          clear hg15 hl
          clear b15 B13
          go_wp2_with fail
          refine (implJoin_any ab ac cb cc lb lc _ mb.max mc.max mb.cap mc.cap mb.row mc.row mb.smax mc.smax).mono ?_
          rintro e w16 ⟨⟨vm, lm, mid, rfl, hg16, hm⟩, b16⟩
          replace ma := ma.below b16
          replace mb := mb.below b16
          replace mc := mc.below b16
          replace mj := mj.below b16
          replace ml := ml.below b16
          have B16 : Below w.heap.size w w16 := B15.trans (b16.mono B15.size)
          obtain ⟨am, cm, rfl, mm⟩ := mk_stamp hg16 hm.stamp
          have HM : Hid (IsJ lb lc lm mid) := hm
          clear hg16 hm
          clear b16 B15
          cases mid
          · obtain rfl : left = false := join_two HJ.out HL.out HM.out
            clear HL HM HJ HBC
            go_wp2_with fail
            go_ret
            exact ⟨rfl, B16⟩
          go_wp2_with fail
          refine (implJoin_any aa am ca cm la lm _ ma.max mm.max ma.cap mm.cap ma.row mm.row ma.smax mm.smax).mono ?_
          rintro e w17 ⟨⟨vr, lr, right, rfl, hg17, hr⟩, b17⟩
          replace ml := ml.below b17
          have B17 : Below w.heap.size w w17 := B16.trans (b17.mono B16.size)
          obtain ⟨ar, cr, rfl, mr⟩ := mk_stamp hg17 hr.stamp
          obtain ⟨rfl, rfl⟩ := (join_three HJ.out HL.out HM.out hr).2 rfl
          clear hg17 hr HL HM HJ HBC
          clear b17 B16
          go_wp2_with fail
          refine (bsMarks_any al ar cl cr ll ll _ ml.max mr.max ml.row mr.row).mono ?_
          rintro e w18 ⟨⟨q, rfl, hq⟩, b18⟩
          obtain rfl : q = true := hq.2 rfl
          have B18 : Below w.heap.size w w18 := B17.trans (b18.mono B17.size)
          clear b18 B17 hq
          go_wp2_with fail
          go_ret
          exact ⟨rfl, B18⟩
    · have u0 : (u == 0) = false := by simp; omega
      have u1 : (u == 1) = false := by simp; omega
      clear hu01 HOU HOV
      go_wp2_with fail
      refine (implJoin_any aj ac cj cc lj lc _ mj.max mc.max mj.cap mc.cap mj.row mc.row mj.smax mc.smax).mono ?_
      rintro e w15 ⟨⟨vl, ll, left, rfl, hg15, hl⟩, b15⟩
      replace ma := ma.below b15
      replace mb := mb.below b15
      replace mc := mc.below b15
      replace mj := mj.below b15
      have B15 : Below w.heap.size w w15 := B13.trans (b15.mono B13.size)
      obtain ⟨al, cl, rfl, ml⟩ := mk_stamp hg15 hl.stamp
      have HL : Hid (IsJ lj lc ll left) := hl
      clear hg15 hl
      clear b15 B13
      go_wp2_with fail
      refine (implJoin_any ab ac cb cc lb lc _ mb.max mc.max mb.cap mc.cap mb.row mc.row mb.smax mc.smax).mono ?_
      rintro e w16 ⟨⟨vm, lm, mid, rfl, hg16, hm⟩, b16⟩
      replace ma := ma.below b16
      replace mb := mb.below b16
      replace mc := mc.below b16
      replace mj := mj.below b16
      replace ml := ml.below b16
      have B16 : Below w.heap.size w w16 := B15.trans (b16.mono B15.size)
      obtain ⟨am, cm, rfl, mm⟩ := mk_stamp hg16 hm.stamp
      have HM : Hid (IsJ lb lc lm mid) := hm
      clear hg16 hm
      clear b16 B15
      cases mid
      · obtain rfl : left = false := join_two HJ.out HL.out HM.out
        clear HL HM HJ HBC
        go_wp2_with fail
        go_ret
        exact ⟨rfl, B16⟩
      go_wp2_with fail
      refine (implJoin_any aa am ca cm la lm _ ma.max mm.max ma.cap mm.cap ma.row mm.row ma.smax mm.smax).mono ?_
      rintro e w17 ⟨⟨vr, lr, right, rfl, hg17, hr⟩, b17⟩
      replace ml := ml.below b17
      have B17 : Below w.heap.size w w17 := B16.trans (b17.mono B16.size)
      obtain ⟨ar, cr, rfl, mr⟩ := mk_stamp hg17 hr.stamp
      obtain ⟨rfl, rfl⟩ := (join_three HJ.out HL.out HM.out hr).2 rfl
      clear hg17 hr HL HM HJ HBC
      clear b17 B16
      go_wp2_with fail
      refine (bsMarks_any al ar cl cr ll ll _ ml.max mr.max ml.row mr.row).mono ?_
      rintro e w18 ⟨⟨q, rfl, hq⟩, b18⟩
      obtain rfl : q = true := hq.2 rfl
      have B18 : Below w.heap.size w w18 := B17.trans (b18.mono B17.size)
      clear b18 B17 hq
      go_wp2_with fail
      go_ret
      exact ⟨rfl, B18⟩

end Go.Proofs.Ytpfhegengmlkmaa
