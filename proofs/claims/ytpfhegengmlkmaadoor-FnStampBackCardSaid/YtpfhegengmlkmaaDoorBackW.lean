/- The walk of the law FnStampBack. -/
import Derived.Test.YtpfhegengmlkmaaDoorDraw7
import Derived.Test.YtpfhegengmlkmaaDoorTxI
import Derived.Test.YtpfhegengmlkmaaDoorRdI4
import Derived.Test.YtpfhegengmlkmaaDoorBs
namespace Go.Proofs.YtpfhegengmlkmaaDoor
open Go.RowKit Go.BigFrame
set_option maxRecDepth 100000

theorem mks_row {w : World} {B : Nat} {v : Value} {l : List (ByteArray × Int)} (h : Mks w B v l) : ∃ a c, v = .slice a l.length c ∧ Row w a l ∧ l.length ≤ maxLen ∧ ∀ j, (hj : j < l.length) → l[j].1.size ≤ maxLen := by
  obtain ⟨a, c, hv, hr⟩ := h.g.shape
  exact ⟨a, c, hv, hr, by have := h.len; unfold maxLen; omega, fun j hj => by have := h.size _ (List.getElem_mem hj); unfold maxLen; omega⟩
theorem stamp_row {w : World} {B : Nat} {v : Value} {l : List (ByteArray × Int)} (h : Gath w B v l) (hs : StampP l) : ∃ a c, v = .slice a l.length c ∧ Row w a l ∧ l.length ≤ maxLen ∧ ∀ j, (hj : j < l.length) → l[j].1.size ≤ maxLen := by
  obtain ⟨a, c, hv, hr⟩ := h.shape
  exact ⟨a, c, hv, hr, by have := hs.1; unfold maxLen; omega, fun j hj => by have := (hs.2.1 j hj).1.2.1; unfold maxLen; omega⟩

set_option maxRecDepth 100000 in
set_option maxHeartbeats 3200000 in
theorem lawBack_any (ak : Option Addr) (n c : Nat) (at_ : Option Addr) (n' c' : Nat) (w : World) (h : Bytes w ak n c) (hn : n ≤ maxLen) (h' : Bytes w at_ n' c') (hn' : n' ≤ maxLen) (ht : Tab w) :
    Calls Tryd.prog 3 #[.slice ak n c, .slice at_ n' c'] w fun e w' => e = .returned (.bool true) ∧ Below w.heap.size w w' := by
  unfold maxLen at hn hn'
  go_enter Tryd.func3, Tryd.ntmps3
  by_cases hbig : 1048576 < n
  · have hbig' : decide ((1048576 : Int) < (n : Int)) = true := by simp; omega
    go_wp2_with fail
    go_ret
    exact ⟨rfl, Below.refl _ _⟩
  have hbig' : decide ((1048576 : Int) < (n : Int)) = false := by simp; omega
  by_cases hbig2 : 1048576 < n'
  · have hbig2' : decide ((1048576 : Int) < (n' : Int)) = true := by simp; omega
    go_wp2_with fail
    go_ret
    exact ⟨rfl, Below.refl _ _⟩
  have hbig2' : decide ((1048576 : Int) < (n' : Int)) = false := by simp; omega
  go_wp2_with fail
  refine (drawText_any ak n c _ h).mono ?_
  rintro e w1 ⟨⟨va, la, rfl, hm1⟩, B1⟩
  obtain ⟨aa, ca, rfl, ra, xa, ya⟩ := mks_row hm1
  replace h' := h'.below B1
  clear hm1 h
  go_wp2_with fail
  refine (implText_any aa ca la _ xa ra ya (ht.below B1)).mono ?_
  rintro e w2 ⟨⟨s, rfl, hs⟩, b2⟩
  have HS : Hid (IsTx la s) := hs
  replace ra := ra.below b2
  replace h' := h'.below b2
  have B2 : Below w.heap.size w w2 := B1.trans (b2.mono B1.size)
  clear b2 B1 hs
  go_wp2_with fail
  refine (specText_any aa ca la _ xa ra ya).mono ?_
  rintro e w3 ⟨⟨s', rfl, hs'⟩, b3⟩
  obtain rfl := HS.out.one hs'
  replace ra := ra.below b3
  replace h' := h'.below b3
  have B3 : Below w.heap.size w w3 := B2.trans (b3.mono B2.size)
  have hz := isTx_size HS.out
  clear b3 B2 hs'
  go_wp2_with fail
  refine (implRead_any s _ (by omega)).mono ?_
  rintro e w4 ⟨⟨vu, lu, ok, rfl, hg4, hr4⟩, b4⟩
  obtain ⟨au, cu, rfl, ru, xu, yu⟩ := stamp_row hg4 hr4.stamp
  have HTB : Hid ((ok = true ↔ StampP la) ∧ (ok = true → lu = la)) := text_back HS.out hr4
  replace ra := ra.below b4
  replace h' := h'.below b4
  have B4 : Below w.heap.size w w4 := B3.trans (b4.mono B3.size)
  clear b4 B3 hg4 hr4
  go_wp2_with fail
  refine (specOk_b aa ca la _ xa ra ya).mono ?_
  rintro e w5 ⟨⟨r, rfl, hr5⟩, b5⟩
  obtain rfl : r = ok := by rw [Bool.eq_iff_iff, hr5, HTB.out.1]
  replace ra := ra.below b5
  replace ru := ru.below b5
  replace h' := h'.below b5
  have B5 : Below w.heap.size w w5 := B4.trans (b5.mono B4.size)
  clear b5 B4 hr5
  cases r
  · clear HTB HS
    go_wp2_with fail
    refine (drawRead_any at_ n' c' _ h').mono ?_
    rintro e w7 ⟨⟨x, rfl, hx⟩, b7⟩
    have B7 : Below w.heap.size w w7 := B5.trans (b7.mono B5.size)
    clear b7 h'
    go_wp2_with fail
    refine (implRead_any x _ hx).mono ?_
    rintro e w8 ⟨⟨vv, lv, is, rfl, hg8, hr8⟩, b8⟩
    obtain ⟨av, cv, rfl, rv, xv, yv⟩ := stamp_row hg8 hr8.stamp
    have B8 : Below w.heap.size w w8 := B7.trans (b8.mono B7.size)
    clear b8 hg8
    go_wp2_with fail
    refine (specRead_any x _ hx).mono ?_
    rintro e w9 ⟨⟨vw, lw, also, rfl, hg9, hr9⟩, b9⟩
    obtain ⟨rfl, rfl⟩ := hr8.one hr9
    obtain ⟨aw, cw, rfl, rw', xw, yw⟩ := stamp_row hg9 hr8.stamp
    replace rv := rv.below b9
    have B9 : Below w.heap.size w w9 := B8.trans (b9.mono B8.size)
    have HR : Hid (IsR x lv is) := hr8
    clear b9 hg9 hr8 hr9 B8 B7
    go_wp2_with fail
    refine (bsMarks_any av aw cv cw lv lv _ xv xw rv rw').mono ?_
    rintro e w10 ⟨⟨q, rfl, hq⟩, b10⟩
    obtain rfl : q = true := hq.2 rfl
    replace rv := rv.below b10
    have B10 : Below w.heap.size w w10 := B9.trans (b10.mono B9.size)
    clear b10 hq rw'
    cases is
    · clear HR
      go_wp2_with fail
      go_ret
      exact ⟨rfl, B10⟩
    go_wp2_with fail
    refine (implText_any av cv lv _ xv rv yv (ht.below B10)).mono ?_
    rintro e w11 ⟨⟨z, rfl, hz11⟩, b11⟩
    obtain rfl := read_back HR.out hz11
    have B11 : Below w.heap.size w w11 := B10.trans (b11.mono B10.size)
    clear HR hz11 b11
    go_wp2_with fail
    go_ret
    exact ⟨by simp, B11⟩
  obtain rfl : lu = la := HTB.out.2 rfl
  clear HTB HS
  go_wp2_with fail
  refine (bsMarks_any au aa cu ca lu lu _ xu xa ru ra).mono ?_
  rintro e w6 ⟨⟨q, rfl, hq⟩, b6⟩
  obtain rfl : q = true := hq.2 rfl
  replace h' := h'.below b6
  have B6 : Below w.heap.size w w6 := B5.trans (b6.mono B5.size)
  clear b6 hq ra ru B5
  go_wp2_with fail
  refine (drawRead_any at_ n' c' _ h').mono ?_
  rintro e w7 ⟨⟨x, rfl, hx⟩, b7⟩
  have B7 : Below w.heap.size w w7 := B6.trans (b7.mono B6.size)
  clear b7 h'
  go_wp2_with fail
  refine (implRead_any x _ hx).mono ?_
  rintro e w8 ⟨⟨vv, lv, is, rfl, hg8, hr8⟩, b8⟩
  obtain ⟨av, cv, rfl, rv, xv, yv⟩ := stamp_row hg8 hr8.stamp
  have B8 : Below w.heap.size w w8 := B7.trans (b8.mono B7.size)
  clear b8 hg8
  go_wp2_with fail
  refine (specRead_any x _ hx).mono ?_
  rintro e w9 ⟨⟨vw, lw, also, rfl, hg9, hr9⟩, b9⟩
  obtain ⟨rfl, rfl⟩ := hr8.one hr9
  obtain ⟨aw, cw, rfl, rw', xw, yw⟩ := stamp_row hg9 hr8.stamp
  replace rv := rv.below b9
  have B9 : Below w.heap.size w w9 := B8.trans (b9.mono B8.size)
  have HR : Hid (IsR x lv is) := hr8
  clear b9 hg9 hr8 hr9 B8 B7
  go_wp2_with fail
  refine (bsMarks_any av aw cv cw lv lv _ xv xw rv rw').mono ?_
  rintro e w10 ⟨⟨q, rfl, hq⟩, b10⟩
  obtain rfl : q = true := hq.2 rfl
  replace rv := rv.below b10
  have B10 : Below w.heap.size w w10 := B9.trans (b10.mono B9.size)
  clear b10 hq rw'
  cases is
  · clear HR
    go_wp2_with fail
    go_ret
    exact ⟨rfl, B10⟩
  go_wp2_with fail
  refine (implText_any av cv lv _ xv rv yv (ht.below B10)).mono ?_
  rintro e w11 ⟨⟨z, rfl, hz11⟩, b11⟩
  obtain rfl := read_back HR.out hz11
  have B11 : Below w.heap.size w w11 := B10.trans (b11.mono B10.size)
  clear HR hz11 b11
  go_wp2_with fail
  go_ret
  exact ⟨by simp, B11⟩

end Go.Proofs.YtpfhegengmlkmaaDoor
