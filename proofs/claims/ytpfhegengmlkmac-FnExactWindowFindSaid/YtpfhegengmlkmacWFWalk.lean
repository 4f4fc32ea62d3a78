/- The walk of the law FnExactWindowFind. -/
import Derived.Test.YtpfhegengmlkmacWinF
import Derived.Test.YtpfhegengmlkmacItD
import Derived.Test.YtpfhegengmlkmacItE
namespace Go.Proofs.Ytpfhegengmlkmac
open Go.RowKit Go.BigFrame
set_option maxRecDepth 100000

theorem fit_smallF {l : List ItemL} (h : SmallI 1048576 l) : l.length ≤ 1048576 ∧ ∀ j, (hj : j < l.length) → l[j].2.length ≤ 1048576 := ⟨by have := h.1; omega, fun j hj => by have := (h.2 j hj).1; omega⟩

set_option maxHeartbeats 1600000 in
theorem lawWFind_any (a : Option Addr) (cap : Nat) (l : List ItemL) (s : ByteArray) (n : Int) (w : World) (hf : FitI l) (hr : RowI w a l) :
    Calls Try.prog 3 #[.slice a l.length cap, .string s, .int .i64 n] w fun e w' => e = .returned (.bool true) ∧ Below w.heap.size w w' := by
  by_cases hbig : 1048576 < (s.size : Int)
  · go_enter Try.func3, Try.ntmps3
    go_wp2_with fail
    go_ret
    exact ⟨rfl, Below.refl _ _⟩
  go_enter Try.func3, Try.ntmps3
  go_wp2_with fail
  refine (szItemS_any a cap l 1048576 _ hr hf (by omega) (by omega)).mono ?_
  rintro e w1 ⟨r, rfl, hr0, hr1, hr2, hb1⟩
  have HR2 : Hid (0 ≤ r → SmallI 1048576 l) := hr2
  clear hr2
  by_cases hneg : r < 0
  · go_wp2_with fail
    go_ret
    exact ⟨rfl, hb1⟩
  obtain ⟨hL, hS⟩ := fit_smallF (HR2.out (by omega))
  clear HR2
  go_wp2_with fail
  refine (toItemS_any a cap l _ hL hS (hr.below hb1)).mono ?_
  rintro e w2 ⟨rfl, hp2, hb2⟩
  have B2 : Below w.heap.size w w2 := hb1.trans (hb2.mono hb1.size)
  go_wp2_with fail
  refine (specFind_any _ _ l s n _ hf hp2.row).mono ?_
  rintro e w3 ⟨⟨r1, rfl, hr1⟩, hb3⟩
  have HR1 : Hid (IsF l s n r1) := hr1
  clear hr1
  have B3 : Below w.heap.size w w3 := B2.trans (hb3.mono B2.size)
  go_wp2_with fail
  refine (toItemS_any a cap l _ hL hS (hr.below B3)).mono ?_
  rintro e w4 ⟨rfl, hp4, hb4⟩
  have B4 : Below w.heap.size w w4 := B3.trans (hb4.mono B3.size)
  go_wp2_with fail
  refine (implFind_any _ _ l s n _ hf hp4.row).mono ?_
  rintro e w5 ⟨⟨r2, rfl, hr2'⟩, hb5⟩
  obtain rfl : r1 = r2 := HR1.out.one hr2'
  clear hr2' HR1
  have B5 : Below w.heap.size w w5 := B4.trans (hb5.mono B4.size)
  go_wp2_with fail
  refine (toItemS_any a cap l _ hL hS (hr.below B5)).mono ?_
  rintro e w6 ⟨rfl, hp6, hb6⟩
  have B6 : Below w.heap.size w w6 := B5.trans (hb6.mono B5.size)
  go_wp2_with fail
  refine (eqItemS_same _ _ _ _ l _ hf ((hp4.below hb5).below hb6).row hp6.row).mono ?_
  rintro e w7 ⟨rfl, hb7⟩
  go_wp2_with fail
  go_ret
  exact ⟨rfl, B6.trans (hb7.mono B6.size)⟩

end Go.Proofs.Ytpfhegengmlkmac
