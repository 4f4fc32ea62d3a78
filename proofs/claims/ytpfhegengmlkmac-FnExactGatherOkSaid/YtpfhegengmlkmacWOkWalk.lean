/- The walk of impl.WindowOk and of the law FnExactWindowOk. -/
import Derived.Test.YtpfhegengmlkmacWinL
import Derived.Test.YtpfhegengmlkmacItD
import Derived.Test.YtpfhegengmlkmacItE
namespace Go.Proofs.Ytpfhegengmlkmac
open Go.RowKit Go.BigFrame
set_option maxRecDepth 100000

theorem fit_small {l : List ItemL} (h : SmallI 1048576 l) : l.length ≤ 1048576 ∧ ∀ j, (hj : j < l.length) → l[j].2.length ≤ 1048576 := ⟨by have := h.1; omega, fun j hj => by have := (h.2 j hj).1; omega⟩

set_option maxHeartbeats 800000 in
theorem implWinOk_any (a : Option Addr) (cap : Nat) (l : List ItemL) (w : World) (hf : FitI l) (hr : RowI w a l) :
    Calls Try.prog 77 #[.slice a l.length cap] w fun e w' => IsB (WinP l) e ∧ Below w.heap.size w w' := by
  go_enter Try.func77, Try.ntmps77
  go_wp2_with fail
  refine (readWindow_any a cap l _ hf hr).mono ?_
  rintro e w1 ⟨hE, b1⟩
  rcases hE with ⟨v, rfl, hp, hv⟩ | ⟨v, rfl, hp, hv⟩
  · have HP : Hid (WinP l) := hp
    clear hp
    obtain ⟨x0, x1, x2, x3, a0, a1, a2, a3, n0, n1, n2, n3, c0, c1, c2, c3, rfl, _⟩ := hv.laid
    go_wp2_with fail
    go_ret
    exact ⟨isB_true HP.out, b1.alloc b1.size _⟩
  · have HP : Hid (¬ WinP l) := hp
    clear hp
    obtain ⟨x0, x1, x2, x3, a0, a1, a2, a3, n0, n1, n2, n3, c0, c1, c2, c3, rfl, _⟩ := hv.laid
    go_wp2_with fail
    go_ret
    exact ⟨isB_false HP.out, b1.alloc b1.size _⟩

end Go.Proofs.Ytpfhegengmlkmac
