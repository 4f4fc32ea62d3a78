/- Walk: impl.ChoiceAgrees. -/
import Derived.Test.YtpfhegengmlkmacChN
namespace Go.Proofs.Ytpfhegengmlkmac
open Go.RowKit Go.BigFrame
set_option maxRecDepth 100000

theorem chB_new {W0 w : World} {a1 a2 : Option Addr} {c1 c2 : Nat} {ws : List (List ItemL)} {sh : List (List Spot)} (hv : RowV W0 w a1 ws) (hg : RowG w a2 sh) (h1 : ws.length ≤ c1) (h2 : sh.length ≤ c2) : ChB W0 (w.alloc (.cells #[.slice a1 ws.length c1, .slice a2 sh.length c2] 90)) w.heap.size ws sh :=
  have hb : Below w.heap.size w (w.alloc (.cells #[.slice a1 ws.length c1, .slice a2 sh.length c2] 90)) := (Below.refl _ _).alloc (Nat.le_refl _) _
  ⟨box_lt _ _, a1, c1, a2, c2, box0 _ _ _ _, h1, box1 _ _ _ _, h2, hv.below hb, hg.below hb⟩

set_option maxHeartbeats 800000 in
theorem implChA_any (a a' : Option Addr) (cap cap' : Nat) (ws : List (List ItemL)) (ps : List Int) (w : World) (hf : FitW ws) (hr : RowW w a ws) (hp : ps.length ≤ maxLen) (hr' : RowZ w a' ps) :
    Calls Try.prog 19 #[.slice a ws.length cap, .slice a' ps.length cap'] w fun e w' => IsB (ChP ws ps) e ∧ Below w.heap.size w w' := by
  go_enter Try.func19, Try.ntmps19
  go_wp2_with fail
  refine (readChoices_any a cap ws _ hf hr).mono ?_
  rintro e w1 ⟨hE, b1⟩
  have hr1 := hr'.below b1
  rcases hE with ⟨a1, c1, a2, c2, sh, rfl, hok, hc1, hc2, hrv, hrg, hsw⟩ | ⟨rfl, hno⟩
  · have HOK : Hid (OkW ws) := hok
    have HSW : Hid (ShW ws sh) := hsw
    clear hok hsw
    have hcb := chB_new hrv hrg hc1 hc2
    have hbx : Below w1.heap.size w1 (w1.alloc (.cells #[.slice a1 ws.length c1, .slice a2 sh.length c2] 90)) := (Below.refl _ _).alloc (Nat.le_refl _) _
    have BX : Below w.heap.size w (w1.alloc (.cells #[.slice a1 ws.length c1, .slice a2 sh.length c2] 90)) := b1.trans (hbx.mono b1.size)
    have hrx := hr1.below hbx
    go_wp2_with fail
    generalize w1.alloc (.cells #[.slice a1 ws.length c1, .slice a2 sh.length c2] 90) = W at *
    refine (has_any w W w1.heap.size ws sh a' cap' ps hcb HOK.out.2.1 hp hrx).mono ?_
    rintro e w2 ⟨⟨r, rfl, hr2⟩, b2⟩
    have HR : Hid (r = true ↔ ps.length = ws.length ∧ InW ws ps) := hr2
    clear hr2
    have B2 : Below w.heap.size w w2 := BX.trans (b2.mono BX.size)
    cases r with
    | false =>
      have HN : Hid (¬ ChP ws ps) := fun h => by have := HR.out.2 ⟨h.2.1, h.2.2.1⟩; simp at this
      go_wp2_with fail
      go_ret
      exact ⟨isB_false HN.out, B2⟩
    | true =>
      have hh := HR.out.1 rfl
      have HIN : Hid (InW ws ps) := hh.2
      have HLEN : Hid (ps.length = ws.length) := hh.1
      clear HR hh
      go_wp2_with fail
      refine (agrees_any w w2 w1.heap.size ws sh a' cap' ps (hcb.below b2) B2 HOK.out HLEN.out HIN.out (hrx.below b2) HSW.out).mono ?_
      rintro e w3 ⟨⟨r, rfl, hr3⟩, b3⟩
      have HR : Hid (r = true ↔ ChP ws ps) := hr3.trans ⟨fun h => ⟨HOK.out, HLEN.out, HIN.out, h⟩, fun h => h.2.2.2⟩
      clear hr3
      go_wp2_with fail
      go_ret
      exact ⟨⟨r, rfl, HR.out⟩, B2.trans (b3.mono B2.size)⟩
  · have HN : Hid (¬ ChP ws ps) := fun h => hno h.1
    clear hno
    go_wp2_with fail
    go_ret
    exact ⟨isB_false HN.out, b1.alloc b1.size _⟩

end Go.Proofs.Ytpfhegengmlkmac
