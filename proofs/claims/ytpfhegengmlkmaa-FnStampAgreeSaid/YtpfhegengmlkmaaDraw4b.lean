/- Walks: DrawStampJoin, DrawStampAgree. -/
import Derived.Test.YtpfhegengmlkmaaDraw4
namespace Go.Proofs.Ytpfhegengmlkmaa
open Go.RowKit Go.BigFrame
set_option maxRecDepth 100000

set_option maxHeartbeats 800000 in
theorem drawJoin_any (ab : Option Addr) (n c : Nat) (w : World) (h : Bytes w ab n c) :
    Calls Try.prog 9 #[.slice ab n c] w fun e w' => (∃ va la vb lb, e = .returned (.tuple #[va, vb]) ∧ Mks w' w.heap.size va la ∧ Mks w' w.heap.size vb lb) ∧ Below w.heap.size w w' := by
  go_enter Try.func9, Try.ntmps9
  go_wp2_with fail
  refine (l1Open_any ab n c _ h).mono ?_
  rintro e w1 ⟨⟨m, rfl, hr1⟩, hb1⟩
  have hR := hr1.lt
  go_wp2_with fail
  refine (l6Marks_mks _ m c 0 ab _ hr1 (by omega)).mono ?_
  rintro e w2 ⟨⟨va, la, p2, rfl, hm2, hl2, hr2, hp2⟩, hb2⟩
  go_wp2_with fail
  refine (l6Marks_mks _ m c p2 ab _ hr2 (by omega)).mono ?_
  rintro e w3 ⟨⟨vb, lb, p3, rfl, hm3, hl3, hr3, hp3⟩, hb3⟩
  have z2 := hb2.size
  have HF : Hid ((∃ va' la' vb' lb', Ending.returned (.tuple #[va, vb]) = .returned (.tuple #[va', vb']) ∧ Mks w3 w.heap.size va' la' ∧ Mks w3 w.heap.size vb' lb') ∧ Below w.heap.size w w3) :=
    ⟨⟨va, la, vb, lb, rfl, (hm2.but hb3 hR).lower (by omega), hm3.lower (by omega)⟩, hb1.trans ((hb2.trans hb3).below (Nat.le_refl _) (by omega))⟩
  clear hb1 hb2 hb3 hr1 hr2 hr3 hm2 hm3 h
  go_wp2_with fail
  exact bodyPost_ret (v := .tuple #[va, vb]) (by simp [results, Try.results9, go_sem]) rfl HF.out

set_option maxHeartbeats 800000 in
theorem drawAgree_any (ab : Option Addr) (n c : Nat) (w : World) (h : Bytes w ab n c) :
    Calls Try.prog 18 #[.slice ab n c] w fun e w' => (∃ va la vb lb, e = .returned (.tuple #[va, vb]) ∧ Mks w' w.heap.size va la ∧ Mks w' w.heap.size vb lb) ∧ Below w.heap.size w w' := by
  go_enter Try.func18, Try.ntmps18
  go_wp2_with fail
  refine (l1Open_any ab n c _ h).mono ?_
  rintro e w1 ⟨⟨m, rfl, hr1⟩, hb1⟩
  have hR := hr1.lt
  go_wp2_with fail
  refine (l6Marks_mks _ m c 0 ab _ hr1 (by omega)).mono ?_
  rintro e w2 ⟨⟨va, la, p2, rfl, hm2, hl2, hr2, hp2⟩, hb2⟩
  go_wp2_with fail
  refine (l6Marks_mks _ m c p2 ab _ hr2 (by omega)).mono ?_
  rintro e w3 ⟨⟨vb, lb, p3, rfl, hm3, hl3, hr3, hp3⟩, hb3⟩
  have z2 := hb2.size
  have HF : Hid ((∃ va' la' vb' lb', Ending.returned (.tuple #[va, vb]) = .returned (.tuple #[va', vb']) ∧ Mks w3 w.heap.size va' la' ∧ Mks w3 w.heap.size vb' lb') ∧ Below w.heap.size w w3) :=
    ⟨⟨va, la, vb, lb, rfl, (hm2.but hb3 hR).lower (by omega), hm3.lower (by omega)⟩, hb1.trans ((hb2.trans hb3).below (Nat.le_refl _) (by omega))⟩
  clear hb1 hb2 hb3 hr1 hr2 hr3 hm2 hm3 h
  go_wp2_with fail
  exact bodyPost_ret (v := .tuple #[va, vb]) (by simp [results, Try.results18, go_sem]) rfl HF.out

end Go.Proofs.Ytpfhegengmlkmaa
