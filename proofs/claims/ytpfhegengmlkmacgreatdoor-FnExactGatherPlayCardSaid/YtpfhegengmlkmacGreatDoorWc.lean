/- Walks: eqMark, eqMarkS at two rows of the same marks. -/
import Derived.Test.YtpfhegengmlkmacGreatDoorWb
import Derived.Test.YtpfhegengmlkmacGreatDoorLat
namespace Go.Proofs.YtpfhegengmlkmacGreatDoor
open Go.RowKit Go.BigFrame

set_option maxHeartbeats 400000 in
theorem eqMark_same (s : ByteArray) (u : Int) (w : World) :
    Calls Tryz.prog 102 #[.agg #[.string s, .int .i64 u], .agg #[.string s, .int .i64 u]] w fun e w' => e = .returned (.bool true) ∧ Below w.heap.size w w' := by
  go_enter Tryz.func102, Tryz.ntmps102
  go_wp2
  go_ret
  exact ⟨rfl, ((Below.refl _ _).alloc (Nat.le_refl _) _).alloc (by simp) _⟩

set_option maxHeartbeats 400000 in
theorem eqMarkS_same (a b : Option Addr) (ca cb : Nat) (l : List (ByteArray × Int)) (w : World) (hl : l.length ≤ maxLen) (ha : Row w a l) (hb : Row w b l) :
    Calls Tryz.prog 56 #[.slice a l.length ca, .slice b l.length cb] w fun e w' => e = .returned (.bool true) ∧ Below w.heap.size w w' := by
  unfold maxLen at hl
  go_enter Tryz.func56, Tryz.ntmps56
  go_wp2_with fail
  go_loopw [5] (fun i wr => ∃ k : Nat, k ≤ l.length ∧ i = .int .i64 k ∧ Below w.heap.size w wr) (fun i _ => l.length - (intOf i).toNat)
  case atStart => exact ⟨0, Nat.zero_le _, rfl, Below.refl _ _⟩
  case round =>
    obtain ⟨k, hk, rfl, hbl⟩ := hrel
    by_cases hlt : k < l.length
    · obtain ⟨b1, o1, rfl, hlt1, c0, c1⟩ := ha k hlt
      obtain ⟨b2, o2, rfl, hlt2, d0, d1⟩ := hb k hlt
      have e0 := cell_on hbl hlt1 c0
      have e1 := cell_on hbl hlt1 c1
      have f0 := cell_on hbl hlt2 d0
      have f1 := cell_on hbl hlt2 d1
      have g1 : b1 < wr.heap.size := Nat.lt_of_lt_of_le hlt1 hbl.size
      have g2 : b2 < wr.heap.size := Nat.lt_of_lt_of_le hlt2 hbl.size
      have k0 : (0 : Int) ≤ (k : Int) := by omega
      have k1 : (k : Int) < (l.length : Int) := by omega
      go_wp2_with fail
      refine wp_region_lat (by kernel_rfl) (by kernel_rfl) ?_
      have hne := Lat.some wr
      have q0 : ∀ n : Lat wr, n.w.cell? ⟨b1, o1 + k * 2, none⟩ = some (.string l[k].1) := fun n => n.cell g1 e0
      have q1 : ∀ n : Lat wr, n.w.cell? ⟨b1, o1 + k * 2 + 1, none⟩ = some (.int .i64 l[k].2) := fun n => n.cell g1 e1
      have q2 : ∀ n : Lat wr, n.w.cell? ⟨b2, o2 + k * 2, none⟩ = some (.string l[k].1) := fun n => n.cell g2 f0
      have q3 : ∀ n : Lat wr, n.w.cell? ⟨b2, o2 + k * 2 + 1, none⟩ = some (.int .i64 l[k].2) := fun n => n.cell g2 f1
      repeat (go_big_quiet_step ((go_at_call 102; exact Calls.lat_of (eqMark_same _ _ _))))
      refine wpQuiet_nil ?_
      rintro _ ⟨nq, rfl⟩
      go_wp2_with fail
      exact ⟨⟨k + 1, by omega, by go_num, hbl.trans (nq.h.mono hbl.size)⟩, by simp [intOf]; omega⟩
    · go_wp2_with fail
      go_ret
      exact ⟨rfl, hbl⟩

end Go.Proofs.YtpfhegengmlkmacGreatDoor
