/- Walks: eqItem, eqItemS at two rows of the same items. -/
import Derived.Test.YtpfhegengmlkmacGreatDoorItB
import Derived.Test.YtpfhegengmlkmacGreatDoorWc
namespace Go.Proofs.YtpfhegengmlkmacGreatDoor
open Go.RowKit Go.BigFrame

set_option maxHeartbeats 800000 in
theorem eqItem_same (x : Int) (a1 a2 : Option Addr) (c1 c2 : Nat) (l : List (ByteArray × Int)) (w : World) (hl : l.length ≤ maxLen) (h1 : Row w a1 l) (h2 : Row w a2 l) :
    Calls Tryz.prog 57 #[.agg #[.int .i64 x, .slice a1 l.length c1], .agg #[.int .i64 x, .slice a2 l.length c2]] w fun e w' => e = .returned (.bool true) ∧ Below w.heap.size w w' := by
  go_enter Tryz.func57, Tryz.ntmps57
  go_wp2_with fail
  have hb0 : Below w.heap.size w ((w.alloc (.cells #[.int .i64 x, .slice a1 l.length c1] 44)).alloc (.cells #[.int .i64 x, .slice a2 l.length c2] 44)) := ((Below.refl _ _).alloc (Nat.le_refl _) _).alloc (by simp) _
  refine (eqMarkS_same a1 a2 c1 c2 l _ hl (h1.below hb0) (h2.below hb0)).mono ?_
  rintro e w1 ⟨rfl, b1⟩
  have B1 : Below w.heap.size w w1 := hb0.trans (b1.mono hb0.size)
  go_wp2_with fail
  go_ret
  exact ⟨rfl, B1⟩

set_option maxHeartbeats 800000 in
theorem eqItemS_same (a b : Option Addr) (ca cb : Nat) (l : List ItemL) (w : World) (hf : FitI l) (ha : RowI w a l) (hb : RowI w b l) :
    Calls Tryz.prog 101 #[.slice a l.length ca, .slice b l.length cb] w fun e w' => e = .returned (.bool true) ∧ Below w.heap.size w w' := by
  have hl := hf.1
  unfold maxLen at hl
  go_enter Tryz.func101, Tryz.ntmps101
  go_wp2_with fail
  go_loopw [5] (fun i wr => ∃ k : Nat, k ≤ l.length ∧ i = .int .i64 k ∧ Below w.heap.size w wr) (fun i _ => l.length - (intOf i).toNat)
  case atStart => exact ⟨0, Nat.zero_le _, rfl, Below.refl _ _⟩
  case round =>
    obtain ⟨k, hk, rfl, hbl⟩ := hrel
    by_cases hlt : k < l.length
    · obtain ⟨b1, o1, rfl, g1, e0, v1, e1, ⟨s1, t1, rfl, _, r1⟩⟩ := ha.below hbl k hlt
      obtain ⟨b2, o2, rfl, g2, f0, v2, f1, ⟨s2, t2, rfl, _, r2⟩⟩ := hb.below hbl k hlt
      have k0 : (0 : Int) ≤ (k : Int) := by omega
      have k1 : (k : Int) < (l.length : Int) := by omega
      have hlk := (hf.2 k hlt).1
      go_wp2_with fail
      refine wp_region_lat (by kernel_rfl) (by kernel_rfl) ?_
      have hne := Lat.some wr
      have q0 : ∀ n : Lat wr, n.w.cell? ⟨b1, o1 + k * 2, none⟩ = some (.int .i64 l[k].1) := fun n => n.cell g1 e0
      have q1 : ∀ n : Lat wr, n.w.cell? ⟨b1, o1 + k * 2 + 1, none⟩ = some (.slice s1 l[k].2.length t1) := fun n => n.cell g1 e1
      have q2 : ∀ n : Lat wr, n.w.cell? ⟨b2, o2 + k * 2, none⟩ = some (.int .i64 l[k].1) := fun n => n.cell g2 f0
      have q3 : ∀ n : Lat wr, n.w.cell? ⟨b2, o2 + k * 2 + 1, none⟩ = some (.slice s2 l[k].2.length t2) := fun n => n.cell g2 f1
      have ce : ∀ n : Lat wr, Calls Tryz.prog 57 #[.agg #[.int .i64 l[k].1, .slice s1 l[k].2.length t1], .agg #[.int .i64 l[k].1, .slice s2 l[k].2.length t2]] n.w fun e w'' => e = .returned (.bool true) ∧ Below n.w.heap.size n.w w'' := fun n => eqItem_same _ _ _ _ _ _ _ hlk (r1.below n.h) (r2.below n.h)
      repeat (go_big_quiet_step ((go_at_call 57; exact Calls.lat_of (ce _))))
      refine wpQuiet_nil ?_
      rintro _ ⟨nq, rfl⟩
      go_wp2_with fail
      exact ⟨⟨k + 1, by omega, by go_num, hbl.trans (nq.h.mono hbl.size)⟩, by simp [intOf]; omega⟩
    · go_wp2_with fail
      go_ret
      exact ⟨rfl, hbl⟩

end Go.Proofs.YtpfhegengmlkmacGreatDoor
