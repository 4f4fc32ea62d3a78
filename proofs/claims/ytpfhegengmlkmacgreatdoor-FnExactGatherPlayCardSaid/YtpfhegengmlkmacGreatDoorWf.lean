/- Walks: impl.StampOk. -/
import Derived.Test.YtpfhegengmlkmacGreatDoorWe
import Derived.Test.YtpfhegengmlkmacGreatDoorLat
namespace Go.Proofs.YtpfhegengmlkmacGreatDoor
open Go.RowKit Go.BigFrame

theorem lat_below {w wr : World} {o : Obj} (hb : Below w.heap.size w wr) (n : Lat (wr.alloc o)) : Below w.heap.size w n.w :=
  (hb.alloc hb.size o).trans (n.h.mono (Nat.le_trans hb.size (Nat.le_of_lt (box_lt _ _))))
theorem box_old (w : World) (o : Obj) {b i : Nat} (h : b < w.heap.size) : (w.alloc o).cell? ⟨b, i, none⟩ = w.cell? ⟨b, i, none⟩ :=
  ((Below.refl w.heap.size w).alloc (Nat.le_refl _) o).cell h

theorem ok_yes (s : ByteArray) (v : Int) (w : World) (hs : s.size ≤ maxLen) (h : MarkP (s, v)) :
    Calls Tryz.prog 166 #[.agg #[.string s, .int .i64 v]] w fun e w' => e = .returned (.bool true) ∧ Below w.heap.size w w' :=
  (ok_any s v w hs).mono fun e w' ⟨⟨r, he, hr⟩, hb⟩ => ⟨by rw [he, hr.2 h], hb⟩
theorem ok_no (s : ByteArray) (v : Int) (w : World) (hs : s.size ≤ maxLen) (h : ¬ MarkP (s, v)) :
    Calls Tryz.prog 166 #[.agg #[.string s, .int .i64 v]] w fun e w' => e = .returned (.bool false) ∧ Below w.heap.size w w' :=
  (ok_any s v w hs).mono fun e w' ⟨⟨r, he, hr⟩, hb⟩ => ⟨by rw [he]; cases r; rfl; exact absurd (hr.1 rfl) h, hb⟩

set_option maxHeartbeats 800000 in
theorem implStampOk_any (a : Option Addr) (cap : Nat) (l : List (ByteArray × Int)) (w : World) (hl : l.length ≤ maxLen) (hr : Row w a l) (hs : ∀ j, (h : j < l.length) → l[j].1.size ≤ maxLen) :
    Calls Tryz.prog 126 #[.slice a l.length cap] w fun e w' => IsB (StampP l) e ∧ Below w.heap.size w w' := by
  unfold maxLen at hl
  by_cases h12 : 12 < l.length
  · go_enter Tryz.func126, Tryz.ntmps126
    go_wp2_with fail
    go_ret
    exact ⟨isB_false (fun h => by have := h.1; omega), Below.refl _ _⟩
  go_enter Tryz.func126, Tryz.ntmps126
  go_wp2_with fail
  go_loopw [10] (fun i wr => ∃ k : Nat, k ≤ l.length ∧ i = .int .i64 k ∧ StampTo l k ∧ Below w.heap.size w wr) (fun i _ => l.length - (intOf i).toNat)
  case atStart => exact ⟨0, Nat.zero_le _, rfl, stampTo_zero l, Below.refl _ _⟩
  case round =>
    obtain ⟨k, hk, rfl, hall, hb⟩ := hrel
    by_cases hlt : k < l.length
    · obtain ⟨b, o, rfl, hblt, c0, c1⟩ := hr k hlt
      have HS := hs k hlt
      have HST := stampTo_step hall hlt
      have e0 := cell_on hb hblt c0
      have e1 := cell_on hb hblt c1
      have g1 : b < wr.heap.size := Nat.lt_of_lt_of_le hblt hb.size
      have k0 : (0 : Int) ≤ (k : Int) := by omega
      have k1 : (k : Int) < (l.length : Int) := by omega
      by_cases hm : MarkP l[k]
      · by_cases hk0 : k < 1
        · have hd : decide (0 < k) = false := by simp; omega
          go_wp2_with fail
          refine wp_region_lat (by kernel_rfl) (by kernel_rfl) ?_
          have hne := Lat.some (wr.alloc (.cells #[.string l[k].1, .int .i64 l[k].2] 144))
          have q0 : ∀ n : Lat (wr.alloc (.cells #[.string l[k].1, .int .i64 l[k].2] 144)), n.w.cell? ⟨wr.heap.size, 0, none⟩ = some (.string l[k].1) := fun n => n.cell (box_lt _ _) (box0 _ _ _ _)
          have q1 : ∀ n : Lat (wr.alloc (.cells #[.string l[k].1, .int .i64 l[k].2] 144)), n.w.cell? ⟨wr.heap.size, 1, none⟩ = some (.int .i64 l[k].2) := fun n => n.cell (box_lt _ _) (box1 _ _ _ _)
          repeat (go_big_quiet_step ((go_at_call 166; exact Calls.lat_of (ok_yes _ _ _ HS hm))))
          refine wpQuiet_nil ?_
          rintro _ ⟨nq, rfl⟩
          go_wp2_with fail
          exact ⟨⟨k + 1, by omega, by go_num, HST hm (fun h => by omega), lat_below hb nq⟩, by simp [intOf]; omega⟩
        · obtain ⟨b', o', he, _, d0, _⟩ := hr (k - 1) (by omega)
          obtain ⟨rfl, rfl⟩ : b' = b ∧ o' = o := by simp at he; exact ⟨he.1.symm, he.2.symm⟩
          have hd : decide (0 < k) = true := by simp; omega
          have f0 := cell_on hb hblt d0
          go_wp2_with fail
          refine wp_region_lat (by kernel_rfl) (by kernel_rfl) ?_
          have hne := Lat.some (wr.alloc (.cells #[.string l[k].1, .int .i64 l[k].2] 144))
          have q0 : ∀ n : Lat (wr.alloc (.cells #[.string l[k].1, .int .i64 l[k].2] 144)), n.w.cell? ⟨wr.heap.size, 0, none⟩ = some (.string l[k].1) := fun n => n.cell (box_lt _ _) (box0 _ _ _ _)
          have q1 : ∀ n : Lat (wr.alloc (.cells #[.string l[k].1, .int .i64 l[k].2] 144)), n.w.cell? ⟨wr.heap.size, 1, none⟩ = some (.int .i64 l[k].2) := fun n => n.cell (box_lt _ _) (box1 _ _ _ _)
          have q2 : ∀ n : Lat (wr.alloc (.cells #[.string l[k].1, .int .i64 l[k].2] 144)), n.w.cell? ⟨b', o' + (k - 1) * 2, none⟩ = some (.string l[k - 1].1) := fun n => n.cell (Nat.lt_trans g1 (box_lt _ _)) (by rw [box_old _ _ g1]; exact f0)
          repeat (go_big_quiet_step ((go_at_call 166; exact Calls.lat_of (ok_yes _ _ _ HS hm))))
          refine wpQuiet_nil ?_
          rintro _ ⟨nq, rfl⟩
          go_wp2_with fail
          · go_ret
            exact ⟨isB_false (fun h => by have := asc_at h hk0 hlt; unfold Asc at this; simp_all), lat_below hb nq⟩
          · exact ⟨⟨k + 1, by omega, by go_num, HST hm (fun _ => by unfold Asc; simp_all), lat_below hb nq⟩, by simp [intOf]; omega⟩
      · go_wp2_with fail
        refine wp_region_lat (by kernel_rfl) (by kernel_rfl) ?_
        have hne := Lat.some (wr.alloc (.cells #[.string l[k].1, .int .i64 l[k].2] 144))
        have q0 : ∀ n : Lat (wr.alloc (.cells #[.string l[k].1, .int .i64 l[k].2] 144)), n.w.cell? ⟨wr.heap.size, 0, none⟩ = some (.string l[k].1) := fun n => n.cell (box_lt _ _) (box0 _ _ _ _)
        have q1 : ∀ n : Lat (wr.alloc (.cells #[.string l[k].1, .int .i64 l[k].2] 144)), n.w.cell? ⟨wr.heap.size, 1, none⟩ = some (.int .i64 l[k].2) := fun n => n.cell (box_lt _ _) (box1 _ _ _ _)
        repeat (go_big_quiet_step ((go_at_call 166; exact Calls.lat_of (ok_no _ _ _ HS hm))))
        refine wpQuiet_nil ?_
        rintro _ ⟨nq, rfl⟩
        go_wp2_with fail
        go_ret
        exact ⟨isB_false (fun h => hm (h.2.1 k hlt)), lat_below hb nq⟩
    · go_wp2_with fail
      go_ret
      exact ⟨isB_true (stampP_of hall hlt (by omega)), hb⟩

end Go.Proofs.YtpfhegengmlkmacGreatDoor
