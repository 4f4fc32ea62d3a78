/- The laws' size tests, with sums: szMarkS, szItem, szItemS, szItemSS. -/
import Derived.Test.YtpfhegengmlkmacGreatDoorItB
namespace Go.Proofs.YtpfhegengmlkmacGreatDoor
open Go.RowKit

/-- How many marks the items have together. -/
def lens : List ItemL → Nat
  | [] => 0
  | x :: l => x.2.length + lens l
theorem lens_append (l m : List ItemL) : lens (l ++ m) = lens l + lens m := by
  induction l with
  | nil => simp [lens]
  | cons x l ih => simp [lens, ih]; omega
theorem lens_take {l : List ItemL} {k : Nat} (h : k < l.length) : lens (l.take (k + 1)) = lens (l.take k) + l[k].2.length := by
  rw [List.take_succ_eq_append_getElem h, lens_append]
  simp [lens]

set_option maxHeartbeats 400000 in
theorem szMarkS_w (a : Option Addr) (cap : Nat) (l : List (ByteArray × Int)) (left : Int) (w : World) (hl : l.length ≤ maxLen) (hr : Row w a l) (hs : ∀ j, (h : j < l.length) → l[j].1.size ≤ maxLen) (h0 : 0 ≤ left) (h1 : left ≤ 1048576) :
    Calls Tryz.prog 39 #[.slice a l.length cap, .int .i64 left] w fun e w' => ∃ r : Int, e = .returned (.int .i64 r) ∧ -1 ≤ r ∧ r ≤ left ∧ (0 ≤ r → r + (l.length : Int) ≤ left ∧ SmallM left l) ∧ Below w.heap.size w w' := by
  unfold maxLen at hl
  by_cases hc : left - (l.length : Int) < 0
  · go_enter Tryz.func39, Tryz.ntmps39
    go_wp2_with fail
    go_ret
    exact ⟨-1, rfl, by omega, by omega, fun h => by omega, Below.refl _ _⟩
  · go_enter Tryz.func39, Tryz.ntmps39
    go_wp2_with fail
    go_loopw [1, 5] (fun lf i wr => ∃ (k : Nat) (q : Int), k ≤ l.length ∧ i = .int .i64 k ∧ lf = .int .i64 q ∧ 0 ≤ q ∧ q + (l.length : Int) ≤ left ∧ (∀ j, (h : j < l.length) → j < k → (l[j].1.size : Int) ≤ left) ∧ Below w.heap.size w wr) (fun _ i _ => l.length - (intOf i).toNat)
    case atStart => exact ⟨0, _, Nat.zero_le _, rfl, rfl, by omega, by omega, fun j _ h => by omega, Below.refl _ _⟩
    case round =>
      obtain ⟨k, q, hk, rfl, rfl, hq0, hq1, hall, hb⟩ := hrel
      by_cases hlt : k < l.length
      · obtain ⟨b, o, rfl, hblt, c0, c1⟩ := hr k hlt
        obtain ⟨hcc, hf⟩ := bcell hb
        have HS := hs k hlt
        have HST := sz_step hall hlt
        go_wp2_with (first | (go_at_call 76; refine (szMark_any _ _ _ _ HS hq0 (by omega)).mono ?_; rintro e w' ⟨r, rfl, hr0, hr1, hr2, hb1⟩))
        · go_ret
          exact ⟨_, rfl, by omega, by omega, fun h => by omega, hb.trans (hb1.mono hb.size)⟩
        · exact ⟨⟨k + 1, _, by omega, by go_num, rfl, by omega, by omega, HST (by have := hr2 (by omega); omega), hb.trans (hb1.mono hb.size)⟩, by simp [intOf]; omega⟩
      · go_wp2_with fail
        go_ret
        exact ⟨q, rfl, by omega, by omega, fun _ => ⟨hq1, by omega, fun j hj => hall j hj (by omega)⟩, hb⟩

set_option maxHeartbeats 400000 in
theorem szItem_w (x : Int) (a : Option Addr) (c : Nat) (l : List (ByteArray × Int)) (left : Int) (w : World) (hr : Row w a l) (hf : FitM l) (h0 : 0 ≤ left) (h1 : left ≤ 1048576) :
    Calls Tryz.prog 40 #[.agg #[.int .i64 x, .slice a l.length c], .int .i64 left] w fun e w' => ∃ r : Int, e = .returned (.int .i64 r) ∧ -1 ≤ r ∧ r ≤ left ∧ (0 ≤ r → r + (l.length : Int) ≤ left ∧ SmallM left l) ∧ Below w.heap.size w w' := by
  go_enter Tryz.func40, Tryz.ntmps40
  go_wp2_with fail
  have hb0 : Below w.heap.size w (w.alloc (.cells #[.int .i64 x, .slice a l.length c] 28)) := (Below.refl _ _).alloc (Nat.le_refl _) _
  refine (szMarkS_w a c l left _ hf.1 (hr.below hb0) hf.2 h0 h1).mono ?_
  rintro e w1 ⟨r, rfl, hr0, hr1, hr2, b1⟩
  have B1 : Below w.heap.size w w1 := hb0.trans (b1.mono hb0.size)
  have HR2 : Hid (0 ≤ r → r + (l.length : Int) ≤ left ∧ SmallM left l) := hr2
  clear hr2
  by_cases hneg : r < 0
  · go_wp2_with fail
    go_ret
    exact ⟨-1, rfl, by omega, by omega, fun h => by omega, B1⟩
  · go_wp2_with fail
    go_ret
    exact ⟨r, rfl, hr0, hr1, HR2.out, B1⟩

set_option maxHeartbeats 800000 in
theorem szItemS_w (a : Option Addr) (cap : Nat) (l : List ItemL) (left : Int) (w : World) (hr : RowI w a l) (hf : FitI l) (h0 : 0 ≤ left) (h1 : left ≤ 1048576) :
    Calls Tryz.prog 75 #[.slice a l.length cap, .int .i64 left] w fun e w' => ∃ r : Int, e = .returned (.int .i64 r) ∧ -1 ≤ r ∧ r ≤ left ∧ (0 ≤ r → r + (l.length : Int) + (lens l : Int) ≤ left ∧ SmallI left l) ∧ Below w.heap.size w w' := by
  have hl := hf.1
  unfold maxLen at hl
  by_cases hc : left - (l.length : Int) < 0
  · go_enter Tryz.func75, Tryz.ntmps75
    go_wp2_with fail
    go_ret
    exact ⟨-1, rfl, by omega, by omega, fun h => by omega, Below.refl _ _⟩
  · go_enter Tryz.func75, Tryz.ntmps75
    go_wp2_with fail
    go_loopw [1, 5] (fun lf i wr => ∃ (k n : Nat) (q : Int), k ≤ l.length ∧ i = .int .i64 k ∧ lf = .int .i64 q ∧ 0 ≤ q ∧ Hid (n = lens (l.take k)) ∧ q + (l.length : Int) + (n : Int) ≤ left ∧ (∀ j, (h : j < l.length) → j < k → SmallM left l[j].2) ∧ Below w.heap.size w wr) (fun _ i _ => l.length - (intOf i).toNat)
    case atStart => exact ⟨0, 0, _, Nat.zero_le _, rfl, rfl, by omega, rfl, by omega, fun j _ h => by omega, Below.refl _ _⟩
    case round =>
      obtain ⟨k, n, q, hk, rfl, rfl, hq0, HN, hq1, hall, hb⟩ := hrel
      by_cases hlt : k < l.length
      · obtain ⟨b, o, rfl, hblt, c0, v, c1, hv⟩ := hr.below hb k hlt
        obtain ⟨sa, sc, rfl, hcap, hrow⟩ := hv
        have HST : Hid (SmallM left l[k].2 → ∀ j, (h : j < l.length) → j < k + 1 → SmallM left l[j].2) := szI_step hall hlt
        have HN2 : Hid (n + l[k].2.length = lens (l.take (k + 1))) := by rw [lens_take hlt, ← HN.out]; rfl
        have k0 : (0 : Int) ≤ (k : Int) := by omega
        have k1 : (k : Int) < (l.length : Int) := by omega
        clear hall
        go_wp2_with fail
        refine (szItem_w _ sa sc l[k].2 q _ hrow (hf.2 k hlt) hq0 (by omega)).mono ?_
        rintro e w1 ⟨r, rfl, hr0, hr1, hr2, hb1⟩
        have HR2 : Hid (0 ≤ r → r + (l[k].2.length : Int) ≤ q ∧ SmallM q l[k].2) := hr2
        clear hr2
        by_cases hneg : r < 0
        · go_wp2_with fail
          go_ret
          exact ⟨-1, rfl, by omega, by omega, fun h => by omega, hb.trans (hb1.mono hb.size)⟩
        · have hle := (HR2.out (by omega)).1
          go_wp2_with fail
          exact ⟨⟨k + 1, n + l[k].2.length, r, by omega, by go_num, rfl, by omega, HN2, by omega, HST.out ((HR2.out (by omega)).2.mono (by omega)), hb.trans (hb1.mono hb.size)⟩, by simp [intOf]; omega⟩
      · have HF : Hid (n = lens l) := by rw [HN.out, List.take_of_length_le (by omega)]; rfl
        go_wp2_with fail
        go_ret
        exact ⟨q, rfl, by omega, by omega, fun _ => ⟨by rw [← HF.out]; exact hq1, by omega, fun j hj => hall j hj (by omega)⟩, hb⟩

end Go.Proofs.YtpfhegengmlkmacGreatDoor
