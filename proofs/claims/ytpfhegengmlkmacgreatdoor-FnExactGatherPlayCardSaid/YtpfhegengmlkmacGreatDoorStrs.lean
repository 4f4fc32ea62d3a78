/- Walks: szStringS, toStringS, eqStringS. -/
import Derived.Test.YtpfhegengmlkmacGreatDoorStrsM
namespace Go.Proofs.YtpfhegengmlkmacGreatDoor
open Go.RowKit Go.BigFrame

theorem szs_step {l : List ByteArray} {left : Int} {k : Nat} (H : ∀ j, (h : j < l.length) → j < k → (l[j].size : Int) ≤ left) (hk : k < l.length) (h : (l[k].size : Int) ≤ left) : ∀ j, (h : j < l.length) → j < k + 1 → (l[j].size : Int) ≤ left := fun j hj hlt => by
  by_cases e : j = k
  · subst e; exact h
  · exact H j hj (by omega)

set_option maxHeartbeats 400000 in
theorem szStringS_any (a : Option Addr) (cap : Nat) (l : List ByteArray) (left : Int) (w : World) (hl : l.length ≤ maxLen) (hr : RowS w a l) (hs : ∀ j, (h : j < l.length) → l[j].size ≤ maxLen) (h0 : 0 ≤ left) (h1 : left ≤ 1048576) :
    Calls Tryz.prog 20 #[.slice a l.length cap, .int .i64 left] w fun e w' => (∃ r : Int, e = .returned (.int .i64 r) ∧ -1 ≤ r ∧ r ≤ left ∧ (0 ≤ r → (l.length : Int) ≤ left ∧ ∀ j, (h : j < l.length) → (l[j].size : Int) ≤ left)) ∧ w' = w := by
  unfold maxLen at hl
  by_cases hc : left - (l.length : Int) < 0
  · go_enter Tryz.func20, Tryz.ntmps20
    go_wp2_with fail
    go_ret
    exact ⟨⟨-1, rfl, by omega, by omega, fun h => by omega⟩, rfl⟩
  · go_enter Tryz.func20, Tryz.ntmps20
    go_wp2_with fail
    go_loop [1, 5] (fun lf i => ∃ (k : Nat) (q : Int), k ≤ l.length ∧ i = .int .i64 k ∧ lf = .int .i64 q ∧ 0 ≤ q ∧ q ≤ left ∧ (∀ j, (h : j < l.length) → j < k → (l[j].size : Int) ≤ left)) (fun _ i => l.length - (intOf i).toNat)
    case atStart => exact ⟨0, _, Nat.zero_le _, rfl, rfl, by omega, by omega, fun j _ h => by omega⟩
    case round =>
      obtain ⟨k, q, hk, rfl, rfl, hq0, hq1, hall⟩ := hrel
      by_cases hlt : k < l.length
      · obtain ⟨b, o, rfl, hblt, c0⟩ := hr k hlt
        have HS := hs k hlt
        unfold maxLen at HS
        have HST := szs_step hall hlt
        go_wp2_with fail
        · go_ret
          exact ⟨⟨-1, rfl, by omega, by omega, fun h => by omega⟩, rfl⟩
        · exact ⟨⟨k + 1, _, by omega, by go_num, rfl, by omega, by omega, HST (by omega)⟩, by simp [intOf]; omega⟩
      · go_wp2_with fail
        go_ret
        exact ⟨⟨q, rfl, by omega, hq1, fun _ => ⟨by omega, fun j hj => hall j hj (by omega)⟩⟩, rfl⟩

theorem Tryz.infoS0 : (Tryz.prog.info? 9).map (fun i => (i.zero, i.size, i.bytes)) = some (some (.string .empty), 1, 16) := by kernel_rfl

set_option maxHeartbeats 400000 in
theorem toStringS_any (a : Option Addr) (cap : Nat) (l : List ByteArray) (w : World) (hl : l.length ≤ 1048576) (hr : RowS w a l) :
    Calls Tryz.prog 23 #[.slice a l.length cap] w fun e w' => e = .returned (.slice (some ⟨w.heap.size, 0, none⟩) l.length l.length) ∧ PartS w' w.heap.size l l.length ∧ Below w.heap.size w w' := by
  obtain ⟨i0, hi, hz0, hz1, hz2⟩ := info_parts Tryz.infoS0
  have hmk : ∀ u : World, (Instr.makeSlice 22 (.int .i64 (l.length : Int)) (.int .i64 (l.length : Int))).run Tryz.prog u =
      .ok (.slice (some ⟨u.heap.size, 0, none⟩) l.length l.length) (u.alloc (.cells (madeCells #[.string .empty] l.length) 9)) := fun u => by
    have h := run_make (P := Tryz.prog) u 22 9 i0 (.string .empty) Tryz.underlying22 hi hz0 .i64 .i64 (l.length : Int) (l.length : Int) (by omega) (Int.le_refl _) (by rw [hz2]; omega) (by omega)
    simpa [hz1, Value.cells] using h
  go_enter Tryz.func23, Tryz.ntmps23
  go_wp2_with fail
  go_loopw [4] (fun i wr => ∃ k : Nat, k ≤ l.length ∧ i = .int .i64 k ∧ PartS wr w.heap.size l k ∧ Below w.heap.size w wr) (fun i _ => l.length - (intOf i).toNat)
  case atStart => exact ⟨0, Nat.zero_le _, rfl, PartS.made w l _, (Below.refl _ _).alloc (Nat.le_refl _) _⟩
  case round =>
    obtain ⟨k, hk, rfl, hp, hb⟩ := hrel
    by_cases hlt : k < l.length
    · obtain ⟨b, o, rfl, hblt, c0⟩ := hr k hlt
      have e0 := cell_on hb hblt c0
      obtain ⟨v0, hv0⟩ := hp.cell (i := k) (by omega)
      have hz0 := hp.frozen k
      go_wp2_with fail
      exact ⟨⟨k + 1, by omega, by go_num, hp.step hlt, hb.setCell (Nat.le_refl _) _⟩, by simp [intOf]; omega⟩
    · have e : k = l.length := by omega
      subst e
      go_wp2_with fail
      go_ret
      exact ⟨rfl, hp, hb⟩

set_option maxHeartbeats 400000 in
theorem eqStringS_same (a b : Option Addr) (ca cb : Nat) (l : List ByteArray) (w : World) (hl : l.length ≤ maxLen) (ha : RowS w a l) (hb : RowS w b l) :
    Calls Tryz.prog 28 #[.slice a l.length ca, .slice b l.length cb] w fun e w' => e = .returned (.bool true) ∧ Below w.heap.size w w' := by
  unfold maxLen at hl
  go_enter Tryz.func28, Tryz.ntmps28
  go_wp2_with fail
  go_loopw [5] (fun i wr => ∃ k : Nat, k ≤ l.length ∧ i = .int .i64 k ∧ Below w.heap.size w wr) (fun i _ => l.length - (intOf i).toNat)
  case atStart => exact ⟨0, Nat.zero_le _, rfl, Below.refl _ _⟩
  case round =>
    obtain ⟨k, hk, rfl, hbl⟩ := hrel
    by_cases hlt : k < l.length
    · obtain ⟨b1, o1, rfl, hlt1, c0⟩ := ha k hlt
      obtain ⟨b2, o2, rfl, hlt2, d0⟩ := hb k hlt
      have e0 := cell_on hbl hlt1 c0
      have f0 := cell_on hbl hlt2 d0
      go_wp2_with fail
      go_quiet (fail)
      go_wp2_with fail
      exact ⟨⟨k + 1, by omega, by go_num, below_drewN hbl nq⟩, by simp [intOf]; omega⟩
    · go_wp2_with fail
      go_ret
      exact ⟨rfl, hbl⟩

end Go.Proofs.YtpfhegengmlkmacGreatDoor
