/- Walks: toMark, toMarkS. -/
import Derived.Test.YtpfhegengmlkmacGreatDoorWa
namespace Go.Proofs.YtpfhegengmlkmacGreatDoor
open Go.RowKit

theorem Tryz.info144 : (Tryz.prog.info? 144).map (fun i => (i.zero, i.size, i.bytes)) = some (some (.agg #[.string .empty, .int .i64 0]), 2, 24) := by kernel_rfl

set_option maxHeartbeats 400000 in
theorem toMark_any (s : ByteArray) (v : Int) (w : World) :
    Calls Tryz.prog 88 #[.agg #[.string s, .int .i64 v]] w fun e w' => e = .returned (.agg #[.string s, .int .i64 v]) ∧ Below w.heap.size w w' := by
  go_enter Tryz.func88, Tryz.ntmps88
  go_wp2
  exact bodyPost_ret (v := .agg #[.string s, .int .i64 v]) (by simp [results, Tryz.results88, go_sem]) rfl ⟨rfl, (((Below.refl _ _).alloc (Nat.le_refl _) _).alloc (by simp) _).alloc (by simp; omega) _⟩

set_option maxHeartbeats 400000 in
theorem toMarkS_any (a : Option Addr) (cap : Nat) (l : List (ByteArray × Int)) (w : World) (hl : l.length ≤ 1048576) (hr : Row w a l) :
    Calls Tryz.prog 49 #[.slice a l.length cap] w fun e w' => e = .returned (.slice (some ⟨w.heap.size, 0, none⟩) l.length l.length) ∧ Own w' w.heap.size l ∧ Below w.heap.size w w' := by
  obtain ⟨i0, hi, hz0, hz1, hz2⟩ := info_parts Tryz.info144
  have hmk : ∀ u : World, (Instr.makeSlice 34 (.int .i64 (l.length : Int)) (.int .i64 (l.length : Int))).run Tryz.prog u =
      .ok (.slice (some ⟨u.heap.size, 0, none⟩) l.length l.length) (u.alloc (.cells (madeCells #[.string .empty, .int .i64 0] (l.length * 2)) 144)) := fun u => by
    have h := run_make (P := Tryz.prog) u 34 144 i0 (.agg #[.string .empty, .int .i64 0]) Tryz.underlying34 hi hz0 .i64 .i64 (l.length : Int) (l.length : Int) (by omega) (Int.le_refl _) (by rw [hz2]; omega) (by omega)
    simpa [hz1, Value.cells] using h
  go_enter Tryz.func49, Tryz.ntmps49
  go_wp2_with fail
  go_loopw [4] (fun i wr => ∃ k : Nat, k ≤ l.length ∧ i = .int .i64 k ∧ Part wr w.heap.size l k ∧ Below w.heap.size w wr) (fun i _ => l.length - (intOf i).toNat)
  case atStart => exact ⟨0, Nat.zero_le _, rfl, Part.made w l _, (Below.refl _ _).alloc (Nat.le_refl _) _⟩
  case round =>
    obtain ⟨k, hk, rfl, hp, hb⟩ := hrel
    by_cases hlt : k < l.length
    · obtain ⟨b, o, rfl, hblt, c0, c1⟩ := hr k hlt
      obtain ⟨hcc, hf⟩ := bcell hb
      have hpl := hp.lt
      go_wp2_with (first | (go_at_call 88; refine (toMark_any _ _ _).mono ?_; rintro e w1 ⟨rfl, hb1⟩; have hp1 := hp.below hpl hb1; obtain ⟨v0, hv0⟩ := hp1.cell (i := k * 2) (by omega); obtain ⟨v1, hv1⟩ := hp1.cell (i := k * 2 + 1) (by omega); have hz0 := hp1.frozen (k * 2); have hz1 := hp1.frozen (k * 2 + 1)))
      exact ⟨⟨k + 1, by omega, by go_num, hp1.step hlt, ((hb.trans (hb1.mono hb.size)).setCell (Nat.le_refl _) _).setCell (Nat.le_refl _) _⟩, by simp [intOf]; omega⟩
    · have e : k = l.length := by omega
      subst e
      go_wp2_with fail
      go_ret
      exact ⟨rfl, hp.own, hb⟩

end Go.Proofs.YtpfhegengmlkmacGreatDoor
