/- Numbers and windows in blocks of the call's own. Walks: toIntS, toItemSS. -/
import Derived.Test.YtpfhegengmlkmacItD
import Derived.Test.YtpfhegengmlkmacItF
namespace Go.Proofs.Ytpfhegengmlkmac
open Go.RowKit Go.BigFrame

/-- The first 'k' numbers of 'l' lie in block 'b', which has room for all. -/
def PartZ (w : World) (b : Nat) (l : List Int) (k : Nat) : Prop :=
  ∃ f, w.rowIs b 3 l.length f ∧ ∀ j, (h : j < l.length) → j < k → f j = .int .i64 l[j]
theorem PartZ.lt {w : World} {b k : Nat} {l : List Int} (h : PartZ w b l k) : b < w.heap.size := by
  obtain ⟨f, h, _⟩ := h
  exact h.lt
theorem PartZ.below {w w' : World} {b k : Nat} {l : List Int} (h : PartZ w b l k) (hb : Below w.heap.size w w') : PartZ w' b l k := by
  have hlt := h.lt
  obtain ⟨f, h, hf⟩ := h
  exact ⟨f, h.of_block (hb.block b hlt), hf⟩
theorem PartZ.made (w : World) (l : List Int) (z : Value) : PartZ (w.alloc (.cells (madeCells #[z] l.length) 3)) w.heap.size l 0 := by
  refine ⟨fun i => #[z][i % 1]!, ?_, fun j _ h => by omega⟩
  have h := World.rowIs_alloc w (madeCells #[z] l.length) 3 (fun i => #[z][i % 1]!) (fun i hi => by
    rw [size_madeCells] at hi
    simp [madeCells, hi])
  rwa [size_madeCells] at h
theorem PartZ.cell {w : World} {b k : Nat} {l : List Int} (h : PartZ w b l k) {i : Nat} (hi : i < l.length) : ∃ v, w.cell? ⟨b, i, none⟩ = some v := by
  obtain ⟨f, h, _⟩ := h
  exact ⟨_, h.cell hi⟩
theorem PartZ.frozen {w : World} {b k : Nat} {l : List Int} (h : PartZ w b l k) (i : Nat) : w.frozen? ⟨b, i, none⟩ = false := by
  obtain ⟨f, h, _⟩ := h
  exact h.frozen i
theorem PartZ.step {w : World} {b k : Nat} {l : List Int} (h : PartZ w b l k) (hk : k < l.length) : PartZ (w.setCell ⟨b, k, none⟩ (.int .i64 l[k])) b l (k + 1) := by
  obtain ⟨f, h, hf⟩ := h
  refine ⟨_, h.set _ _, fun j hj hlt => ?_⟩
  by_cases e : j = k
  · subst e; simp
  · simp only [if_neg e]
    exact hf j hj (by omega)
theorem PartZ.row {w : World} {b : Nat} {l : List Int} (h : PartZ w b l l.length) : RowZ w (some ⟨b, 0, none⟩) l := fun k hk => by
  obtain ⟨f, h, hf⟩ := h
  exact ⟨b, 0, rfl, h.lt, by rw [Nat.zero_add, h.cell hk, hf k hk hk]⟩
theorem Try.infoZ : (Try.prog.info? 3).map (fun i => (i.zero, i.size, i.bytes)) = some (some (.int .i64 0), 1, 8) := by kernel_rfl

set_option maxHeartbeats 800000 in
theorem toIntS_any (a : Option Addr) (cap : Nat) (l : List Int) (w : World) (hl : l.length ≤ 1048576) (hr : RowZ w a l) :
    Calls Try.prog 18 #[.slice a l.length cap] w fun e w' => e = .returned (.slice (some ⟨w.heap.size, 0, none⟩) l.length l.length) ∧ PartZ w' w.heap.size l l.length ∧ Below w.heap.size w w' := by
  obtain ⟨i0, hi, hz0, hz1, hz2⟩ := info_parts Try.infoZ
  have hmk : ∀ u : World, (Instr.makeSlice 30 (.int .i64 (l.length : Int)) (.int .i64 (l.length : Int))).run Try.prog u =
      .ok (.slice (some ⟨u.heap.size, 0, none⟩) l.length l.length) (u.alloc (.cells (madeCells #[.int .i64 0] l.length) 3)) := fun u => by
    have h := run_make (P := Try.prog) u 30 3 i0 (.int .i64 0) Try.underlying30 hi hz0 .i64 .i64 (l.length : Int) (l.length : Int) (by omega) (Int.le_refl _) (by rw [hz2]; omega) (by omega)
    simpa [hz1, Value.cells] using h
  go_enter Try.func18, Try.ntmps18
  go_wp2_with fail
  go_loopw [4] (fun i wr => ∃ k : Nat, k ≤ l.length ∧ i = .int .i64 k ∧ PartZ wr w.heap.size l k ∧ Below w.heap.size w wr) (fun i _ => l.length - (intOf i).toNat)
  case atStart => exact ⟨0, Nat.zero_le _, rfl, PartZ.made w l _, (Below.refl _ _).alloc (Nat.le_refl _) _⟩
  case round =>
    obtain ⟨k, hk, rfl, hp, hb⟩ := hrel
    by_cases hlt : k < l.length
    · obtain ⟨b, o, rfl, hblt, c0⟩ := hr.below hb k hlt
      have k0 : (0 : Int) ≤ (k : Int) := by omega
      have k1 : (k : Int) < (l.length : Int) := by omega
      obtain ⟨v0, hv0⟩ := hp.cell (i := k) hlt
      have hf0 := hp.frozen k
      have hstep := hp.step hlt
      go_wp2_with fail
      exact ⟨⟨k + 1, by omega, by go_num, hstep, hb.setCell (Nat.le_refl _) _⟩, by simp [intOf]; omega⟩
    · obtain rfl : k = l.length := by omega
      go_wp2_with fail
      go_ret
      exact ⟨rfl, hp, hb⟩

end Go.Proofs.Ytpfhegengmlkmac
