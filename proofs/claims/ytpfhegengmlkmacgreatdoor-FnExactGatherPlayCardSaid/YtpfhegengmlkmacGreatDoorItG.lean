/- Numbers and windows in blocks of the call's own. Walks: toIntS, toItemSS. -/
import Derived.Test.YtpfhegengmlkmacGreatDoorItD
import Derived.Test.YtpfhegengmlkmacGreatDoorItF
namespace Go.Proofs.YtpfhegengmlkmacGreatDoor
open Go.RowKit Go.BigFrame

/-- The first 'k' numbers of 'l' lie in block 'b', which has room for all. -/
def PartZ (w : World) (b : Nat) (l : List Int) (k : Nat) : Prop :=
  ∃ f, w.rowIs b 3 l.length f ∧ ∀ j, (h : j < l.length) → j < k → f j = .int .i64 l[j]
theorem PartZ.lt {w : World} {b k : Nat} {l : List Int} (h : PartZ w b l k) : b < w.heap.size := by
  obtain ⟨f, h, _⟩ := h
  exact h.lt
theorem PartZ.below {w w' : World} {b k : Nat} {l : List Int} (h : PartZ w b l k) (hb : Below w.heap.size w w') : PartZ w' b l k := by
  have hlt := h.lt
  obtain ⟨f, h, hf⟩ := h
  exact ⟨f, h.of_block (hb.block b hlt), hf⟩
theorem PartZ.made (w : World) (l : List Int) (z : Value) : PartZ (w.alloc (.cells (madeCells #[z] l.length) 3)) w.heap.size l 0 := by
  refine ⟨fun i => #[z][i % 1]!, ?_, fun j _ h => by omega⟩
  have h := World.rowIs_alloc w (madeCells #[z] l.length) 3 (fun i => #[z][i % 1]!) (fun i hi => by
    rw [size_madeCells] at hi
    simp [madeCells, hi])
  rwa [size_madeCells] at h
theorem PartZ.cell {w : World} {b k : Nat} {l : List Int} (h : PartZ w b l k) {i : Nat} (hi : i < l.length) : ∃ v, w.cell? ⟨b, i, none⟩ = some v := by
  obtain ⟨f, h, _⟩ := h
  exact ⟨_, h.cell hi⟩
theorem PartZ.frozen {w : World} {b k : Nat} {l : List Int} (h : PartZ w b l k) (i : Nat) : w.frozen? ⟨b, i, none⟩ = false := by
  obtain ⟨f, h, _⟩ := h
  exact h.frozen i
theorem PartZ.step {w : World} {b k : Nat} {l : List Int} (h : PartZ w b l k) (hk : k < l.length) : PartZ (w.setCell ⟨b, k, none⟩ (.int .i64 l[k])) b l (k + 1) := by
  obtain ⟨f, h, hf⟩ := h
  refine ⟨_, h.set _ _, fun j hj hlt => ?_⟩
  by_cases e : j = k
  · subst e; simp
  · simp only [if_neg e]
    exact hf j hj (by omega)
theorem PartZ.row {w : World} {b : Nat} {l : List Int} (h : PartZ w b l l.length) : RowZ w (some ⟨b, 0, none⟩) l := fun k hk => by
  obtain ⟨f, h, hf⟩ := h
  exact ⟨b, 0, rfl, h.lt, by rw [Nat.zero_add, h.cell hk, hf k hk hk]⟩
theorem Tryz.infoZ : (Tryz.prog.info? 3).map (fun i => (i.zero, i.size, i.bytes)) = some (some (.int .i64 0), 1, 8) := by kernel_rfl

end Go.Proofs.YtpfhegengmlkmacGreatDoor
