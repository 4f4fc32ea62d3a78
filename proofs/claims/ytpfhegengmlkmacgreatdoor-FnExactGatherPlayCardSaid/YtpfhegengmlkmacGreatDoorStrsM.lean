/- Rows of texts in memory. -/
import Derived.Test.YtpfhegengmlkmacGreatDoorLat
namespace Go.Proofs.YtpfhegengmlkmacGreatDoor
open Go.RowKit Go.BigFrame

/-- The slice at address 'a' holds the texts 'l', one a cell. -/
def RowS (w : World) (a : Option Addr) (l : List ByteArray) : Prop :=
  ∀ k, (h : k < l.length) → ∃ b o, a = some ⟨b, o, none⟩ ∧ b < w.heap.size ∧ w.cell? ⟨b, o + k, none⟩ = some (.string l[k])

theorem RowS.below {w w' : World} {a : Option Addr} {l : List ByteArray} (h : RowS w a l) (hb : Below w.heap.size w w') : RowS w' a l := fun k hk => by
  obtain ⟨b, o, ha, hlt, h0⟩ := h k hk
  exact ⟨b, o, ha, Nat.lt_of_lt_of_le hlt hb.size, by rw [hb.cell hlt]; exact h0⟩

/-- The first 'k' texts of 'l' lie in block 'b', which has room for all. -/
def PartS (w : World) (b : Nat) (l : List ByteArray) (k : Nat) : Prop :=
  ∃ f, w.rowIs b 9 l.length f ∧ ∀ j, (h : j < l.length) → j < k → f j = .string l[j]

theorem PartS.lt {w : World} {b k : Nat} {l : List ByteArray} (h : PartS w b l k) : b < w.heap.size := by
  obtain ⟨f, h, _⟩ := h
  exact h.lt
theorem PartS.below {w w' : World} {b k B : Nat} {l : List ByteArray} (h : PartS w b l k) (hB : b < B) (hb : Below B w w') : PartS w' b l k := by
  obtain ⟨f, h, hf⟩ := h
  exact ⟨f, h.of_block (hb.block b hB), hf⟩
theorem PartS.made (w : World) (l : List ByteArray) (z : Value) : PartS (w.alloc (.cells (madeCells #[z] l.length) 9)) w.heap.size l 0 :=
  ⟨fun _ => z, World.rowIs_made w z l.length 9, fun j _ h => by omega⟩
theorem PartS.row {w : World} {b : Nat} {l : List ByteArray} (h : PartS w b l l.length) : RowS w (some ⟨b, 0, none⟩) l := fun k hk => by
  have hlt := h.lt
  obtain ⟨f, h, hf⟩ := h
  exact ⟨b, 0, rfl, hlt, by rw [Nat.zero_add, h.cell hk, hf k hk hk]⟩
theorem PartS.cell {w : World} {b k : Nat} {l : List ByteArray} (h : PartS w b l k) {i : Nat} (hi : i < l.length) : ∃ v, w.cell? ⟨b, i, none⟩ = some v := by
  obtain ⟨f, h, _⟩ := h
  exact ⟨_, h.cell hi⟩
theorem PartS.frozen {w : World} {b k : Nat} {l : List ByteArray} (h : PartS w b l k) (i : Nat) : w.frozen? ⟨b, i, none⟩ = false := by
  obtain ⟨f, h, _⟩ := h
  exact h.frozen i
theorem PartS.step {w : World} {b k : Nat} {l : List ByteArray} (h : PartS w b l k) (hk : k < l.length) : PartS (w.setCell ⟨b, k, none⟩ (.string l[k])) b l (k + 1) := by
  obtain ⟨f, h, hf⟩ := h
  refine ⟨_, h.set _ _, fun j hj hlt => ?_⟩
  by_cases e : j = k
  · subst e
    simp
  · simp only [if_neg e]
    exact hf j hj (by omega)

end Go.Proofs.YtpfhegengmlkmacGreatDoor
