/- What a row of marks is in memory, and that it stays what it is while memory grows. -/
import Derived.Test.YtpfhegengmlkmacGreatDoorProg
import Derived.Test.YtpfhegengmlkmacGreatDoorMath
import Derived.WalkKit
import Derived.WalkSpells
import Derived.WalkLawsBesides
import Derived.Below
import Derived.Deep.OwnRows
namespace Go.Proofs.YtpfhegengmlkmacGreatDoor
open Go.RowKit

/-- The slice at address 'a' holds the marks 'l', each in two cells. -/
def Row (w : World) (a : Option Addr) (l : List (ByteArray × Int)) : Prop :=
  ∀ k, (h : k < l.length) → ∃ b o, a = some ⟨b, o, none⟩ ∧ b < w.heap.size ∧ w.cell? ⟨b, o + k * 2, none⟩ = some (.string l[k].1) ∧ w.cell? ⟨b, o + k * 2 + 1, none⟩ = some (.int .i64 l[k].2)

theorem Row.below {w w' : World} {a : Option Addr} {l : List (ByteArray × Int)} (h : Row w a l) (hb : Below w.heap.size w w') : Row w' a l := fun k hk => by
  obtain ⟨b, o, ha, hlt, h0, h1⟩ := h k hk
  exact ⟨b, o, ha, Nat.lt_of_lt_of_le hlt hb.size, by rw [hb.cell hlt]; exact h0, by rw [hb.cell hlt]; exact h1⟩

theorem bcell {W w1 : World} (hb : Below W.heap.size W w1) : (∀ b o, b < W.heap.size → w1.cell? ⟨b, o, none⟩ = W.cell? ⟨b, o, none⟩) ∧ (∀ b o, b < W.heap.size → w1.frozen? ⟨b, o, none⟩ = W.frozen? ⟨b, o, none⟩) :=
  ⟨fun _ _ h => hb.cell (p := ⟨_, _, none⟩) h, fun _ _ h => hb.frozen (p := ⟨_, _, none⟩) h⟩

theorem cell_on {W w1 : World} (hb : Below W.heap.size W w1) {b o : Nat} {v : Value} (hlt : b < W.heap.size) (h : W.cell? ⟨b, o, none⟩ = some v) : w1.cell? ⟨b, o, none⟩ = some v := by
  rw [hb.cell hlt]; exact h

theorem box0 (w : World) (x y : Value) (t : TypeId) : (w.alloc (.cells #[x, y] t)).cell? ⟨w.heap.size, 0, none⟩ = some x := by simp [go_sem]
theorem box1 (w : World) (x y : Value) (t : TypeId) : (w.alloc (.cells #[x, y] t)).cell? ⟨w.heap.size, 1, none⟩ = some y := by simp [go_sem]
theorem box_lt (w : World) (o : Obj) : w.heap.size < (w.alloc o).heap.size := by simp

/-- Block 'b' is a row of cells that the call may write; the marks 'l' lie at its head. -/
def Own (w : World) (b : Nat) (l : List (ByteArray × Int)) : Prop :=
  ∃ m f, w.rowIs b 144 m f ∧ l.length * 2 ≤ m ∧ ∀ k, (h : k < l.length) → f (k * 2) = .string l[k].1 ∧ f (k * 2 + 1) = .int .i64 l[k].2

theorem Own.lt {w : World} {b : Nat} {l : List (ByteArray × Int)} (h : Own w b l) : b < w.heap.size := by
  obtain ⟨m, f, h, _⟩ := h
  exact h.lt

theorem Own.row {w : World} {b : Nat} {l : List (ByteArray × Int)} (h : Own w b l) : Row w (some ⟨b, 0, none⟩) l := fun k hk => by
  obtain ⟨m, f, h, hm, hf⟩ := h
  refine ⟨b, 0, rfl, h.lt, ?_, ?_⟩
  · rw [Nat.zero_add, h.cell (by omega), (hf k hk).1]
  · rw [Nat.zero_add, h.cell (by omega), (hf k hk).2]

theorem Own.below {w w' : World} {b : Nat} {l : List (ByteArray × Int)} (h : Own w b l) (hb : Below w.heap.size w w') : Own w' b l := by
  have hlt := h.lt
  obtain ⟨m, f, h, hf⟩ := h
  exact ⟨m, f, h.of_block (hb.block b hlt), hf⟩

/-- The first 'k' marks of 'l' lie in block 'b', which has room for all. -/
def Part (w : World) (b : Nat) (l : List (ByteArray × Int)) (k : Nat) : Prop :=
  ∃ m f, w.rowIs b 144 m f ∧ l.length * 2 ≤ m ∧ ∀ j, (h : j < l.length) → j < k → f (j * 2) = .string l[j].1 ∧ f (j * 2 + 1) = .int .i64 l[j].2

theorem Part.lt {w : World} {b k : Nat} {l : List (ByteArray × Int)} (h : Part w b l k) : b < w.heap.size := by
  obtain ⟨m, f, h, _⟩ := h
  exact h.lt

theorem Part.below {w w' : World} {b k B : Nat} {l : List (ByteArray × Int)} (h : Part w b l k) (hB : b < B) (hb : Below B w w') : Part w' b l k := by
  obtain ⟨m, f, h, hf⟩ := h
  exact ⟨m, f, h.of_block (hb.block b hB), hf⟩

theorem Part.made (w : World) (l : List (ByteArray × Int)) (z : Array Value) : Part (w.alloc (.cells (madeCells z (l.length * 2)) 144)) w.heap.size l 0 := by
  refine ⟨l.length * 2, fun i => z[i % z.size]!, ?_, Nat.le_refl _, fun j _ h => by omega⟩
  have h := World.rowIs_alloc w (madeCells z (l.length * 2)) 144 (fun i => z[i % z.size]!) (fun i hi => by
    rw [size_madeCells] at hi
    simp [madeCells, hi])
  rwa [size_madeCells] at h

theorem Part.own {w : World} {b : Nat} {l : List (ByteArray × Int)} (h : Part w b l l.length) : Own w b l := by
  obtain ⟨m, f, h, hm, hf⟩ := h
  exact ⟨m, f, h, hm, fun k hk => hf k hk hk⟩

theorem Part.cell {w : World} {b k : Nat} {l : List (ByteArray × Int)} (h : Part w b l k) {i : Nat} (hi : i < l.length * 2) : ∃ v, w.cell? ⟨b, i, none⟩ = some v := by
  obtain ⟨m, f, h, hm, _⟩ := h
  exact ⟨_, h.cell (by omega)⟩

theorem Part.frozen {w : World} {b k : Nat} {l : List (ByteArray × Int)} (h : Part w b l k) (i : Nat) : w.frozen? ⟨b, i, none⟩ = false := by
  obtain ⟨m, f, h, _⟩ := h
  exact h.frozen i

theorem Part.step' {w : World} {b k : Nat} {l : List (ByteArray × Int)} (h : Part w b l k) (hk : k < l.length) {s : ByteArray} {v : Int} (hs : l[k] = (s, v)) : Part ((w.setCell ⟨b, k * 2, none⟩ (.string s)).setCell ⟨b, k * 2 + 1, none⟩ (.int .i64 v)) b l (k + 1) := by
  obtain ⟨m, f, h, hm, hf⟩ := h
  refine ⟨m, _, (h.set _ _).set _ _, hm, fun j hj hlt => ?_⟩
  by_cases e : j = k
  · subst e
    simp [hs]
  · have h0 := hf j hj (by omega)
    have e0 : j * 2 ≠ k * 2 + 1 := by omega
    have e1 : j * 2 ≠ k * 2 := by omega
    have e2 : j * 2 + 1 ≠ k * 2 + 1 := by omega
    have e3 : j * 2 + 1 ≠ k * 2 := by omega
    simp only [if_neg e0, if_neg e1, if_neg e2, if_neg e3]
    exact h0
theorem Part.step {w : World} {b k : Nat} {l : List (ByteArray × Int)} (h : Part w b l k) (hk : k < l.length) : Part ((w.setCell ⟨b, k * 2, none⟩ (.string l[k].1)).setCell ⟨b, k * 2 + 1, none⟩ (.int .i64 l[k].2)) b l (k + 1) := h.step' hk rfl

/-- Of all that lay there only block 'b' may have turned. -/
structure But (b : Nat) (w w' : World) : Prop where
  os : w'.os = w.os
  tape : w'.tape = w.tape
  output : w'.output = w.output
  size : w.heap.size ≤ w'.heap.size
  block : ∀ k, k < w.heap.size → k ≠ b → w'.heap[k]? = w.heap[k]?

theorem But.refl (b : Nat) (w : World) : But b w w := ⟨rfl, rfl, rfl, Nat.le_refl _, fun _ _ _ => rfl⟩
theorem But.trans {b : Nat} {x y z : World} (h : But b x y) (k : But b y z) : But b x z :=
  ⟨k.os.trans h.os, k.tape.trans h.tape, k.output.trans h.output, Nat.le_trans h.size k.size, fun i hi hn => (k.block i (Nat.lt_of_lt_of_le hi h.size) hn).trans (h.block i hi hn)⟩
theorem But.of_below {b : Nat} {w w' : World} (h : Below w.heap.size w w') : But b w w' := ⟨h.os, h.tape, h.output, h.size, fun k hk _ => h.block k hk⟩
theorem But.setCell {b : Nat} {x w : World} (h : But b x w) (i : Nat) (v : Value) : But b x (w.setCell ⟨b, i, none⟩ v) :=
  h.trans ⟨rfl, rfl, rfl, by simp [World.setCell], fun k _ hn => Below.heap_setCell _ _ _ _ hn⟩
theorem But.below {b B : Nat} {w w' : World} (h : But b w w') (hb : B ≤ b) (hw : B ≤ w.heap.size) : Below B w w' :=
  ⟨h.os, h.tape, h.output, h.size, fun k hk => h.block k (by omega) (by omega)⟩
theorem But.own {b c : Nat} {w w' : World} {l : List (ByteArray × Int)} (h : But b w w') (ho : Own w c l) (hc : c ≠ b) : Own w' c l := by
  have hlt := ho.lt
  obtain ⟨m, f, h', hf⟩ := ho
  exact ⟨m, f, h'.of_block (h.block c hlt hc), hf⟩

end Go.Proofs.YtpfhegengmlkmacGreatDoor
