/- Texts of this claim, one behind the other. -/
import GoSem.Op.String
import Derived.Laws.Strings
import Derived.Test.YtpfhegengmlkmaaGreatProg
import Derived.WalkKit
import Derived.WalkSpells
import Derived.WalkLawsBesides
import Derived.Below
import Derived.Deep.OwnRows
import Derived.Deep.QuietTactic
import Derived.BigQuiet
import Derived.Deep.AppendLies
import Derived.Laws.BitsLemmas
namespace Go.Proofs.YtpfhegengmlkmaaGreat

/-- A byte of a name. -/
def NB (c : Int) : Prop := (97 ≤ c ∧ c ≤ 122) ∨ (48 ≤ c ∧ c ≤ 57) ∨ c = 45
/-- A name. -/
def NameP (s : ByteArray) : Prop := 1 ≤ s.size ∧ s.size ≤ 8 ∧ ∀ j, (h : j < s.size) → NB (s[j].toNat : Int)
/-- A mark that may stand in a stamp. -/
def MarkP (m : ByteArray × Int) : Prop := NameP m.1 ∧ 1 ≤ m.2 ∧ m.2 ≤ 1099511627776
/-- Two sources that ascend, as Go's '<' has it. -/
def Asc (s t : ByteArray) : Prop := Op.bytesLess s.toList t.toList = true
/-- A stamp. -/
def StampP (l : List (ByteArray × Int)) : Prop := l.length ≤ 12 ∧ (∀ j, (h : j < l.length) → MarkP l[j]) ∧ ∀ j, (h : j + 1 < l.length) → Asc l[j].1 l[j + 1].1
/-- The first k marks are as in a stamp. -/
def StampTo (l : List (ByteArray × Int)) (k : Nat) : Prop := (∀ j, (h : j < l.length) → j < k → MarkP l[j]) ∧ ∀ j, (h : j + 1 < l.length) → j + 1 < k → Asc l[j].1 l[j + 1].1

theorem stampTo_zero (l : List (ByteArray × Int)) : StampTo l 0 := ⟨fun _ _ h => by omega, fun _ _ h => by omega⟩
theorem stampTo_step {l : List (ByteArray × Int)} {k : Nat} (H : StampTo l k) (hk : k < l.length) (hm : MarkP l[k]) (ha : 0 < k → Asc l[k - 1].1 l[k].1) : StampTo l (k + 1) := by
  refine ⟨fun j hj hlt => ?_, fun j hj hlt => ?_⟩
  · by_cases e : j = k
    · subst e; exact hm
    · exact H.1 j hj (by omega)
  · by_cases e : j + 1 = k
    · subst e; exact ha (by omega)
    · exact H.2 j hj (by omega)
theorem asc_at {l : List (ByteArray × Int)} (h : StampP l) {k : Nat} (h0 : ¬ k < 1) (hk : k < l.length) : Asc l[k - 1].1 l[k].1 := by
  obtain ⟨m, rfl⟩ : ∃ m, k = m + 1 := ⟨k - 1, by omega⟩
  exact h.2.2 m hk
theorem stampP_of {l : List (ByteArray × Int)} {k : Nat} (H : StampTo l k) (hk : ¬ k < l.length) (h : l.length ≤ 12) : StampP l :=
  ⟨h, fun j hj => H.1 j hj (by omega), fun j hj => H.2 j hj (by omega)⟩

theorem toList_inj {s t : ByteArray} (h : s.toList = t.toList) : s = t := by
  rw [ByteArray.toList_eq, ByteArray.toList_eq] at h
  cases s; cases t
  simpa using h
theorem toList_beq {s t : ByteArray} : (s.toList == t.toList) = true ↔ s = t := by
  rw [beq_iff_eq]
  exact ⟨toList_inj, fun h => by rw [h]⟩
theorem toList_bne {s t : ByteArray} : (s.toList == t.toList) = false ↔ s ≠ t := by
  rw [beq_eq_false_iff_ne]
  exact ⟨fun h e => h (by rw [e]), fun h e => h (toList_inj e)⟩

/-- The version of a source: of the first mark that has it, 0 where none has. -/
def getM : List (ByteArray × Int) → ByteArray → Int
  | [], _ => 0
  | m :: r, s => if m.1 = s then m.2 else getM r s

theorem getM_none {s : ByteArray} : ∀ {l : List (ByteArray × Int)}, (∀ j, (h : j < l.length) → l[j].1 ≠ s) → getM l s = 0
  | [], _ => rfl
  | m :: r, h => by
    have h0 : m.1 ≠ s := h 0 (by simp)
    rw [getM, if_neg h0]
    exact getM_none fun j hj => h (j + 1) (by simpa using hj)
theorem getM_at {s : ByteArray} : ∀ {l : List (ByteArray × Int)} {k : Nat} (hk : k < l.length), (∀ j, (h : j < l.length) → j < k → l[j].1 ≠ s) → l[k].1 = s → getM l s = l[k].2
  | m :: r, 0, _, _, h => by
    have h0 : m.1 = s := h
    rw [getM, if_pos h0]
    rfl
  | m :: r, k + 1, hk, hb, h => by
    have h0 : m.1 ≠ s := hb 0 (by simp) (by omega)
    rw [getM, if_neg h0]
    exact getM_at (k := k) (by simpa using hk) (fun j hj hlt => hb (j + 1) (by simpa using hj) (by omega)) h

theorem ne_step {s : ByteArray} {l : List (ByteArray × Int)} {k : Nat} (H : ∀ j, (h : j < l.length) → j < k → l[j].1 ≠ s) (hk : k < l.length) (h : l[k].1 ≠ s) : ∀ j, (h : j < l.length) → j < k + 1 → l[j].1 ≠ s := fun j hj hlt => by
  by_cases e : j = k
  · subst e; exact h
  · exact H j hj (by omega)

end Go.Proofs.YtpfhegengmlkmaaGreat

namespace Go.Proofs.YtpfhegengmlkmaaGreat
open Go.RowKit

/-- The slice at address 'a' holds the marks 'l', each in two cells. -/
def Row (w : World) (a : Option Addr) (l : List (ByteArray × Int)) : Prop :=
  ∀ k, (h : k < l.length) → ∃ b o, a = some ⟨b, o, none⟩ ∧ b < w.heap.size ∧ w.cell? ⟨b, o + k * 2, none⟩ = some (.string l[k].1) ∧ w.cell? ⟨b, o + k * 2 + 1, none⟩ = some (.int .i64 l[k].2)

theorem Row.below {w w' : World} {a : Option Addr} {l : List (ByteArray × Int)} (h : Row w a l) (hb : Below w.heap.size w w') : Row w' a l := fun k hk => by
  obtain ⟨b, o, ha, hlt, h0, h1⟩ := h k hk
  exact ⟨b, o, ha, Nat.lt_of_lt_of_le hlt hb.size, by rw [hb.cell hlt]; exact h0, by rw [hb.cell hlt]; exact h1⟩

theorem bcell {W w1 : World} (hb : Below W.heap.size W w1) : (∀ b o, b < W.heap.size → w1.cell? ⟨b, o, none⟩ = W.cell? ⟨b, o, none⟩) ∧ (∀ b o, b < W.heap.size → w1.frozen? ⟨b, o, none⟩ = W.frozen? ⟨b, o, none⟩) :=
  ⟨fun _ _ h => hb.cell (p := ⟨_, _, none⟩) h, fun _ _ h => hb.frozen (p := ⟨_, _, none⟩) h⟩

theorem cell_on {W w1 : World} (hb : Below W.heap.size W w1) {b o : Nat} {v : Value} (hlt : b < W.heap.size) (h : W.cell? ⟨b, o, none⟩ = some v) : w1.cell? ⟨b, o, none⟩ = some v := by
  rw [hb.cell hlt]; exact h

theorem box0 (w : World) (x y : Value) (t : TypeId) : (w.alloc (.cells #[x, y] t)).cell? ⟨w.heap.size, 0, none⟩ = some x := by simp [go_sem]
theorem box1 (w : World) (x y : Value) (t : TypeId) : (w.alloc (.cells #[x, y] t)).cell? ⟨w.heap.size, 1, none⟩ = some y := by simp [go_sem]
theorem box_lt (w : World) (o : Obj) : w.heap.size < (w.alloc o).heap.size := by simp

/-- Block 'b' is a row of cells that the call may write; the marks 'l' lie at its head. -/
def Own (w : World) (b : Nat) (l : List (ByteArray × Int)) : Prop :=
  ∃ m f, w.rowIs b 72 m f ∧ l.length * 2 ≤ m ∧ ∀ k, (h : k < l.length) → f (k * 2) = .string l[k].1 ∧ f (k * 2 + 1) = .int .i64 l[k].2

theorem Own.lt {w : World} {b : Nat} {l : List (ByteArray × Int)} (h : Own w b l) : b < w.heap.size := by
  obtain ⟨m, f, h, _⟩ := h
  exact h.lt

theorem Own.row {w : World} {b : Nat} {l : List (ByteArray × Int)} (h : Own w b l) : Row w (some ⟨b, 0, none⟩) l := fun k hk => by
  obtain ⟨m, f, h, hm, hf⟩ := h
  refine ⟨b, 0, rfl, h.lt, ?_, ?_⟩
  · rw [Nat.zero_add, h.cell (by omega), (hf k hk).1]
  · rw [Nat.zero_add, h.cell (by omega), (hf k hk).2]

theorem Own.below {w w' : World} {b : Nat} {l : List (ByteArray × Int)} (h : Own w b l) (hb : Below w.heap.size w w') : Own w' b l := by
  have hlt := h.lt
  obtain ⟨m, f, h, hf⟩ := h
  exact ⟨m, f, h.of_block (hb.block b hlt), hf⟩

/-- The first 'k' marks of 'l' lie in block 'b', which has room for all. -/
def Part (w : World) (b : Nat) (l : List (ByteArray × Int)) (k : Nat) : Prop :=
  ∃ m f, w.rowIs b 72 m f ∧ l.length * 2 ≤ m ∧ ∀ j, (h : j < l.length) → j < k → f (j * 2) = .string l[j].1 ∧ f (j * 2 + 1) = .int .i64 l[j].2

theorem Part.lt {w : World} {b k : Nat} {l : List (ByteArray × Int)} (h : Part w b l k) : b < w.heap.size := by
  obtain ⟨m, f, h, _⟩ := h
  exact h.lt

theorem Part.below {w w' : World} {b k B : Nat} {l : List (ByteArray × Int)} (h : Part w b l k) (hB : b < B) (hb : Below B w w') : Part w' b l k := by
  obtain ⟨m, f, h, hf⟩ := h
  exact ⟨m, f, h.of_block (hb.block b hB), hf⟩

theorem Part.made (w : World) (l : List (ByteArray × Int)) (z : Array Value) : Part (w.alloc (.cells (madeCells z (l.length * 2)) 72)) w.heap.size l 0 := by
  refine ⟨l.length * 2, fun i => z[i % z.size]!, ?_, Nat.le_refl _, fun j _ h => by omega⟩
  have h := World.rowIs_alloc w (madeCells z (l.length * 2)) 72 (fun i => z[i % z.size]!) (fun i hi => by
    rw [size_madeCells] at hi
    simp [madeCells, hi])
  rwa [size_madeCells] at h

theorem Part.own {w : World} {b : Nat} {l : List (ByteArray × Int)} (h : Part w b l l.length) : Own w b l := by
  obtain ⟨m, f, h, hm, hf⟩ := h
  exact ⟨m, f, h, hm, fun k hk => hf k hk hk⟩

theorem Part.cell {w : World} {b k : Nat} {l : List (ByteArray × Int)} (h : Part w b l k) {i : Nat} (hi : i < l.length * 2) : ∃ v, w.cell? ⟨b, i, none⟩ = some v := by
  obtain ⟨m, f, h, hm, _⟩ := h
  exact ⟨_, h.cell (by omega)⟩

theorem Part.frozen {w : World} {b k : Nat} {l : List (ByteArray × Int)} (h : Part w b l k) (i : Nat) : w.frozen? ⟨b, i, none⟩ = false := by
  obtain ⟨m, f, h, _⟩ := h
  exact h.frozen i

theorem Part.step' {w : World} {b k : Nat} {l : List (ByteArray × Int)} (h : Part w b l k) (hk : k < l.length) {s : ByteArray} {v : Int} (hs : l[k] = (s, v)) : Part ((w.setCell ⟨b, k * 2, none⟩ (.string s)).setCell ⟨b, k * 2 + 1, none⟩ (.int .i64 v)) b l (k + 1) := by
  obtain ⟨m, f, h, hm, hf⟩ := h
  refine ⟨m, _, (h.set _ _).set _ _, hm, fun j hj hlt => ?_⟩
  by_cases e : j = k
  · subst e
    simp [hs]
  · have h0 := hf j hj (by omega)
    have e0 : j * 2 ≠ k * 2 + 1 := by omega
    have e1 : j * 2 ≠ k * 2 := by omega
    have e2 : j * 2 + 1 ≠ k * 2 + 1 := by omega
    have e3 : j * 2 + 1 ≠ k * 2 := by omega
    simp only [if_neg e0, if_neg e1, if_neg e2, if_neg e3]
    exact h0
theorem Part.step {w : World} {b k : Nat} {l : List (ByteArray × Int)} (h : Part w b l k) (hk : k < l.length) : Part ((w.setCell ⟨b, k * 2, none⟩ (.string l[k].1)).setCell ⟨b, k * 2 + 1, none⟩ (.int .i64 l[k].2)) b l (k + 1) := h.step' hk rfl

/-- Of all that lay there only block 'b' may have turned. -/
structure But (b : Nat) (w w' : World) : Prop where
  os : w'.os = w.os
  tape : w'.tape = w.tape
  output : w'.output = w.output
  size : w.heap.size ≤ w'.heap.size
  block : ∀ k, k < w.heap.size → k ≠ b → w'.heap[k]? = w.heap[k]?

theorem But.refl (b : Nat) (w : World) : But b w w := ⟨rfl, rfl, rfl, Nat.le_refl _, fun _ _ _ => rfl⟩
theorem But.trans {b : Nat} {x y z : World} (h : But b x y) (k : But b y z) : But b x z :=
  ⟨k.os.trans h.os, k.tape.trans h.tape, k.output.trans h.output, Nat.le_trans h.size k.size, fun i hi hn => (k.block i (Nat.lt_of_lt_of_le hi h.size) hn).trans (h.block i hi hn)⟩
theorem But.of_below {b : Nat} {w w' : World} (h : Below w.heap.size w w') : But b w w' := ⟨h.os, h.tape, h.output, h.size, fun k hk _ => h.block k hk⟩
theorem But.setCell {b : Nat} {x w : World} (h : But b x w) (i : Nat) (v : Value) : But b x (w.setCell ⟨b, i, none⟩ v) :=
  h.trans ⟨rfl, rfl, rfl, by simp [World.setCell], fun k _ hn => Below.heap_setCell _ _ _ _ hn⟩
theorem But.below {b B : Nat} {w w' : World} (h : But b w w') (hb : B ≤ b) (hw : B ≤ w.heap.size) : Below B w w' :=
  ⟨h.os, h.tape, h.output, h.size, fun k hk => h.block k (by omega) (by omega)⟩
theorem But.own {b c : Nat} {w w' : World} {l : List (ByteArray × Int)} (h : But b w w') (ho : Own w c l) (hc : c ≠ b) : Own w' c l := by
  have hlt := ho.lt
  obtain ⟨m, f, h', hf⟩ := ho
  exact ⟨m, f, h'.of_block (h.block c hlt hc), hf⟩

end Go.Proofs.YtpfhegengmlkmaaGreat

namespace Go.Proofs.YtpfhegengmlkmaaGreat
open Go.RowKit

/-- A world behind W: all that W has is as it was. -/
structure Lat (W : World) where
  w : World
  h : Below W.heap.size W w

theorem Lat.some (W : World) : Nonempty (Lat W) := ⟨⟨W, Below.refl _ _⟩⟩

theorem Lat.cell {W : World} (n : Lat W) {b o : Nat} {v : Value} (hlt : b < W.heap.size) (h : W.cell? ⟨b, o, none⟩ = Option.some v) : n.w.cell? ⟨b, o, none⟩ = Option.some v := cell_on n.h hlt h

theorem wp_region_lat {P : Program} {id : Nat} {Q : Exit → Act → World → Prop} {a : Act} {w : World} {l : List Oper} (hm : P.follows .mixedOrders = true) (hB : Region.lexB .any l.toArray = true)
    (h : wpQuiet P l.toArray (fun w' => ∃ n : Lat w, w' = n.w) (fun a' => ∀ w', (∃ n : Lat w, w' = n.w) → Q .normal a' w') l a) : (Code.region id l.toArray true).wp P Q a w :=
  wp_region_quiet (C := fun w' => ∃ n : Lat w, w' = n.w) hm hB ⟨⟨w.drew, (Below.refl _ _).drew⟩, rfl⟩ (by simpa using h)

theorem Calls.lat_of {P : Program} {f : FuncId} {args : Array Value} {W : World} {n : Lat W} {v : Value}
    (h : Calls P f args n.w fun e w' => e = .returned v ∧ Below n.w.heap.size n.w w') : Calls P f args n.w fun e w'' => e = .returned v ∧ ∃ m : Lat W, w'' = m.w :=
  h.mono fun _ w' ⟨he, hb⟩ => ⟨he, ⟨w', n.h.trans (hb.mono n.h.size)⟩, rfl⟩

theorem Calls.lat_same {P : Program} {f : FuncId} {args : Array Value} {W : World} {n : Lat W} {v : Value}
    (h : Calls P f args n.w fun e w' => e = .returned v ∧ w' = n.w) : Calls P f args n.w fun e w'' => e = .returned v ∧ ∃ m : Lat W, w'' = m.w :=
  h.mono fun _ _ ⟨he, hb⟩ => ⟨he, n, hb⟩

end Go.Proofs.YtpfhegengmlkmaaGreat

namespace Go.Proofs.YtpfhegengmlkmaaGreat
open Go.RowKit Go.BigFrame

/-- The cells of marks, two a mark. -/
def mcells : List (ByteArray × Int) → List Value
  | [] => []
  | m :: r => .string m.1 :: .int .i64 m.2 :: mcells r
theorem mcells_length : ∀ l, (mcells l).length = l.length * 2
  | [] => rfl
  | m :: r => by simp [mcells, mcells_length r]; omega
theorem mcells_append : ∀ l r, mcells (l ++ r) = mcells l ++ mcells r
  | [], _ => rfl
  | m :: l, r => by simp [mcells, mcells_append l r]
theorem mcells_at : ∀ (l : List (ByteArray × Int)) (k : Nat) (h : k < l.length), (mcells l)[k * 2]? = some (.string l[k].1) ∧ (mcells l)[k * 2 + 1]? = some (.int .i64 l[k].2)
  | m :: r, 0, _ => by simp [mcells]
  | m :: r, k + 1, h => by
    have := mcells_at r k (by simpa using h)
    have e0 : (k + 1) * 2 = k * 2 + 1 + 1 := by omega
    have e1 : (k + 1) * 2 + 1 = k * 2 + 1 + 1 + 1 := by omega
    rw [e0]
    simp only [mcells, List.getElem?_cons_succ, List.getElem_cons_succ]
    exact this

/-- The slice value 'v' holds the marks 'l', in a block of the call's own, from number 'B' on; or it is nil, and there are none. -/
def Gath (w : World) (B : Nat) (v : Value) (l : List (ByteArray × Int)) : Prop := w.ownsRow B 72 2 v l.length (mcells l)

theorem Gath.none (w : World) (B : Nat) : Gath w B (.slice none 0 0) [] := World.ownsRow_nil _ _ _ _

theorem Gath.form {w : World} {B : Nat} {v : Value} {l : List (ByteArray × Int)} (h : Gath w B v l) :
    (v = .slice Option.none 0 0 ∧ l = []) ∨ ∃ g cap, v = .slice (some ⟨g, 0, Option.none⟩) l.length cap ∧ B ≤ g ∧ Own w g l := by
  obtain ⟨hl, h | ⟨g, cap, cur, hv, hg, hh, hn, hc, hs, ht⟩⟩ := h
  · exact .inl ⟨h.1, List.length_eq_zero_iff.1 h.2⟩
  · refine .inr ⟨g, cap, hv, hg, cap * 2, fun i => (cur[i]?).getD undef, ?_, by omega, fun k hk => ?_⟩
    · refine ⟨cur, hh, hs, fun i hi => ?_⟩
      have hi' : i < cur.size := by omega
      simp [Array.getElem?_eq_getElem hi']
    · have h2 := mcells_at l k hk
      have hlen := mcells_length l
      rw [← ht] at h2
      rw [List.getElem?_take_of_lt (by omega), List.getElem?_take_of_lt (by omega)] at h2
      simp only [Array.getElem?_toList] at h2
      simp only [h2.1, h2.2]
      exact ⟨rfl, rfl⟩

theorem Gath.shape {w : World} {B : Nat} {v : Value} {l : List (ByteArray × Int)} (h : Gath w B v l) : ∃ a cap, v = .slice a l.length cap ∧ Row w a l := by
  rcases h.form with ⟨hv, rfl⟩ | ⟨g, cap, hv, _, ho⟩
  · exact ⟨_, _, hv, fun k hk => absurd hk (Nat.not_lt_zero k)⟩
  · exact ⟨_, _, hv, ho.row⟩

theorem Gath.keep {w w' : World} {B : Nat} {v : Value} {l : List (ByteArray × Int)} (h : Gath w B v l) (hb : Below w.heap.size w w') : Gath w' B v l := by
  obtain ⟨hl, h | ⟨g, cap, cur, hv, hg, hh, r⟩⟩ := h
  · exact ⟨hl, .inl h⟩
  · refine ⟨hl, .inr ⟨g, cap, cur, hv, hg, ?_, r⟩⟩
    rw [hb.block g ?_]
    · exact hh
    · rcases Nat.lt_or_ge g w.heap.size with hlt | hge
      · exact hlt
      · rw [Array.getElem?_eq_none hge] at hh; cases hh

theorem Gath.lower {w : World} {B B' : Nat} {v : Value} {l : List (ByteArray × Int)} (h : Gath w B v l) (hB : B' ≤ B) : Gath w B' v l := by
  obtain ⟨hl, h | ⟨g, cap, cur, hv, hg, r⟩⟩ := h
  · exact ⟨hl, .inl h⟩
  · exact ⟨hl, .inr ⟨g, cap, cur, hv, Nat.le_trans hB hg, r⟩⟩

theorem Gath.snoc {w : World} {B : Nat} {v : Value} {l : List (ByteArray × Int)} {s : ByteArray} {x : Int} (h : w.ownsRow B 72 2 v (l.length + 1) (mcells l ++ [.string s, .int .i64 x])) : Gath w B v (l ++ [(s, x)]) := by
  unfold Gath
  rw [mcells_append, List.length_append]
  exact h

/-- Behind an append onto what was gathered: below B all is as it was. -/
theorem Gath.grown {W w w' : World} {B : Nat} {v : Value} {l : List (ByteArray × Int)} (h : Gath w B v l) (hb : Below B W w) (hB : B ≤ w.heap.size) (hg : w.grownBy w' v.ownBlock) : Below B W w' :=
  hb.grown hg hB (fun k e => by
    rcases h.form with ⟨rfl, _⟩ | ⟨g, cap, rfl, hle, _⟩
    · cases e
    · simp [Value.ownBlock] at e; omega)

theorem two_new (w : World) (x y : Value) (t : TypeId) : ∀ j u, [x, y][j]? = some u → (w.alloc (.cells #[x, y] t)).cell? ((⟨w.heap.size, 0, none⟩ : Addr).add j) = some u := by
  intro j u hj
  match j, hj with
  | 0, hj => simp at hj; subst hj; simp [Addr.add, go_sem]
  | 1, hj => simp at hj; subst hj; simp [Addr.add, go_sem]

theorem Tryz.infoM : (Tryz.prog.info? 72).map (fun i => (i.zero, i.size, i.bytes)) = some (some (.agg #[.string .empty, .int .i64 0]), 2, 24) := by kernel_rfl

end Go.Proofs.YtpfhegengmlkmaaGreat

namespace Go.Proofs.YtpfhegengmlkmaaGreat
open Go.RowKit Go.BigFrame
set_option maxRecDepth 100000

/-- The reader in block R: its code is the slice 'ab' of 'n' bytes; it has read 'p'. -/
structure Rd (w : World) (R : Nat) (ab : Option Addr) (n c p : Nat) : Prop where
  c0 : w.cell? ⟨R, 0, none⟩ = some (.slice ab n c)
  c1 : w.cell? ⟨R, 1, none⟩ = some (.int .i64 (p : Int))
  f1 : w.frozen? ⟨R, 1, none⟩ = false
  small : n ≤ 2000
  byte : ∀ k, k < n → ∃ b o, ∃ v : Int, ab = some ⟨b, o, none⟩ ∧ b < R ∧ 0 ≤ v ∧ v ≤ 255 ∧ w.cell? ⟨b, o + k, none⟩ = some (.int .u8 v)

theorem Rd.lt {w : World} {R n c p : Nat} {ab : Option Addr} (h : Rd w R ab n c p) : R < w.heap.size := block_lt_of_cell h.c0
theorem Rd.same {w w' : World} {R n c p : Nat} {ab : Option Addr} (h : Rd w R ab n c p) (hk : ∀ k, k ≤ R → w'.heap[k]? = w.heap[k]?) : Rd w' R ab n c p :=
  ⟨(World.cell?_of_block (hk R (Nat.le_refl R))).trans h.c0, (World.cell?_of_block (hk R (Nat.le_refl R))).trans h.c1, (World.frozen?_of_block (hk R (Nat.le_refl R))).trans h.f1, h.small, fun k hk' => by
    obtain ⟨b, o, v, h1, h2, h4, h5, h6⟩ := h.byte k hk'
    exact ⟨b, o, v, h1, h2, h4, h5, (World.cell?_of_block (hk b (Nat.le_of_lt h2))).trans h6⟩⟩
theorem Rd.below {w w' : World} {R n c p : Nat} {ab : Option Addr} (h : Rd w R ab n c p) (hb : Below w.heap.size w w') : Rd w' R ab n c p := by
  have := h.lt
  exact h.same fun k hk => hb.block k (by omega)
theorem Rd.step {w : World} {R n c p : Nat} {ab : Option Addr} (h : Rd w R ab n c p) : Rd (w.setCell ⟨R, 1, none⟩ (.int .i64 ((p : Int) + 1))) R ab n c (p + 1) :=
  ⟨by simp [go_sem, h.c0], by simp [go_sem, h.c1], by simp [go_sem, h.f1], h.small, fun k hk => by
    obtain ⟨b, o, v, h1, h2, h4, h5, h6⟩ := h.byte k hk
    exact ⟨b, o, v, h1, h2, h4, h5, by rw [World.cell?_of_block (Below.heap_setCell _ _ _ _ (by simp only; omega))]; exact h6⟩⟩

theorem xor_nonneg (x y : Int) (hx : 0 ≤ x) (hx1 : x < 4611686018427387904) (hy : 0 ≤ y) (hy1 : y < 4611686018427387904) : 0 ≤ bits .xor .i64 x y := by
  obtain ⟨a, rfl⟩ := Int.eq_ofNat_of_zero_le hx
  obtain ⟨b, rfl⟩ := Int.eq_ofNat_of_zero_le hy
  have ha : a < 2 ^ 62 := by omega
  have hb : b < 2 ^ 62 := by omega
  have hxl := Nat.xor_lt_two_pow ha hb
  have ha' : a % 2 ^ IntKind.i64.bits = a := Nat.mod_eq_of_lt (Nat.lt_of_lt_of_le ha (by decide))
  have hb' : b % 2 ^ IntKind.i64.bits = b := Nat.mod_eq_of_lt (Nat.lt_of_lt_of_le hb (by decide))
  simp only [bits, BitVec.ofInt_natCast, BitVec.toNat_xor, BitVec.toNat_ofNat, ha', hb']
  rw [IntKind.wrap_i64]
  omega

set_option maxHeartbeats 800000 in
theorem pick_any (R n c p : Nat) (ab : Option Addr) (m : Int) (w : World) (hr : Rd w R ab n c p) (hp : p ≤ 1000000) (h1 : 1 ≤ m) (h2 : m ≤ 1000000) :
    Calls Tryz.prog 29 #[.pointer (some ⟨R, 0, none⟩), .int .i64 m] w fun e w' => (∃ x : Int, e = .returned (.int .i64 x) ∧ 0 ≤ x ∧ x < m) ∧ Rd w' R ab n c (p + 1) ∧ But R w w' := by
  obtain ⟨c0, c1, f1, hn, hby⟩ := id hr
  by_cases hn0 : n = 0
  · subst hn0
    go_enter Tryz.func29, Tryz.ntmps29
    go_wp2_with fail
    go_ret
    exact ⟨⟨0, rfl, by omega, by omega⟩, hr.step, (But.refl _ _).setCell _ _⟩
  · have hm1 : decide (m < 1) = false := by simp; omega
    have hn1 : ((n : Int) == 0) = false := by simp; omega
    by_cases hk : p < n
    · obtain ⟨b, o, v, rfl, hbR0, hv0, hv1, hb⟩ := hby p hk
      have hbR : b ≠ R := by omega
      have hb' : (w.setCell ⟨R, 1, none⟩ (.int .i64 ((p : Int) + 1))).cell? ⟨b, o + p, none⟩ = some (.int .u8 v) := by rw [World.cell?_of_block (Below.heap_setCell _ _ _ _ hbR)]; exact hb
      go_enter Tryz.func29, Tryz.ntmps29
      go_wp2_with fail
      go_ret
      exact ⟨⟨_, rfl, Int.emod_nonneg _ (by omega), Int.emod_lt_of_pos _ (by omega)⟩, hr.step, (But.refl _ _).setCell _ _⟩
    · obtain ⟨q1, hq1, hmod1⟩ : ∃ q : Nat, q < n ∧ (p : Int) % (n : Int) = (q : Int) := ⟨p % n, Nat.mod_lt _ (by omega), by omega⟩
      obtain ⟨q2, hq2, hmod2⟩ : ∃ q : Nat, q < n ∧ ((p : Int) * 7 + 3) % (n : Int) = (q : Int) := ⟨(((p : Int) * 7 + 3) % (n : Int)).toNat, by have := Int.emod_lt_of_pos ((p : Int) * 7 + 3) (b := (n : Int)) (by omega); omega, by have := Int.emod_nonneg ((p : Int) * 7 + 3) (b := (n : Int)) (by omega); omega⟩
      obtain ⟨b, o, v, rfl, hbR0, hv0, hv1, hb⟩ := hby q1 hq1
      have hbR : b ≠ R := by omega
      obtain ⟨b2, o2, u, e2, hbR2, hu0, hu1, hb2⟩ := hby q2 hq2
      obtain ⟨rfl, rfl⟩ : b = b2 ∧ o = o2 := by simpa using e2
      have hb' : (w.setCell ⟨R, 1, none⟩ (.int .i64 ((p : Int) + 1))).cell? ⟨b, o + q1, none⟩ = some (.int .u8 v) := by rw [World.cell?_of_block (Below.heap_setCell _ _ _ _ hbR)]; exact hb
      have hb2' : (w.setCell ⟨R, 1, none⟩ (.int .i64 ((p : Int) + 1))).cell? ⟨b, o + q2, none⟩ = some (.int .u8 u) := by rw [World.cell?_of_block (Below.heap_setCell _ _ _ _ hbR)]; exact hb2
      obtain ⟨D, hD, hD0, hD1⟩ : ∃ D : Int, (p : Int) / (n : Int) = D ∧ 0 ≤ D ∧ D ≤ 1000000 := ⟨_, rfl, Int.ediv_nonneg (by omega) (by omega), by have := Int.ediv_le_self (a := (p : Int)) (n : Int) (by omega); omega⟩
      go_enter Tryz.func29, Tryz.ntmps29
      go_wp2_with fail
      go_quiet (fail)
      go_wp2_with fail
      have hxx := xor_nonneg (v * 131 + u * 1117 + ↑p * 29 + D * 53) ((v * 131 + u * 1117 + ↑p * 29 + D * 53) / 64) (by omega) (by omega) (by omega) (by omega)
      go_ret
      exact ⟨⟨_, rfl, Int.tmod_nonneg _ hxx, Int.tmod_lt_of_pos _ (by omega)⟩, hr.step.below (below_drewN (Below.refl _ _) nq), ((But.refl _ _).setCell _ _).trans (But.of_below (below_drewN (Below.refl _ _) nq))⟩

theorem But.cell {R : Nat} {w w' : World} (h : But R w w') {b : Nat} (o : Nat) (hb : b < w.heap.size) (hne : b ≠ R) : w'.cell? ⟨b, o, none⟩ = w.cell? ⟨b, o, none⟩ := World.cell?_of_block (h.block b hb hne)
/-- An element of a table that was just laid. -/
theorem table_at {R : Nat} {w w1 : World} {t : TypeId} {tab : Array Value} (hR : R < w.heap.size) (h : But R (w.alloc (.cells tab t)) w1) (k : Nat) (hk : k < tab.size) : w1.cell? ⟨w.heap.size, k, none⟩ = some tab[k] := by
  rw [h.cell k (by simp) (by omega)]
  simp [go_sem, hk]

set_option maxHeartbeats 400000 in
theorem l6Src_any (R n c p : Nat) (ab : Option Addr) (w : World) (hr : Rd w R ab n c p) (hp : p ≤ 1000000) :
    Calls Tryz.prog 83 #[.pointer (some ⟨R, 0, none⟩)] w fun e w' => (∃ s : ByteArray, e = .returned (.string s) ∧ s.size ≤ 8) ∧ Rd w' R ab n c (p + 1) ∧ But R w w' := by
  have hR := hr.lt
  go_enter Tryz.func83, Tryz.ntmps83
  go_wp2_with fail
  refine (pick_any R n c p ab _ _ (hr.below ((Below.refl _ _).alloc (Nat.le_refl _) _)) hp (by omega) (by omega)).mono ?_
  rintro e w1 ⟨⟨x, rfl, hx0, hx1⟩, hr1, hb1⟩
  obtain ⟨k, rfl⟩ := Int.eq_ofNat_of_zero_le hx0
  obtain ⟨s, hs, hsz⟩ : ∃ s : ByteArray, w1.cell? ⟨w.heap.size, k, none⟩ = some (.string s) ∧ s.size ≤ 8 := by
    rw [table_at hR hb1 k (by simp; omega)]
    rcases (by omega : k = 0 ∨ k = 1 ∨ k = 2 ∨ k = 3 ∨ k = 4 ∨ k = 5) with rfl | rfl | rfl | rfl | rfl | rfl <;> exact ⟨_, rfl, by decide⟩
  have hB : But R w w1 := (But.of_below ((Below.refl _ _).alloc (Nat.le_refl _) _)).trans hb1
  have HB : Hid (But R w w1) := hB
  clear hb1 hB
  go_wp2_with fail
  go_ret
  exact ⟨⟨s, rfl, hsz⟩, hr1, HB.out⟩

set_option maxHeartbeats 400000 in
theorem l6Ver_any (R n c p : Nat) (ab : Option Addr) (w : World) (hr : Rd w R ab n c p) (hp : p ≤ 100000) :
    Calls Tryz.prog 95 #[.pointer (some ⟨R, 0, none⟩)] w fun e w' => (∃ v : Int, e = .returned (.int .i64 v)) ∧ Rd w' R ab n c (p + 2) ∧ But R w w' := by
  have hR := hr.lt
  go_enter Tryz.func95, Tryz.ntmps95
  go_wp2_with fail
  refine (pick_any R n c p ab _ _ hr (by omega) (by omega) (by omega)).mono ?_
  rintro e w1 ⟨⟨x, rfl, hx0, hx1⟩, hr1, hb1⟩
  have hR1 := hr1.lt
  by_cases h0 : x = 0
  · subst h0
    go_wp2_with fail
    refine (pick_any R n c (p + 1) ab _ _ (hr1.below ((Below.refl _ _).alloc (Nat.le_refl _) _)) (by omega) (by omega) (by omega)).mono ?_
    rintro e w2 ⟨⟨x, rfl, hx0, hx1⟩, hr2, hb2⟩
    obtain ⟨k, rfl⟩ := Int.eq_ofNat_of_zero_le hx0
    obtain ⟨s, hs⟩ : ∃ s : Int, w2.cell? ⟨w1.heap.size, k, none⟩ = some (.int .i64 s) := by
      rw [table_at hR1 hb2 k (by simp; omega)]
      rcases (by omega : k = 0 ∨ k = 1 ∨ k = 2 ∨ k = 3 ∨ k = 4 ∨ k = 5) with rfl | rfl | rfl | rfl | rfl | rfl <;> exact ⟨_, rfl⟩
    have HB : Hid (But R w w2) := hb1.trans ((But.of_below ((Below.refl _ _).alloc (Nat.le_refl _) _)).trans hb2)
    clear hb1 hb2
    go_wp2_with fail
    go_ret
    exact ⟨⟨s, rfl⟩, hr2, HB.out⟩
  · have h0' : (x == 0) = false := by simp [h0]
    go_wp2_with fail
    refine (pick_any R n c (p + 1) ab _ _ hr1 (by omega) (by omega) (by omega)).mono ?_
    rintro e w2 ⟨⟨y, rfl, hy0, hy1⟩, hr2, hb2⟩
    go_wp2_with fail
    go_ret
    exact ⟨⟨_, rfl⟩, hr2, hb1.trans hb2⟩

end Go.Proofs.YtpfhegengmlkmaaGreat
