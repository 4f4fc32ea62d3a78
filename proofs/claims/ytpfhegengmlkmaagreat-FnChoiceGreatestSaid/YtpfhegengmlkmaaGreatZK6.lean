/- Texts of this claim, one behind the other. -/
import Derived.Laws.IdiomStrings
import Derived.Test.YtpfhegengmlkmaaGreatZK1
namespace Go.Proofs.YtpfhegengmlkmaaGreat
open Go.RowKit

/-- An item: its value and its stamp. -/
abbrev ItemL := Int × List (ByteArray × Int)
/-- The slice value 'v' holds the marks 'l'. -/
def IsSl (w : World) (v : Value) (l : List (ByteArray × Int)) : Prop := ∃ a c, v = .slice a l.length c ∧ l.length ≤ c ∧ Row w a l
/-- The slice at address 'a' holds the items 'l', each in two cells. -/
def RowI (w : World) (a : Option Addr) (l : List ItemL) : Prop :=
  ∀ k, (h : k < l.length) → ∃ b o, a = some ⟨b, o, none⟩ ∧ b < w.heap.size ∧ w.cell? ⟨b, o + k * 2, none⟩ = some (.int .i64 l[k].1) ∧ ∃ v, w.cell? ⟨b, o + k * 2 + 1, none⟩ = some v ∧ IsSl w v l[k].2
/-- No length or size passes what an int tells. -/
def FitM (l : List (ByteArray × Int)) : Prop := l.length ≤ maxLen ∧ ∀ j, (h : j < l.length) → l[j].1.size ≤ maxLen
def FitI (l : List ItemL) : Prop := l.length ≤ maxLen ∧ ∀ j, (h : j < l.length) → FitM l[j].2
/-- Small: what the laws' size test lets through. -/
def SmallM (n : Int) (l : List (ByteArray × Int)) : Prop := (l.length : Int) ≤ n ∧ ∀ j, (h : j < l.length) → (l[j].1.size : Int) ≤ n
def SmallI (n : Int) (l : List ItemL) : Prop := (l.length : Int) ≤ n ∧ ∀ j, (h : j < l.length) → SmallM n l[j].2
theorem SmallM.mono {n m : Int} {l : List (ByteArray × Int)} (h : SmallM n l) (hm : n ≤ m) : SmallM m l := ⟨by have := h.1; omega, fun j hj => by have := h.2 j hj; omega⟩
theorem IsSl.below {w w' : World} {v : Value} {l : List (ByteArray × Int)} (h : IsSl w v l) (hb : Below w.heap.size w w') : IsSl w' v l := by
  obtain ⟨a, c, h1, h2, h3⟩ := h
  exact ⟨a, c, h1, h2, h3.below hb⟩
theorem RowI.below {w w' : World} {a : Option Addr} {l : List ItemL} (h : RowI w a l) (hb : Below w.heap.size w w') : RowI w' a l := fun k hk => by
  obtain ⟨b, o, ha, hlt, h0, v, h1, h2⟩ := h k hk
  exact ⟨b, o, ha, Nat.lt_of_lt_of_le hlt hb.size, by rw [hb.cell hlt]; exact h0, v, by rw [hb.cell hlt]; exact h1, h2.below hb⟩

end Go.Proofs.YtpfhegengmlkmaaGreat

namespace Go.Proofs.YtpfhegengmlkmaaGreat
open Go.RowKit

theorem Own.setOther {w : World} {b : Nat} {l : List (ByteArray × Int)} (h : Own w b l) {q : Nat} (hq : b ≠ q) (i : Nat) (v : Value) : Own (w.setCell ⟨q, i, none⟩ v) b l := by
  obtain ⟨m, f, h, hf⟩ := h
  exact ⟨m, f, h.of_block (Below.heap_setCell _ _ _ _ (by simp only; omega)), hf⟩

end Go.Proofs.YtpfhegengmlkmaaGreat

namespace Go.Proofs.YtpfhegengmlkmaaGreat
open Go.RowKit

/-- The first 'k' items of 'l' lie in block 'g', which has room for all; their marks lie each in a block of its own, from 'lo' on and ahead of 'T'. -/
def PartI (w : World) (lo T g : Nat) (l : List ItemL) (k : Nat) : Prop :=
  ∃ (G C : Nat → Nat) (m : Nat) (f : Nat → Value), w.rowIs g 40 m f ∧ l.length * 2 ≤ m ∧
    (∀ j, (h : j < l.length) → j < k → f (j * 2) = .int .i64 l[j].1 ∧ f (j * 2 + 1) = .slice (some ⟨G j, 0, none⟩) l[j].2.length (C j) ∧ l[j].2.length ≤ C j ∧ Own w (G j) l[j].2 ∧ lo ≤ G j ∧ G j < T ∧ G j ≠ g) ∧ ∀ i j, i < k → j < k → i ≠ j → G i ≠ G j

theorem PartI.lt {w : World} {lo T g k : Nat} {l : List ItemL} (h : PartI w lo T g l k) : g < w.heap.size := by
  obtain ⟨_, _, _, _, h, _⟩ := h
  exact h.lt
theorem PartI.below {w w' : World} {lo T g k : Nat} {l : List ItemL} (h : PartI w lo T g l k) (hb : Below w.heap.size w w') : PartI w' lo T g l k := by
  have hlt := h.lt
  obtain ⟨G, C, m, f, h, hm, hf, hd⟩ := h
  refine ⟨G, C, m, f, h.of_block (hb.block g hlt), hm, fun j hj hk => ?_, hd⟩
  obtain ⟨h1, h2, h3, h4, h5⟩ := hf j hj hk
  exact ⟨h1, h2, h3, h4.below hb, h5⟩
theorem PartI.grow {w : World} {lo T T' g k : Nat} {l : List ItemL} (h : PartI w lo T g l k) (hT : T ≤ T') : PartI w lo T' g l k := by
  obtain ⟨G, C, m, f, h, hm, hf, hd⟩ := h
  refine ⟨G, C, m, f, h, hm, fun j hj hk => ?_, hd⟩
  obtain ⟨h1, h2, h3, h4, h5, h6, h7⟩ := hf j hj hk
  exact ⟨h1, h2, h3, h4, h5, by omega, h7⟩
theorem PartI.made (w : World) (lo : Nat) (l : List ItemL) (z : Array Value) : PartI (w.alloc (.cells (madeCells z (l.length * 2)) 40)) lo (w.heap.size + 1) w.heap.size l 0 := by
  refine ⟨fun _ => 0, fun _ => 0, l.length * 2, fun i => z[i % z.size]!, ?_, Nat.le_refl _, fun j _ h => by omega, fun i j h => by omega⟩
  have h := World.rowIs_alloc w (madeCells z (l.length * 2)) 40 (fun i => z[i % z.size]!) (fun i hi => by
    rw [size_madeCells] at hi
    simp [madeCells, hi])
  rwa [size_madeCells] at h
theorem PartI.cell {w : World} {lo T g k : Nat} {l : List ItemL} (h : PartI w lo T g l k) {i : Nat} (hi : i < l.length * 2) : ∃ v, w.cell? ⟨g, i, none⟩ = some v := by
  obtain ⟨_, _, m, f, h, hm, _⟩ := h
  exact ⟨_, h.cell (by omega)⟩
theorem PartI.frozen {w : World} {lo T g k : Nat} {l : List ItemL} (h : PartI w lo T g l k) (i : Nat) : w.frozen? ⟨g, i, none⟩ = false := by
  obtain ⟨_, _, m, f, h, _⟩ := h
  exact h.frozen i
theorem PartI.step {w : World} {lo T g k : Nat} {l : List ItemL} (h : PartI w lo T g l k) (hk : k < l.length) {b c : Nat} (hT : T ≤ b) (hlo : lo ≤ b) (hg : b ≠ g) (hc : l[k].2.length ≤ c) (ho : Own w b l[k].2) :
    PartI ((w.setCell ⟨g, k * 2, none⟩ (.int .i64 l[k].1)).setCell ⟨g, k * 2 + 1, none⟩ (.slice (some ⟨b, 0, none⟩) l[k].2.length c)) lo (b + 1) g l (k + 1) := by
  obtain ⟨G, C, m, f, h, hm, hf, hd⟩ := h
  refine ⟨fun j => if j = k then b else G j, fun j => if j = k then c else C j, m, _, (h.set _ _).set _ _, hm, fun j hj hlt => ?_, fun i j hi hj hne => ?_⟩
  · by_cases e : j = k
    · subst e
      simp only [if_true]
      refine ⟨by simp, by simp, hc, (ho.setOther hg _ _).setOther hg _ _, hlo, by omega, hg⟩
    · obtain ⟨h1, h2, h3, h4, h5, h6, h7⟩ := hf j hj (by omega)
      have e0 : j * 2 ≠ k * 2 + 1 := by omega
      have e1 : j * 2 ≠ k * 2 := by omega
      have e2 : j * 2 + 1 ≠ k * 2 + 1 := by omega
      have e3 : j * 2 + 1 ≠ k * 2 := by omega
      simp only [if_neg e, if_neg e0, if_neg e1, if_neg e2, if_neg e3]
      exact ⟨h1, h2, h3, (h4.setOther h7 _ _).setOther h7 _ _, h5, by omega, h7⟩
  · by_cases e : i = k
    · subst e
      have hj' : j < i := by omega
      have := (hf j (by omega) hj').2.2.2.2.2.1
      simp only [if_true, if_neg (by omega : ¬ j = i)]
      omega
    · by_cases e' : j = k
      · subst e'
        have hi' : i < j := by omega
        have := (hf i (by omega) hi').2.2.2.2.2.1
        simp only [if_true, if_neg e]
        omega
      · simp only [if_neg e, if_neg e']
        exact hd i j (by omega) (by omega) hne
theorem PartI.row {w : World} {lo T g : Nat} {l : List ItemL} (h : PartI w lo T g l l.length) : RowI w (some ⟨g, 0, none⟩) l := fun k hk => by
  obtain ⟨G, C, m, f, h, hm, hf, _⟩ := h
  obtain ⟨h1, h2, h3, h4, _⟩ := hf k hk hk
  refine ⟨g, 0, rfl, h.lt, by rw [Nat.zero_add, h.cell (by omega), h1], _, by rw [Nat.zero_add, h.cell (by omega), h2], _, _, rfl, h3, h4.row⟩
theorem Tryz.infoI : (Tryz.prog.info? 40).map (fun i => (i.zero, i.size, i.bytes)) = some (some (.agg #[.int .i64 0, .slice none 0 0]), 2, 32) := by kernel_rfl

end Go.Proofs.YtpfhegengmlkmaaGreat

namespace Go.Proofs.YtpfhegengmlkmaaGreat
open Go.RowKit Go.BigFrame

/-- The marks 'm' lie at 'a', in a block of the call's own from number 'lo' on and ahead of 'hi'; or there are none. -/
def Safe (w : World) (lo hi : Nat) (a : Option Addr) (m : List (ByteArray × Int)) : Prop :=
  m = [] ∨ ∃ g, a = some ⟨g, 0, none⟩ ∧ lo ≤ g ∧ g < hi ∧ Own w g m

theorem Safe.row {w : World} {lo hi : Nat} {a : Option Addr} {m : List (ByteArray × Int)} (h : Safe w lo hi a m) : Row w a m := by
  rcases h with rfl | ⟨g, rfl, _, _, ho⟩
  · exact fun k hk => absurd hk (Nat.not_lt_zero k)
  · exact ho.row
theorem Safe.below {w w' : World} {lo hi : Nat} {a : Option Addr} {m : List (ByteArray × Int)} (h : Safe w lo hi a m) (hb : Below w.heap.size w w') : Safe w' lo hi a m := by
  rcases h with rfl | ⟨g, rfl, h1, h2, ho⟩
  · exact .inl rfl
  · exact .inr ⟨g, rfl, h1, h2, ho.below hb⟩
theorem Gath.safe {w : World} {B : Nat} {v : Value} {m : List (ByteArray × Int)} (h : Gath w B v m) : ∃ a cap, v = .slice a m.length cap ∧ Safe w B w.heap.size a m := by
  rcases h.form with ⟨hv, rfl⟩ | ⟨g, cap, hv, hB, ho⟩
  · exact ⟨_, _, hv, .inl rfl⟩
  · exact ⟨_, _, hv, .inr ⟨g, rfl, hB, ho.lt, ho⟩⟩

/-- Of all that lay there only blocks from 'lo' on and ahead of 'hi' may have turned. -/
structure Span (lo hi : Nat) (w w' : World) : Prop where
  os : w'.os = w.os
  tape : w'.tape = w.tape
  output : w'.output = w.output
  size : w.heap.size ≤ w'.heap.size
  block : ∀ k, k < w.heap.size → (k < lo ∨ hi ≤ k) → w'.heap[k]? = w.heap[k]?

theorem Span.refl (lo hi : Nat) (w : World) : Span lo hi w w := ⟨rfl, rfl, rfl, Nat.le_refl _, fun _ _ _ => rfl⟩
theorem But.span {b lo hi : Nat} {w w' : World} (h : But b w w') (h1 : lo ≤ b) (h2 : b < hi) : Span lo hi w w' := ⟨h.os, h.tape, h.output, h.size, fun k hk hn => h.block k hk (by omega)⟩
theorem Span.below {lo hi B : Nat} {w w' : World} (h : Span lo hi w w') (hb : B ≤ lo) (hw : B ≤ w.heap.size) : Below B w w' :=
  ⟨h.os, h.tape, h.output, h.size, fun k hk => h.block k (by omega) (by omega)⟩
theorem Safe.span {w w' : World} {lo hi lo' hi' : Nat} {a : Option Addr} {m : List (ByteArray × Int)} (h : Safe w lo hi a m) (hs : Span lo' hi' w w') (hd : hi ≤ lo' ∨ hi' ≤ lo) : Safe w' lo hi a m := by
  rcases h with rfl | ⟨g, rfl, h1, h2, ho⟩
  · exact .inl rfl
  · refine .inr ⟨g, rfl, h1, h2, ?_⟩
    have hlt := ho.lt
    obtain ⟨m, f, h', hf⟩ := ho
    exact ⟨m, f, h'.of_block (hs.block g hlt (by omega)), hf⟩

end Go.Proofs.YtpfhegengmlkmaaGreat

namespace Go.Proofs.YtpfhegengmlkmaaGreat
open Go.RowKit Go.BigFrame

/-- An item's marks are turned, and its value. -/
theorem PartI.turn {w : World} {lo T g : Nat} {l : List ItemL} (h : PartI w lo T g l l.length) {j : Nat} (hj : j < l.length) :
    ∃ b c, w.cell? ⟨g, j * 2 + 1, none⟩ = some (.slice (some ⟨b, 0, none⟩) l[j].2.length c) ∧ Own w b l[j].2 ∧ lo ≤ b ∧ b < T ∧ b ≠ g ∧
      ∀ (x : Int) (m : List (ByteArray × Int)) (w2 : World), m.length = l[j].2.length → But b (w.setCell ⟨g, j * 2, none⟩ (.int .i64 x)) w2 → Own w2 b m → PartI w2 lo T g (l.set j (x, m)) (l.set j (x, m)).length := by
  have hg := h.lt
  obtain ⟨G, C, m0, f, h, hm, hf, hd⟩ := h
  obtain ⟨f1, f2, f3, f4, f5, f6, f7⟩ := hf j hj hj
  refine ⟨G j, C j, by rw [h.cell (by omega), f2], f4, f5, f6, f7, fun x m w2 hml hb ho => ?_⟩
  refine ⟨G, C, m0, _, (h.set (j * 2) (.int .i64 x)).of_block (hb.block g (by simpa [World.setCell] using hg) (Ne.symm f7)), by rw [List.length_set]; exact hm, fun i hi _ => ?_, fun i k hi hk => hd i k (by simpa using hi) (by simpa using hk)⟩
  rw [List.length_set] at hi
  by_cases e : j = i
  · subst e
    simp only [List.getElem_set_self]
    refine ⟨by simp, ?_, by rw [hml]; exact f3, ho, f5, f6, f7⟩
    rw [hml]
    have e1 : j * 2 + 1 ≠ j * 2 := by omega
    simp only [if_neg e1]
    exact f2
  · obtain ⟨i1, i2, i3, i4, i5, i6, i7⟩ := hf i hi hi
    have e1 : i * 2 ≠ j * 2 := by omega
    have e2 : i * 2 + 1 ≠ j * 2 := by omega
    simp only [List.getElem_set_ne e, if_neg e1, if_neg e2]
    exact ⟨i1, i2, i3, hb.own (i4.setOther i7 _ _) (hd i j hi hj (Ne.symm e)), i5, i6, i7⟩

theorem Span.trans {lo hi : Nat} {x y z : World} (h : Span lo hi x y) (k : Span lo hi y z) : Span lo hi x z :=
  ⟨k.os.trans h.os, k.tape.trans h.tape, k.output.trans h.output, Nat.le_trans h.size k.size, fun i hi hn => (k.block i (Nat.lt_of_lt_of_le hi h.size) hn).trans (h.block i hi hn)⟩
theorem Span.setCell {lo hi g : Nat} {x w : World} (h : Span lo hi x w) (h1 : lo ≤ g) (h2 : g < hi) (i : Nat) (v : Value) : Span lo hi x (w.setCell ⟨g, i, none⟩ v) :=
  h.trans (((But.refl g w).setCell i v).span h1 h2)

end Go.Proofs.YtpfhegengmlkmaaGreat

namespace Go.Proofs.YtpfhegengmlkmaaGreat
open Go.RowKit Go.BigFrame

theorem mcells_cell1 : ∀ (l : List (ByteArray × Int)), ∀ u ∈ mcells l, u.oneCell' = true
  | [], u, h => by simp [mcells] at h
  | m :: r, u, h => by
    simp only [mcells, List.mem_cons] at h
    rcases h with rfl | rfl | h
    · rfl
    · rfl
    · exact mcells_cell1 r u h
theorem row_news {w : World} {b o : Nat} {l : List (ByteArray × Int)} (h : Row w (some ⟨b, o, none⟩) l) : ∀ j u, (mcells l)[j]? = some u → w.cell? ((⟨b, o, none⟩ : Addr).add j) = some u := by
  intro j u hj
  have hjl : j < (mcells l).length := (List.getElem?_eq_some_iff.1 hj).1
  rw [mcells_length] at hjl
  have e : (⟨b, o, none⟩ : Addr).add j = ⟨b, o + j, none⟩ := by unfold Addr.add; by_cases h : j = 0 <;> simp [h]
  rw [e]
  have hk : j / 2 < l.length := by omega
  obtain ⟨b', o', ha, _, c0, c1⟩ := h (j / 2) hk
  obtain ⟨rfl, rfl⟩ : b = b' ∧ o = o' := by simpa using ha
  have hm := mcells_at l (j / 2) hk
  rcases Nat.mod_two_eq_zero_or_one j with h2 | h2
  · have ej : j / 2 * 2 = j := by omega
    rw [ej] at hm c0
    rw [hj] at hm
    rw [c0]
    exact hm.1.symm
  · have ej : j / 2 * 2 + 1 = j := by omega
    have ej' : o + j / 2 * 2 + 1 = o + j := by omega
    rw [ej] at hm
    rw [ej'] at c1
    rw [hj] at hm
    rw [c1]
    exact hm.2.symm

/-- append of all the marks of a slice onto a literal of none. -/
theorem wpList_append_copy {ops : Array Oper} {rest : List Oper} {o : Oper} {a : Act} {w : World} {Q : Exit → Act → World → Prop} (hgd : o.guard = none) (s x : Operand)
    (ho : o.op = .call { callee := .builtin .append, args := #[s, x], argTypes := #[35, 35] }) (base e0 b off cap : Nat) (l : List (ByteArray × Int)) (hs : a.eval s = .slice (some ⟨e0, 0, none⟩) 0 0) (he : w.heap[e0]? = some (.cells #[] 72 (0, 0))) (hb : base ≤ e0)
    (hx : a.eval x = .slice (some ⟨b, off, none⟩) l.length cap) (hr : Row w (some ⟨b, off, none⟩) l) (hl0 : 0 < l.length) (hl : l.length ≤ 1048576)
    (h : ∀ g' cap' w', Gath w' base (.slice (some ⟨g', 0, none⟩) l.length cap') l → w.grownBy w' (some e0) → wpList Tryz.prog ops Q rest (a.put o.dst (.slice (some ⟨g', 0, none⟩) l.length cap')) w') : wpList Tryz.prog ops Q (o :: rest) a w := by
  obtain ⟨i0, hi, hz0, hz1, hz2⟩ := info_parts Tryz.infoM
  have hlt : e0 < w.heap.size := (Array.getElem?_eq_some_iff.1 he).1
  have hown : w.ownsRow base 72 2 (.slice (some ⟨e0, 0, none⟩) 0 0) 0 [] := ⟨rfl, .inr ⟨e0, 0, #[], rfl, hb, he, Nat.le_refl _, Nat.zero_le _, rfl, rfl⟩⟩
  refine wpList_append_lies w hgd s x 35 ho base 72 i0 (.agg #[.string .empty, .int .i64 0]) 2 24 Tryz.underlying35 hi hz0 hz1 hz2 rfl (by decide) _ _ _ hs hown ⟨b, off, none⟩ l.length cap (mcells l) hx (mcells_length l) (row_news hr) (mcells_cell1 l) hl0 (by unfold maxLen; omega) (by omega) (Nat.le_trans hb (Nat.le_of_lt hlt)) _ rfl ?_
  intro g' cap' w' h1 h2 _ _
  simp only [Nat.zero_add, List.nil_append] at h1 ⊢
  exact h g' cap' w' h1 h2

theorem gath_own {w : World} {B g cap : Nat} {l : List (ByteArray × Int)} (h : Gath w B (.slice (some ⟨g, 0, none⟩) l.length cap) l) : B ≤ g ∧ l.length ≤ cap ∧ Own w g l := by
  rcases h.form with ⟨hv, _⟩ | ⟨g', cap', hv, hB, ho⟩
  · simp at hv
  · obtain ⟨⟨rfl⟩, rfl⟩ : g = g' ∧ cap = cap' := by simpa using hv
    refine ⟨hB, ?_, ho⟩
    rcases h.2 with ⟨hv, _⟩ | ⟨g2, cap2, cur, hv, _, _, hn, _⟩
    · simp at hv
    · have : cap = cap2 := by simp at hv; exact hv.2
      omega

theorem Own.grown {w w' : World} {b : Nat} {row : Option Nat} {l : List (ByteArray × Int)} (h : Own w b l) (hg : w.grownBy w' row) (hne : some b ≠ row) : Own w' b l := by
  have hlt := h.lt
  obtain ⟨m, f, h, hf⟩ := h
  exact ⟨m, f, h.of_block (hg.block b hlt hne), hf⟩

/-- The cells of items whose marks lie in blocks of their own, two an item. -/
def icells : List (ItemL × Nat × Nat) → List Value
  | [] => []
  | p :: r => .int .i64 p.1.1 :: .slice (some ⟨p.2.1, 0, none⟩) p.1.2.length p.2.2 :: icells r
theorem icells_append : ∀ L r, icells (L ++ r) = icells L ++ icells r
  | [], _ => rfl
  | p :: L, r => by simp [icells, icells_append L r]
theorem icells_at : ∀ (L : List (ItemL × Nat × Nat)) (k : Nat) (h : k < L.length), (icells L)[k * 2]? = some (.int .i64 L[k].1.1) ∧ (icells L)[k * 2 + 1]? = some (.slice (some ⟨L[k].2.1, 0, none⟩) L[k].1.2.length L[k].2.2)
  | p :: r, 0, _ => by simp [icells]
  | p :: r, k + 1, h => by
    have := icells_at r k (by simpa using h)
    have e0 : (k + 1) * 2 = k * 2 + 1 + 1 := by omega
    rw [e0]
    simp only [icells, List.getElem?_cons_succ, List.getElem_cons_succ]
    exact this

/-- The slice value 'v' holds the items 'l', in a block of the call's own from number 'B' on, their marks each in a block of its own from 'B' on; or it is nil, and there are none. -/
def GathI (w : World) (B : Nat) (v : Value) (l : List ItemL) : Prop :=
  ∃ L : List (ItemL × Nat × Nat), L.map (·.1) = l ∧ w.ownsRow B 40 2 v L.length (icells L) ∧ (∀ p ∈ L, p.1.2.length ≤ p.2.2 ∧ Own w p.2.1 p.1.2 ∧ B ≤ p.2.1) ∧ L.Pairwise fun p q => p.2.1 ≠ q.2.1

theorem gathI_none (w : World) (B : Nat) : GathI w B (.slice none 0 0) [] := ⟨[], rfl, World.ownsRow_nil _ _ _ _, by simp, List.Pairwise.nil⟩

/-- A row of items is no row of marks. -/
theorem items_no_marks {w : World} {B n b : Nat} {v : Value} {xs : List Value} {l : List (ByteArray × Int)} (h : w.ownsRow B 40 2 v n xs) (ho : Own w b l) : some b ≠ v.ownBlock := by
  intro e
  obtain ⟨m, f, ⟨cs, h1, _⟩, _⟩ := ho
  rcases h.2 with ⟨rfl, _⟩ | ⟨g, cap, cur, rfl, _, hh, _⟩
  · simp [Value.ownBlock] at e
  · obtain rfl : b = g := by simpa [Value.ownBlock] using e
    rw [h1] at hh
    simp at hh

theorem GathI.len {w : World} {B : Nat} {v : Value} {l : List ItemL} (h : GathI w B v l) : ∃ a cap, v = .slice a l.length cap ∧ l.length ≤ cap := by
  obtain ⟨L, rfl, ho, _⟩ := h
  rcases ho.2 with ⟨rfl, h0⟩ | ⟨g, cap, cur, rfl, _, _, hn, _⟩
  · exact ⟨_, 0, by rw [List.length_map, h0], by rw [List.length_map, h0]; exact Nat.le_refl _⟩
  · exact ⟨_, cap, by rw [List.length_map], by rw [List.length_map]; exact hn⟩

theorem GathI.keep {w w' : World} {B : Nat} {v : Value} {l : List ItemL} (h : GathI w B v l) (hb : Below w.heap.size w w') : GathI w' B v l := by
  obtain ⟨L, e, ⟨hl, ho⟩, hm, hd⟩ := h
  refine ⟨L, e, ⟨hl, ?_⟩, fun p hp => ⟨(hm p hp).1, (hm p hp).2.1.below hb, (hm p hp).2.2⟩, hd⟩
  rcases ho with h | ⟨g, cap, cur, hv, hg, hh, r⟩
  · exact .inl h
  · refine .inr ⟨g, cap, cur, hv, hg, ?_, r⟩
    rw [hb.block g (Array.getElem?_eq_some_iff.1 hh).1]
    exact hh

theorem GathI.lower {w : World} {B B' : Nat} {v : Value} {l : List ItemL} (h : GathI w B v l) (hB : B' ≤ B) : GathI w B' v l := by
  obtain ⟨L, e, ⟨hl, ho⟩, hm, hd⟩ := h
  refine ⟨L, e, ⟨hl, ?_⟩, fun p hp => ⟨(hm p hp).1, (hm p hp).2.1, Nat.le_trans hB (hm p hp).2.2⟩, hd⟩
  rcases ho with h | ⟨g, cap, cur, hv, hg, r⟩
  · exact .inl h
  · exact .inr ⟨g, cap, cur, hv, Nat.le_trans hB hg, r⟩

/-- An item was appended: its marks lie in block 'gm', which is none of the others. -/
theorem GathI.snoc {w w' : World} {B gm c : Nat} {v v' : Value} {L : List (ItemL × Nat × Nat)} {x : Int} {m : List (ByteArray × Int)}
    (ho : w.ownsRow B 40 2 v L.length (icells L)) (hm : ∀ p ∈ L, p.1.2.length ≤ p.2.2 ∧ Own w p.2.1 p.1.2 ∧ B ≤ p.2.1) (hd : L.Pairwise fun p q => p.2.1 ≠ q.2.1)
    (hg : Own w gm m) (hB : B ≤ gm) (hc : m.length ≤ c) (hn : ∀ p ∈ L, p.2.1 ≠ gm)
    (h' : w'.ownsRow B 40 2 v' (L.length + 1) (icells L ++ [.int .i64 x, .slice (some ⟨gm, 0, none⟩) m.length c])) (hgr : w.grownBy w' v.ownBlock) : GathI w' B v' (L.map (·.1) ++ [(x, m)]) := by
  refine ⟨L ++ [((x, m), gm, c)], by simp, ?_, fun p hp => ?_, ?_⟩
  · rw [icells_append, List.length_append]
    exact h'
  · rcases List.mem_append.1 hp with hp | hp
    · obtain ⟨h1, h2, h3⟩ := hm p hp
      exact ⟨h1, h2.grown hgr (items_no_marks ho h2), h3⟩
    · obtain rfl : p = ((x, m), gm, c) := by simpa using hp
      exact ⟨hc, hg.grown hgr (items_no_marks ho hg), hB⟩
  · rw [List.pairwise_append]
    refine ⟨hd, List.pairwise_singleton _ _, fun p hp q hq => ?_⟩
    obtain rfl : q = ((x, m), gm, c) := by simpa using hq
    exact hn p hp

theorem GathI.grown {W w w' : World} {B : Nat} {v : Value} {n : Nat} {xs : List Value} (h : w.ownsRow B 40 2 v n xs) (hb : Below B W w) (hB : B ≤ w.heap.size) (hg : w.grownBy w' v.ownBlock) : Below B W w' :=
  hb.grown hg hB (fun k e => by
    rcases h.2 with ⟨rfl, _⟩ | ⟨g, cap, cur, rfl, hle, _⟩
    · cases e
    · simp [Value.ownBlock] at e; omega)

/-- The items 'l' lie at 'a', in blocks of the call's own from number 'lo' on and ahead of 'hi'; or there are none. -/
def SafeI (w : World) (lo hi : Nat) (a : Option Addr) (l : List ItemL) : Prop :=
  l = [] ∨ ∃ g, a = some ⟨g, 0, none⟩ ∧ lo ≤ g ∧ g < hi ∧ PartI w lo hi g l l.length

theorem SafeI.row {w : World} {lo hi : Nat} {a : Option Addr} {l : List ItemL} (h : SafeI w lo hi a l) : RowI w a l := by
  rcases h with rfl | ⟨g, rfl, _, _, hp⟩
  · exact fun k hk => absurd hk (Nat.not_lt_zero k)
  · exact hp.row
theorem SafeI.below {w w' : World} {lo hi : Nat} {a : Option Addr} {l : List ItemL} (h : SafeI w lo hi a l) (hb : Below w.heap.size w w') : SafeI w' lo hi a l := by
  rcases h with rfl | ⟨g, rfl, h1, h2, hp⟩
  · exact .inl rfl
  · exact .inr ⟨g, rfl, h1, h2, hp.below hb⟩
theorem PartI.span {w w' : World} {lo hi lo' hi' g k : Nat} {l : List ItemL} (h : PartI w lo hi g l k) (h1 : lo ≤ g) (h2 : g < hi) (hs : Span lo' hi' w w') (hd : hi ≤ lo' ∨ hi' ≤ lo) : PartI w' lo hi g l k := by
  have hlt := h.lt
  obtain ⟨G, C, m, f, h, hm, hf, hp⟩ := h
  refine ⟨G, C, m, f, h.of_block (hs.block g hlt (by omega)), hm, fun j hj hk => ?_, hp⟩
  obtain ⟨e1, e2, e3, e4, e5, e6, e7⟩ := hf j hj hk
  have hl4 := e4.lt
  obtain ⟨m', f', h', hf'⟩ := e4
  exact ⟨e1, e2, e3, ⟨m', f', h'.of_block (hs.block (G j) hl4 (by omega)), hf'⟩, e5, e6, e7⟩
theorem SafeI.span {w w' : World} {lo hi lo' hi' : Nat} {a : Option Addr} {l : List ItemL} (h : SafeI w lo hi a l) (hs : Span lo' hi' w w') (hd : hi ≤ lo' ∨ hi' ≤ lo) : SafeI w' lo hi a l := by
  rcases h with rfl | ⟨g, rfl, h1, h2, hp⟩
  · exact .inl rfl
  · exact .inr ⟨g, rfl, h1, h2, hp.span h1 h2 hs hd⟩

theorem GathI.safe {w : World} {B : Nat} {v : Value} {l : List ItemL} (h : GathI w B v l) : ∃ a cap, v = .slice a l.length cap ∧ l.length ≤ cap ∧ SafeI w B w.heap.size a l := by
  obtain ⟨L, rfl, ho, hm, hd⟩ := h
  have hno : ∀ p ∈ L, some p.2.1 ≠ v.ownBlock := fun p hp => items_no_marks ho (hm p hp).2.1
  rcases ho.2 with ⟨rfl, h0⟩ | ⟨g, cap, cur, rfl, hBg, hh, hn, hcm, hcs, htk⟩
  · obtain rfl : L = [] := List.length_eq_zero_iff.1 h0
    exact ⟨_, _, rfl, Nat.le_refl _, .inl rfl⟩
  · have hgl : g < w.heap.size := (Array.getElem?_eq_some_iff.1 hh).1
    refine ⟨_, cap, by rw [List.length_map], by rw [List.length_map]; exact hn, .inr ⟨g, rfl, hBg, hgl, fun j => ((L[j]?).map (·.2.1)).getD 0, fun j => ((L[j]?).map (·.2.2)).getD 0, cap * 2, fun i => (cur[i]?).getD undef, ⟨cur, hh, hcs, fun i hi => ?_⟩, by rw [List.length_map]; omega, fun j hj _ => ?_, fun i j hi hj hne => ?_⟩⟩
    · have hi' : i < cur.size := by omega
      simp [Array.getElem?_eq_getElem hi']
    · rw [List.length_map] at hj
      have hL : L[j]? = some L[j] := List.getElem?_eq_getElem hj
      have hp := hm _ (List.getElem_mem hj)
      have h2 := icells_at L j hj
      rw [← htk] at h2
      rw [List.getElem?_take_of_lt (by omega), List.getElem?_take_of_lt (by omega)] at h2
      simp only [Array.getElem?_toList] at h2
      simp only [h2.1, h2.2, hL, List.getElem_map, Option.map_some, Option.getD_some]
      refine ⟨trivial, trivial, hp.1, hp.2.1, hp.2.2, hp.2.1.lt, fun e => ?_⟩
      exact hno _ (List.getElem_mem hj) (by rw [e]; rfl)
    · rw [List.length_map] at hi hj
      have hLi : L[i]? = some L[i] := List.getElem?_eq_getElem hi
      have hLj : L[j]? = some L[j] := List.getElem?_eq_getElem hj
      simp only [hLi, hLj, Option.map_some, Option.getD_some]
      rw [List.pairwise_iff_getElem] at hd
      rcases Nat.lt_or_gt_of_ne hne with h | h
      · exact hd i j hi hj h
      · exact Ne.symm (hd j i hj hi h)

/-- Items of no kind but these. -/
def Small1 (l : List ItemL) : Prop := l.length ≤ 1048576 ∧ ∀ j, (h : j < l.length) → l[j].2.length ≤ 1048576


/-- append of one item onto items that the call gathers. The marks of the item lie in a block that is newer than all that was gathered. -/
theorem wp_append_item {o : Oper} {a : Act} {w : World} {K : Act → World → Prop} {Q : Exit → Act → World → Prop} (s x : Operand)
    (ho : o.op = .call { callee := .builtin .append, args := #[s, x], argTypes := #[41, 41] }) (w0 : World) (base : Nat) (v : Value) (l : List ItemL) (hs : a.eval s = v) (hg : GathI w0 base v l) (hb : Below w0.heap.size w0 w) (hbase : base ≤ w0.heap.size)
    (ad : Nat) (xv : Int) (m : List (ByteArray × Int)) (gm c : Nat) (hx : a.eval x = .slice (some ⟨ad, 0, none⟩) 1 1) (c0 : w.cell? ⟨ad, 0, none⟩ = some (.int .i64 xv)) (c1 : w.cell? ⟨ad, 1, none⟩ = some (.slice (some ⟨gm, 0, none⟩) m.length c))
    (hm : Own w gm m) (hgm : w0.heap.size ≤ gm) (hc : m.length ≤ c) (hl : l.length ≤ 1048576)
    (h : ∀ v' w', GathI w' base v' (l ++ [(xv, m)]) → Below base w w' → K (a.put o.dst v') w') : o.wp Tryz.prog a w K Q := by
  obtain ⟨i0, hi, hz0, hz1, hz2⟩ := info_parts Tryz.infoI
  obtain ⟨L, rfl, hown, hmk, hd⟩ := hg
  have hown' : w.ownsRow base 40 2 v L.length (icells L) := by
    obtain ⟨hl, ho⟩ := hown
    refine ⟨hl, ?_⟩
    rcases ho with h | ⟨g, cap, cur, hv, hg, hh, r⟩
    · exact .inl h
    · refine .inr ⟨g, cap, cur, hv, hg, ?_, r⟩
      rw [hb.block g (Array.getElem?_eq_some_iff.1 hh).1]
      exact hh
  have hmk' : ∀ p ∈ L, p.1.2.length ≤ p.2.2 ∧ Own w p.2.1 p.1.2 ∧ base ≤ p.2.1 := fun p hp => ⟨(hmk p hp).1, (hmk p hp).2.1.below hb, (hmk p hp).2.2⟩
  have hnew : ∀ p ∈ L, p.2.1 ≠ gm := fun p hp => by have := (hmk p hp).2.1.lt; omega
  have hz := hb.size
  rw [List.length_map] at hl
  obtain ⟨g, cap, w', hr, h2, h3, _, _⟩ := run_append_lies (P := Tryz.prog) w 41 o.type base 40 i0 (.agg #[.int .i64 0, .slice none 0 0]) 2 32 Tryz.underlying41 hi hz0 hz1 hz2 rfl (by decide) _ _ _ hown' ⟨ad, 0, none⟩ 1 1 [.int .i64 xv, .slice (some ⟨gm, 0, none⟩) m.length c] rfl (by
      intro j u hj
      match j, hj with
      | 0, hj => simp at hj; subst hj; exact c0
      | 1, hj => simp at hj; subst hj; exact c1) (by simp [Value.oneCell']) (by decide) (by unfold maxLen; omega) (by omega) (by omega) _ rfl
  unfold Oper.wp execOp
  simp only [ho, resolve, invoke, builtin, Sem.run_bind, Sem.run_pure, Result.andThen_ok, List.map_toArray, List.map_cons, List.map_nil, hs, hx, hr]
  exact h _ w' (GathI.snoc hown' hmk' hd hm (Nat.le_trans hbase hgm) hc hnew h2 h3) (GathI.grown hown' (Below.refl _ _) (Nat.le_trans hbase hz) h3)

end Go.Proofs.YtpfhegengmlkmaaGreat
