/- The iterator sideBySide: what it yields, for every loop body that keeps what it reads. -/
import Derived.Test.YtpfhegengmlkmacGreatDoorFirst
import Derived.RangeFuncNested
import Derived.RangeFuncBound
import Derived.RangeFuncCalls
import Derived.RangeFuncLeaves
import Derived.Shelf.Abstract
import Derived.Shelf.RegionOpen
import Derived.OwnWalkIn
import Derived.TacticsInMore
import Derived.LoopNIn
import Derived.LoopIn
namespace Go.Proofs.YtpfhegengmlkmacGreatDoor
open Go.RowKit Go.Shelf Go.WideShapes
attribute [local go_sem] Oper.semAt_some

/-- All cells of blocks ahead of 'lo', and those of small blocks from 'hi' on, are as they were. -/
structure KS (lo hi : Nat) (W W' : World) : Prop where
  size : W.heap.size ≤ W'.heap.size
  block : ∀ k o, (k < lo ∨ (hi ≤ k ∧ W.cell? ⟨k, 3, none⟩ = none)) → W.heap[k]? = some o → o.isCells = true → W'.heap[k]? = some o
theorem KS.refl (lo hi : Nat) (W : World) : KS lo hi W W := ⟨Nat.le_refl _, fun _ _ _ h _ => h⟩
theorem KS.trans {lo hi : Nat} {A B C : World} (h : KS lo hi A B) (k : KS lo hi B C) : KS lo hi A C :=
  ⟨Nat.le_trans h.size k.size, fun i o hn hi ho => by
    have h1 := h.block i o hn hi ho
    refine k.block i o (hn.imp id fun q => ⟨q.1, ?_⟩) h1 ho
    rw [World.cell?_of_block (w := A) (w' := B) (a := ⟨i, 3, none⟩) (by rw [h1, hi])]; exact q.2⟩
theorem KS.of_below {lo hi : Nat} {A B : World} (h : Below A.heap.size A B) : KS lo hi A B := ⟨h.size, fun k o _ hk _ => by
  rw [h.block k (Array.getElem?_eq_some_iff.1 hk).1]; exact hk⟩
theorem KS.put {lo hi : Nat} (W : World) (l : Nat) (o o' : Obj) (h : W.heap[l]? = some o) (ho : o.isCells = false) : KS lo hi W (W.putObj l o') := ⟨by simp, fun k o1 _ hk h1 => by
  have hne : k ≠ l := fun e => by subst e; rw [h] at hk; cases hk; rw [ho] at h1; cases h1
  rw [World.putObj_heap_other (fun e => hne e)]; exact hk⟩
theorem cell_obj {A : World} {b o : Nat} {v : Value} (h : A.cell? ⟨b, o, none⟩ = some v) : ∃ ob, A.heap[b]? = some ob ∧ ob.isCells = true := by
  unfold World.cell? at h
  cases hh : A.heap[b]? with
  | none => simp [hh] at h
  | some ob =>
    refine ⟨ob, rfl, ?_⟩
    cases ob <;> simp_all [Obj.isCells]
theorem KS.cell {lo hi : Nat} {A B : World} (h : KS lo hi A B) {b o : Nat} {v : Value} (hn : b < lo ∨ (hi ≤ b ∧ A.cell? ⟨b, 3, none⟩ = none)) (hc : A.cell? ⟨b, o, none⟩ = some v) : B.cell? ⟨b, o, none⟩ = some v := by
  obtain ⟨ob, h1, h2⟩ := cell_obj hc
  have h3 := h.block b ob hn h1 h2
  rw [World.cell?_of_block (w := A) (w' := B) (a := ⟨b, o, none⟩) (by rw [h3, h1])]; exact hc
theorem KS.row {lo hi : Nat} {A B : World} (h : KS lo hi A B) {a : Option Addr} {l : List (ByteArray × Int)} (hr : ∀ k, (hk : k < l.length) → ∃ b o, a = some ⟨b, o, none⟩ ∧ b < lo ∧ A.cell? ⟨b, o + k * 2, none⟩ = some (.string l[k].1) ∧ A.cell? ⟨b, o + k * 2 + 1, none⟩ = some (.int .i64 l[k].2)) (hB : lo ≤ B.heap.size) : Row B a l := fun k hk => by
  obtain ⟨b, o, ha, hb, c0, c1⟩ := hr k hk
  exact ⟨b, o, ha, by omega, h.cell (.inl hb) c0, h.cell (.inl hb) c1⟩

/-- A row of marks in blocks ahead of 'lo'. -/
def RowL (lo : Nat) (w : World) (a : Option Addr) (l : List (ByteArray × Int)) : Prop :=
  ∀ k, (hk : k < l.length) → ∃ b o, a = some ⟨b, o, none⟩ ∧ b < lo ∧ w.cell? ⟨b, o + k * 2, none⟩ = some (.string l[k].1) ∧ w.cell? ⟨b, o + k * 2 + 1, none⟩ = some (.int .i64 l[k].2)
theorem Row.low {w : World} {a : Option Addr} {l : List (ByteArray × Int)} (h : Row w a l) : RowL w.heap.size w a l := h
theorem RowL.below {lo : Nat} {w w' : World} {a : Option Addr} {l : List (ByteArray × Int)} (h : RowL lo w a l) (hb : Below lo w w') : RowL lo w' a l := fun k hk => by
  obtain ⟨b, o, ha, hlt, c0, c1⟩ := h k hk
  exact ⟨b, o, ha, hlt, by rw [hb.cell hlt]; exact c0, by rw [hb.cell hlt]; exact c1⟩

theorem Tryz.elemM : Tryz.prog.underlying 34 = some (.slice (Tryz.prog.elem 34)) := by kernel_rfl
theorem Tryz.sizeM (u : World) : (sizeOf (Tryz.prog.elem 34)).run Tryz.prog u = .ok 2 u := by kernel_rfl

/-- a[i:]: the rest of a row. -/
theorem slice_rest (aa : Option Addr) (cap i : Nat) (l : List (ByteArray × Int)) (hi : i ≤ l.length) (hc : l.length ≤ cap) : ∃ aa' : Option Addr,
    (∀ u : World, (Instr.slice 34 (.slice aa l.length cap) (some (.int .i64 (i : Int))) none none).run Tryz.prog u = .ok (.slice aa' (l.length - i) (cap - i)) u) ∧ (∀ w, Row w aa l → Row w aa' (l.drop i)) := by
  refine ⟨if cap = i then aa else aa.map (·.add (i * 2)), fun u => ?_, fun w h k hk => ?_⟩
  · rw [run_slice_l u 34 aa l.length cap Tryz.elemM .i64 (i : Int) (by omega) (by omega), Tryz.sizeM]
    simp [Result.andThen, sliced]
  · rw [List.length_drop] at hk
    obtain ⟨b, o, ha, hb, c0, c1⟩ := h (i + k) (by omega)
    refine ⟨b, o + i * 2, ?_, hb, ?_, ?_⟩
    · rw [if_neg (by omega), ha]
      simp [add_plain]
    · rw [List.getElem_drop]
      have e : o + i * 2 + k * 2 = o + (i + k) * 2 := by omega
      rw [e]; exact c0
    · rw [List.getElem_drop]
      have e : o + i * 2 + k * 2 + 1 = o + (i + k) * 2 + 1 := by omega
      rw [e]; exact c1

theorem first_len (aa ab : Option Addr) (ca cb na nb : Nat) (la lb : List (ByteArray × Int)) (hna : na = la.length) (hnb : nb = lb.length) (w : World) (ha : Row w aa la) (hb : Row w ab lb) (p : (ByteArray × Int) × (ByteArray × Int)) (hp : headP la lb = some p) :
    Calls Tryz.prog 178 #[.slice aa na ca, .slice ab nb cb] w fun e w' => e = .returned (.tuple #[.agg #[.string p.1.1, .int .i64 p.1.2], .agg #[.string p.2.1, .int .i64 p.2.2]]) ∧ Below w.heap.size w w' := by
  subst hna hnb
  exact first_any aa ab ca cb la lb w ha hb p hp

/-- A pair of marks with names of a bearable size. -/
structure PM where
  p : (ByteArray × Int) × (ByteArray × Int)
  h : p.1.1.size ≤ 1048576 ∧ p.2.1.size ≤ 1048576

theorem headP_size {a b : List (ByteArray × Int)} {p : (ByteArray × Int) × (ByteArray × Int)} (ha : ∀ m ∈ a, m.1.size ≤ 1048576) (hb : ∀ m ∈ b, m.1.size ≤ 1048576) (hp : headP a b = some p) : p.1.1.size ≤ 1048576 ∧ p.2.1.size ≤ 1048576 := by
  cases a with
  | nil =>
    cases b with
    | nil => simp [headP] at hp
    | cons y b => simp only [headP, Option.some.injEq] at hp; subst hp; exact ⟨hb y (by simp), hb y (by simp)⟩
  | cons x a =>
    cases b with
    | nil => simp only [headP, Option.some.injEq] at hp; subst hp; exact ⟨ha x (by simp), ha x (by simp)⟩
    | cons y b =>
      have h1 := ha x (by simp)
      have h2 := hb y (by simp)
      simp only [headP] at hp
      split at hp
      · simp only [Option.some.injEq] at hp; subst hp; exact ⟨h1, h1⟩
      · split at hp
        · simp only [Option.some.injEq] at hp; subst hp; exact ⟨h2, h2⟩
        · simp only [Option.some.injEq] at hp; subst hp; exact ⟨h1, h2⟩
theorem headP_pos {a b : List (ByteArray × Int)} {p : (ByteArray × Int) × (ByteArray × Int)} (ha : ∀ m ∈ a, 1 ≤ m.2) (hb : ∀ m ∈ b, 1 ≤ m.2) (hp : headP a b = some p) : (0 < p.1.2 → 0 < a.length) ∧ (0 < p.2.2 → 0 < b.length) ∧ (0 < p.1.2 ∨ 0 < p.2.2) := by
  cases a with
  | nil =>
    cases b with
    | nil => simp [headP] at hp
    | cons y b =>
      have h2 := hb y (by simp)
      simp only [headP, Option.some.injEq] at hp; subst hp; exact ⟨fun h => by simp at h, fun _ => by simp, .inr (by simp only; omega)⟩
  | cons x a =>
    have h1 := ha x (by simp)
    cases b with
    | nil => simp only [headP, Option.some.injEq] at hp; subst hp; exact ⟨fun _ => by simp, fun h => by simp at h, .inl (by simp only; omega)⟩
    | cons y b =>
      have h2 := hb y (by simp)
      refine ⟨fun _ => by simp, fun _ => by simp, ?_⟩
      simp only [headP] at hp
      split at hp
      · simp only [Option.some.injEq] at hp; subst hp; exact .inl (by simp only; omega)
      · split at hp
        · simp only [Option.some.injEq] at hp; subst hp; exact .inr (by simp only; omega)
        · simp only [Option.some.injEq] at hp; subst hp; exact .inl (by simp only; omega)
theorem headP_some {a b : List (ByteArray × Int)} (h : 0 < a.length + b.length) : ∃ p, headP a b = some p := by
  cases a with
  | nil =>
    cases b with
    | nil => simp at h
    | cons y b => exact ⟨_, rfl⟩
  | cons x a =>
    cases b with
    | nil => exact ⟨_, rfl⟩
    | cons y b =>
      simp only [headP]
      split
      · exact ⟨_, rfl⟩
      · split <;> exact ⟨_, rfl⟩

theorem set2 {W : World} {h : Nat} {a b x y : Value} (h0 : W.cell? ⟨h, 0, none⟩ = some x) (h1 : W.cell? ⟨h, 1, none⟩ = some y) : ((W.setCell ⟨h, 0, none⟩ a).setCell ⟨h, 1, none⟩ b).cell? ⟨h, 0, none⟩ = some a ∧ ((W.setCell ⟨h, 0, none⟩ a).setCell ⟨h, 1, none⟩ b).cell? ⟨h, 1, none⟩ = some b := by
  simp [go_sem, h0, h1]
/-- Two boxes that were laid ahead of a call, and filled behind it. -/
theorem box4 {wr w1 : World} {B : Nat} {t : TypeId} {p q p' q' : Value} (hB : wr.heap.size + 1 < B) (hb1 : Below B ((wr.alloc (.cells #[p, q] t)).alloc (.cells #[p', q'] t)).drew w1) : w1.cell? ⟨wr.heap.size, 0, none⟩ = some p ∧ w1.cell? ⟨wr.heap.size, 1, none⟩ = some q := by
  refine ⟨(hb1.cell (p := ⟨wr.heap.size, 0, none⟩) (by simp only; omega)).trans ?_, (hb1.cell (p := ⟨wr.heap.size, 1, none⟩) (by simp only; omega)).trans ?_⟩
  · simp [go_sem]
  · simp [go_sem]
theorem box4a {wr w1 : World} {B : Nat} {t : TypeId} {p q p' q' a b c d : Value} (hB : wr.heap.size + 1 < B) (hb1 : Below B ((wr.alloc (.cells #[p, q] t)).alloc (.cells #[p', q'] t)).drew w1) :
    ((((w1.setCell ⟨wr.heap.size, 0, none⟩ a).setCell ⟨wr.heap.size, 1, none⟩ b).setCell ⟨wr.heap.size + 1, 0, none⟩ c).setCell ⟨wr.heap.size + 1, 1, none⟩ d).cell? ⟨wr.heap.size, 0, none⟩ = some a ∧
    ((((w1.setCell ⟨wr.heap.size, 0, none⟩ a).setCell ⟨wr.heap.size, 1, none⟩ b).setCell ⟨wr.heap.size + 1, 0, none⟩ c).setCell ⟨wr.heap.size + 1, 1, none⟩ d).cell? ⟨wr.heap.size, 1, none⟩ = some b := by
  obtain ⟨h0, h1⟩ := box4 hB hb1
  have hs := set2 (a := a) (b := b) h0 h1
  exact ⟨(far2 (by omega)).trans hs.1, (far2 (by omega)).trans hs.2⟩
theorem box4b {wr w1 : World} {B : Nat} {t : TypeId} {p q p' q' a b c d : Value} (hB : wr.heap.size + 1 < B) (hb1 : Below B ((wr.alloc (.cells #[p, q] t)).alloc (.cells #[p', q'] t)).drew w1) :
    ((((w1.setCell ⟨wr.heap.size + 1, 0, none⟩ a).setCell ⟨wr.heap.size + 1, 1, none⟩ b).setCell ⟨wr.heap.size, 0, none⟩ c).setCell ⟨wr.heap.size, 1, none⟩ d).cell? ⟨wr.heap.size, 0, none⟩ = some c ∧
    ((((w1.setCell ⟨wr.heap.size + 1, 0, none⟩ a).setCell ⟨wr.heap.size + 1, 1, none⟩ b).setCell ⟨wr.heap.size, 0, none⟩ c).setCell ⟨wr.heap.size, 1, none⟩ d).cell? ⟨wr.heap.size, 1, none⟩ = some d := by
  obtain ⟨h0, h1⟩ := box4 hB hb1
  exact set2 ((far2 (by omega)).trans h0) ((far2 (by omega)).trans h1)

end Go.Proofs.YtpfhegengmlkmacGreatDoor
