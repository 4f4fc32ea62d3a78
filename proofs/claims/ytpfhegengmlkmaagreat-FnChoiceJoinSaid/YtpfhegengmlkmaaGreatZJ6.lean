/- Texts of this claim, one behind the other. -/
import Derived.Test.YtpfhegengmlkmaaGreatRows
import Derived.ProofKit
import Derived.OpenShut
import Derived.ChangeOld
import Derived.ChangeSlices
import Derived.Laws.IdiomStrings
import Derived.Test.YtpfhegengmlkmaaGreatZJ1
import Derived.Test.YtpfhegengmlkmaaGreatZJ5
namespace Go.Proofs.YtpfhegengmlkmaaGreat
open Go.RowKit Go.BigFrame
set_option maxRecDepth 100000

/-- The slice 'ab' of 'n' bytes. -/
structure Bytes (w : World) (ab : Option Addr) (n c : Nat) : Prop where
  cap : n ≤ c
  byte : ∀ k, k < n → ∃ b o, ∃ v : Int, ab = some ⟨b, o, none⟩ ∧ b < w.heap.size ∧ 0 ≤ v ∧ v ≤ 255 ∧ w.cell? ⟨b, o + k, none⟩ = some (.int .u8 v)

theorem Bytes.below {w w' : World} {ab : Option Addr} {n c : Nat} (h : Bytes w ab n c) (hb : Below w.heap.size w w') : Bytes w' ab n c :=
  ⟨h.cap, fun k hk => by
    obtain ⟨b, o, v, h1, h2, h4, h5, h6⟩ := h.byte k hk
    exact ⟨b, o, v, h1, Nat.lt_of_lt_of_le h2 hb.size, h4, h5, (hb.cell h2).trans h6⟩⟩

theorem Bytes.rd {w : World} {ab : Option Addr} {n m c : Nat} (h : Bytes w ab n c) (hm : m ≤ n) (hs : m ≤ 2000) : Rd (w.alloc (.cells #[.slice ab m c, .int .i64 0] 77)) w.heap.size ab m c 0 :=
  ⟨by simp [go_sem], by simp [go_sem], by simp [go_sem], hs, fun k hk => by
    obtain ⟨b, o, v, h1, h2, h4, h5, h6⟩ := h.byte k (by omega)
    exact ⟨b, o, v, h1, h2, h4, h5, (World.cell?_of_block (Below.heap_alloc _ _ _ h2)).trans h6⟩⟩

set_option maxHeartbeats 800000 in
theorem l1Open_any (ab : Option Addr) (n c : Nat) (w : World) (h : Bytes w ab n c) :
    Calls Tryz.prog 19 #[.slice ab n c] w fun e w' => (∃ m, e = .returned (.pointer (some ⟨w.heap.size, 0, none⟩)) ∧ Rd w' w.heap.size ab m c 0) ∧ Below w.heap.size w w' := by
  have hcap := h.cap
  by_cases hlt : 2000 < n
  · have hlt' : decide ((2000 : Int) < (n : Int)) = true := by simp; omega
    have HRD : Hid (Rd (w.alloc (.cells #[.slice ab 2000 c, .int .i64 0] 77)) w.heap.size ab 2000 c 0) := h.rd (by omega) (by omega)
    clear h
    go_enter Tryz.func19, Tryz.ntmps19
    go_wp2_with fail
    go_ret
    exact ⟨⟨2000, rfl, HRD.out⟩, (Below.refl _ _).alloc (Nat.le_refl _) _⟩
  · have hlt' : decide ((2000 : Int) < (n : Int)) = false := by simp; omega
    have HRD : Hid (Rd (w.alloc (.cells #[.slice ab n c, .int .i64 0] 77)) w.heap.size ab n c 0) := h.rd (by omega) (by omega)
    clear h
    go_enter Tryz.func19, Tryz.ntmps19
    go_wp2_with fail
    go_ret
    exact ⟨⟨n, rfl, HRD.out⟩, (Below.refl _ _).alloc (Nat.le_refl _) _⟩

/-- Marks that were drawn: few, of short names. -/
structure Mks (w : World) (B : Nat) (v : Value) (l : List (ByteArray × Int)) : Prop where
  g : Gath w B v l
  len : l.length ≤ 40
  size : ∀ m ∈ l, m.1.size ≤ 2000
theorem Mks.but {w w' : World} {R B : Nat} {v : Value} {l : List (ByteArray × Int)} (h : Mks w B v l) (hb : But R w w') (hR : R < B) : Mks w' B v l := ⟨h.g.but hb hR, h.len, h.size⟩
theorem Mks.keep {w w' : World} {B : Nat} {v : Value} {l : List (ByteArray × Int)} (h : Mks w B v l) (hb : Below w.heap.size w w') : Mks w' B v l := ⟨h.g.keep hb, h.len, h.size⟩
theorem Mks.lower {w : World} {B B' : Nat} {v : Value} {l : List (ByteArray × Int)} (h : Mks w B v l) (hB : B' ≤ B) : Mks w B' v l := ⟨h.g.lower hB, h.len, h.size⟩

/-- l6Marks, with what the draws need. -/
theorem l6Marks_mks (R n c p : Nat) (ab : Option Addr) (w : World) (hr : Rd w R ab n c p) (hp : p ≤ 80000) :
    Calls Tryz.prog 64 #[.pointer (some ⟨R, 0, none⟩)] w fun e w' => (∃ v l p', e = .returned v ∧ Mks w' w.heap.size v l ∧ l.length ≤ 30 ∧ Rd w' R ab n c p' ∧ p' ≤ p + 100) ∧ But R w w' :=
  (l6Marks_any R n c p ab w hr hp).mono fun _ _ ⟨⟨v, l, p', he, hg, hl, hs, hr, hp⟩, hb⟩ => ⟨⟨v, l, p', he, ⟨hg, by omega, hs⟩, hl, hr, hp⟩, hb⟩

end Go.Proofs.YtpfhegengmlkmaaGreat

namespace Go.Proofs.YtpfhegengmlkmaaGreat
open Go.ChangeShapes Go.WideShapes Go.ChangeAt Go.RowKit

theorem Tryz.cells5 : Tryz.prog.cellsOf 5 = 1 := by kernel_rfl
theorem Tryz.own : ownKnob Tryz.prog.godebug = none := by kernel_rfl
theorem Tryz.laidOut : laidOutB Tryz.prog = true := by kernel_rfl

theorem open_bytes {H : Type} {enc : TypeId × Value → H} {W : World} {a : Option Addr} {len cap : Nat} {d : DataW H} {ps : List MemPlace}
    (h : DataW.Trod enc Tryz.prog W 0 (fun _ => true) true 22 (.slice a len cap) d ps) : Bytes W a len cap ∧ len ≤ maxLen := by
  obtain ⟨fuel, hf⟩ := h
  rcases open_ints Tryz.underlying22 Tryz.underlying5 Tryz.cells5 hf with ⟨hcs, _⟩ | hh
  · simp [Value.cells] at hcs
    obtain ⟨rfl, rfl, rfl⟩ := hcs
    exact ⟨⟨Nat.le_refl _, fun k h => absurd h (Nat.not_lt_zero k)⟩, Nat.zero_le _⟩
  · obtain ⟨x, n, c, zs, hcs, _, hl, hm, hz, _, hcell, hwf⟩ := hh
    simp [Value.cells] at hcs
    obtain ⟨rfl, rfl, rfl⟩ := hcs
    simp only [if_true] at hz
    refine ⟨⟨hl, fun k hk => ?_⟩, Nat.le_trans hl hm⟩
    have e0 := hcell k (by omega)
    obtain ⟨b, o, spot⟩ := x
    have hspot : spot = none := by simpa [Addr.add] using World.cell?_spot (hcell 0 (by omega))
    subst hspot
    rw [add_plain] at e0
    have hw := hwf (zs.getD k 0) (by
      have hkz : k < zs.length := by omega
      simp only [List.getD_eq_getElem?_getD, List.getElem?_eq_getElem hkz, Option.getD_some]
      exact List.getElem_mem hkz)
    simp [Lit.wf, IntKind.min, IntKind.max, IntKind.signed, IntKind.bits] at hw
    exact ⟨b, o, zs.getD k 0, rfl, block_lt_of_cell e0, by simpa using hw.1, by simpa using hw.2, e0⟩

end Go.Proofs.YtpfhegengmlkmaaGreat

namespace Go.Proofs.YtpfhegengmlkmaaGreat
open Go.RowKit

/-- An item: its value and its stamp. -/
abbrev ItemL := Int × List (ByteArray × Int)
/-- The slice value 'v' holds the marks 'l'. -/
def IsSl (w : World) (v : Value) (l : List (ByteArray × Int)) : Prop := ∃ a c, v = .slice a l.length c ∧ l.length ≤ c ∧ Row w a l
/-- The slice at address 'a' holds the items 'l', each in two cells. -/
def RowI (w : World) (a : Option Addr) (l : List ItemL) : Prop :=
  ∀ k, (h : k < l.length) → ∃ b o, a = some ⟨b, o, none⟩ ∧ b < w.heap.size ∧ w.cell? ⟨b, o + k * 2, none⟩ = some (.int .i64 l[k].1) ∧ ∃ v, w.cell? ⟨b, o + k * 2 + 1, none⟩ = some v ∧ IsSl w v l[k].2
/-- No length or size passes what an int tells. -/
def FitM (l : List (ByteArray × Int)) : Prop := l.length ≤ maxLen ∧ ∀ j, (h : j < l.length) → l[j].1.size ≤ maxLen
def FitI (l : List ItemL) : Prop := l.length ≤ maxLen ∧ ∀ j, (h : j < l.length) → FitM l[j].2
/-- Small: what the laws' size test lets through. -/
def SmallM (n : Int) (l : List (ByteArray × Int)) : Prop := (l.length : Int) ≤ n ∧ ∀ j, (h : j < l.length) → (l[j].1.size : Int) ≤ n
def SmallI (n : Int) (l : List ItemL) : Prop := (l.length : Int) ≤ n ∧ ∀ j, (h : j < l.length) → SmallM n l[j].2
theorem SmallM.mono {n m : Int} {l : List (ByteArray × Int)} (h : SmallM n l) (hm : n ≤ m) : SmallM m l := ⟨by have := h.1; omega, fun j hj => by have := h.2 j hj; omega⟩
theorem IsSl.below {w w' : World} {v : Value} {l : List (ByteArray × Int)} (h : IsSl w v l) (hb : Below w.heap.size w w') : IsSl w' v l := by
  obtain ⟨a, c, h1, h2, h3⟩ := h
  exact ⟨a, c, h1, h2, h3.below hb⟩
theorem RowI.below {w w' : World} {a : Option Addr} {l : List ItemL} (h : RowI w a l) (hb : Below w.heap.size w w') : RowI w' a l := fun k hk => by
  obtain ⟨b, o, ha, hlt, h0, v, h1, h2⟩ := h k hk
  exact ⟨b, o, ha, Nat.lt_of_lt_of_le hlt hb.size, by rw [hb.cell hlt]; exact h0, v, by rw [hb.cell hlt]; exact h1, h2.below hb⟩

end Go.Proofs.YtpfhegengmlkmaaGreat

namespace Go.Proofs.YtpfhegengmlkmaaGreat
open Go.RowKit

theorem Own.setOther {w : World} {b : Nat} {l : List (ByteArray × Int)} (h : Own w b l) {q : Nat} (hq : b ≠ q) (i : Nat) (v : Value) : Own (w.setCell ⟨q, i, none⟩ v) b l := by
  obtain ⟨m, f, h, hf⟩ := h
  exact ⟨m, f, h.of_block (Below.heap_setCell _ _ _ _ (by simp only; omega)), hf⟩

end Go.Proofs.YtpfhegengmlkmaaGreat

namespace Go.Proofs.YtpfhegengmlkmaaGreat
open Go.RowKit

/-- The first 'k' items of 'l' lie in block 'g', which has room for all; their marks lie each in a block of its own, from 'lo' on and ahead of 'T'. -/
def PartI (w : World) (lo T g : Nat) (l : List ItemL) (k : Nat) : Prop :=
  ∃ (G C : Nat → Nat) (m : Nat) (f : Nat → Value), w.rowIs g 40 m f ∧ l.length * 2 ≤ m ∧
    (∀ j, (h : j < l.length) → j < k → f (j * 2) = .int .i64 l[j].1 ∧ f (j * 2 + 1) = .slice (some ⟨G j, 0, none⟩) l[j].2.length (C j) ∧ l[j].2.length ≤ C j ∧ Own w (G j) l[j].2 ∧ lo ≤ G j ∧ G j < T ∧ G j ≠ g) ∧ ∀ i j, i < k → j < k → i ≠ j → G i ≠ G j

theorem PartI.lt {w : World} {lo T g k : Nat} {l : List ItemL} (h : PartI w lo T g l k) : g < w.heap.size := by
  obtain ⟨_, _, _, _, h, _⟩ := h
  exact h.lt
theorem PartI.below {w w' : World} {lo T g k : Nat} {l : List ItemL} (h : PartI w lo T g l k) (hb : Below w.heap.size w w') : PartI w' lo T g l k := by
  have hlt := h.lt
  obtain ⟨G, C, m, f, h, hm, hf, hd⟩ := h
  refine ⟨G, C, m, f, h.of_block (hb.block g hlt), hm, fun j hj hk => ?_, hd⟩
  obtain ⟨h1, h2, h3, h4, h5⟩ := hf j hj hk
  exact ⟨h1, h2, h3, h4.below hb, h5⟩
theorem PartI.grow {w : World} {lo T T' g k : Nat} {l : List ItemL} (h : PartI w lo T g l k) (hT : T ≤ T') : PartI w lo T' g l k := by
  obtain ⟨G, C, m, f, h, hm, hf, hd⟩ := h
  refine ⟨G, C, m, f, h, hm, fun j hj hk => ?_, hd⟩
  obtain ⟨h1, h2, h3, h4, h5, h6, h7⟩ := hf j hj hk
  exact ⟨h1, h2, h3, h4, h5, by omega, h7⟩
theorem PartI.made (w : World) (lo : Nat) (l : List ItemL) (z : Array Value) : PartI (w.alloc (.cells (madeCells z (l.length * 2)) 40)) lo (w.heap.size + 1) w.heap.size l 0 := by
  refine ⟨fun _ => 0, fun _ => 0, l.length * 2, fun i => z[i % z.size]!, ?_, Nat.le_refl _, fun j _ h => by omega, fun i j h => by omega⟩
  have h := World.rowIs_alloc w (madeCells z (l.length * 2)) 40 (fun i => z[i % z.size]!) (fun i hi => by
    rw [size_madeCells] at hi
    simp [madeCells, hi])
  rwa [size_madeCells] at h
theorem PartI.cell {w : World} {lo T g k : Nat} {l : List ItemL} (h : PartI w lo T g l k) {i : Nat} (hi : i < l.length * 2) : ∃ v, w.cell? ⟨g, i, none⟩ = some v := by
  obtain ⟨_, _, m, f, h, hm, _⟩ := h
  exact ⟨_, h.cell (by omega)⟩
theorem PartI.frozen {w : World} {lo T g k : Nat} {l : List ItemL} (h : PartI w lo T g l k) (i : Nat) : w.frozen? ⟨g, i, none⟩ = false := by
  obtain ⟨_, _, m, f, h, _⟩ := h
  exact h.frozen i
theorem PartI.step {w : World} {lo T g k : Nat} {l : List ItemL} (h : PartI w lo T g l k) (hk : k < l.length) {b c : Nat} (hT : T ≤ b) (hlo : lo ≤ b) (hg : b ≠ g) (hc : l[k].2.length ≤ c) (ho : Own w b l[k].2) :
    PartI ((w.setCell ⟨g, k * 2, none⟩ (.int .i64 l[k].1)).setCell ⟨g, k * 2 + 1, none⟩ (.slice (some ⟨b, 0, none⟩) l[k].2.length c)) lo (b + 1) g l (k + 1) := by
  obtain ⟨G, C, m, f, h, hm, hf, hd⟩ := h
  refine ⟨fun j => if j = k then b else G j, fun j => if j = k then c else C j, m, _, (h.set _ _).set _ _, hm, fun j hj hlt => ?_, fun i j hi hj hne => ?_⟩
  · by_cases e : j = k
    · subst e
      simp only [if_true]
      refine ⟨by simp, by simp, hc, (ho.setOther hg _ _).setOther hg _ _, hlo, by omega, hg⟩
    · obtain ⟨h1, h2, h3, h4, h5, h6, h7⟩ := hf j hj (by omega)
      have e0 : j * 2 ≠ k * 2 + 1 := by omega
      have e1 : j * 2 ≠ k * 2 := by omega
      have e2 : j * 2 + 1 ≠ k * 2 + 1 := by omega
      have e3 : j * 2 + 1 ≠ k * 2 := by omega
      simp only [if_neg e, if_neg e0, if_neg e1, if_neg e2, if_neg e3]
      exact ⟨h1, h2, h3, (h4.setOther h7 _ _).setOther h7 _ _, h5, by omega, h7⟩
  · by_cases e : i = k
    · subst e
      have hj' : j < i := by omega
      have := (hf j (by omega) hj').2.2.2.2.2.1
      simp only [if_true, if_neg (by omega : ¬ j = i)]
      omega
    · by_cases e' : j = k
      · subst e'
        have hi' : i < j := by omega
        have := (hf i (by omega) hi').2.2.2.2.2.1
        simp only [if_true, if_neg e]
        omega
      · simp only [if_neg e, if_neg e']
        exact hd i j (by omega) (by omega) hne
theorem PartI.row {w : World} {lo T g : Nat} {l : List ItemL} (h : PartI w lo T g l l.length) : RowI w (some ⟨g, 0, none⟩) l := fun k hk => by
  obtain ⟨G, C, m, f, h, hm, hf, _⟩ := h
  obtain ⟨h1, h2, h3, h4, _⟩ := hf k hk hk
  refine ⟨g, 0, rfl, h.lt, by rw [Nat.zero_add, h.cell (by omega), h1], _, by rw [Nat.zero_add, h.cell (by omega), h2], _, _, rfl, h3, h4.row⟩
theorem Tryz.infoI : (Tryz.prog.info? 40).map (fun i => (i.zero, i.size, i.bytes)) = some (some (.agg #[.int .i64 0, .slice none 0 0]), 2, 32) := by kernel_rfl

end Go.Proofs.YtpfhegengmlkmaaGreat

namespace Go.Proofs.YtpfhegengmlkmaaGreat
open Go.RowKit Go.BigFrame

/-- The marks 'm' lie at 'a', in a block of the call's own from number 'lo' on and ahead of 'hi'; or there are none. -/
def Safe (w : World) (lo hi : Nat) (a : Option Addr) (m : List (ByteArray × Int)) : Prop :=
  m = [] ∨ ∃ g, a = some ⟨g, 0, none⟩ ∧ lo ≤ g ∧ g < hi ∧ Own w g m

theorem Safe.row {w : World} {lo hi : Nat} {a : Option Addr} {m : List (ByteArray × Int)} (h : Safe w lo hi a m) : Row w a m := by
  rcases h with rfl | ⟨g, rfl, _, _, ho⟩
  · exact fun k hk => absurd hk (Nat.not_lt_zero k)
  · exact ho.row
theorem Safe.below {w w' : World} {lo hi : Nat} {a : Option Addr} {m : List (ByteArray × Int)} (h : Safe w lo hi a m) (hb : Below w.heap.size w w') : Safe w' lo hi a m := by
  rcases h with rfl | ⟨g, rfl, h1, h2, ho⟩
  · exact .inl rfl
  · exact .inr ⟨g, rfl, h1, h2, ho.below hb⟩
theorem Gath.safe {w : World} {B : Nat} {v : Value} {m : List (ByteArray × Int)} (h : Gath w B v m) : ∃ a cap, v = .slice a m.length cap ∧ Safe w B w.heap.size a m := by
  rcases h.form with ⟨hv, rfl⟩ | ⟨g, cap, hv, hB, ho⟩
  · exact ⟨_, _, hv, .inl rfl⟩
  · exact ⟨_, _, hv, .inr ⟨g, rfl, hB, ho.lt, ho⟩⟩

/-- Of all that lay there only blocks from 'lo' on and ahead of 'hi' may have turned. -/
structure Span (lo hi : Nat) (w w' : World) : Prop where
  os : w'.os = w.os
  tape : w'.tape = w.tape
  output : w'.output = w.output
  size : w.heap.size ≤ w'.heap.size
  block : ∀ k, k < w.heap.size → (k < lo ∨ hi ≤ k) → w'.heap[k]? = w.heap[k]?

theorem Span.refl (lo hi : Nat) (w : World) : Span lo hi w w := ⟨rfl, rfl, rfl, Nat.le_refl _, fun _ _ _ => rfl⟩
theorem But.span {b lo hi : Nat} {w w' : World} (h : But b w w') (h1 : lo ≤ b) (h2 : b < hi) : Span lo hi w w' := ⟨h.os, h.tape, h.output, h.size, fun k hk hn => h.block k hk (by omega)⟩
theorem Span.below {lo hi B : Nat} {w w' : World} (h : Span lo hi w w') (hb : B ≤ lo) (hw : B ≤ w.heap.size) : Below B w w' :=
  ⟨h.os, h.tape, h.output, h.size, fun k hk => h.block k (by omega) (by omega)⟩
theorem Safe.span {w w' : World} {lo hi lo' hi' : Nat} {a : Option Addr} {m : List (ByteArray × Int)} (h : Safe w lo hi a m) (hs : Span lo' hi' w w') (hd : hi ≤ lo' ∨ hi' ≤ lo) : Safe w' lo hi a m := by
  rcases h with rfl | ⟨g, rfl, h1, h2, ho⟩
  · exact .inl rfl
  · refine .inr ⟨g, rfl, h1, h2, ?_⟩
    have hlt := ho.lt
    obtain ⟨m, f, h', hf⟩ := ho
    exact ⟨m, f, h'.of_block (hs.block g hlt (by omega)), hf⟩

end Go.Proofs.YtpfhegengmlkmaaGreat

namespace Go.Proofs.YtpfhegengmlkmaaGreat
open Go.RowKit Go.BigFrame

/-- An item's marks are turned, and its value. -/
theorem PartI.turn {w : World} {lo T g : Nat} {l : List ItemL} (h : PartI w lo T g l l.length) {j : Nat} (hj : j < l.length) :
    ∃ b c, w.cell? ⟨g, j * 2 + 1, none⟩ = some (.slice (some ⟨b, 0, none⟩) l[j].2.length c) ∧ Own w b l[j].2 ∧ lo ≤ b ∧ b < T ∧ b ≠ g ∧
      ∀ (x : Int) (m : List (ByteArray × Int)) (w2 : World), m.length = l[j].2.length → But b (w.setCell ⟨g, j * 2, none⟩ (.int .i64 x)) w2 → Own w2 b m → PartI w2 lo T g (l.set j (x, m)) (l.set j (x, m)).length := by
  have hg := h.lt
  obtain ⟨G, C, m0, f, h, hm, hf, hd⟩ := h
  obtain ⟨f1, f2, f3, f4, f5, f6, f7⟩ := hf j hj hj
  refine ⟨G j, C j, by rw [h.cell (by omega), f2], f4, f5, f6, f7, fun x m w2 hml hb ho => ?_⟩
  refine ⟨G, C, m0, _, (h.set (j * 2) (.int .i64 x)).of_block (hb.block g (by simpa [World.setCell] using hg) (Ne.symm f7)), by rw [List.length_set]; exact hm, fun i hi _ => ?_, fun i k hi hk => hd i k (by simpa using hi) (by simpa using hk)⟩
  rw [List.length_set] at hi
  by_cases e : j = i
  · subst e
    simp only [List.getElem_set_self]
    refine ⟨by simp, ?_, by rw [hml]; exact f3, ho, f5, f6, f7⟩
    rw [hml]
    have e1 : j * 2 + 1 ≠ j * 2 := by omega
    simp only [if_neg e1]
    exact f2
  · obtain ⟨i1, i2, i3, i4, i5, i6, i7⟩ := hf i hi hi
    have e1 : i * 2 ≠ j * 2 := by omega
    have e2 : i * 2 + 1 ≠ j * 2 := by omega
    simp only [List.getElem_set_ne e, if_neg e1, if_neg e2]
    exact ⟨i1, i2, i3, hb.own (i4.setOther i7 _ _) (hd i j hi hj (Ne.symm e)), i5, i6, i7⟩

theorem Span.trans {lo hi : Nat} {x y z : World} (h : Span lo hi x y) (k : Span lo hi y z) : Span lo hi x z :=
  ⟨k.os.trans h.os, k.tape.trans h.tape, k.output.trans h.output, Nat.le_trans h.size k.size, fun i hi hn => (k.block i (Nat.lt_of_lt_of_le hi h.size) hn).trans (h.block i hi hn)⟩
theorem Span.setCell {lo hi g : Nat} {x w : World} (h : Span lo hi x w) (h1 : lo ≤ g) (h2 : g < hi) (i : Nat) (v : Value) : Span lo hi x (w.setCell ⟨g, i, none⟩ v) :=
  h.trans (((But.refl g w).setCell i v).span h1 h2)

end Go.Proofs.YtpfhegengmlkmaaGreat
