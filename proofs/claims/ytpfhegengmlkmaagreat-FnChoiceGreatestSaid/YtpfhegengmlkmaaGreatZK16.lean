/- Texts of this claim, one behind the other. -/
import Derived.Deep.RegionHeld3
import Derived.Lib.Strings
import Derived.Lib.Walk
import Derived.Lib.BufferWrite
import Derived.Lib.UnsafeStr
import Derived.Laws.MakeOwn
import Derived.Test.YtpfhegengmlkmaaGreatZK1
import Derived.Test.YtpfhegengmlkmaaGreatZK6
import Derived.Test.YtpfhegengmlkmaaGreatZK8
import Derived.Test.YtpfhegengmlkmaaGreatZK10
import Derived.Test.YtpfhegengmlkmaaGreatZK14
import Derived.Test.YtpfhegengmlkmaaGreatZK15
namespace Go.Proofs.YtpfhegengmlkmaaGreat
open Go.RowKit Go.BigFrame
set_option maxRecDepth 100000

theorem stamp_fit {l : List (ByteArray × Int)} (h : StampP l) : FitM l := ⟨by have := h.1; unfold maxLen; omega, fun j hj => by have := (h.2.1 j hj).1.2.1; unfold maxLen; omega⟩

theorem field_stamp (y : Int) (a : Option Addr) (n c : Nat) (u : World) : (Instr.field 40 (.agg #[.int .i64 y, .slice a n c]) 1).run Tryz.prog u = .ok (.slice a n c) u := by kernel_rfl

set_option maxHeartbeats 800000 in
theorem takes_any (W0 w : World) (b s : Nat) (l : List ItemL) (x : Int) (v : Value) (m : List (ByteArray × Int)) (h : WinB W0 w b s l) (hW : Below W0.heap.size W0 w) (hl : ∀ k, (h : k < l.length) → StampP l[k].2) (hv : IsSl W0 v m) (hm : StampP m) :
    Calls Tryz.prog 71 #[.pointer (some ⟨b, 0, none⟩), .agg #[.int .i64 x, v]] w fun e w' => IsB (∀ h : 0 < l.length, AboveP (l[l.length - 1]'(by omega)).2 m) e ∧ Below w.heap.size w w' := by
  have h4 := h.2.2.1
  have hz := hW.size
  obtain ⟨sa, sc, rfl, hcap, hrow⟩ := hv
  go_enter Tryz.func71, Tryz.ntmps71
  go_wp2_with fail
  have hb0 : Below w.heap.size w (w.alloc (.cells #[.int .i64 x, .slice sa m.length sc] 40)) := (Below.refl _ _).alloc (Nat.le_refl _) _
  have d0 := box0 w (.int .i64 x) (.slice sa m.length sc) 40
  have d1 := box1 w (.int .i64 x) (.slice sa m.length sc) 40
  have hlt := box_lt w (.cells #[.int .i64 x, .slice sa m.length sc] 40)
  have hW1 := h.below hb0
  generalize w.alloc (.cells #[.int .i64 x, .slice sa m.length sc] 40) = W1 at *
  refine (size_any W0 W1 b s l hW1).mono ?_
  rintro e w1 ⟨rfl, rfl⟩
  by_cases h0 : 0 < l.length
  · have h0' : ((l.length : Int) == 0) = false := by rw [beq_eq_false_iff_ne]; omega
    go_wp2_with fail
    refine (last_any W0 _ b s l hW1 h0).mono ?_
    rintro e w2 ⟨⟨v2, rfl, sb, sd, rfl, hcap2, hrow2⟩, b2⟩
    have B2 : Below w.heap.size w w2 := hb0.trans (b2.mono hb0.size)
    have BW : Below W0.heap.size W0 w2 := hW.trans (B2.mono hz)
    replace d0 := cell_on b2 hlt d0
    replace d1 := cell_on b2 hlt d1
    have hs1 := hl (l.length - 1) (by omega)
    have hlt2 : w.heap.size < w2.heap.size := Nat.lt_of_lt_of_le hlt b2.size
    generalize hq : l[l.length - 1] = q at *
    obtain ⟨q1, q2⟩ := q
    simp only at hs1 hcap2 hrow2
    have HG : Hid (∀ P : List (ByteArray × Int) → Prop, P q2 → P (l[l.length - 1]'(by omega)).2) := fun P hP => by rw [hq]; exact hP
    have hfd := field_stamp q1 sb q2.length sd
    clear b2 hW1 hq
    go_wp2_with fail
    refine (same_any sb sa sd sc q2 m _ hcap2 hcap (hrow2.below BW) (hrow.below BW) hs1 hm).mono ?_
    rintro e w3 ⟨⟨r, rfl, hr⟩, b3⟩
    have B3 : Below w.heap.size w w3 := B2.trans (b3.mono B2.size)
    have BW3 : Below W0.heap.size W0 w3 := hW.trans (B3.mono hz)
    replace d0 := cell_on b3 hlt2 d0
    replace d1 := cell_on b3 hlt2 d1
    have HR : Hid (r = true ↔ namesM q2 = namesM m) := hr
    clear hr b3
    cases r
    · have HN : Hid (¬ ∀ h : 0 < l.length, AboveP (l[l.length - 1]'(by omega)).2 m) := fun h => by
        have h1 := HG.out (fun z => ¬ AboveP z m) (fun z => by simpa using HR.out.2 z.1)
        exact h1 (h h0)
      clear HR HG
      go_wp2_with fail
      go_ret
      exact ⟨isB_false HN.out, B3⟩
    · go_wp2_with fail
      refine (implOrder_any sb sa sd sc q2 m _ (stamp_fit hs1).1 (stamp_fit hm).1 hcap2 hcap (hrow2.below BW3) (hrow.below BW3) (stamp_fit hs1).2 (stamp_fit hm).2).mono ?_
      rintro e w4 ⟨⟨v, rfl, hv⟩, b4⟩
      have B4 : Below w.heap.size w w4 := B3.trans (b4.mono B3.size)
      have HV : Hid (v = 1 ↔ (StampP q2 ∧ StampP m ∧ BelowP q2 m ∧ ¬ BelowP m q2)) := ord_less hv
      clear hv
      go_wp2_with fail
      go_ret
      refine ⟨⟨v == 1, rfl, ?_⟩, B4⟩
      rw [beq_iff_eq, HV.out]
      constructor
      · intro h _
        exact HG.out (fun z => AboveP z m) ⟨HR.out.1 (by trivial), h⟩
      · intro h
        have h1 := HG.out (fun z => AboveP z m → (StampP q2 ∧ StampP m ∧ BelowP q2 m ∧ ¬ BelowP m q2)) (fun z => z.2)
        exact h1 (h h0)
  · have h0' : ((l.length : Int) == 0) = true := by rw [beq_iff_eq]; omega
    go_wp2_with fail
    go_ret
    exact ⟨isB_true (fun q => absurd q h0), hb0⟩

/-- The value of a window that is handed on: its items' marks lie in W0. -/
def WinV (W0 : World) (v : Value) (l : List ItemL) : Prop := ∃ (x0 x1 x2 x3 : Int) (a0 a1 a2 a3 : Option Addr) (n0 n1 n2 n3 c0 c1 c2 c3 : Nat),
  v = .agg #[.int .i64 x0, .slice a0 n0 c0, .int .i64 x1, .slice a1 n1 c1, .int .i64 x2, .slice a2 n2 c2, .int .i64 x3, .slice a3 n3 c3, .int .i64 0, .int .i64 l.length] ∧ l.length ≤ 4 ∧
    ∀ k, (h : k < l.length) → [x0, x1, x2, x3][k]? = some l[k].1 ∧ ∃ a n c, [(a0, n0, c0), (a1, n1, c1), (a2, n2, c2), (a3, n3, c3)][k]? = some (a, n, c) ∧ IsSl W0 (.slice a n c) l[k].2

theorem winV_of {W0 : World} {f : Nat → Value} {l : List ItemL} (h4 : l.length ≤ 4) {x0 x1 x2 x3 : Int} {a0 a1 a2 a3 : Option Addr} {n0 n1 n2 n3 c0 c1 c2 c3 : Nat}
    (p0 : f (0 * 2) = .int .i64 x0) (p1 : f (0 * 2 + 1) = .slice a0 n0 c0) (p2 : f (1 * 2) = .int .i64 x1) (p3 : f (1 * 2 + 1) = .slice a1 n1 c1) (p4 : f (2 * 2) = .int .i64 x2) (p5 : f (2 * 2 + 1) = .slice a2 n2 c2) (p6 : f (3 * 2) = .int .i64 x3) (p7 : f (3 * 2 + 1) = .slice a3 n3 c3)
    (hf : ∀ k, (h : k < l.length) → f ((0 + k) % 4 * 2) = .int .i64 l[k].1 ∧ ∃ v, f ((0 + k) % 4 * 2 + 1) = v ∧ IsSl W0 v l[k].2) :
    WinV W0 (.agg #[.int .i64 x0, .slice a0 n0 c0, .int .i64 x1, .slice a1 n1 c1, .int .i64 x2, .slice a2 n2 c2, .int .i64 x3, .slice a3 n3 c3, .int .i64 0, .int .i64 l.length]) l := by
  refine ⟨x0, x1, x2, x3, a0, a1, a2, a3, n0, n1, n2, n3, c0, c1, c2, c3, rfl, h4, fun k hk => ?_⟩
  rcases (by omega : k = 0 ∨ k = 1 ∨ k = 2 ∨ k = 3) with rfl | rfl | rfl | rfl
  · obtain ⟨q1, v, q2, q3⟩ := hf 0 hk
    have e1 : x0 = l[0].1 := by have h := p0.symm.trans q1; simpa using h
    have e2 : v = .slice a0 n0 c0 := q2.symm.trans p1
    exact ⟨by rw [← e1]; rfl, a0, n0, c0, rfl, by rw [← e2]; exact q3⟩
  · obtain ⟨q1, v, q2, q3⟩ := hf 1 hk
    have e1 : x1 = l[1].1 := by have h := p2.symm.trans q1; simpa using h
    have e2 : v = .slice a1 n1 c1 := q2.symm.trans p3
    exact ⟨by rw [← e1]; rfl, a1, n1, c1, rfl, by rw [← e2]; exact q3⟩
  · obtain ⟨q1, v, q2, q3⟩ := hf 2 hk
    have e1 : x2 = l[2].1 := by have h := p4.symm.trans q1; simpa using h
    have e2 : v = .slice a2 n2 c2 := q2.symm.trans p5
    exact ⟨by rw [← e1]; rfl, a2, n2, c2, rfl, by rw [← e2]; exact q3⟩
  · obtain ⟨q1, v, q2, q3⟩ := hf 3 hk
    have e1 : x3 = l[3].1 := by have h := p6.symm.trans q1; simpa using h
    have e2 : v = .slice a3 n3 c3 := q2.symm.trans p7
    exact ⟨by rw [← e1]; rfl, a3, n3, c3, rfl, by rw [← e2]; exact q3⟩
/-- A window's value that lies in a block of its own is a ring that begins at its first slot. -/
theorem WinV.ring {W0 : World} {v : Value} {l : List ItemL} (h : WinV W0 v l) : ∃ cs : Array Value, v = .agg cs ∧ cs.size = 10 ∧ ∀ (w : World) (b : Nat), W0.heap.size ≤ b → w.rowIs b 69 10 (fun i => (cs[i]?).getD undef) → WinB W0 w b 0 l := by
  obtain ⟨x0, x1, x2, x3, a0, a1, a2, a3, n0, n1, n2, n3, c0, c1, c2, c3, rfl, h4, hk⟩ := h
  refine ⟨_, rfl, rfl, fun w b hb hr => ⟨hb, by omega, h4, _, ⟨hr, fun i hi => ?_⟩, rfl, rfl, fun k h => ?_⟩⟩
  · rcases (by omega : i = 0 ∨ i = 1 ∨ i = 2 ∨ i = 3) with rfl | rfl | rfl | rfl
    · exact ⟨_, _, _, _, rfl, rfl⟩
    · exact ⟨_, _, _, _, rfl, rfl⟩
    · exact ⟨_, _, _, _, rfl, rfl⟩
    · exact ⟨_, _, _, _, rfl, rfl⟩
  · rcases (by omega : k = 0 ∨ k = 1 ∨ k = 2 ∨ k = 3) with rfl | rfl | rfl | rfl
    · obtain ⟨q1, a, n, c, q2, q3⟩ := hk 0 h
      obtain ⟨rfl, rfl, rfl⟩ : a0 = a ∧ n0 = n ∧ c0 = c := by simpa using q2
      have e1 : x0 = l[0].1 := by simpa using q1
      exact ⟨by rw [← e1]; rfl, _, rfl, q3⟩
    · obtain ⟨q1, a, n, c, q2, q3⟩ := hk 1 h
      obtain ⟨rfl, rfl, rfl⟩ : a1 = a ∧ n1 = n ∧ c1 = c := by simpa using q2
      have e1 : x1 = l[1].1 := by simpa using q1
      exact ⟨by rw [← e1]; rfl, _, rfl, q3⟩
    · obtain ⟨q1, a, n, c, q2, q3⟩ := hk 2 h
      obtain ⟨rfl, rfl, rfl⟩ : a2 = a ∧ n2 = n ∧ c2 = c := by simpa using q2
      have e1 : x2 = l[2].1 := by simpa using q1
      exact ⟨by rw [← e1]; rfl, _, rfl, q3⟩
    · obtain ⟨q1, a, n, c, q2, q3⟩ := hk 3 h
      obtain ⟨rfl, rfl, rfl⟩ : a3 = a ∧ n3 = n ∧ c3 = c := by simpa using q2
      have e1 : x3 = l[3].1 := by simpa using q1
      exact ⟨by rw [← e1]; rfl, _, rfl, q3⟩

/-- The same, in a block that is just laid. -/
theorem WinV.laid {W0 : World} {v : Value} {l : List ItemL} (h : WinV W0 v l) : ∃ (x0 x1 x2 x3 : Int) (a0 a1 a2 a3 : Option Addr) (n0 n1 n2 n3 c0 c1 c2 c3 : Nat), v = .agg #[.int .i64 x0, .slice a0 n0 c0, .int .i64 x1, .slice a1 n1 c1, .int .i64 x2, .slice a2 n2 c2, .int .i64 x3, .slice a3 n3 c3, .int .i64 0, .int .i64 l.length] ∧
    ∀ w : World, W0.heap.size ≤ w.heap.size → WinB W0 (w.alloc (.cells #[.int .i64 x0, .slice a0 n0 c0, .int .i64 x1, .slice a1 n1 c1, .int .i64 x2, .slice a2 n2 c2, .int .i64 x3, .slice a3 n3 c3, .int .i64 0, .int .i64 l.length] 69)) w.heap.size 0 l := by
  obtain ⟨cs, hv, hs, hw⟩ := h.ring
  obtain ⟨x0, x1, x2, x3, a0, a1, a2, a3, n0, n1, n2, n3, c0, c1, c2, c3, rfl, h4, hk⟩ := h
  obtain rfl : #[.int .i64 x0, .slice a0 n0 c0, .int .i64 x1, .slice a1 n1 c1, .int .i64 x2, .slice a2 n2 c2, .int .i64 x3, .slice a3 n3 c3, .int .i64 0, .int .i64 l.length] = cs := by simpa using hv
  exact ⟨x0, x1, x2, x3, a0, a1, a2, a3, n0, n1, n2, n3, c0, c1, c2, c3, rfl, fun w hW => hw _ _ hW (World.rowIs_alloc w _ 69 _ (fun i hi => by simp only [Array.getElem?_eq_getElem hi, Option.getD_some]))⟩

/-- What a call of readWindow ends with. -/
def ReadE (W0 : World) (l : List ItemL) (e : Ending) : Prop := (∃ v, e = .returned (.tuple #[v, .bool true]) ∧ WinP l ∧ WinV W0 v l) ∨ (∃ v, e = .returned (.tuple #[v, .bool false]) ∧ ¬ WinP l ∧ WinV W0 v [])

abbrev zero10 : Array Value := #[.int .i64 0, .slice none 0 0, .int .i64 0, .slice none 0 0, .int .i64 0, .slice none 0 0, .int .i64 0, .slice none 0 0, .int .i64 0, .int .i64 0]
theorem winV_zero (W0 : World) : WinV W0 (.agg zero10) [] := ⟨0, 0, 0, 0, none, none, none, none, 0, 0, 0, 0, 0, 0, 0, 0, rfl, Nat.zero_le _, fun k h => absurd h (Nat.not_lt_zero k)⟩

theorem winB_new (W0 w : World) (h : W0.heap.size ≤ w.heap.size) : WinB W0 (w.alloc (.cells zero10 69)) w.heap.size 0 [] := by
  refine ⟨h, by omega, Nat.zero_le _, fun i => (zero10[i]?).getD undef, ⟨?_, ?_⟩, rfl, rfl, fun k h => absurd h (Nat.not_lt_zero k)⟩
  · exact World.rowIs_alloc w zero10 69 _ (fun i hi => by simp [Array.getElem?_eq_getElem hi])
  · intro i hi
    match i, hi with
    | 0, _ => exact ⟨0, none, 0, 0, rfl, rfl⟩
    | 1, _ => exact ⟨0, none, 0, 0, rfl, rfl⟩
    | 2, _ => exact ⟨0, none, 0, 0, rfl, rfl⟩
    | 3, _ => exact ⟨0, none, 0, 0, rfl, rfl⟩

/-- Block 'H' is a window of noughts. -/
def ZeroB (w : World) (H : Nat) : Prop := w.rowIs H 69 10 (fun i => (zero10[i]?).getD undef)
theorem zeroB_new (w : World) : ZeroB (w.alloc (.cells zero10 69)) w.heap.size := World.rowIs_alloc w zero10 69 _ (fun i hi => by simp [Array.getElem?_eq_getElem hi])
theorem ZeroB.cells {w : World} {H : Nat} (h : ZeroB w H) : w.cell? ⟨H, 0, none⟩ = some (.int .i64 0) ∧ w.cell? ⟨H, 1, none⟩ = some (.slice none 0 0) ∧ w.cell? ⟨H, 2, none⟩ = some (.int .i64 0) ∧ w.cell? ⟨H, 3, none⟩ = some (.slice none 0 0) ∧ w.cell? ⟨H, 4, none⟩ = some (.int .i64 0) ∧ w.cell? ⟨H, 5, none⟩ = some (.slice none 0 0) ∧ w.cell? ⟨H, 6, none⟩ = some (.int .i64 0) ∧ w.cell? ⟨H, 7, none⟩ = some (.slice none 0 0) ∧ w.cell? ⟨H, 8, none⟩ = some (.int .i64 0) ∧ w.cell? ⟨H, 9, none⟩ = some (.int .i64 0) :=
  ⟨h.cell (by decide), h.cell (by decide), h.cell (by decide), h.cell (by decide), h.cell (by decide), h.cell (by decide), h.cell (by decide), h.cell (by decide), h.cell (by decide), h.cell (by decide)⟩
theorem ZeroB.free {w : World} {H : Nat} (h : ZeroB w H) : w.frozen? ⟨H, 0, none⟩ = false ∧ w.frozen? ⟨H, 1, none⟩ = false ∧ w.frozen? ⟨H, 2, none⟩ = false ∧ w.frozen? ⟨H, 3, none⟩ = false ∧ w.frozen? ⟨H, 4, none⟩ = false ∧ w.frozen? ⟨H, 5, none⟩ = false ∧ w.frozen? ⟨H, 6, none⟩ = false ∧ w.frozen? ⟨H, 7, none⟩ = false ∧ w.frozen? ⟨H, 8, none⟩ = false ∧ w.frozen? ⟨H, 9, none⟩ = false :=
  ⟨h.frozen _, h.frozen _, h.frozen _, h.frozen _, h.frozen _, h.frozen _, h.frozen _, h.frozen _, h.frozen _, h.frozen _⟩
theorem ZeroB.below {w w' : World} {H : Nat} (h : ZeroB w H) (hb : Below w.heap.size w w') : ZeroB w' H := World.rowIs.of_block h (hb.block H (World.rowIs.lt h))
theorem ZeroB.but {w w' : World} {H b : Nat} (h : ZeroB w H) (hb : But b w w') (hne : H ≠ b) : ZeroB w' H := World.rowIs.of_block h (hb.block H (World.rowIs.lt h) hne)
theorem stamps_take {l : List ItemL} {k : Nat} (h : WinTo l k) : ∀ j, (hj : j < (l.take k).length) → StampP (l.take k)[j].2 := fun j hj => by
  rw [List.length_take] at hj
  rw [List.getElem_take]
  exact (h.1 j (by omega) (by omega)).1

theorem take_above {l : List ItemL} {k : Nat} (h : WinP l) (hk : k < l.length) : ∀ h0 : 0 < (l.take k).length, AboveP ((l.take k)[(l.take k).length - 1]'(by omega)).2 l[k].2 := fun h0 => by
  have e : (l.take k).length = k := by rw [List.length_take]; omega
  have e2 : (l.take k)[(l.take k).length - 1]'(by omega) = l[k - 1]'(by omega) := by rw [List.getElem_take]; congr 1; omega
  rw [e2]
  exact winP_above h (by omega) hk
theorem above_take {l : List ItemL} {k : Nat} (hk : k < l.length) (h0 : 0 < k) (h : ∀ h0 : 0 < (l.take k).length, AboveP ((l.take k)[(l.take k).length - 1]'(by omega)).2 l[k].2) : AboveP (l[k - 1]'(by omega)).2 l[k].2 := by
  have e : (l.take k).length = k := by rw [List.length_take]; omega
  have e2 : (l.take k)[(l.take k).length - 1]'(by omega) = l[k - 1]'(by omega) := by rw [List.getElem_take]; congr 1; omega
  rw [← e2]
  exact h (by omega)
/-- Ten cells of one block are written. -/
def put10 (w : World) (H : Nat) (v0 v1 v2 v3 v4 v5 v6 v7 v8 v9 : Value) : World := (((((((((w.setCell ⟨H, 0, none⟩ v0).setCell ⟨H, 1, none⟩ v1).setCell ⟨H, 2, none⟩ v2).setCell ⟨H, 3, none⟩ v3).setCell ⟨H, 4, none⟩ v4).setCell ⟨H, 5, none⟩ v5).setCell ⟨H, 6, none⟩ v6).setCell ⟨H, 7, none⟩ v7).setCell ⟨H, 8, none⟩ v8).setCell ⟨H, 9, none⟩ v9
theorem put10_cells {w : World} {H : Nat} {f : Nat → Value} (h : w.rowIs H 69 10 f) (v0 v1 v2 v3 v4 v5 v6 v7 v8 v9 : Value) : (put10 w H v0 v1 v2 v3 v4 v5 v6 v7 v8 v9).cell? ⟨H, 0, none⟩ = some v0 ∧ (put10 w H v0 v1 v2 v3 v4 v5 v6 v7 v8 v9).cell? ⟨H, 1, none⟩ = some v1 ∧ (put10 w H v0 v1 v2 v3 v4 v5 v6 v7 v8 v9).cell? ⟨H, 2, none⟩ = some v2 ∧ (put10 w H v0 v1 v2 v3 v4 v5 v6 v7 v8 v9).cell? ⟨H, 3, none⟩ = some v3 ∧ (put10 w H v0 v1 v2 v3 v4 v5 v6 v7 v8 v9).cell? ⟨H, 4, none⟩ = some v4 ∧ (put10 w H v0 v1 v2 v3 v4 v5 v6 v7 v8 v9).cell? ⟨H, 5, none⟩ = some v5 ∧ (put10 w H v0 v1 v2 v3 v4 v5 v6 v7 v8 v9).cell? ⟨H, 6, none⟩ = some v6 ∧ (put10 w H v0 v1 v2 v3 v4 v5 v6 v7 v8 v9).cell? ⟨H, 7, none⟩ = some v7 ∧ (put10 w H v0 v1 v2 v3 v4 v5 v6 v7 v8 v9).cell? ⟨H, 8, none⟩ = some v8 ∧ (put10 w H v0 v1 v2 v3 v4 v5 v6 v7 v8 v9).cell? ⟨H, 9, none⟩ = some v9 := by
  have R := ((((((((((h.set 0 v0).set 1 v1).set 2 v2).set 3 v3).set 4 v4).set 5 v5).set 6 v6).set 7 v7).set 8 v8).set 9 v9)
  exact ⟨R.cell (by decide), R.cell (by decide), R.cell (by decide), R.cell (by decide), R.cell (by decide), R.cell (by decide), R.cell (by decide), R.cell (by decide), R.cell (by decide), R.cell (by decide)⟩
theorem put10_below {B H : Nat} {x w : World} (hb : Below B x w) (hB : B ≤ H) (v0 v1 v2 v3 v4 v5 v6 v7 v8 v9 : Value) : Below B x (put10 w H v0 v1 v2 v3 v4 v5 v6 v7 v8 v9) := ((((((((((hb.setCell (p := ⟨H, 0, none⟩) hB v0).setCell (p := ⟨H, 1, none⟩) hB v1).setCell (p := ⟨H, 2, none⟩) hB v2).setCell (p := ⟨H, 3, none⟩) hB v3).setCell (p := ⟨H, 4, none⟩) hB v4).setCell (p := ⟨H, 5, none⟩) hB v5).setCell (p := ⟨H, 6, none⟩) hB v6).setCell (p := ⟨H, 7, none⟩) hB v7).setCell (p := ⟨H, 8, none⟩) hB v8).setCell (p := ⟨H, 9, none⟩) hB v9)

end Go.Proofs.YtpfhegengmlkmaaGreat

namespace Go.Proofs.YtpfhegengmlkmaaGreat
open Go.RowKit Go.BigFrame
set_option maxRecDepth 100000

/-- What WindowLast answers. -/
def IsL (l : List ItemL) (x : Int) (m : List (ByteArray × Int)) (ok : Bool) : Prop :=
  (∀ h : WinP l ∧ 0 < l.length, ok = true ∧ (x, m) = l[l.length - 1]'(by omega)) ∧ (¬ (WinP l ∧ 0 < l.length) → ok = false ∧ x = 0 ∧ m = [])
theorem IsL.one {l : List ItemL} {x x' : Int} {m m' : List (ByteArray × Int)} {ok ok' : Bool} (h : IsL l x m ok) (h' : IsL l x' m' ok') : x = x' ∧ m = m' ∧ ok = ok' := by
  by_cases hp : WinP l ∧ 0 < l.length
  · have e := (h.1 hp).2.trans (h'.1 hp).2.symm
    exact ⟨(Prod.mk.inj e).1, (Prod.mk.inj e).2, (h.1 hp).1.trans (h'.1 hp).1.symm⟩
  · obtain ⟨h1, h2, h3⟩ := h.2 hp
    obtain ⟨h1', h2', h3'⟩ := h'.2 hp
    exact ⟨h2.trans h2'.symm, h3.trans h3'.symm, h1.trans h1'.symm⟩
theorem win_small {l : List ItemL} (h : WinP l) : Small1 l := ⟨by have := h.1; omega, fun j hj => by have := (h.2.1 j hj).1.1; omega⟩
theorem Own.safe {w : World} {B g : Nat} {m : List (ByteArray × Int)} (h : Own w g m) (hB : B ≤ g) : Safe w B w.heap.size (some ⟨g, 0, none⟩) m := .inr ⟨g, rfl, hB, h.lt, h⟩

end Go.Proofs.YtpfhegengmlkmaaGreat
