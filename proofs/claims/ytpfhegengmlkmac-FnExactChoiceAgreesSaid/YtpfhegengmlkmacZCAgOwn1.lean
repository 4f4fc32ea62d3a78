/- Texts of this claim, one behind the other. -/
import Derived.Test.YtpfhegengmlkmacItC
import Derived.Test.YtpfhegengmlkmacWb
import Derived.Test.YtpfhegengmlkmacLat
import Derived.Test.YtpfhegengmlkmacItB
import Derived.Test.YtpfhegengmlkmacChS
import Derived.Test.YtpfhegengmlkmacChO
/- Items in blocks of the call's own. Walk: toItemS. -/
namespace Go.Proofs.Ytpfhegengmlkmac
open Go.RowKit

/-- The first 'k' items of 'l' lie in block 'g', which has room for all; their marks lie each in a block of its own, from 'lo' on and ahead of 'T'. -/
def PartI (w : World) (lo T g : Nat) (l : List ItemL) (k : Nat) : Prop :=
  ∃ (G C : Nat → Nat) (m : Nat) (f : Nat → Value), w.rowIs g 74 m f ∧ l.length * 2 ≤ m ∧
    (∀ j, (h : j < l.length) → j < k → f (j * 2) = .int .i64 l[j].1 ∧ f (j * 2 + 1) = .slice (some ⟨G j, 0, none⟩) l[j].2.length (C j) ∧ l[j].2.length ≤ C j ∧ Own w (G j) l[j].2 ∧ lo ≤ G j ∧ G j < T ∧ G j ≠ g) ∧ ∀ i j, i < k → j < k → i ≠ j → G i ≠ G j

theorem PartI.lt {w : World} {lo T g k : Nat} {l : List ItemL} (h : PartI w lo T g l k) : g < w.heap.size := by
  obtain ⟨_, _, _, _, h, _⟩ := h
  exact h.lt
theorem PartI.below {w w' : World} {lo T g k : Nat} {l : List ItemL} (h : PartI w lo T g l k) (hb : Below w.heap.size w w') : PartI w' lo T g l k := by
  have hlt := h.lt
  obtain ⟨G, C, m, f, h, hm, hf, hd⟩ := h
  refine ⟨G, C, m, f, h.of_block (hb.block g hlt), hm, fun j hj hk => ?_, hd⟩
  obtain ⟨h1, h2, h3, h4, h5⟩ := hf j hj hk
  exact ⟨h1, h2, h3, h4.below hb, h5⟩
theorem PartI.grow {w : World} {lo T T' g k : Nat} {l : List ItemL} (h : PartI w lo T g l k) (hT : T ≤ T') : PartI w lo T' g l k := by
  obtain ⟨G, C, m, f, h, hm, hf, hd⟩ := h
  refine ⟨G, C, m, f, h, hm, fun j hj hk => ?_, hd⟩
  obtain ⟨h1, h2, h3, h4, h5, h6, h7⟩ := hf j hj hk
  exact ⟨h1, h2, h3, h4, h5, by omega, h7⟩
theorem PartI.made (w : World) (lo : Nat) (l : List ItemL) (z : Array Value) : PartI (w.alloc (.cells (madeCells z (l.length * 2)) 74)) lo (w.heap.size + 1) w.heap.size l 0 := by
  refine ⟨fun _ => 0, fun _ => 0, l.length * 2, fun i => z[i % z.size]!, ?_, Nat.le_refl _, fun j _ h => by omega, fun i j h => by omega⟩
  have h := World.rowIs_alloc w (madeCells z (l.length * 2)) 74 (fun i => z[i % z.size]!) (fun i hi => by
    rw [size_madeCells] at hi
    simp [madeCells, hi])
  rwa [size_madeCells] at h
theorem PartI.cell {w : World} {lo T g k : Nat} {l : List ItemL} (h : PartI w lo T g l k) {i : Nat} (hi : i < l.length * 2) : ∃ v, w.cell? ⟨g, i, none⟩ = some v := by
  obtain ⟨_, _, m, f, h, hm, _⟩ := h
  exact ⟨_, h.cell (by omega)⟩
theorem PartI.frozen {w : World} {lo T g k : Nat} {l : List ItemL} (h : PartI w lo T g l k) (i : Nat) : w.frozen? ⟨g, i, none⟩ = false := by
  obtain ⟨_, _, m, f, h, _⟩ := h
  exact h.frozen i
theorem PartI.step {w : World} {lo T g k : Nat} {l : List ItemL} (h : PartI w lo T g l k) (hk : k < l.length) {b c : Nat} (hT : T ≤ b) (hlo : lo ≤ b) (hg : b ≠ g) (hc : l[k].2.length ≤ c) (ho : Own w b l[k].2) :
    PartI ((w.setCell ⟨g, k * 2, none⟩ (.int .i64 l[k].1)).setCell ⟨g, k * 2 + 1, none⟩ (.slice (some ⟨b, 0, none⟩) l[k].2.length c)) lo (b + 1) g l (k + 1) := by
  obtain ⟨G, C, m, f, h, hm, hf, hd⟩ := h
  refine ⟨fun j => if j = k then b else G j, fun j => if j = k then c else C j, m, _, (h.set _ _).set _ _, hm, fun j hj hlt => ?_, fun i j hi hj hne => ?_⟩
  · by_cases e : j = k
    · subst e
      simp only [if_true]
      refine ⟨by simp, by simp, hc, (ho.setOther hg _ _).setOther hg _ _, hlo, by omega, hg⟩
    · obtain ⟨h1, h2, h3, h4, h5, h6, h7⟩ := hf j hj (by omega)
      have e0 : j * 2 ≠ k * 2 + 1 := by omega
      have e1 : j * 2 ≠ k * 2 := by omega
      have e2 : j * 2 + 1 ≠ k * 2 + 1 := by omega
      have e3 : j * 2 + 1 ≠ k * 2 := by omega
      simp only [if_neg e, if_neg e0, if_neg e1, if_neg e2, if_neg e3]
      exact ⟨h1, h2, h3, (h4.setOther h7 _ _).setOther h7 _ _, h5, by omega, h7⟩
  · by_cases e : i = k
    · subst e
      have hj' : j < i := by omega
      have := (hf j (by omega) hj').2.2.2.2.2.1
      simp only [if_true, if_neg (by omega : ¬ j = i)]
      omega
    · by_cases e' : j = k
      · subst e'
        have hi' : i < j := by omega
        have := (hf i (by omega) hi').2.2.2.2.2.1
        simp only [if_true, if_neg e]
        omega
      · simp only [if_neg e, if_neg e']
        exact hd i j (by omega) (by omega) hne
theorem PartI.row {w : World} {lo T g : Nat} {l : List ItemL} (h : PartI w lo T g l l.length) : RowI w (some ⟨g, 0, none⟩) l := fun k hk => by
  obtain ⟨G, C, m, f, h, hm, hf, _⟩ := h
  obtain ⟨h1, h2, h3, h4, _⟩ := hf k hk hk
  refine ⟨g, 0, rfl, h.lt, by rw [Nat.zero_add, h.cell (by omega), h1], _, by rw [Nat.zero_add, h.cell (by omega), h2], _, _, rfl, h3, h4.row⟩
theorem Try.infoI : (Try.prog.info? 74).map (fun i => (i.zero, i.size, i.bytes)) = some (some (.agg #[.int .i64 0, .slice none 0 0]), 2, 32) := by kernel_rfl

set_option maxHeartbeats 800000 in
theorem toItemS_any (a : Option Addr) (cap : Nat) (l : List ItemL) (w : World) (hl : l.length ≤ 1048576) (hs : ∀ j, (h : j < l.length) → l[j].2.length ≤ 1048576) (hr : RowI w a l) :
    Calls Try.prog 12 #[.slice a l.length cap] w fun e w' => e = .returned (.slice (some ⟨w.heap.size, 0, none⟩) l.length l.length) ∧ PartI w' w.heap.size w'.heap.size w.heap.size l l.length ∧ Below w.heap.size w w' := by
  obtain ⟨i0, hi, hz0, hz1, hz2⟩ := info_parts Try.infoI
  have hmk : ∀ u : World, (Instr.makeSlice 25 (.int .i64 (l.length : Int)) (.int .i64 (l.length : Int))).run Try.prog u =
      .ok (.slice (some ⟨u.heap.size, 0, none⟩) l.length l.length) (u.alloc (.cells (madeCells #[.int .i64 0, .slice none 0 0] (l.length * 2)) 74)) := fun u => by
    have h := run_make (P := Try.prog) u 25 74 i0 (.agg #[.int .i64 0, .slice none 0 0]) Try.underlying25 hi hz0 .i64 .i64 (l.length : Int) (l.length : Int) (by omega) (Int.le_refl _) (by rw [hz2]; omega) (by omega)
    simpa [hz1, Value.cells] using h
  go_enter Try.func12, Try.ntmps12
  go_wp2_with fail
  go_loopw [4] (fun i wr => ∃ k : Nat, k ≤ l.length ∧ i = .int .i64 k ∧ PartI wr w.heap.size wr.heap.size w.heap.size l k ∧ Below w.heap.size w wr) (fun i _ => l.length - (intOf i).toNat)
  case atStart => exact ⟨0, Nat.zero_le _, rfl, (PartI.made w _ l _).grow (by simp), (Below.refl _ _).alloc (Nat.le_refl _) _⟩
  case round =>
    obtain ⟨k, hk, rfl, hp, hb⟩ := hrel
    have hzr := hb.size
    have hpl := hp.lt
    by_cases hlt : k < l.length
    · obtain ⟨b, o, rfl, hblt, c0, v, c1, hv⟩ := hr.below hb k hlt
      obtain ⟨sa, sc, rfl, hcap, hrow⟩ := hv
      have k0 : (0 : Int) ≤ (k : Int) := by omega
      have k1 : (k : Int) < (l.length : Int) := by omega
      have hsk := hs k hlt
      go_wp2_with fail
      refine (toItem_any l[k].1 sa sc l[k].2 _ hrow hsk).mono ?_
      rintro e w1 ⟨⟨b2, hb2, rfl, ho⟩, b1⟩
      have hp1 := hp.below b1
      obtain ⟨v0, hv0⟩ := hp1.cell (i := k * 2) (by omega)
      obtain ⟨v1, hv1⟩ := hp1.cell (i := k * 2 + 1) (by omega)
      have hf0 := hp1.frozen (k * 2)
      have hf1 := hp1.frozen (k * 2 + 1)
      have B1 : Below w.heap.size w w1 := hb.trans (b1.mono hzr)
      have hstep := hp1.step hlt hb2 (by omega) (by omega) (Nat.le_refl _) ho
      have hlt2 := ho.lt
      go_wp2_with fail
      exact ⟨⟨k + 1, by omega, by go_num, hstep.grow (by simp; omega), (B1.setCell (Nat.le_refl _) _).setCell (Nat.le_refl _) _⟩, by simp [intOf]; omega⟩
    · obtain rfl : k = l.length := by omega
      go_wp2_with fail
      go_ret
      exact ⟨rfl, hp, hb⟩

end Go.Proofs.Ytpfhegengmlkmac
/- Walks: eqMark, eqMarkS at two rows of the same marks. -/
namespace Go.Proofs.Ytpfhegengmlkmac
open Go.RowKit Go.BigFrame

set_option maxHeartbeats 400000 in
theorem eqMark_same (s : ByteArray) (u : Int) (w : World) :
    Calls Try.prog 67 #[.agg #[.string s, .int .i64 u], .agg #[.string s, .int .i64 u]] w fun e w' => e = .returned (.bool true) ∧ Below w.heap.size w w' := by
  go_enter Try.func67, Try.ntmps67
  go_wp2
  go_ret
  exact ⟨rfl, ((Below.refl _ _).alloc (Nat.le_refl _) _).alloc (by simp) _⟩

set_option maxHeartbeats 400000 in
theorem eqMarkS_same (a b : Option Addr) (ca cb : Nat) (l : List (ByteArray × Int)) (w : World) (hl : l.length ≤ maxLen) (ha : Row w a l) (hb : Row w b l) :
    Calls Try.prog 31 #[.slice a l.length ca, .slice b l.length cb] w fun e w' => e = .returned (.bool true) ∧ Below w.heap.size w w' := by
  unfold maxLen at hl
  go_enter Try.func31, Try.ntmps31
  go_wp2_with fail
  go_loopw [5] (fun i wr => ∃ k : Nat, k ≤ l.length ∧ i = .int .i64 k ∧ Below w.heap.size w wr) (fun i _ => l.length - (intOf i).toNat)
  case atStart => exact ⟨0, Nat.zero_le _, rfl, Below.refl _ _⟩
  case round =>
    obtain ⟨k, hk, rfl, hbl⟩ := hrel
    by_cases hlt : k < l.length
    · obtain ⟨b1, o1, rfl, hlt1, c0, c1⟩ := ha k hlt
      obtain ⟨b2, o2, rfl, hlt2, d0, d1⟩ := hb k hlt
      have e0 := cell_on hbl hlt1 c0
      have e1 := cell_on hbl hlt1 c1
      have f0 := cell_on hbl hlt2 d0
      have f1 := cell_on hbl hlt2 d1
      have g1 : b1 < wr.heap.size := Nat.lt_of_lt_of_le hlt1 hbl.size
      have g2 : b2 < wr.heap.size := Nat.lt_of_lt_of_le hlt2 hbl.size
      have k0 : (0 : Int) ≤ (k : Int) := by omega
      have k1 : (k : Int) < (l.length : Int) := by omega
      go_wp2_with fail
      refine wp_region_lat (by kernel_rfl) (by kernel_rfl) ?_
      have hne := Lat.some wr
      have q0 : ∀ n : Lat wr, n.w.cell? ⟨b1, o1 + k * 2, none⟩ = some (.string l[k].1) := fun n => n.cell g1 e0
      have q1 : ∀ n : Lat wr, n.w.cell? ⟨b1, o1 + k * 2 + 1, none⟩ = some (.int .i64 l[k].2) := fun n => n.cell g1 e1
      have q2 : ∀ n : Lat wr, n.w.cell? ⟨b2, o2 + k * 2, none⟩ = some (.string l[k].1) := fun n => n.cell g2 f0
      have q3 : ∀ n : Lat wr, n.w.cell? ⟨b2, o2 + k * 2 + 1, none⟩ = some (.int .i64 l[k].2) := fun n => n.cell g2 f1
      repeat (go_big_quiet_step ((go_at_call 67; exact Calls.lat_of (eqMark_same _ _ _))))
      refine wpQuiet_nil ?_
      rintro _ ⟨nq, rfl⟩
      go_wp2_with fail
      exact ⟨⟨k + 1, by omega, by go_num, hbl.trans (nq.h.mono hbl.size)⟩, by simp [intOf]; omega⟩
    · go_wp2_with fail
      go_ret
      exact ⟨rfl, hbl⟩

end Go.Proofs.Ytpfhegengmlkmac
/- Walks: eqItem, eqItemS at two rows of the same items. -/
namespace Go.Proofs.Ytpfhegengmlkmac
open Go.RowKit Go.BigFrame

set_option maxHeartbeats 800000 in
theorem eqItem_same (x : Int) (a1 a2 : Option Addr) (c1 c2 : Nat) (l : List (ByteArray × Int)) (w : World) (hl : l.length ≤ maxLen) (h1 : Row w a1 l) (h2 : Row w a2 l) :
    Calls Try.prog 55 #[.agg #[.int .i64 x, .slice a1 l.length c1], .agg #[.int .i64 x, .slice a2 l.length c2]] w fun e w' => e = .returned (.bool true) ∧ Below w.heap.size w w' := by
  go_enter Try.func55, Try.ntmps55
  go_wp2_with fail
  have hb0 : Below w.heap.size w ((w.alloc (.cells #[.int .i64 x, .slice a1 l.length c1] 74)).alloc (.cells #[.int .i64 x, .slice a2 l.length c2] 74)) := ((Below.refl _ _).alloc (Nat.le_refl _) _).alloc (by simp) _
  refine (eqMarkS_same a1 a2 c1 c2 l _ hl (h1.below hb0) (h2.below hb0)).mono ?_
  rintro e w1 ⟨rfl, b1⟩
  have B1 : Below w.heap.size w w1 := hb0.trans (b1.mono hb0.size)
  go_wp2_with fail
  go_ret
  exact ⟨rfl, B1⟩

set_option maxHeartbeats 800000 in
theorem eqItemS_same (a b : Option Addr) (ca cb : Nat) (l : List ItemL) (w : World) (hf : FitI l) (ha : RowI w a l) (hb : RowI w b l) :
    Calls Try.prog 14 #[.slice a l.length ca, .slice b l.length cb] w fun e w' => e = .returned (.bool true) ∧ Below w.heap.size w w' := by
  have hl := hf.1
  unfold maxLen at hl
  go_enter Try.func14, Try.ntmps14
  go_wp2_with fail
  go_loopw [5] (fun i wr => ∃ k : Nat, k ≤ l.length ∧ i = .int .i64 k ∧ Below w.heap.size w wr) (fun i _ => l.length - (intOf i).toNat)
  case atStart => exact ⟨0, Nat.zero_le _, rfl, Below.refl _ _⟩
  case round =>
    obtain ⟨k, hk, rfl, hbl⟩ := hrel
    by_cases hlt : k < l.length
    · obtain ⟨b1, o1, rfl, g1, e0, v1, e1, ⟨s1, t1, rfl, _, r1⟩⟩ := ha.below hbl k hlt
      obtain ⟨b2, o2, rfl, g2, f0, v2, f1, ⟨s2, t2, rfl, _, r2⟩⟩ := hb.below hbl k hlt
      have k0 : (0 : Int) ≤ (k : Int) := by omega
      have k1 : (k : Int) < (l.length : Int) := by omega
      have hlk := (hf.2 k hlt).1
      go_wp2_with fail
      refine wp_region_lat (by kernel_rfl) (by kernel_rfl) ?_
      have hne := Lat.some wr
      have q0 : ∀ n : Lat wr, n.w.cell? ⟨b1, o1 + k * 2, none⟩ = some (.int .i64 l[k].1) := fun n => n.cell g1 e0
      have q1 : ∀ n : Lat wr, n.w.cell? ⟨b1, o1 + k * 2 + 1, none⟩ = some (.slice s1 l[k].2.length t1) := fun n => n.cell g1 e1
      have q2 : ∀ n : Lat wr, n.w.cell? ⟨b2, o2 + k * 2, none⟩ = some (.int .i64 l[k].1) := fun n => n.cell g2 f0
      have q3 : ∀ n : Lat wr, n.w.cell? ⟨b2, o2 + k * 2 + 1, none⟩ = some (.slice s2 l[k].2.length t2) := fun n => n.cell g2 f1
      have ce : ∀ n : Lat wr, Calls Try.prog 55 #[.agg #[.int .i64 l[k].1, .slice s1 l[k].2.length t1], .agg #[.int .i64 l[k].1, .slice s2 l[k].2.length t2]] n.w fun e w'' => e = .returned (.bool true) ∧ Below n.w.heap.size n.w w'' := fun n => eqItem_same _ _ _ _ _ _ _ hlk (r1.below n.h) (r2.below n.h)
      repeat (go_big_quiet_step ((go_at_call 55; exact Calls.lat_of (ce _))))
      refine wpQuiet_nil ?_
      rintro _ ⟨nq, rfl⟩
      go_wp2_with fail
      exact ⟨⟨k + 1, by omega, by go_num, hbl.trans (nq.h.mono hbl.size)⟩, by simp [intOf]; omega⟩
    · go_wp2_with fail
      go_ret
      exact ⟨rfl, hbl⟩

end Go.Proofs.Ytpfhegengmlkmac
/- Walks: szItemSS, eqItemSS at two rows of the same windows, eqIntS at two rows of the same numbers. -/
namespace Go.Proofs.Ytpfhegengmlkmac
open Go.RowKit Go.BigFrame

def SmallW (n : Int) (ws : List (List ItemL)) : Prop := (ws.length : Int) ≤ n ∧ ∀ j, (h : j < ws.length) → SmallI n ws[j]
theorem SmallI.mono {n m : Int} {l : List ItemL} (h : SmallI n l) (hm : n ≤ m) : SmallI m l := ⟨by have := h.1; omega, fun j hj => (h.2 j hj).mono hm⟩
theorem szW_step {ws : List (List ItemL)} {left : Int} {k : Nat} (H : ∀ j, (h : j < ws.length) → j < k → SmallI left ws[j]) (hk : k < ws.length) (h : SmallI left ws[k]) : ∀ j, (h : j < ws.length) → j < k + 1 → SmallI left ws[j] := fun j hj hlt => by
  by_cases e : j = k
  · subst e; exact h
  · exact H j hj (by omega)

set_option maxHeartbeats 800000 in
theorem szItemSS_any (a : Option Addr) (cap : Nat) (ws : List (List ItemL)) (left : Int) (w : World) (hr : RowW w a ws) (hf : FitW ws) (h0 : 0 ≤ left) (h1 : left ≤ 1048576) :
    Calls Try.prog 15 #[.slice a ws.length cap, .int .i64 left] w fun e w' => ∃ r : Int, e = .returned (.int .i64 r) ∧ -1 ≤ r ∧ r ≤ left ∧ (0 ≤ r → SmallW left ws) ∧ Below w.heap.size w w' := by
  have hl := hf.1
  unfold maxLen at hl
  by_cases hc : left - (ws.length : Int) < 0
  · go_enter Try.func15, Try.ntmps15
    go_wp2_with fail
    go_ret
    exact ⟨-1, rfl, by omega, by omega, fun h => by omega, Below.refl _ _⟩
  · go_enter Try.func15, Try.ntmps15
    go_wp2_with fail
    go_loopw [1, 5] (fun lf i wr => ∃ (k : Nat) (q : Int), k ≤ ws.length ∧ i = .int .i64 k ∧ lf = .int .i64 q ∧ 0 ≤ q ∧ q ≤ left ∧ (∀ j, (h : j < ws.length) → j < k → SmallI left ws[j]) ∧ Below w.heap.size w wr) (fun _ i _ => ws.length - (intOf i).toNat)
    case atStart => exact ⟨0, _, Nat.zero_le _, rfl, rfl, by omega, by omega, fun j _ h => by omega, Below.refl _ _⟩
    case round =>
      obtain ⟨k, q, hk, rfl, rfl, hq0, hq1, hall, hb⟩ := hrel
      by_cases hlt : k < ws.length
      · obtain ⟨b, o, rfl, hblt, s1, t1, c1, _, hrow⟩ := hr.below hb k hlt
        have HST : Hid (SmallI left ws[k] → ∀ j, (h : j < ws.length) → j < k + 1 → SmallI left ws[j]) := szW_step hall hlt
        have k0 : (0 : Int) ≤ (k : Int) := by omega
        have k1 : (k : Int) < (ws.length : Int) := by omega
        clear hall
        go_wp2_with fail
        refine (szItemS_any s1 t1 ws[k] q _ hrow (hf.2 k hlt) hq0 (by omega)).mono ?_
        rintro e w1 ⟨r, rfl, hr0, hr1, hr2, hb1⟩
        have HR2 : Hid (0 ≤ r → SmallI q ws[k]) := hr2
        clear hr2
        by_cases hneg : r < 0
        · go_wp2_with fail
          go_ret
          exact ⟨-1, rfl, by omega, by omega, fun h => by omega, hb.trans (hb1.mono hb.size)⟩
        · go_wp2_with fail
          exact ⟨⟨k + 1, r, by omega, by go_num, rfl, by omega, by omega, HST.out ((HR2.out (by omega)).mono hq1), hb.trans (hb1.mono hb.size)⟩, by simp [intOf]; omega⟩
      · go_wp2_with fail
        go_ret
        exact ⟨q, rfl, by omega, hq1, fun _ => ⟨by omega, fun j hj => hall j hj (by omega)⟩, hb⟩

set_option maxHeartbeats 800000 in
theorem eqItemSS_same (a b : Option Addr) (ca cb : Nat) (ws : List (List ItemL)) (w : World) (hf : FitW ws) (ha : RowW w a ws) (hb : RowW w b ws) :
    Calls Try.prog 20 #[.slice a ws.length ca, .slice b ws.length cb] w fun e w' => e = .returned (.bool true) ∧ Below w.heap.size w w' := by
  have hl := hf.1
  unfold maxLen at hl
  go_enter Try.func20, Try.ntmps20
  go_wp2_with fail
  go_loopw [5] (fun i wr => ∃ k : Nat, k ≤ ws.length ∧ i = .int .i64 k ∧ Below w.heap.size w wr) (fun i _ => ws.length - (intOf i).toNat)
  case atStart => exact ⟨0, Nat.zero_le _, rfl, Below.refl _ _⟩
  case round =>
    obtain ⟨k, hk, rfl, hbl⟩ := hrel
    by_cases hlt : k < ws.length
    · obtain ⟨b1, o1, rfl, g1, s1, t1, e1, _, r1⟩ := ha.below hbl k hlt
      obtain ⟨b2, o2, rfl, g2, s2, t2, f1, _, r2⟩ := hb.below hbl k hlt
      have k0 : (0 : Int) ≤ (k : Int) := by omega
      have k1 : (k : Int) < (ws.length : Int) := by omega
      have hfk := hf.2 k hlt
      go_wp2_with fail
      refine wp_region_lat (by kernel_rfl) (by kernel_rfl) ?_
      have hne := Lat.some wr
      have q1 : ∀ n : Lat wr, n.w.cell? ⟨b1, o1 + k, none⟩ = some (.slice s1 ws[k].length t1) := fun n => n.cell g1 e1
      have q3 : ∀ n : Lat wr, n.w.cell? ⟨b2, o2 + k, none⟩ = some (.slice s2 ws[k].length t2) := fun n => n.cell g2 f1
      have ce : ∀ n : Lat wr, Calls Try.prog 14 #[.slice s1 ws[k].length t1, .slice s2 ws[k].length t2] n.w fun e w'' => e = .returned (.bool true) ∧ Below n.w.heap.size n.w w'' := fun n => eqItemS_same _ _ _ _ _ _ hfk (r1.below n.h) (r2.below n.h)
      repeat (go_big_quiet_step ((go_at_call 14; exact Calls.lat_of (ce _))))
      refine wpQuiet_nil ?_
      rintro _ ⟨nq, rfl⟩
      go_wp2_with fail
      exact ⟨⟨k + 1, by omega, by go_num, hbl.trans (nq.h.mono hbl.size)⟩, by simp [intOf]; omega⟩
    · go_wp2_with fail
      go_ret
      exact ⟨rfl, hbl⟩

set_option maxHeartbeats 800000 in
theorem eqIntS_same (a b : Option Addr) (ca cb : Nat) (ps : List Int) (w : World) (hp : ps.length ≤ maxLen) (ha : RowZ w a ps) (hb : RowZ w b ps) :
    Calls Try.prog 21 #[.slice a ps.length ca, .slice b ps.length cb] w fun e w' => e = .returned (.bool true) ∧ Below w.heap.size w w' := by
  unfold maxLen at hp
  go_enter Try.func21, Try.ntmps21
  go_wp2_with fail
  go_loopw [5] (fun i wr => ∃ k : Nat, k ≤ ps.length ∧ i = .int .i64 k ∧ Below w.heap.size w wr) (fun i _ => ps.length - (intOf i).toNat)
  case atStart => exact ⟨0, Nat.zero_le _, rfl, Below.refl _ _⟩
  case round =>
    obtain ⟨k, hk, rfl, hbl⟩ := hrel
    by_cases hlt : k < ps.length
    · obtain ⟨b1, o1, rfl, g1, e1⟩ := ha.below hbl k hlt
      obtain ⟨b2, o2, rfl, g2, f1⟩ := hb.below hbl k hlt
      have k0 : (0 : Int) ≤ (k : Int) := by omega
      have k1 : (k : Int) < (ps.length : Int) := by omega
      go_wp2_with fail
      go_quiet (fail)
      go_wp2_with fail
      exact ⟨⟨k + 1, by omega, by go_num, below_drewN hbl _⟩, by simp [intOf]; omega⟩
    · go_wp2_with fail
      go_ret
      exact ⟨rfl, hbl⟩

end Go.Proofs.Ytpfhegengmlkmac
/- Numbers and windows in blocks of the call's own. Walks: toIntS, toItemSS. -/
namespace Go.Proofs.Ytpfhegengmlkmac
open Go.RowKit Go.BigFrame

/-- The first 'k' numbers of 'l' lie in block 'b', which has room for all. -/
def PartZ (w : World) (b : Nat) (l : List Int) (k : Nat) : Prop :=
  ∃ f, w.rowIs b 3 l.length f ∧ ∀ j, (h : j < l.length) → j < k → f j = .int .i64 l[j]
theorem PartZ.lt {w : World} {b k : Nat} {l : List Int} (h : PartZ w b l k) : b < w.heap.size := by
  obtain ⟨f, h, _⟩ := h
  exact h.lt
theorem PartZ.below {w w' : World} {b k : Nat} {l : List Int} (h : PartZ w b l k) (hb : Below w.heap.size w w') : PartZ w' b l k := by
  have hlt := h.lt
  obtain ⟨f, h, hf⟩ := h
  exact ⟨f, h.of_block (hb.block b hlt), hf⟩
theorem PartZ.made (w : World) (l : List Int) (z : Value) : PartZ (w.alloc (.cells (madeCells #[z] l.length) 3)) w.heap.size l 0 := by
  refine ⟨fun i => #[z][i % 1]!, ?_, fun j _ h => by omega⟩
  have h := World.rowIs_alloc w (madeCells #[z] l.length) 3 (fun i => #[z][i % 1]!) (fun i hi => by
    rw [size_madeCells] at hi
    simp [madeCells, hi])
  rwa [size_madeCells] at h
theorem PartZ.cell {w : World} {b k : Nat} {l : List Int} (h : PartZ w b l k) {i : Nat} (hi : i < l.length) : ∃ v, w.cell? ⟨b, i, none⟩ = some v := by
  obtain ⟨f, h, _⟩ := h
  exact ⟨_, h.cell hi⟩
theorem PartZ.frozen {w : World} {b k : Nat} {l : List Int} (h : PartZ w b l k) (i : Nat) : w.frozen? ⟨b, i, none⟩ = false := by
  obtain ⟨f, h, _⟩ := h
  exact h.frozen i
theorem PartZ.step {w : World} {b k : Nat} {l : List Int} (h : PartZ w b l k) (hk : k < l.length) : PartZ (w.setCell ⟨b, k, none⟩ (.int .i64 l[k])) b l (k + 1) := by
  obtain ⟨f, h, hf⟩ := h
  refine ⟨_, h.set _ _, fun j hj hlt => ?_⟩
  by_cases e : j = k
  · subst e; simp
  · simp only [if_neg e]
    exact hf j hj (by omega)
theorem PartZ.row {w : World} {b : Nat} {l : List Int} (h : PartZ w b l l.length) : RowZ w (some ⟨b, 0, none⟩) l := fun k hk => by
  obtain ⟨f, h, hf⟩ := h
  exact ⟨b, 0, rfl, h.lt, by rw [Nat.zero_add, h.cell hk, hf k hk hk]⟩
theorem Try.infoZ : (Try.prog.info? 3).map (fun i => (i.zero, i.size, i.bytes)) = some (some (.int .i64 0), 1, 8) := by kernel_rfl

set_option maxHeartbeats 800000 in
theorem toIntS_any (a : Option Addr) (cap : Nat) (l : List Int) (w : World) (hl : l.length ≤ 1048576) (hr : RowZ w a l) :
    Calls Try.prog 18 #[.slice a l.length cap] w fun e w' => e = .returned (.slice (some ⟨w.heap.size, 0, none⟩) l.length l.length) ∧ PartZ w' w.heap.size l l.length ∧ Below w.heap.size w w' := by
  obtain ⟨i0, hi, hz0, hz1, hz2⟩ := info_parts Try.infoZ
  have hmk : ∀ u : World, (Instr.makeSlice 30 (.int .i64 (l.length : Int)) (.int .i64 (l.length : Int))).run Try.prog u =
      .ok (.slice (some ⟨u.heap.size, 0, none⟩) l.length l.length) (u.alloc (.cells (madeCells #[.int .i64 0] l.length) 3)) := fun u => by
    have h := run_make (P := Try.prog) u 30 3 i0 (.int .i64 0) Try.underlying30 hi hz0 .i64 .i64 (l.length : Int) (l.length : Int) (by omega) (Int.le_refl _) (by rw [hz2]; omega) (by omega)
    simpa [hz1, Value.cells] using h
  go_enter Try.func18, Try.ntmps18
  go_wp2_with fail
  go_loopw [4] (fun i wr => ∃ k : Nat, k ≤ l.length ∧ i = .int .i64 k ∧ PartZ wr w.heap.size l k ∧ Below w.heap.size w wr) (fun i _ => l.length - (intOf i).toNat)
  case atStart => exact ⟨0, Nat.zero_le _, rfl, PartZ.made w l _, (Below.refl _ _).alloc (Nat.le_refl _) _⟩
  case round =>
    obtain ⟨k, hk, rfl, hp, hb⟩ := hrel
    by_cases hlt : k < l.length
    · obtain ⟨b, o, rfl, hblt, c0⟩ := hr.below hb k hlt
      have k0 : (0 : Int) ≤ (k : Int) := by omega
      have k1 : (k : Int) < (l.length : Int) := by omega
      obtain ⟨v0, hv0⟩ := hp.cell (i := k) hlt
      have hf0 := hp.frozen k
      have hstep := hp.step hlt
      go_wp2_with fail
      exact ⟨⟨k + 1, by omega, by go_num, hstep, hb.setCell (Nat.le_refl _) _⟩, by simp [intOf]; omega⟩
    · obtain rfl : k = l.length := by omega
      go_wp2_with fail
      go_ret
      exact ⟨rfl, hp, hb⟩

end Go.Proofs.Ytpfhegengmlkmac
/- Windows in blocks of the call's own. Walk: toItemSS. -/
namespace Go.Proofs.Ytpfhegengmlkmac
open Go.RowKit Go.BigFrame

theorem PartI.setBelow {w : World} {lo T g k q : Nat} {l : List ItemL} (h : PartI w lo T g l k) (hq : q < lo) (hg : q < g) (i : Nat) (v : Value) : PartI (w.setCell ⟨q, i, none⟩ v) lo T g l k := by
  obtain ⟨G, C, m, f, h, hm, hf, hd⟩ := h
  refine ⟨G, C, m, f, h.of_block (Below.heap_setCell _ _ _ _ (by simp only; omega)), hm, fun j hj hk => ?_, hd⟩
  obtain ⟨h1, h2, h3, h4, h5, h6, h7⟩ := hf j hj hk
  exact ⟨h1, h2, h3, h4.setOther (by omega) _ _, h5, h6, h7⟩
/-- The first 'k' windows of 'ws' lie in block 'g', which has room for all; each window's items lie in blocks of their own, from 'lo' on, one window behind the other, ahead of 'T'. -/
def PartW (w : World) (lo T g : Nat) (ws : List (List ItemL)) (k : Nat) : Prop :=
  ∃ (L U G : Nat → Nat) (f : Nat → Value), w.rowIs g 25 ws.length f ∧
    (∀ j, (h : j < ws.length) → j < k → f j = .slice (some ⟨G j, 0, none⟩) ws[j].length ws[j].length ∧ PartI w (L j) (U j) (G j) ws[j] ws[j].length ∧ lo ≤ L j ∧ L j ≤ G j ∧ G j < U j ∧ U j ≤ T) ∧ ∀ i j, i < j → j < k → U i ≤ L j
theorem PartW.lt {w : World} {lo T g k : Nat} {ws : List (List ItemL)} (h : PartW w lo T g ws k) : g < w.heap.size := by
  obtain ⟨_, _, _, _, h, _⟩ := h
  exact h.lt
theorem PartW.below {w w' : World} {lo T g k : Nat} {ws : List (List ItemL)} (h : PartW w lo T g ws k) (hb : Below w.heap.size w w') : PartW w' lo T g ws k := by
  have hlt := h.lt
  obtain ⟨L, U, G, f, h, hf, hd⟩ := h
  refine ⟨L, U, G, f, h.of_block (hb.block g hlt), fun j hj hk => ?_, hd⟩
  obtain ⟨h1, h2, h3⟩ := hf j hj hk
  exact ⟨h1, h2.below hb, h3⟩
theorem PartW.grow {w : World} {lo T T' g k : Nat} {ws : List (List ItemL)} (h : PartW w lo T g ws k) (hT : T ≤ T') : PartW w lo T' g ws k := by
  obtain ⟨L, U, G, f, h, hf, hd⟩ := h
  refine ⟨L, U, G, f, h, fun j hj hk => ?_, hd⟩
  obtain ⟨h1, h2, h3, h4, h5, h6⟩ := hf j hj hk
  exact ⟨h1, h2, h3, h4, h5, by omega⟩
theorem PartW.made (w : World) (lo : Nat) (ws : List (List ItemL)) (z : Value) : PartW (w.alloc (.cells (madeCells #[z] ws.length) 25)) lo (w.heap.size + 1) w.heap.size ws 0 := by
  refine ⟨fun _ => 0, fun _ => 0, fun _ => 0, fun i => #[z][i % 1]!, ?_, fun j _ h => by omega, fun i j _ h => by omega⟩
  have h := World.rowIs_alloc w (madeCells #[z] ws.length) 25 (fun i => #[z][i % 1]!) (fun i hi => by
    rw [size_madeCells] at hi
    simp [madeCells, hi])
  rwa [size_madeCells] at h
theorem PartW.cell {w : World} {lo T g k : Nat} {ws : List (List ItemL)} (h : PartW w lo T g ws k) {i : Nat} (hi : i < ws.length) : ∃ v, w.cell? ⟨g, i, none⟩ = some v := by
  obtain ⟨_, _, _, f, h, _⟩ := h
  exact ⟨_, h.cell hi⟩
theorem PartW.frozen {w : World} {lo T g k : Nat} {ws : List (List ItemL)} (h : PartW w lo T g ws k) (i : Nat) : w.frozen? ⟨g, i, none⟩ = false := by
  obtain ⟨_, _, _, f, h, _⟩ := h
  exact h.frozen i
theorem PartW.step {w : World} {lo T g k b U' : Nat} {ws : List (List ItemL)} (h : PartW w lo T g ws k) (hk : k < ws.length) (hgl : g < lo) (hT : T ≤ b) (hlo : lo ≤ b) (hU : b < U') (hp : PartI w b U' b ws[k] ws[k].length) :
    PartW (w.setCell ⟨g, k, none⟩ (.slice (some ⟨b, 0, none⟩) ws[k].length ws[k].length)) lo U' g ws (k + 1) := by
  obtain ⟨L, U, G, f, h, hf, hd⟩ := h
  refine ⟨fun j => if j = k then b else L j, fun j => if j = k then U' else U j, fun j => if j = k then b else G j, _, h.set _ _, fun j hj hlt => ?_, fun i j hij hj => ?_⟩
  · by_cases e : j = k
    · subst e
      simp only [if_true]
      exact ⟨by simp, hp.setBelow (by omega) (by omega) _ _, hlo, Nat.le_refl _, hU, Nat.le_refl _⟩
    · obtain ⟨h1, h2, h3, h4, h5, h6⟩ := hf j hj (by omega)
      simp only [if_neg e]
      exact ⟨h1, h2.setBelow (by omega) (by omega) _ _, h3, h4, h5, by omega⟩
  · by_cases e' : j = k
    · subst e'
      have := (hf i (by omega) hij).2.2.2.2.2
      simp only [if_true, if_neg (by omega : ¬ i = j)]
      omega
    · simp only [if_neg e', if_neg (by omega : ¬ i = k)]
      exact hd i j hij (by omega)
theorem PartW.row {w : World} {lo T g : Nat} {ws : List (List ItemL)} (h : PartW w lo T g ws ws.length) : RowW w (some ⟨g, 0, none⟩) ws := fun k hk => by
  obtain ⟨L, U, G, f, h, hf, _⟩ := h
  obtain ⟨h1, h2, _⟩ := hf k hk hk
  exact ⟨g, 0, rfl, h.lt, _, _, by rw [Nat.zero_add, h.cell hk, h1], Nat.le_refl _, h2.row⟩
theorem Try.infoW : (Try.prog.info? 25).map (fun i => (i.zero, i.size, i.bytes)) = some (some (.slice none 0 0), 1, 24) := by kernel_rfl

set_option maxHeartbeats 800000 in
theorem toItemSS_any (a : Option Addr) (cap : Nat) (ws : List (List ItemL)) (w : World) (hl : ws.length ≤ 1048576) (hs : ∀ j, (h : j < ws.length) → ws[j].length ≤ 1048576 ∧ ∀ i, (h' : i < ws[j].length) → ws[j][i].2.length ≤ 1048576) (hr : RowW w a ws) :
    Calls Try.prog 17 #[.slice a ws.length cap] w fun e w' => e = .returned (.slice (some ⟨w.heap.size, 0, none⟩) ws.length ws.length) ∧ PartW w' (w.heap.size + 1) w'.heap.size w.heap.size ws ws.length ∧ Below w.heap.size w w' := by
  obtain ⟨i0, hi, hz0, hz1, hz2⟩ := info_parts Try.infoW
  have hmk : ∀ u : World, (Instr.makeSlice 33 (.int .i64 (ws.length : Int)) (.int .i64 (ws.length : Int))).run Try.prog u =
      .ok (.slice (some ⟨u.heap.size, 0, none⟩) ws.length ws.length) (u.alloc (.cells (madeCells #[.slice none 0 0] ws.length) 25)) := fun u => by
    have h := run_make (P := Try.prog) u 33 25 i0 (.slice none 0 0) Try.underlying33 hi hz0 .i64 .i64 (ws.length : Int) (ws.length : Int) (by omega) (Int.le_refl _) (by rw [hz2]; omega) (by omega)
    simpa [hz1, Value.cells] using h
  go_enter Try.func17, Try.ntmps17
  go_wp2_with fail
  go_loopw [4] (fun i wr => ∃ k : Nat, k ≤ ws.length ∧ i = .int .i64 k ∧ PartW wr (w.heap.size + 1) wr.heap.size w.heap.size ws k ∧ Below w.heap.size w wr) (fun i _ => ws.length - (intOf i).toNat)
  case atStart => exact ⟨0, Nat.zero_le _, rfl, (PartW.made w _ ws _).grow (by simp), (Below.refl _ _).alloc (Nat.le_refl _) _⟩
  case round =>
    obtain ⟨k, hk, rfl, hp, hb⟩ := hrel
    have hzr := hb.size
    have hpl := hp.lt
    by_cases hlt : k < ws.length
    · obtain ⟨b, o, rfl, hblt, s1, t1, c1, _, hrow⟩ := hr.below hb k hlt
      have k0 : (0 : Int) ≤ (k : Int) := by omega
      have k1 : (k : Int) < (ws.length : Int) := by omega
      have hsk := hs k hlt
      go_wp2_with fail
      refine (toItemS_any s1 t1 ws[k] _ hsk.1 hsk.2 hrow).mono ?_
      rintro e w1 ⟨rfl, hpi, b1⟩
      have hp1 := hp.below b1
      have hlt2 := hpi.lt
      obtain ⟨v0, hv0⟩ := hp1.cell (i := k) hlt
      have hf0 := hp1.frozen k
      have B1 : Below w.heap.size w w1 := hb.trans (b1.mono hzr)
      have hstep := hp1.step hlt (by omega) (Nat.le_refl _) (by omega) hlt2 hpi
      go_wp2_with fail
      exact ⟨⟨k + 1, by omega, by go_num, hstep.grow (by simp), B1.setCell (Nat.le_refl _) _⟩, by simp [intOf]; omega⟩
    · obtain rfl : k = ws.length := by omega
      go_wp2_with fail
      go_ret
      exact ⟨rfl, hp, hb⟩

end Go.Proofs.Ytpfhegengmlkmac
/- The walk of the law FnExactChoiceAgrees. -/
namespace Go.Proofs.Ytpfhegengmlkmac
open Go.RowKit Go.BigFrame
set_option maxRecDepth 100000

theorem small_wins {ws : List (List ItemL)} (h : SmallW 1048576 ws) : ws.length ≤ 1048576 ∧ ∀ j, (h : j < ws.length) → ws[j].length ≤ 1048576 ∧ ∀ i, (h' : i < ws[j].length) → ws[j][i].2.length ≤ 1048576 :=
  ⟨by have := h.1; omega, fun j hj => ⟨by have := (h.2 j hj).1; omega, fun i hi => by have := ((h.2 j hj).2 i hi).1; omega⟩⟩

set_option maxHeartbeats 1600000 in
theorem lawCAg_any (a a' : Option Addr) (cap cap' : Nat) (ws : List (List ItemL)) (ps : List Int) (w : World) (hf : FitW ws) (hr : RowW w a ws) (hp : ps.length ≤ maxLen) (hr' : RowZ w a' ps) :
    Calls Try.prog 4 #[.slice a ws.length cap, .slice a' ps.length cap'] w fun e w' => e = .returned (.bool true) ∧ Below w.heap.size w w' := by
  have hpm : ps.length ≤ 2 ^ 63 - 1 := hp
  by_cases hbig : 1048576 < ps.length
  · go_enter Try.func4, Try.ntmps4
    go_wp2_with fail
    go_ret
    exact ⟨rfl, Below.refl _ _⟩
  go_enter Try.func4, Try.ntmps4
  go_wp2_with fail
  refine (szItemSS_any a cap ws 1048576 _ hr hf (by omega) (by omega)).mono ?_
  rintro e w1 ⟨r, rfl, hr0, hr1, hr2, hb1⟩
  have HR2 : Hid (0 ≤ r → SmallW 1048576 ws) := hr2
  clear hr2
  by_cases hneg : r < 0
  · go_wp2_with fail
    go_ret
    exact ⟨rfl, hb1⟩
  obtain ⟨hL, hS⟩ := small_wins (HR2.out (by omega))
  clear HR2
  go_wp2_with fail
  refine (toItemSS_any a cap ws _ hL hS (hr.below hb1)).mono ?_
  rintro e w2 ⟨rfl, hp2, hb2⟩
  have B2 : Below w.heap.size w w2 := hb1.trans (hb2.mono hb1.size)
  clear hb2 hb1
  go_wp2_with fail
  refine (toIntS_any a' cap' ps _ (by omega) (hr'.below B2)).mono ?_
  rintro e w3 ⟨rfl, hz3, hb3⟩
  have B3 : Below w.heap.size w w3 := B2.trans (hb3.mono B2.size)
  replace hp2 := hp2.below hb3
  clear hb3 B2
  go_wp2_with fail
  refine (specChoiceAgrees_any _ _ ws _ _ ps _ hf hp2.row hp hz3.row).mono ?_
  rintro e w4 ⟨⟨r4, rfl, hr4⟩, hb4⟩
  have HR : Hid (r4 = true ↔ ChP ws ps) := hr4
  have B4 : Below w.heap.size w w4 := B3.trans (hb4.mono B3.size)
  clear hr4 hb4 hp2 hz3 B3
  go_wp2_with fail
  refine (toItemSS_any a cap ws _ hL hS (hr.below B4)).mono ?_
  rintro e w5 ⟨rfl, hp5, hb5⟩
  have B5 : Below w.heap.size w w5 := B4.trans (hb5.mono B4.size)
  clear hb5 B4
  go_wp2_with fail
  refine (toIntS_any a' cap' ps _ (by omega) (hr'.below B5)).mono ?_
  rintro e w6 ⟨rfl, hz6, hb6⟩
  have B6 : Below w.heap.size w w6 := B5.trans (hb6.mono B5.size)
  replace hp5 := hp5.below hb6
  clear hb6 B5
  go_wp2_with fail
  refine (implChA_any _ _ _ _ ws ps _ hf hp5.row hp hz6.row).mono ?_
  rintro e w7 ⟨⟨r7, rfl, hr7⟩, hb7⟩
  obtain rfl : r4 = r7 := by
    have h1 := HR.out
    cases r4 <;> cases r7 <;> simp_all
  clear hr7 HR
  have B7 : Below w.heap.size w w7 := B6.trans (hb7.mono B6.size)
  replace hp5 := hp5.below hb7
  replace hz6 := hz6.below hb7
  clear hb7 B6
  go_wp2_with fail
  refine (toItemSS_any a cap ws _ hL hS (hr.below B7)).mono ?_
  rintro e w8 ⟨rfl, hp8, hb8⟩
  have B8 : Below w.heap.size w w8 := B7.trans (hb8.mono B7.size)
  replace hp5 := hp5.below hb8
  replace hz6 := hz6.below hb8
  clear hb8 B7
  go_wp2_with fail
  refine (eqItemSS_same _ _ _ _ ws _ hf hp5.row hp8.row).mono ?_
  rintro e w9 ⟨rfl, hb9⟩
  have B9 : Below w.heap.size w w9 := B8.trans (hb9.mono B8.size)
  replace hz6 := hz6.below hb9
  clear hb9 B8
  go_wp2_with fail
  refine (toIntS_any a' cap' ps _ (by omega) (hr'.below B9)).mono ?_
  rintro e w10 ⟨rfl, hz10, hb10⟩
  have B10 : Below w.heap.size w w10 := B9.trans (hb10.mono B9.size)
  replace hz6 := hz6.below hb10
  clear hb10 B9
  go_wp2_with fail
  refine (eqIntS_same _ _ _ _ ps _ hp hz6.row hz10.row).mono ?_
  rintro e w11 ⟨rfl, hb11⟩
  go_wp2_with fail
  go_ret
  exact ⟨rfl, B10.trans (hb11.mono B10.size)⟩

end Go.Proofs.Ytpfhegengmlkmac
