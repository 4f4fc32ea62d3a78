/- Texts of this claim, one behind the other. -/
import Derived.Test.YtpfhegengmlkmaaGreatDoorZW1
import Derived.Test.YtpfhegengmlkmaaGreatDoorZW6
import Derived.Test.YtpfhegengmlkmaaGreatDoorZW10
import Derived.Test.YtpfhegengmlkmaaGreatDoorZW20
import Derived.Test.YtpfhegengmlkmaaGreatDoorZW25
import Derived.Test.YtpfhegengmlkmaaGreatDoorZW41
namespace Go.Proofs.YtpfhegengmlkmaaGreatDoor
open Go.RowKit Go.BigFrame
set_option maxRecDepth 100000

theorem bsMarks_same (aa ab : Option Addr) (ca cb : Nat) (l : List (ByteArray × Int)) (w : World) (hl : l.length ≤ maxLen) (ha : Row w aa l) (hb : Row w ab l) :
    Calls Tryz.prog 29 #[.slice aa l.length ca, .slice ab l.length cb] w fun e w' => e = .returned (.bool true) ∧ Below w.heap.size w w' :=
  (bsMarks_any aa ab ca cb l l w hl hl ha hb).mono fun _ _ ⟨⟨r, he, hr⟩, h⟩ => ⟨by rw [he, hr.2 rfl], h⟩

set_option maxHeartbeats 800000 in
theorem bsItem_same (x : Int) (a1 a2 : Option Addr) (c1 c2 : Nat) (l : List (ByteArray × Int)) (w : World) (hl : l.length ≤ maxLen) (h1 : Row w a1 l) (h2 : Row w a2 l) :
    Calls Tryz.prog 60 #[.agg #[.int .i64 x, .slice a1 l.length c1], .agg #[.int .i64 x, .slice a2 l.length c2]] w fun e w' => e = .returned (.bool true) ∧ Below w.heap.size w w' := by
  go_enter Tryz.func60, Tryz.ntmps60
  go_wp2_with fail
  have hb0 : Below w.heap.size w ((w.alloc (.cells #[.int .i64 x, .slice a1 l.length c1] 40)).alloc (.cells #[.int .i64 x, .slice a2 l.length c2] 40)) := ((Below.refl _ _).alloc (Nat.le_refl _) _).alloc (by simp) _
  refine (bsMarks_same a1 a2 c1 c2 l _ hl (h1.below hb0) (h2.below hb0)).mono ?_
  rintro e w1 ⟨rfl, b1⟩
  have B1 : Below w.heap.size w w1 := hb0.trans (b1.mono hb0.size)
  go_wp2_with fail
  go_ret
  exact ⟨rfl, B1⟩

set_option maxHeartbeats 1600000 in
theorem bsItems_same (a b : Option Addr) (ca cb : Nat) (l : List ItemL) (w : World) (hf : FitI l) (ha : RowI w a l) (hb : RowI w b l) :
    Calls Tryz.prog 30 #[.slice a l.length ca, .slice b l.length cb] w fun e w' => e = .returned (.bool true) ∧ Below w.heap.size w w' := by
  have hl := hf.1
  unfold maxLen at hl
  go_enter Tryz.func30, Tryz.ntmps30
  go_wp2_with fail
  go_loopw [5] (fun i wr => ∃ k : Nat, k ≤ l.length ∧ i = .int .i64 k ∧ Below w.heap.size w wr) (fun i _ => l.length - (intOf i).toNat)
  case atStart => exact ⟨0, Nat.zero_le _, rfl, Below.refl _ _⟩
  case round =>
    obtain ⟨k, hk, rfl, hbl⟩ := hrel
    by_cases hlt : k < l.length
    · obtain ⟨b1, o1, rfl, g1, e0, v1, e1, ⟨s1, t1, rfl, _, r1⟩⟩ := ha.below hbl k hlt
      obtain ⟨b2, o2, rfl, g2, f0, v2, f1, ⟨s2, t2, rfl, _, r2⟩⟩ := hb.below hbl k hlt
      have k0 : (0 : Int) ≤ (k : Int) := by omega
      have k1 : (k : Int) < (l.length : Int) := by omega
      have hlk := (hf.2 k hlt).1
      go_wp2_with fail
      refine wp_region_lat (by kernel_rfl) (by kernel_rfl) ?_
      have hne := Lat.some wr
      have q0 : ∀ n : Lat wr, n.w.cell? ⟨b1, o1 + k * 2, none⟩ = some (.int .i64 l[k].1) := fun n => n.cell g1 e0
      have q1 : ∀ n : Lat wr, n.w.cell? ⟨b1, o1 + k * 2 + 1, none⟩ = some (.slice s1 l[k].2.length t1) := fun n => n.cell g1 e1
      have q2 : ∀ n : Lat wr, n.w.cell? ⟨b2, o2 + k * 2, none⟩ = some (.int .i64 l[k].1) := fun n => n.cell g2 f0
      have q3 : ∀ n : Lat wr, n.w.cell? ⟨b2, o2 + k * 2 + 1, none⟩ = some (.slice s2 l[k].2.length t2) := fun n => n.cell g2 f1
      have ce : ∀ n : Lat wr, Calls Tryz.prog 60 #[.agg #[.int .i64 l[k].1, .slice s1 l[k].2.length t1], .agg #[.int .i64 l[k].1, .slice s2 l[k].2.length t2]] n.w fun e w'' => e = .returned (.bool true) ∧ Below n.w.heap.size n.w w'' := fun n => bsItem_same _ _ _ _ _ _ _ hlk (r1.below n.h) (r2.below n.h)
      repeat (go_big_quiet_step ((go_at_call 60; exact Calls.lat_of (ce _))))
      refine wpQuiet_nil ?_
      rintro _ ⟨nq, rfl⟩
      go_wp2_with fail
      exact ⟨⟨k + 1, by omega, by go_num, hbl.trans (nq.h.mono hbl.size)⟩, by simp [intOf]; omega⟩
    · go_wp2_with fail
      go_ret
      exact ⟨rfl, hbl⟩

end Go.Proofs.YtpfhegengmlkmaaGreatDoor

namespace Go.Proofs.YtpfhegengmlkmaaGreatDoor
open Go.RowKit Go.BigFrame
set_option maxRecDepth 100000

set_option maxHeartbeats 800000 in
theorem bsInts_same (a b : Option Addr) (ca cb : Nat) (ps : List Int) (w : World) (hp : ps.length ≤ maxLen) (ha : RowZ w a ps) (hb : RowZ w b ps) :
    Calls Tryz.prog 19 #[.slice a ps.length ca, .slice b ps.length cb] w fun e w' => e = .returned (.bool true) ∧ Below w.heap.size w w' := by
  unfold maxLen at hp
  go_enter Tryz.func19, Tryz.ntmps19
  go_wp2_with fail
  go_loopw [5] (fun i wr => ∃ k : Nat, k ≤ ps.length ∧ i = .int .i64 k ∧ Below w.heap.size w wr) (fun i _ => ps.length - (intOf i).toNat)
  case atStart => exact ⟨0, Nat.zero_le _, rfl, Below.refl _ _⟩
  case round =>
    obtain ⟨k, hk, rfl, hbl⟩ := hrel
    by_cases hlt : k < ps.length
    · obtain ⟨b1, o1, rfl, g1, e1⟩ := ha.below hbl k hlt
      obtain ⟨b2, o2, rfl, g2, f1⟩ := hb.below hbl k hlt
      have k0 : (0 : Int) ≤ (k : Int) := by omega
      have k1 : (k : Int) < (ps.length : Int) := by omega
      go_wp2_with fail
      go_quiet (fail)
      go_wp2_with fail
      exact ⟨⟨k + 1, by omega, by go_num, below_drewN hbl _⟩, by simp [intOf]; omega⟩
    · go_wp2_with fail
      go_ret
      exact ⟨rfl, hbl⟩

set_option maxHeartbeats 800000 in
theorem bsShow_same (a1 a2 b1 b2 : Option Addr) (c1 c2 d1 d2 : Nat) (sv : List Int) (ss : List (ByteArray × Int)) (w : World) (hv : sv.length ≤ maxLen) (hl : ss.length ≤ maxLen) (h1 : RowZ w a1 sv) (h2 : Row w a2 ss) (h3 : RowZ w b1 sv) (h4 : Row w b2 ss) :
    Calls Tryz.prog 12 #[.agg #[.slice a1 sv.length c1, .slice a2 ss.length c2], .agg #[.slice b1 sv.length d1, .slice b2 ss.length d2]] w fun e w' => e = .returned (.bool true) ∧ Below w.heap.size w w' := by
  have hb0 : Below w.heap.size w ((w.alloc (.cells #[.slice a1 sv.length c1, .slice a2 ss.length c2] 36)).alloc (.cells #[.slice b1 sv.length d1, .slice b2 ss.length d2] 36)) := ((Below.refl _ _).alloc (Nat.le_refl _) _).alloc (by simp) _
  have d1' : ((w.alloc (.cells #[.slice a1 sv.length c1, .slice a2 ss.length c2] 36)).alloc (.cells #[.slice b1 sv.length d1, .slice b2 ss.length d2] 36)).cell? ⟨w.heap.size, 1, none⟩ = some (.slice a2 ss.length c2) := by simp [go_sem]
  have d2' : ((w.alloc (.cells #[.slice a1 sv.length c1, .slice a2 ss.length c2] 36)).alloc (.cells #[.slice b1 sv.length d1, .slice b2 ss.length d2] 36)).cell? ⟨w.heap.size + 1, 1, none⟩ = some (.slice b2 ss.length d2) := by simp [go_sem]
  go_enter Tryz.func12, Tryz.ntmps12
  go_wp2_with fail
  generalize (w.alloc (.cells #[.slice a1 sv.length c1, .slice a2 ss.length c2] 36)).alloc (.cells #[.slice b1 sv.length d1, .slice b2 ss.length d2] 36) = W0 at *
  refine (bsInts_same a1 b1 c1 d1 sv _ hv (h1.below hb0) (h3.below hb0)).mono ?_
  rintro e w1 ⟨rfl, b1'⟩
  have B1 : Below w.heap.size w w1 := hb0.trans (b1'.mono hb0.size)
  replace d1' := cell_on b1' (block_lt_of_cell d1') d1'
  replace d2' := cell_on b1' (block_lt_of_cell d2') d2'
  go_wp2_with fail
  refine (bsMarks_same a2 b2 c2 d2 ss _ hl (h2.below B1) (h4.below B1)).mono ?_
  rintro e w2 ⟨rfl, b2'⟩
  go_wp2_with fail
  go_ret
  exact ⟨rfl, B1.trans (b2'.mono B1.size)⟩

set_option maxHeartbeats 1600000 in
theorem bsGather_same (a0 a1 a2 b0 b1 b2 : Option Addr) (c0 c1 c2 d0 d1 d2 : Nat) (g : GatL) (w : World) (hf : FitG g) (r0 : RowS w a0 g.ins) (r1 : RowW w a1 g.wins) (r2 : Row w a2 g.shown) (q0 : RowS w b0 g.ins) (q1 : RowW w b1 g.wins) (q2 : Row w b2 g.shown) :
    Calls Tryz.prog 9 #[.agg #[.slice a0 g.ins.length c0, .slice a1 g.wins.length c1, .slice a2 g.shown.length c2], .agg #[.slice b0 g.ins.length d0, .slice b1 g.wins.length d1, .slice b2 g.shown.length d2]] w fun e w' => e = .returned (.bool true) ∧ Below w.heap.size w w' := by
  have hb0 : Below w.heap.size w ((w.alloc (.cells #[.slice a0 g.ins.length c0, .slice a1 g.wins.length c1, .slice a2 g.shown.length c2] 30)).alloc (.cells #[.slice b0 g.ins.length d0, .slice b1 g.wins.length d1, .slice b2 g.shown.length d2] 30)) := ((Below.refl _ _).alloc (Nat.le_refl _) _).alloc (by simp) _
  have hlt : w.heap.size + 1 < ((w.alloc (.cells #[.slice a0 g.ins.length c0, .slice a1 g.wins.length c1, .slice a2 g.shown.length c2] 30)).alloc (.cells #[.slice b0 g.ins.length d0, .slice b1 g.wins.length d1, .slice b2 g.shown.length d2] 30)).heap.size := by simp
  have x0 : ((w.alloc (.cells #[.slice a0 g.ins.length c0, .slice a1 g.wins.length c1, .slice a2 g.shown.length c2] 30)).alloc (.cells #[.slice b0 g.ins.length d0, .slice b1 g.wins.length d1, .slice b2 g.shown.length d2] 30)).cell? ⟨w.heap.size, 0, none⟩ = some (.slice a0 g.ins.length c0) := by simp [go_sem]
  have x1 : ((w.alloc (.cells #[.slice a0 g.ins.length c0, .slice a1 g.wins.length c1, .slice a2 g.shown.length c2] 30)).alloc (.cells #[.slice b0 g.ins.length d0, .slice b1 g.wins.length d1, .slice b2 g.shown.length d2] 30)).cell? ⟨w.heap.size, 1, none⟩ = some (.slice a1 g.wins.length c1) := by simp [go_sem]
  have y0 : ((w.alloc (.cells #[.slice a0 g.ins.length c0, .slice a1 g.wins.length c1, .slice a2 g.shown.length c2] 30)).alloc (.cells #[.slice b0 g.ins.length d0, .slice b1 g.wins.length d1, .slice b2 g.shown.length d2] 30)).cell? ⟨w.heap.size + 1, 0, none⟩ = some (.slice b0 g.ins.length d0) := by simp [go_sem]
  have y1 : ((w.alloc (.cells #[.slice a0 g.ins.length c0, .slice a1 g.wins.length c1, .slice a2 g.shown.length c2] 30)).alloc (.cells #[.slice b0 g.ins.length d0, .slice b1 g.wins.length d1, .slice b2 g.shown.length d2] 30)).cell? ⟨w.heap.size + 1, 1, none⟩ = some (.slice b1 g.wins.length d1) := by simp [go_sem]
  have h3 := hf.ins.1
  have h4 := hf.wins.1
  unfold maxLen at h3 h4
  go_enter Tryz.func9, Tryz.ntmps9
  go_wp2_with fail
  generalize (w.alloc (.cells #[.slice a0 g.ins.length c0, .slice a1 g.wins.length c1, .slice a2 g.shown.length c2] 30)).alloc (.cells #[.slice b0 g.ins.length d0, .slice b1 g.wins.length d1, .slice b2 g.shown.length d2] 30) = W0 at *
  refine (bsMarks_same a2 b2 c2 d2 g.shown _ hf.shown.1 (r2.below hb0) (q2.below hb0)).mono ?_
  rintro e w1 ⟨rfl, hb1⟩
  have B1 : Below w.heap.size w w1 := hb0.trans (hb1.mono hb0.size)
  replace x0 := cell_on hb1 (by omega) x0
  replace x1 := cell_on hb1 (by omega) x1
  replace y0 := cell_on hb1 (by omega) y0
  replace y1 := cell_on hb1 (by omega) y1
  have z1 := hb1.size
  clear hb1 hb0
  go_wp2_with fail
  have HF : Hid (FitG g) := hf
  have HX : Hid (∀ u : World, Below w1.heap.size w1 u → u.cell? ⟨w.heap.size, 0, none⟩ = some (.slice a0 g.ins.length c0) ∧ u.cell? ⟨w.heap.size, 1, none⟩ = some (.slice a1 g.wins.length c1) ∧ u.cell? ⟨w.heap.size + 1, 0, none⟩ = some (.slice b0 g.ins.length d0) ∧ u.cell? ⟨w.heap.size + 1, 1, none⟩ = some (.slice b1 g.wins.length d1)) := fun u hu => ⟨cell_on hu (by omega) x0, cell_on hu (by omega) x1, cell_on hu (by omega) y0, cell_on hu (by omega) y1⟩
  clear hf r2 q2 x0 x1 y0 y1
  go_loopw [5] (fun i wr => ∃ k : Nat, k ≤ g.ins.length ∧ i = .int .i64 k ∧ Below w1.heap.size w1 wr) (fun i _ => g.ins.length - (intOf i).toNat)
  case atStart => exact ⟨0, Nat.zero_le _, rfl, Below.refl _ _⟩
  case round =>
    obtain ⟨k, hk, rfl, hbl⟩ := hrel
    have zr := hbl.size
    obtain ⟨x0, x1, y0, y1⟩ := HX.out _ hbl
    have BR : Below w.heap.size w wr := B1.trans (hbl.mono B1.size)
    by_cases hlt : k < g.ins.length
    · obtain ⟨b1', o1, rfl, g1, e1⟩ := r0.below BR k hlt
      obtain ⟨b2', o2, rfl, g2, f1⟩ := q0.below BR k hlt
      have k0 : (0 : Int) ≤ (k : Int) := by omega
      have k1 : (k : Int) < (g.ins.length : Int) := by omega
      go_wp2_with fail
      go_quiet (fail)
      go_wp2_with fail
      exact ⟨⟨k + 1, by omega, by go_num, below_drewN hbl _⟩, by simp [intOf]; omega⟩
    · clear r0 q0
      go_wp2_with fail
      go_loopw [6] (fun i wz => ∃ k : Nat, k ≤ g.wins.length ∧ i = .int .i64 k ∧ Below w1.heap.size w1 wz) (fun i _ => g.wins.length - (intOf i).toNat)
      case atStart => exact ⟨0, Nat.zero_le _, rfl, hbl⟩
      case round =>
        clear x0 x1 y0 y1 zr BR hbl
        obtain ⟨k, hk, rfl, hbl⟩ := hrel
        have zr := hbl.size
        obtain ⟨x0, x1, y0, y1⟩ := HX.out _ hbl
        have BR := B1.trans (hbl.mono B1.size)
        by_cases hlt : k < g.wins.length
        · obtain ⟨b1', o1, rfl, g1, s1, t1, e1, _, m1⟩ := r1.below BR k hlt
          obtain ⟨b2', o2, rfl, g2, s2, t2, f1, _, m2⟩ := q1.below BR k hlt
          have k0 : (0 : Int) ≤ (k : Int) := by omega
          have k1 : (k : Int) < (g.wins.length : Int) := by omega
          have hfk := HF.out.wins.2 k hlt
          go_wp2_with fail
          refine wp_region_lat (by kernel_rfl) (by kernel_rfl) ?_
          have hne := Lat.some wr
          have q0' : ∀ n : Lat wr, n.w.cell? ⟨w.heap.size, 1, none⟩ = some (.slice (some ⟨b1', o1, none⟩) g.wins.length c1) := fun n => n.cell (by omega) x1
          have q1' : ∀ n : Lat wr, n.w.cell? ⟨w.heap.size + 1, 1, none⟩ = some (.slice (some ⟨b2', o2, none⟩) g.wins.length d1) := fun n => n.cell (by omega) y1
          have q2' : ∀ n : Lat wr, n.w.cell? ⟨b1', o1 + k, none⟩ = some (.slice s1 g.wins[k].length t1) := fun n => n.cell g1 e1
          have q3' : ∀ n : Lat wr, n.w.cell? ⟨b2', o2 + k, none⟩ = some (.slice s2 g.wins[k].length t2) := fun n => n.cell g2 f1
          have ce : ∀ n : Lat wr, Calls Tryz.prog 30 #[.slice s1 g.wins[k].length t1, .slice s2 g.wins[k].length t2] n.w fun e w'' => e = .returned (.bool true) ∧ Below n.w.heap.size n.w w'' := fun n => bsItems_same _ _ _ _ _ _ hfk (m1.below n.h) (m2.below n.h)
          repeat (go_big_quiet_step ((go_at_call 30; exact Calls.lat_of (ce _))))
          refine wpQuiet_nil ?_
          rintro _ ⟨nq, rfl⟩
          go_wp2_with fail
          exact ⟨⟨k + 1, by omega, by go_num, hbl.trans (nq.h.mono hbl.size)⟩, by simp [intOf]; omega⟩
        · go_wp2_with fail
          go_ret
          exact ⟨rfl, BR⟩

end Go.Proofs.YtpfhegengmlkmaaGreatDoor

namespace Go.Proofs.YtpfhegengmlkmaaGreatDoor
open Go.RowKit Go.BigFrame
set_option maxRecDepth 100000

theorem But.grown {R : Nat} {x w w' : World} {row : Option Nat} (h : But R x w) (hg : w.grownBy w' row) (hr : ∀ k, row = some k → x.heap.size ≤ k) : But R x w' :=
  ⟨hg.os.trans h.os, hg.tape.trans h.tape, hg.output.trans h.output, Nat.le_trans h.size hg.size, fun k hk hn => (hg.block k (Nat.lt_of_lt_of_le hk h.size) (fun e => by have := hr k e.symm; omega)).trans (h.block k hk hn)⟩
theorem Rd.grown {w w' : World} {R n c p : Nat} {ab : Option Addr} {row : Option Nat} (h : Rd w R ab n c p) (hg : w.grownBy w' row) (hr : ∀ k, row = some k → R < k) : Rd w' R ab n c p := by
  have := h.lt
  exact h.same fun k hk => hg.block k (by omega) (fun e => by have := hr k e.symm; omega)

end Go.Proofs.YtpfhegengmlkmaaGreatDoor
