/- Texts of this claim, one behind the other. -/
import Derived.Test.YtpfhegengmlkmacGreatDoorItE
import Derived.Test.YtpfhegengmlkmacGreatDoorWc
import Derived.Test.YtpfhegengmlkmacGreatDoorLat
import Derived.OrdersHeld
import Derived.Test.YtpfhegengmlkmacGreatDoorZGPOwn7
/- Walk: impl.GatherPut. -/
namespace Go.Proofs.YtpfhegengmlkmacGreatDoor
open Go.RowKit Go.BigFrame
set_option maxRecDepth 100000

/-- The library's own variable for the type error. -/
def ErrT (w : World) : Prop := w.cell? ⟨0, 0, none⟩ = some (.iface 197 (.agg #[.pointer (some ⟨11, 92, none⟩)]))
theorem ErrT.below {w w' : World} (h : ErrT w) (hb : Below w.heap.size w w') : ErrT w' := cell_on hb (block_lt_of_cell h) h

theorem Tri.set2 {w : World} {b : Nat} {x y z : Value} (h : Tri w b x y z) (v : Value) : Tri (w.setCell ⟨b, 2, none⟩ v) b x y v :=
  ⟨by simp [go_sem, h.c0], by simp [go_sem, h.c1], by simp [go_sem, h.c2], by simp [go_sem, h.f0], by simp [go_sem, h.f1], by simp [go_sem, h.f2]⟩
theorem Tryz.methKeeps (h : Value) (w : World) : (Go.method 466 161 h "loop.example/bedstone/impl.code").run Tryz.prog w = .ok (292, h) w := by kernel_rfl
theorem Tryz.methOverflows (h : Value) (w : World) : (Go.method 466 162 h "loop.example/bedstone/impl.code").run Tryz.prog w = .ok (293, h) w := by kernel_rfl
theorem Tryz.methShows (h : Value) (w : World) : (Go.method 466 165 h "loop.example/bedstone/impl.code").run Tryz.prog w = .ok (294, h) w := by kernel_rfl
/-- What GatherPut answers. -/
def GPE (w w' : World) (g : GatL) (i x : Int) (m : List (ByteArray × Int)) (e : Ending) : Prop :=
  ∃ (g' : GatL) (L : List WinY) (sv : List Int) (ss : List (ByteArray × Int)) (code : Int) (a0 a1 a2 a3 a4 : Option Addr) (d0 d1 d2 d3 d4 h1 h2 : Nat), e = .returned (.tuple #[.agg #[.slice a0 g'.ins.length d0, .slice a1 L.length d1, .slice a2 g'.shown.length d2], .agg #[.slice a3 sv.length d3, .slice a4 ss.length d4], .int .i64 code]) ∧ PutG g i x m g' sv ss code ∧ L.map (·.l) = g'.wins ∧
    w.heap.size ≤ h1 ∧ h1 ≤ h2 ∧ h2 ≤ w'.heap.size ∧ SafeG w' w.heap.size h1 a0 a1 a2 g'.ins L g'.shown ∧ SafeZ w' h1 h2 a3 sv ∧ Safe w' h2 w'.heap.size a4 ss ∧ (g'.ins.length ≤ d0 ∧ d0 ≤ maxLen)

set_option maxHeartbeats 20000000 in
theorem implGP_any (a0 a1 a2 am : Option Addr) (c0 c1 c2 cm : Nat) (g : GatL) (i x : Int) (m : List (ByteArray × Int)) (w : World) (hf : FitG g) (hi : g.ins.length ≤ 1048576) (hc : g.ins.length ≤ c0) (hc2 : c0 ≤ maxLen) (r0 : RowS w a0 g.ins) (r1 : RowW w a1 g.wins) (r2 : Row w a2 g.shown) (hfm : FitM m) (hcm : m.length ≤ cm) (hrm : Row w am m) (het : ErrT w) :
    Calls Tryz.prog 11 #[.agg #[.slice a0 g.ins.length c0, .slice a1 g.wins.length c1, .slice a2 g.shown.length c2], .agg #[.int .i64 i, .int .i64 x, .slice am m.length cm]] w fun e w' => GPE w w' g i x m e ∧ Below w.heap.size w w' := by
  obtain ⟨W0, hW0⟩ : ∃ W0, (((w.alloc (.cells #[.slice a0 g.ins.length c0, .slice a1 g.wins.length c1, .slice a2 g.shown.length c2] 36)).alloc (.cells #[.int .i64 i, .int .i64 x, .slice am m.length cm] 46)).alloc (.cells #[.slice none 0 0, .slice none 0 0, .slice none 0 0] 36)).alloc (.cells #[.slice none 0 0, .slice none 0 0] 39) = W0 := ⟨_, rfl⟩
  have hz : W0.heap.size = w.heap.size + 4 := by rw [← hW0]; simp
  have hb0 : Below w.heap.size w W0 := by rw [← hW0]; exact ((((Below.refl _ _).alloc (Nat.le_refl _) _).alloc (by simp) _).alloc (by simp; omega) _).alloc (by simp; omega) _
  have x0 : W0.cell? ⟨w.heap.size + 1 + 1, 0, none⟩ = some (.slice none 0 0) := by rw [← hW0]; simp [go_sem]
  have x1 : W0.cell? ⟨w.heap.size + 1 + 1, 1, none⟩ = some (.slice none 0 0) := by rw [← hW0]; simp [go_sem]
  have x2 : W0.cell? ⟨w.heap.size + 1 + 1, 2, none⟩ = some (.slice none 0 0) := by rw [← hW0]; simp [go_sem]
  have y0 : W0.cell? ⟨w.heap.size + 1 + 1 + 1, 0, none⟩ = some (.slice none 0 0) := by rw [← hW0]; simp [go_sem]
  have y1 : W0.cell? ⟨w.heap.size + 1 + 1 + 1, 1, none⟩ = some (.slice none 0 0) := by rw [← hW0]; simp [go_sem]
  have fx : ∀ q, W0.frozen? ⟨w.heap.size + 1 + 1, q, none⟩ = false := fun q => by rw [← hW0]; simp [go_sem]
  have fy : ∀ q, W0.frozen? ⟨w.heap.size + 1 + 1 + 1, q, none⟩ = false := fun q => by rw [← hW0]; simp [go_sem]
  have HW : Hid (((((w.alloc (.cells #[.slice a0 g.ins.length c0, .slice a1 g.wins.length c1, .slice a2 g.shown.length c2] 36)).alloc (.cells #[.int .i64 i, .int .i64 x, .slice am m.length cm] 46)).alloc (.cells #[.slice none 0 0, .slice none 0 0, .slice none 0 0] 36)).alloc (.cells #[.slice none 0 0, .slice none 0 0] 39)) = W0) := hW0
  clear hW0
  go_enter Tryz.func11, Tryz.ntmps11
  go_wp2_with fail
  rw [HW.out]
  clear HW
  refine (taking_any a0 a1 a2 am c0 c1 c2 cm g i x m _ hf hi hc hc2 (r0.below hb0) (r1.below hb0) (r2.below hb0) hfm hcm (hrm.below hb0)).mono ?_
  rintro e w1 ⟨hT, b1⟩
  have z1 := b1.size
  have B1 : Below w.heap.size w w1 := hb0.trans (b1.mono hb0.size)
  replace x0 := cell_on b1 (by omega) x0
  replace x1 := cell_on b1 (by omega) x1
  replace x2 := cell_on b1 (by omega) x2
  replace y0 := cell_on b1 (by omega) y0
  replace y1 := cell_on b1 (by omega) y1
  have gx : ∀ q, w1.frozen? ⟨w.heap.size + 1 + 1, q, none⟩ = false := fun q => (b1.frozen (p := ⟨w.heap.size + 1 + 1, q, none⟩) (by simp only; omega)).trans (fx q)
  have gy : ∀ q, w1.frozen? ⟨w.heap.size + 1 + 1 + 1, q, none⟩ = false := fun q => (b1.frozen (p := ⟨w.heap.size + 1 + 1 + 1, q, none⟩) (by simp only; omega)).trans (fy q)
  replace het := het.below B1
  clear fx fy
  have hsplit : (∃ (s0 s1 s2 : Option Addr) (n0 n1 n2 e0 e1 e2 : Nat) (c : Int), e = .returned (.tuple #[.agg #[.slice s0 n0 e0, .slice s1 n1 e1, .slice s2 n2 e2], .iface 96 (.agg #[.int .i64 c])]) ∧ ∀ w9, Span (w.heap.size + 2) (w.heap.size + 4) w1 w9 → GPE w w9 g i x m (.returned (.tuple #[.agg #[.slice s0 n0 e0, .slice s1 n1 e1, .slice s2 n2 e2], .agg #[.slice none 0 0, .slice none 0 0], .int .i64 c]))) ∨
      (InG g i ∧ ∃ r b t e0 e1 gm em L, e = .returned (.tuple #[.agg #[.slice (some ⟨b, 0, none⟩) g.ins.length e0, .slice (some ⟨t, 0, none⟩) L.length e1, .slice (some ⟨gm, 0, none⟩) g.shown.length em], .nilIface]) ∧ IsP (g.wins.getD i.toNat []) x m r 0 ∧ FullG w1 W0.heap.size w1.heap.size b t (some ⟨gm, 0, none⟩) g.ins L g.shown ∧ (g.shown.length ≤ em ∧ g.ins.length ≤ e0 ∧ e0 ≤ maxLen) ∧ L.map (·.l) = g.wins.set i.toNat r) := by
    rcases hT with ⟨rfl, hno⟩ | ⟨hI, r, c, b, t, e0, e1, gm, em, L, err, rfl, hP, hfull, hem, hcase⟩
    · refine .inl ⟨none, none, none, 0, 0, 0, 0, 0, 0, 2, rfl, fun w9 h9 => ⟨emptyG, [], [], [], 2, none, none, none, none, none, 0, 0, 0, 0, 0, w9.heap.size, w9.heap.size, rfl, ?_, rfl, by have := h9.size; omega, Nat.le_refl _, Nat.le_refl _, .inl ⟨rfl, rfl, rfl⟩, .inl rfl, .inl rfl, by simp [emptyG], by unfold maxLen; omega⟩⟩
      rcases hno with h | ⟨hI, r, hP⟩
      · exact .inl ⟨h, rfl, rfl, rfl, rfl⟩
      · exact .inr ⟨hI, r, 1, hP, .inl ⟨rfl, rfl, rfl, rfl, rfl⟩⟩
    · rcases hcase with ⟨rfl, hLL, rfl⟩ | ⟨rfl, hLL, rfl⟩
      · refine .inl ⟨_, _, _, _, _, _, _, _, _, _, rfl, fun w9 h9 => ⟨g, L, [], [], 3, _, _, _, none, none, _, _, _, 0, 0, w9.heap.size, w9.heap.size, rfl, .inr ⟨hI, r, 2, hP, .inr (.inl ⟨rfl, rfl, rfl, rfl, rfl⟩)⟩, hLL, by have := h9.size; omega, Nat.le_refl _, Nat.le_refl _, .inr ⟨b, t, rfl, rfl, (hfull.span h9 (.inr (by omega))).widen (by omega) h9.size⟩, .inl rfl, .inl rfl, hem.2⟩⟩
      · exact .inr ⟨hI, r, b, t, e0, e1, gm, em, L, rfl, hP, hfull, hem, hLL⟩
  clear hT
  rcases hsplit with ⟨s0, s1, s2, n0, n1, n2, e0, e1, e2, c, rfl, hfin⟩ | ⟨hI, r, b, t, e0, e1, gm, em, L, rfl, hP, hfull, ⟨hem, hcap⟩, hLL⟩
  · have HF : Hid _ := hfin
    clear hfin
    have bV : Below w1.heap.size w1 ((w1.alloc (.cells #[.slice s0 n0 e0, .slice s1 n1 e1, .slice s2 n2 e2] 36)).alloc (.cells #[.int .i64 0] 96)) := ((Below.refl _ _).alloc (Nat.le_refl _) _).alloc (by simp) _
    have tV := (tri_new w1 (.slice s0 n0 e0) (.slice s1 n1 e1) (.slice s2 n2 e2) 36).keep (show Below _ _ ((w1.alloc (.cells #[.slice s0 n0 e0, .slice s1 n1 e1, .slice s2 n2 e2] 36)).alloc (.cells #[.int .i64 0] 96)) from (Below.refl _ _).alloc (Nat.le_refl _) _)
    have hvn : ((w1.alloc (.cells #[.slice s0 n0 e0, .slice s1 n1 e1, .slice s2 n2 e2] 36)).alloc (.cells #[.int .i64 0] 96)).cell? ⟨w1.heap.size + 1, 0, none⟩ = some (.int .i64 0) := by simp [go_sem]
    have hvf : ((w1.alloc (.cells #[.slice s0 n0 e0, .slice s1 n1 e1, .slice s2 n2 e2] 36)).alloc (.cells #[.int .i64 0] 96)).frozen? ⟨w1.heap.size + 1, 0, none⟩ = false := by simp [go_sem]
    go_wp2_with fail
    generalize (w1.alloc (.cells #[.slice s0 n0 e0, .slice s1 n1 e1, .slice s2 n2 e2] 36)).alloc (.cells #[.int .i64 0] 96) = V at *
    refine (as_hit c ⟨w1.heap.size + 1, 0, none⟩ (.int .i64 0) _ (het.below bV) hvn hvf).mono ?_
    rintro e w2 ⟨rfl, W, bW, hw2⟩
    have hVl : w1.heap.size + 1 < V.heap.size := block_lt_of_cell hvn
    have hnc : w2.cell? ⟨w1.heap.size + 1, 0, none⟩ = some (.int .i64 c) := by rw [hw2]; exact World.cell?_setCell_same' _ _ _ (by rw [cell_on bW hVl hvn]; rfl)
    have t2 : Tri w2 w1.heap.size (.slice s0 n0 e0) (.slice s1 n1 e1) (.slice s2 n2 e2) := by rw [hw2]; exact (tV.keep bW).far (by omega) _ _
    have b2 : Below w1.heap.size w1 w2 := by rw [hw2]; exact (bV.trans (bW.mono bV.size)).setCell (p := ⟨w1.heap.size + 1, 0, none⟩) (by simp only; omega) _
    have z2 := b2.size
    clear hw2 bW bV tV hvn hvf hVl
    replace x0 := cell_on b2 (by omega) x0
    replace x1 := cell_on b2 (by omega) x1
    replace x2 := cell_on b2 (by omega) x2
    replace y0 := cell_on b2 (by omega) y0
    replace y1 := cell_on b2 (by omega) y1
    have kx : ∀ q, w2.frozen? ⟨w.heap.size + 1 + 1, q, none⟩ = false := fun q => (b2.frozen (p := ⟨w.heap.size + 1 + 1, q, none⟩) (by simp only; omega)).trans (gx q)
    have ky : ∀ q, w2.frozen? ⟨w.heap.size + 1 + 1 + 1, q, none⟩ = false := fun q => (b2.frozen (p := ⟨w.heap.size + 1 + 1 + 1, q, none⟩) (by simp only; omega)).trans (gy q)
    clear gx gy
    obtain ⟨u0, u1, u2, _, _, _⟩ := id t2
    go_wp2_with fail
    have hbd : Below w2.heap.size w2 w2.drew := (Below.refl _ _).drew
    have n2l : w1.heap.size + 1 < w2.heap.size := block_lt_of_cell hnc
    have hS0 : (fun u : World => u.cell? ⟨w1.heap.size, 0, none⟩ = some (.slice s0 n0 e0) ∧ u.cell? ⟨w1.heap.size, 1, none⟩ = some (.slice s1 n1 e1) ∧ u.cell? ⟨w1.heap.size, 2, none⟩ = some (.slice s2 n2 e2) ∧ u.cell? ⟨w1.heap.size + 1, 0, none⟩ = some (.int .i64 c)) w2 := ⟨u0, u1, u2, hnc⟩
    have HSB : Hid (∀ u : World, (∀ k, w1.heap.size ≤ k → k < w2.heap.size → u.heap[k]? = w2.heap[k]?) → u.cell? ⟨w1.heap.size, 0, none⟩ = some (.slice s0 n0 e0) ∧ u.cell? ⟨w1.heap.size, 1, none⟩ = some (.slice s1 n1 e1) ∧ u.cell? ⟨w1.heap.size, 2, none⟩ = some (.slice s2 n2 e2) ∧ u.cell? ⟨w1.heap.size + 1, 0, none⟩ = some (.int .i64 c)) := fun u hu => ⟨(World.cell?_of_block (hu w1.heap.size (Nat.le_refl _) (by omega))).trans u0, (World.cell?_of_block (hu w1.heap.size (Nat.le_refl _) (by omega))).trans u1, (World.cell?_of_block (hu w1.heap.size (Nat.le_refl _) (by omega))).trans u2, (World.cell?_of_block (hu (w1.heap.size + 1) (by omega) (by omega))).trans hnc⟩
    have SW : (fun u : World => u.cell? ⟨w1.heap.size, 0, none⟩ = some (.slice s0 n0 e0) ∧ u.cell? ⟨w1.heap.size, 1, none⟩ = some (.slice s1 n1 e1) ∧ u.cell? ⟨w1.heap.size, 2, none⟩ = some (.slice s2 n2 e2) ∧ u.cell? ⟨w1.heap.size + 1, 0, none⟩ = some (.int .i64 c)) w2.drew := HSB.out _ (fun k _ hk => hbd.block k hk)
    refine wp_region_held_drew (S := fun u => u.cell? ⟨w1.heap.size, 0, none⟩ = some (.slice s0 n0 e0) ∧ u.cell? ⟨w1.heap.size, 1, none⟩ = some (.slice s1 n1 e1) ∧ u.cell? ⟨w1.heap.size, 2, none⟩ = some (.slice s2 n2 e2) ∧ u.cell? ⟨w1.heap.size + 1, 0, none⟩ = some (.int .i64 c)) (by kernel_rfl) SW (fun _ => ?_)
    refine wpAnyH_take (i := 0) (v := .agg #[.slice s0 n0 e0, .slice s1 n1 e1, .slice s2 n2 e2]) rfl (by kernel_rfl) (by kernel_rfl) (by kernel_rfl) (fun _ _ _ h => h) (Or.inl ⟨by rfl, ?_⟩) SW ?_
    · rintro u ⟨p1, p2, p3, p4⟩
      go_simp
    simp only [Act.put, List.setIfInBounds_toArray]
    refine wpAnyH_take (i := 1) (v := .agg #[.slice none 0 0, .slice none 0 0]) rfl (by kernel_rfl) (by kernel_rfl) (by kernel_rfl) (fun _ _ _ h => h) (Or.inl ⟨by rfl, ?_⟩) SW ?_
    · rintro u ⟨p1, p2, p3, p4⟩
      go_simp
    simp only [Act.put]
    refine wpAnyH_take (i := 2) (v := .pointer (some ⟨w1.heap.size + 1, 0, none⟩)) rfl (by kernel_rfl) (by kernel_rfl) (by kernel_rfl) (fun _ _ _ h => h) (Or.inl ⟨by rfl, ?_⟩) SW ?_
    · rintro u ⟨p1, p2, p3, p4⟩
      go_simp
    simp only [Act.put]
    refine wpAnyH_take (i := 3) (v := .int .i64 c) rfl (by kernel_rfl) (by kernel_rfl) (by kernel_rfl) (fun _ _ _ h => h) (Or.inl ⟨by rfl, ?_⟩) SW ?_
    · rintro u ⟨p1, p2, p3, p4⟩
      go_simp
    simp only [Act.put]
    have x0d : w2.drew.cell? ⟨w.heap.size + 1 + 1, 0, none⟩ = some (.slice none 0 0) := x0
    have x1d : w2.drew.cell? ⟨w.heap.size + 1 + 1, 1, none⟩ = some (.slice none 0 0) := x1
    have x2d : w2.drew.cell? ⟨w.heap.size + 1 + 1, 2, none⟩ = some (.slice none 0 0) := x2
    have y0d : w2.drew.cell? ⟨w.heap.size + 1 + 1 + 1, 0, none⟩ = some (.slice none 0 0) := y0
    have y1d : w2.drew.cell? ⟨w.heap.size + 1 + 1 + 1, 1, none⟩ = some (.slice none 0 0) := y1
    have kxd : ∀ q, w2.drew.frozen? ⟨w.heap.size + 1 + 1, q, none⟩ = false := kx
    have kyd : ∀ q, w2.drew.frozen? ⟨w.heap.size + 1 + 1 + 1, q, none⟩ = false := ky
    have b2d : Below w1.heap.size w1 w2.drew := b2.drew
    have hdz : w2.heap.size ≤ w2.drew.heap.size := hbd.size
    have hdb : ∀ k, k < w2.heap.size → w2.drew.heap[k]? = w2.heap[k]? := hbd.block
    clear x0 x1 x2 y0 y1 kx ky SW hbd
    generalize w2.drew = V2 at *
    refine wpAnyH_ready (rs := [4]) (by kernel_rfl) (by simp) ?_
    refine AllReadyH.cons rfl (fun K hK => ?_) AllReadyH.nil
    rw [if_pos (by rfl)]
    go_simp
    obtain ⟨w3, h3⟩ : ∃ w3, ((V2.setCell ⟨w.heap.size + 1 + 1, 0, none⟩ (.slice s0 n0 e0)).setCell ⟨w.heap.size + 1 + 1, 1, none⟩ (.slice s1 n1 e1)).setCell ⟨w.heap.size + 1 + 1, 2, none⟩ (.slice s2 n2 e2) = w3 := ⟨_, rfl⟩
    have sp3 : Span (w.heap.size + 2) (w.heap.size + 4) V2 w3 := by rw [← h3]; exact (((Span.refl _ _ _).setCell (by omega) (by omega) _ _).setCell (by omega) (by omega) _ _).setCell (by omega) (by omega) _ _
    have v0 : w3.cell? ⟨w.heap.size + 1 + 1, 0, none⟩ = some (.slice s0 n0 e0) := by rw [← h3]; simp [go_sem, x0d]
    have v1 : w3.cell? ⟨w.heap.size + 1 + 1, 1, none⟩ = some (.slice s1 n1 e1) := by rw [← h3]; simp [go_sem, x1d]
    have v2 : w3.cell? ⟨w.heap.size + 1 + 1, 2, none⟩ = some (.slice s2 n2 e2) := by rw [← h3]; simp [go_sem, x2d]
    have y03 : w3.cell? ⟨w.heap.size + 1 + 1 + 1, 0, none⟩ = some (.slice none 0 0) := by rw [← h3]; simp [go_sem, y0d]
    have y13 : w3.cell? ⟨w.heap.size + 1 + 1 + 1, 1, none⟩ = some (.slice none 0 0) := by rw [← h3]; simp [go_sem, y1d]
    have ky3 : ∀ q, w3.frozen? ⟨w.heap.size + 1 + 1 + 1, q, none⟩ = false := fun q => by rw [← h3]; simp [go_sem, kyd]
    have S3 : (fun u : World => u.cell? ⟨w1.heap.size, 0, none⟩ = some (.slice s0 n0 e0) ∧ u.cell? ⟨w1.heap.size, 1, none⟩ = some (.slice s1 n1 e1) ∧ u.cell? ⟨w1.heap.size, 2, none⟩ = some (.slice s2 n2 e2) ∧ u.cell? ⟨w1.heap.size + 1, 0, none⟩ = some (.int .i64 c)) w3 := HSB.out _ (fun k hk hk2 => (sp3.block k (by omega) (by omega)).trans (hdb k hk2))
    rw [h3]
    clear h3
    refine hK.out _ _ S3 (fun _ => ?_)
    clear hK K
    refine wpAnyH_ready (rs := [5]) (by kernel_rfl) (by simp) ?_
    refine AllReadyH.cons rfl (fun K hK => ?_) AllReadyH.nil
    rw [if_pos (by rfl)]
    go_simp
    obtain ⟨w4, h4⟩ : ∃ w4, (w3.setCell ⟨w.heap.size + 1 + 1 + 1, 0, none⟩ (.slice none 0 0)).setCell ⟨w.heap.size + 1 + 1 + 1, 1, none⟩ (.slice none 0 0) = w4 := ⟨_, rfl⟩
    have sp4 : Span (w.heap.size + 2) (w.heap.size + 4) V2 w4 := by rw [← h4]; exact (sp3.setCell (by omega) (by omega) _ _).setCell (by omega) (by omega) _ _
    have v0' : w4.cell? ⟨w.heap.size + 1 + 1, 0, none⟩ = some (.slice s0 n0 e0) := by rw [← h4]; simp [go_sem, v0]
    have v1' : w4.cell? ⟨w.heap.size + 1 + 1, 1, none⟩ = some (.slice s1 n1 e1) := by rw [← h4]; simp [go_sem, v1]
    have v2' : w4.cell? ⟨w.heap.size + 1 + 1, 2, none⟩ = some (.slice s2 n2 e2) := by rw [← h4]; simp [go_sem, v2]
    have y0' : w4.cell? ⟨w.heap.size + 1 + 1 + 1, 0, none⟩ = some (.slice none 0 0) := by rw [← h4]; simp [go_sem, y03]
    have y1' : w4.cell? ⟨w.heap.size + 1 + 1 + 1, 1, none⟩ = some (.slice none 0 0) := by rw [← h4]; simp [go_sem, y13]
    have S4 : (fun u : World => u.cell? ⟨w1.heap.size, 0, none⟩ = some (.slice s0 n0 e0) ∧ u.cell? ⟨w1.heap.size, 1, none⟩ = some (.slice s1 n1 e1) ∧ u.cell? ⟨w1.heap.size, 2, none⟩ = some (.slice s2 n2 e2) ∧ u.cell? ⟨w1.heap.size + 1, 0, none⟩ = some (.int .i64 c)) w4 := HSB.out _ (fun k hk hk2 => (sp4.block k (by omega) (by omega)).trans (hdb k hk2))
    rw [h4]
    clear h4 sp3 v0 v1 v2 y03 y13 ky3
    refine hK.out _ _ S4 (fun _ => ?_)
    clear hK K S3
    refine wpAnyH_ready (rs := [6]) (by kernel_rfl) (by simp) ?_
    refine AllReadyH.cons rfl (fun K hK => ?_) AllReadyH.nil
    rw [if_pos (by rfl)]
    go_simp
    refine hK.out _ _ S4 (fun _ => ?_)
    clear hK K
    refine wpAnyH_done (by kernel_rfl) ?_ _
    have hspan : Span (w.heap.size + 2) (w.heap.size + 4) w1 w4 := ⟨sp4.os.trans b2d.os, sp4.tape.trans b2d.tape, sp4.output.trans b2d.output, Nat.le_trans b2d.size sp4.size, fun k hk hn => (sp4.block k (Nat.lt_of_lt_of_le hk b2d.size) hn).trans (b2d.block k hk)⟩
    have hB4 : Below w.heap.size w w4 := B1.trans (hspan.below (by omega) B1.size)
    clear S4
    go_wp2_with fail
    exact bodyPost_ret (v := .tuple #[.agg #[.slice s0 n0 e0, .slice s1 n1 e1, .slice s2 n2 e2], .agg #[.slice none 0 0, .slice none 0 0], .int .i64 c]) (by simp [results, Tryz.results11, go_sem, v0', v1', v2', y0', y1']) rfl ⟨HF.out w4 hspan, hB4⟩
  · have HI : Hid (InG g i) := hI
    have HP : Hid (IsP (g.wins.getD i.toNat []) x m r 0) := hP
    have HLL : Hid (L.map (·.l) = g.wins.set i.toNat r) := hLL
    clear hI hP hLL
    have bV : Below w1.heap.size w1 ((w1.alloc (.cells #[.slice (some ⟨b, 0, none⟩) g.ins.length e0, .slice (some ⟨t, 0, none⟩) L.length e1, .slice (some ⟨gm, 0, none⟩) g.shown.length em] 36)).alloc (.cells #[.int .i64 0] 96)) := ((Below.refl _ _).alloc (Nat.le_refl _) _).alloc (by simp) _
    have tV := (tri_new w1 (.slice (some ⟨b, 0, none⟩) g.ins.length e0) (.slice (some ⟨t, 0, none⟩) L.length e1) (.slice (some ⟨gm, 0, none⟩) g.shown.length em) 36).keep (show Below _ _ ((w1.alloc (.cells #[.slice (some ⟨b, 0, none⟩) g.ins.length e0, .slice (some ⟨t, 0, none⟩) L.length e1, .slice (some ⟨gm, 0, none⟩) g.shown.length em] 36)).alloc (.cells #[.int .i64 0] 96)) from (Below.refl _ _).alloc (Nat.le_refl _) _)
    go_wp2_with fail
    generalize (w1.alloc (.cells #[.slice (some ⟨b, 0, none⟩) g.ins.length e0, .slice (some ⟨t, 0, none⟩) L.length e1, .slice (some ⟨gm, 0, none⟩) g.shown.length em] 36)).alloc (.cells #[.int .i64 0] 96) = V at *
    refine (as_nil _ _).mono ?_
    rintro e w2 ⟨rfl, rfl⟩
    obtain ⟨u0, u1, u2, _, _, _⟩ := id tV
    have hn := HI.out.1.nice
    have hst : ∀ l ∈ L.map (·.l), StampsP l := by rw [HLL.out]; exact set_stamps hn.items (isP_stamps HP.out)
    have hl6 : (L.map (·.l)).length ≤ 6 := by rw [HLL.out, List.length_set]; exact hn.wins
    have hfV := hfull.below bV
    have HC := comes_any (some ⟨b, 0, none⟩) (some ⟨t, 0, none⟩) (some ⟨gm, 0, none⟩) e0 e1 em g.ins.length (L.map (·.l)) g.shown w2 hl6 hst hfV.wins.row hn.shown hem hfV.stamp.row
    simp only [List.length_map] at HC
    go_wp2_with fail
    refine HC.mono ?_
    rintro e w3 ⟨hE, b3⟩
    clear HC
    have b13 : Below w1.heap.size w1 w3 := bV.trans (b3.mono bV.size)
    have t3 := tV.keep b3
    have hf3 := hfull.below b13
    have z3 := b13.size
    have z3' := b3.size
    have hVz : w1.heap.size < w2.heap.size := block_lt_of_cell u0
    replace x0 := cell_on b13 (by omega) x0
    replace x1 := cell_on b13 (by omega) x1
    replace x2 := cell_on b13 (by omega) x2
    replace y0 := cell_on b13 (by omega) y0
    replace y1 := cell_on b13 (by omega) y1
    have kx : ∀ q, w3.frozen? ⟨w.heap.size + 1 + 1, q, none⟩ = false := fun q => (b13.frozen (p := ⟨w.heap.size + 1 + 1, q, none⟩) (by simp only; omega)).trans (gx q)
    have ky : ∀ q, w3.frozen? ⟨w.heap.size + 1 + 1 + 1, q, none⟩ = false := fun q => (b13.frozen (p := ⟨w.heap.size + 1 + 1 + 1, q, none⟩) (by simp only; omega)).trans (gy q)
    clear gx gy u0 u1 u2 tV bV hfV
    have hsplit : (∃ (tt : TypeId) (code : Int), (tt = 161 ∧ code = 0 ∨ tt = 162 ∧ code = 4) ∧ e = .returned (.iface tt (.agg #[])) ∧ ComeP (L.map (·.l)) g.shown g.shown [] [] code) ∨ (∃ out j gv cv ja cj mid, e = .returned (.iface 165 (.agg #[.slice (some ⟨gv, 0, none⟩) (valsM (L.map (·.l)) out).length cv, .slice ja j.length cj])) ∧ ComeP (L.map (·.l)) g.shown j (valsM (L.map (·.l)) out) j 1 ∧ StampP j ∧ w2.heap.size ≤ mid ∧ mid ≤ w3.heap.size ∧ j.length ≤ cj ∧ Safe w3 w2.heap.size mid ja j ∧ mid ≤ gv ∧ NumB w3 gv (valsM (L.map (·.l)) out)) := by
      obtain ⟨out, ok, hB, h⟩ := hE
      rcases h with ⟨rfl, rfl⟩ | ⟨rfl, j, okj, hJ, h⟩
      · exact .inl ⟨_, 0, .inl ⟨rfl, rfl⟩, rfl, out, false, hB, .inl ⟨rfl, rfl, rfl, rfl, rfl⟩⟩
      · rcases h with ⟨rfl, rfl⟩ | ⟨rfl, o, hO, h⟩
        · exact .inl ⟨_, 4, .inr ⟨rfl, rfl⟩, rfl, out, true, hB, .inr ⟨rfl, j, false, hJ, .inl ⟨rfl, rfl, rfl, rfl, rfl⟩⟩⟩
        · rcases h with ⟨ho, rfl⟩ | ⟨rfl, gv, cv, ja, cj, mid, rfl, h1, h2, h3, h4, h5, h6⟩
          · exact .inl ⟨_, 0, .inl ⟨rfl, rfl⟩, rfl, out, true, hB, .inr ⟨rfl, j, true, hJ, .inr ⟨rfl, o, hO, .inl ⟨ho, rfl, rfl, rfl, rfl⟩⟩⟩⟩
          · exact .inr ⟨out, j, gv, cv, ja, cj, mid, rfl, ⟨out, true, hB, .inr ⟨rfl, j, true, hJ, .inr ⟨rfl, 1, hO, .inr ⟨rfl, rfl, rfl, rfl, rfl⟩⟩⟩⟩, hJ.stamp, h1, h2, h3, h4, h5, h6⟩
    clear hE
    rcases hsplit with ⟨tt, code, htt, rfl, hcome⟩ | ⟨out, j, gv, cv, ja, cj, mid, rfl, hcome, hjs, h1, h2, h3, h4, h5, h6⟩
    · have HCO : Hid (ComeP (L.map (·.l)) g.shown g.shown [] [] code) := hcome
      clear hcome
      rcases htt with ⟨rfl, rfl⟩ | ⟨rfl, rfl⟩
      · obtain ⟨u0, u1, u2, v0, v1, v2⟩ := id t3
        have HC := settled_none (some ⟨b, 0, none⟩) (some ⟨t, 0, none⟩) (some ⟨gm, 0, none⟩) g.ins.length L.length g.shown.length e0 e1 em 161 (.inl rfl) w3
        go_wp2_with fail
        refine HC.mono ?_
        rintro e w4 ⟨rfl, b4⟩
        have t4 := t3.keep b4
        have hlt4 : w1.heap.size < w4.heap.size := block_lt_of_cell t4.c0
        have ne4 : w1.heap.size ≠ w4.heap.size := by omega
        clear u0 u1 u2 v0 v1 v2 HC
        obtain ⟨u0, u1, u2, v0, v1, v2⟩ := id t4
        obtain ⟨V5, h5'⟩ : ∃ V5, (((w4.setCell ⟨w1.heap.size, 0, none⟩ (.slice (some ⟨b, 0, none⟩) g.ins.length e0)).setCell ⟨w1.heap.size, 1, none⟩ (.slice (some ⟨t, 0, none⟩) L.length e1)).setCell ⟨w1.heap.size, 2, none⟩ (.slice (some ⟨gm, 0, none⟩) g.shown.length em)).alloc (.cells #[.slice none 0 0, .slice none 0 0] 39) = V5 := ⟨_, rfl⟩
        have sp5a : Span w1.heap.size (w1.heap.size + 1) w4 (((w4.setCell ⟨w1.heap.size, 0, none⟩ (.slice (some ⟨b, 0, none⟩) g.ins.length e0)).setCell ⟨w1.heap.size, 1, none⟩ (.slice (some ⟨t, 0, none⟩) L.length e1)).setCell ⟨w1.heap.size, 2, none⟩ (.slice (some ⟨gm, 0, none⟩) g.shown.length em)) := (((Span.refl _ _ _).setCell (Nat.le_refl _) (Nat.lt_succ_self _) _ _).setCell (Nat.le_refl _) (Nat.lt_succ_self _) _ _).setCell (Nat.le_refl _) (Nat.lt_succ_self _) _ _
        have sp5 : Span w1.heap.size (w1.heap.size + 1) w4 V5 := by
          rw [← h5']
          have hb : Below _ (((w4.setCell ⟨w1.heap.size, 0, none⟩ (.slice (some ⟨b, 0, none⟩) g.ins.length e0)).setCell ⟨w1.heap.size, 1, none⟩ (.slice (some ⟨t, 0, none⟩) L.length e1)).setCell ⟨w1.heap.size, 2, none⟩ (.slice (some ⟨gm, 0, none⟩) g.shown.length em)) _ := (Below.refl _ _).alloc (Nat.le_refl _) (.cells #[.slice none 0 0, .slice none 0 0] 39)
          exact ⟨hb.os.trans sp5a.os, hb.tape.trans sp5a.tape, hb.output.trans sp5a.output, Nat.le_trans sp5a.size hb.size, fun k hk hn => (hb.block k (Nat.lt_of_lt_of_le hk sp5a.size)).trans (sp5a.block k hk hn)⟩
        have z5 : V5.heap.size = w4.heap.size + 1 := by rw [← h5']; simp
        have z4 := b4.size
        have tS := (((t4.set0 (.slice (some ⟨b, 0, none⟩) g.ins.length e0)).set1 (.slice (some ⟨t, 0, none⟩) L.length e1)).set2 (.slice (some ⟨gm, 0, none⟩) g.shown.length em)).keep ((Below.refl _ _).alloc (Nat.le_refl _) (.cells #[.slice none 0 0, .slice none 0 0] 39))
        have SV : (fun u : World => u.cell? ⟨w1.heap.size, 0, none⟩ = some (.slice (some ⟨b, 0, none⟩) g.ins.length e0) ∧ u.cell? ⟨w1.heap.size, 1, none⟩ = some (.slice (some ⟨t, 0, none⟩) L.length e1) ∧ u.cell? ⟨w1.heap.size, 2, none⟩ = some (.slice (some ⟨gm, 0, none⟩) g.shown.length em) ∧ u.cell? ⟨w4.heap.size, 0, none⟩ = some (.slice none 0 0) ∧ u.cell? ⟨w4.heap.size, 1, none⟩ = some (.slice none 0 0)) V5 := by
          rw [h5'] at tS
          refine ⟨tS.c0, tS.c1, tS.c2, ?_, ?_⟩
          · rw [← h5']; simp [go_sem]
          · rw [← h5']; simp [go_sem]
        have HV5 : Hid (((((w4.setCell ⟨w1.heap.size, 0, none⟩ (.slice (some ⟨b, 0, none⟩) g.ins.length e0)).setCell ⟨w1.heap.size, 1, none⟩ (.slice (some ⟨t, 0, none⟩) L.length e1)).setCell ⟨w1.heap.size, 2, none⟩ (.slice (some ⟨gm, 0, none⟩) g.shown.length em)).alloc (.cells #[.slice none 0 0, .slice none 0 0] 39)) = V5) := h5'
        clear h5' sp5a
        replace x0 := cell_on b4 (by omega) x0
        replace x1 := cell_on b4 (by omega) x1
        replace x2 := cell_on b4 (by omega) x2
        replace y0 := cell_on b4 (by omega) y0
        replace y1 := cell_on b4 (by omega) y1
        have kx4 : ∀ q, w4.frozen? ⟨w.heap.size + 1 + 1, q, none⟩ = false := fun q => (b4.frozen (p := ⟨w.heap.size + 1 + 1, q, none⟩) (by simp only; omega)).trans (kx q)
        have ky4 : ∀ q, w4.frozen? ⟨w.heap.size + 1 + 1 + 1, q, none⟩ = false := fun q => (b4.frozen (p := ⟨w.heap.size + 1 + 1 + 1, q, none⟩) (by simp only; omega)).trans (ky q)
        have hw24 : w.heap.size + 4 ≤ w4.heap.size := by omega
        have hc5 : ∀ bb q v, w4.cell? ⟨bb, q, none⟩ = some v → bb < w.heap.size + 4 → V5.cell? ⟨bb, q, none⟩ = some v := fun bb q v hv hb => by rw [World.cell?_of_block (sp5.block bb (block_lt_of_cell hv) (by omega))]; exact hv
        have hq5 : ∀ bb q, w4.frozen? ⟨bb, q, none⟩ = false → bb < w.heap.size + 4 → V5.frozen? ⟨bb, q, none⟩ = false := fun bb q hv hb => by rw [World.frozen?_of_block (sp5.block bb (by omega) (by omega))]; exact hv
        go_wp2_with fail
        rw [HV5.out]
        clear HV5 u0 u1 u2 v0 v1 v2
        have hbd : Below V5.heap.size V5 V5.drew := (Below.refl _ _).drew
        have HSB : Hid (∀ u : World, (∀ k, w1.heap.size ≤ k → k < V5.heap.size → u.heap[k]? = V5.heap[k]?) → u.cell? ⟨w1.heap.size, 0, none⟩ = some (.slice (some ⟨b, 0, none⟩) g.ins.length e0) ∧ u.cell? ⟨w1.heap.size, 1, none⟩ = some (.slice (some ⟨t, 0, none⟩) L.length e1) ∧ u.cell? ⟨w1.heap.size, 2, none⟩ = some (.slice (some ⟨gm, 0, none⟩) g.shown.length em) ∧ u.cell? ⟨w4.heap.size, 0, none⟩ = some (.slice none 0 0) ∧ u.cell? ⟨w4.heap.size, 1, none⟩ = some (.slice none 0 0)) := fun u hu => ⟨(World.cell?_of_block (hu w1.heap.size (Nat.le_refl _) (by omega))).trans SV.1, (World.cell?_of_block (hu w1.heap.size (Nat.le_refl _) (by omega))).trans SV.2.1, (World.cell?_of_block (hu w1.heap.size (Nat.le_refl _) (by omega))).trans SV.2.2.1, (World.cell?_of_block (hu w4.heap.size (by omega) (by omega))).trans SV.2.2.2.1, (World.cell?_of_block (hu w4.heap.size (by omega) (by omega))).trans SV.2.2.2.2⟩
        have SW : (fun u : World => u.cell? ⟨w1.heap.size, 0, none⟩ = some (.slice (some ⟨b, 0, none⟩) g.ins.length e0) ∧ u.cell? ⟨w1.heap.size, 1, none⟩ = some (.slice (some ⟨t, 0, none⟩) L.length e1) ∧ u.cell? ⟨w1.heap.size, 2, none⟩ = some (.slice (some ⟨gm, 0, none⟩) g.shown.length em) ∧ u.cell? ⟨w4.heap.size, 0, none⟩ = some (.slice none 0 0) ∧ u.cell? ⟨w4.heap.size, 1, none⟩ = some (.slice none 0 0)) V5.drew := HSB.out _ (fun k _ hk => hbd.block k hk)
        have km := Tryz.methKeeps (.agg #[])
        refine wp_region_held_drew (S := fun u => u.cell? ⟨w1.heap.size, 0, none⟩ = some (.slice (some ⟨b, 0, none⟩) g.ins.length e0) ∧ u.cell? ⟨w1.heap.size, 1, none⟩ = some (.slice (some ⟨t, 0, none⟩) L.length e1) ∧ u.cell? ⟨w1.heap.size, 2, none⟩ = some (.slice (some ⟨gm, 0, none⟩) g.shown.length em) ∧ u.cell? ⟨w4.heap.size, 0, none⟩ = some (.slice none 0 0) ∧ u.cell? ⟨w4.heap.size, 1, none⟩ = some (.slice none 0 0)) (by kernel_rfl) SW (fun _ => ?_)
        refine wpAnyH_take (i := 0) (v := .agg #[.slice (some ⟨b, 0, none⟩) g.ins.length e0, .slice (some ⟨t, 0, none⟩) L.length e1, .slice (some ⟨gm, 0, none⟩) g.shown.length em]) rfl (by kernel_rfl) (by kernel_rfl) (by kernel_rfl) (fun _ _ _ h => h) (Or.inl ⟨by rfl, ?_⟩) SW ?_
        · rintro u ⟨p1, p2, p3, p4, p5⟩
          go_simp
        simp only [Act.put, List.setIfInBounds_toArray]
        refine wpAnyH_take (i := 1) (v := .agg #[.slice none 0 0, .slice none 0 0]) rfl (by kernel_rfl) (by kernel_rfl) (by kernel_rfl) (fun _ _ _ h => h) (Or.inl ⟨by rfl, ?_⟩) SW ?_
        · rintro u ⟨p1, p2, p3, p4, p5⟩
          go_simp
        simp only [Act.put]
        refine wpAnyH_take (i := 2) (v := .iface 161 (.agg #[])) rfl (by kernel_rfl) (by kernel_rfl) (by kernel_rfl) (fun _ _ _ h => h) (Or.inl ⟨by rfl, ?_⟩) SW ?_
        · rintro u ⟨p1, p2, p3, p4, p5⟩
          go_simp
        simp only [Act.put]
        refine wpAnyH_ready (rs := [3]) (by kernel_rfl) (by simp) ?_
        refine AllReadyH.cons rfl (fun K hK => ?_) AllReadyH.nil
        rw [if_pos (by rfl)]
        go_simp
        refine (code_keeps _).mono ?_
        rintro e w6 ⟨rfl, b6⟩
        have b56 : Below V5.heap.size V5 w6 := hbd.trans (b6.mono hbd.size)
        have z6 := b56.size
        have S6 : (fun u : World => u.cell? ⟨w1.heap.size, 0, none⟩ = some (.slice (some ⟨b, 0, none⟩) g.ins.length e0) ∧ u.cell? ⟨w1.heap.size, 1, none⟩ = some (.slice (some ⟨t, 0, none⟩) L.length e1) ∧ u.cell? ⟨w1.heap.size, 2, none⟩ = some (.slice (some ⟨gm, 0, none⟩) g.shown.length em) ∧ u.cell? ⟨w4.heap.size, 0, none⟩ = some (.slice none 0 0) ∧ u.cell? ⟨w4.heap.size, 1, none⟩ = some (.slice none 0 0)) w6 := HSB.out _ (fun k _ hk => b56.block k hk)
        refine hK.out _ _ S6 (fun _ => ?_)
        clear hK K SW
        have x06 := cell_on b56 (by omega) (hc5 _ _ _ x0 (by omega))
        have x16 := cell_on b56 (by omega) (hc5 _ _ _ x1 (by omega))
        have x26 := cell_on b56 (by omega) (hc5 _ _ _ x2 (by omega))
        have y06 := cell_on b56 (by omega) (hc5 _ _ _ y0 (by omega))
        have y16 := cell_on b56 (by omega) (hc5 _ _ _ y1 (by omega))
        have kx6 : ∀ q, w6.frozen? ⟨w.heap.size + 1 + 1, q, none⟩ = false := fun q => (b56.frozen (p := ⟨w.heap.size + 1 + 1, q, none⟩) (by simp only; omega)).trans (hq5 _ q (kx4 q) (by omega))
        have ky6 : ∀ q, w6.frozen? ⟨w.heap.size + 1 + 1 + 1, q, none⟩ = false := fun q => (b56.frozen (p := ⟨w.heap.size + 1 + 1 + 1, q, none⟩) (by simp only; omega)).trans (hq5 _ q (ky4 q) (by omega))
        clear x0 x1 x2 y0 y1 kx ky kx4 ky4 hc5 hq5 km
        refine wpAnyH_ready (rs := [4]) (by kernel_rfl) (by simp) ?_
        refine AllReadyH.cons rfl (fun K hK => ?_) AllReadyH.nil
        rw [if_pos (by rfl)]
        go_simp
        obtain ⟨w7, h7⟩ : ∃ w7, ((w6.setCell ⟨w.heap.size + 1 + 1, 0, none⟩ (.slice (some ⟨b, 0, none⟩) g.ins.length e0)).setCell ⟨w.heap.size + 1 + 1, 1, none⟩ (.slice (some ⟨t, 0, none⟩) L.length e1)).setCell ⟨w.heap.size + 1 + 1, 2, none⟩ (.slice (some ⟨gm, 0, none⟩) g.shown.length em) = w7 := ⟨_, rfl⟩
        have sp7 : Span (w.heap.size + 2) (w.heap.size + 4) w6 w7 := by rw [← h7]; exact (((Span.refl _ _ _).setCell (by omega) (by omega) _ _).setCell (by omega) (by omega) _ _).setCell (by omega) (by omega) _ _
        have q0 : w7.cell? ⟨w.heap.size + 1 + 1, 0, none⟩ = some (.slice (some ⟨b, 0, none⟩) g.ins.length e0) := by rw [← h7]; simp [go_sem, x06]
        have q1 : w7.cell? ⟨w.heap.size + 1 + 1, 1, none⟩ = some (.slice (some ⟨t, 0, none⟩) L.length e1) := by rw [← h7]; simp [go_sem, x16]
        have q2 : w7.cell? ⟨w.heap.size + 1 + 1, 2, none⟩ = some (.slice (some ⟨gm, 0, none⟩) g.shown.length em) := by rw [← h7]; simp [go_sem, x26]
        have y07 : w7.cell? ⟨w.heap.size + 1 + 1 + 1, 0, none⟩ = some (.slice none 0 0) := by rw [← h7]; simp [go_sem, y06]
        have y17 : w7.cell? ⟨w.heap.size + 1 + 1 + 1, 1, none⟩ = some (.slice none 0 0) := by rw [← h7]; simp [go_sem, y16]
        have ky7 : ∀ q, w7.frozen? ⟨w.heap.size + 1 + 1 + 1, q, none⟩ = false := fun q => by rw [← h7]; simp [go_sem, ky6]
        have S7 : (fun u : World => u.cell? ⟨w1.heap.size, 0, none⟩ = some (.slice (some ⟨b, 0, none⟩) g.ins.length e0) ∧ u.cell? ⟨w1.heap.size, 1, none⟩ = some (.slice (some ⟨t, 0, none⟩) L.length e1) ∧ u.cell? ⟨w1.heap.size, 2, none⟩ = some (.slice (some ⟨gm, 0, none⟩) g.shown.length em) ∧ u.cell? ⟨w4.heap.size, 0, none⟩ = some (.slice none 0 0) ∧ u.cell? ⟨w4.heap.size, 1, none⟩ = some (.slice none 0 0)) w7 := HSB.out _ (fun k hk hk2 => (sp7.block k (by omega) (by omega)).trans (b56.block k hk2))
        rw [h7]
        clear h7
        refine hK.out _ _ S7 (fun _ => ?_)
        clear hK K S6
        refine wpAnyH_ready (rs := [5]) (by kernel_rfl) (by simp) ?_
        refine AllReadyH.cons rfl (fun K hK => ?_) AllReadyH.nil
        rw [if_pos (by rfl)]
        go_simp
        obtain ⟨w8, h8⟩ : ∃ w8, (w7.setCell ⟨w.heap.size + 1 + 1 + 1, 0, none⟩ (.slice none 0 0)).setCell ⟨w.heap.size + 1 + 1 + 1, 1, none⟩ (.slice none 0 0) = w8 := ⟨_, rfl⟩
        have sp8 : Span (w.heap.size + 2) (w.heap.size + 4) w6 w8 := by rw [← h8]; exact (sp7.setCell (by omega) (by omega) _ _).setCell (by omega) (by omega) _ _
        have q0' : w8.cell? ⟨w.heap.size + 1 + 1, 0, none⟩ = some (.slice (some ⟨b, 0, none⟩) g.ins.length e0) := by rw [← h8]; simp [go_sem, q0]
        have q1' : w8.cell? ⟨w.heap.size + 1 + 1, 1, none⟩ = some (.slice (some ⟨t, 0, none⟩) L.length e1) := by rw [← h8]; simp [go_sem, q1]
        have q2' : w8.cell? ⟨w.heap.size + 1 + 1, 2, none⟩ = some (.slice (some ⟨gm, 0, none⟩) g.shown.length em) := by rw [← h8]; simp [go_sem, q2]
        have y0' : w8.cell? ⟨w.heap.size + 1 + 1 + 1, 0, none⟩ = some (.slice none 0 0) := by rw [← h8]; simp [go_sem, y07]
        have y1' : w8.cell? ⟨w.heap.size + 1 + 1 + 1, 1, none⟩ = some (.slice none 0 0) := by rw [← h8]; simp [go_sem, y17]
        have S8 : (fun u : World => u.cell? ⟨w1.heap.size, 0, none⟩ = some (.slice (some ⟨b, 0, none⟩) g.ins.length e0) ∧ u.cell? ⟨w1.heap.size, 1, none⟩ = some (.slice (some ⟨t, 0, none⟩) L.length e1) ∧ u.cell? ⟨w1.heap.size, 2, none⟩ = some (.slice (some ⟨gm, 0, none⟩) g.shown.length em) ∧ u.cell? ⟨w4.heap.size, 0, none⟩ = some (.slice none 0 0) ∧ u.cell? ⟨w4.heap.size, 1, none⟩ = some (.slice none 0 0)) w8 := HSB.out _ (fun k hk hk2 => (sp8.block k (by omega) (by omega)).trans (b56.block k hk2))
        rw [h8]
        clear h8 sp7 q0 q1 q2 y07 y17 ky7
        refine hK.out _ _ S8 (fun _ => ?_)
        clear hK K S7
        refine wpAnyH_ready (rs := [6]) (by kernel_rfl) (by simp) ?_
        refine AllReadyH.cons rfl (fun K hK => ?_) AllReadyH.nil
        rw [if_pos (by rfl)]
        go_simp
        refine hK.out _ _ S8 (fun _ => ?_)
        clear hK K
        refine wpAnyH_done (by kernel_rfl) ?_ _
        clear S8 HSB
        have z8 := sp8.size
        have B4 : Below w.heap.size w w4 := B1.trans ((b13.trans (b4.mono b13.size)).mono B1.size)
        have B8 : Below w.heap.size w w8 := (B4.trans (sp5.below (by omega) B4.size)).trans ((b56.mono (by omega)).trans (sp8.below (by omega) (by omega)))
        have hf8 := (((hf3.below b4).span sp5 (.inl (Nat.le_refl _))).below b56).span sp8 (.inr (by omega))
        go_wp2_with fail
        exact bodyPost_ret (v := .tuple #[.agg #[.slice (some ⟨b, 0, none⟩) g.ins.length e0, .slice (some ⟨t, 0, none⟩) L.length e1, .slice (some ⟨gm, 0, none⟩) g.shown.length em], .agg #[.slice none 0 0, .slice none 0 0], .int .i64 0]) (by simp [results, Tryz.results11, go_sem, q0', q1', q2', y0', y1']) rfl ⟨⟨⟨g.ins, g.wins.set i.toNat r, g.shown⟩, L, [], [], _, _, _, _, none, none, _, _, _, 0, 0, w8.heap.size, w8.heap.size, rfl, .inr ⟨HI.out, r, 0, HP.out, .inr (.inr ⟨rfl, g.shown, by rw [← HLL.out]; exact HCO.out, rfl⟩)⟩, HLL.out, by omega, Nat.le_refl _, Nat.le_refl _, .inr ⟨b, t, rfl, rfl, hf8.widen (by omega) (by omega)⟩, .inl rfl, .inl rfl, hcap⟩, B8⟩
      · obtain ⟨u0, u1, u2, v0, v1, v2⟩ := id t3
        have HC := settled_none (some ⟨b, 0, none⟩) (some ⟨t, 0, none⟩) (some ⟨gm, 0, none⟩) g.ins.length L.length g.shown.length e0 e1 em 162 (.inr rfl) w3
        go_wp2_with fail
        refine HC.mono ?_
        rintro e w4 ⟨rfl, b4⟩
        have t4 := t3.keep b4
        have hlt4 : w1.heap.size < w4.heap.size := block_lt_of_cell t4.c0
        have ne4 : w1.heap.size ≠ w4.heap.size := by omega
        clear u0 u1 u2 v0 v1 v2 HC
        obtain ⟨u0, u1, u2, v0, v1, v2⟩ := id t4
        obtain ⟨V5, h5'⟩ : ∃ V5, (((w4.setCell ⟨w1.heap.size, 0, none⟩ (.slice (some ⟨b, 0, none⟩) g.ins.length e0)).setCell ⟨w1.heap.size, 1, none⟩ (.slice (some ⟨t, 0, none⟩) L.length e1)).setCell ⟨w1.heap.size, 2, none⟩ (.slice (some ⟨gm, 0, none⟩) g.shown.length em)).alloc (.cells #[.slice none 0 0, .slice none 0 0] 39) = V5 := ⟨_, rfl⟩
        have sp5a : Span w1.heap.size (w1.heap.size + 1) w4 (((w4.setCell ⟨w1.heap.size, 0, none⟩ (.slice (some ⟨b, 0, none⟩) g.ins.length e0)).setCell ⟨w1.heap.size, 1, none⟩ (.slice (some ⟨t, 0, none⟩) L.length e1)).setCell ⟨w1.heap.size, 2, none⟩ (.slice (some ⟨gm, 0, none⟩) g.shown.length em)) := (((Span.refl _ _ _).setCell (Nat.le_refl _) (Nat.lt_succ_self _) _ _).setCell (Nat.le_refl _) (Nat.lt_succ_self _) _ _).setCell (Nat.le_refl _) (Nat.lt_succ_self _) _ _
        have sp5 : Span w1.heap.size (w1.heap.size + 1) w4 V5 := by
          rw [← h5']
          have hb : Below _ (((w4.setCell ⟨w1.heap.size, 0, none⟩ (.slice (some ⟨b, 0, none⟩) g.ins.length e0)).setCell ⟨w1.heap.size, 1, none⟩ (.slice (some ⟨t, 0, none⟩) L.length e1)).setCell ⟨w1.heap.size, 2, none⟩ (.slice (some ⟨gm, 0, none⟩) g.shown.length em)) _ := (Below.refl _ _).alloc (Nat.le_refl _) (.cells #[.slice none 0 0, .slice none 0 0] 39)
          exact ⟨hb.os.trans sp5a.os, hb.tape.trans sp5a.tape, hb.output.trans sp5a.output, Nat.le_trans sp5a.size hb.size, fun k hk hn => (hb.block k (Nat.lt_of_lt_of_le hk sp5a.size)).trans (sp5a.block k hk hn)⟩
        have z5 : V5.heap.size = w4.heap.size + 1 := by rw [← h5']; simp
        have z4 := b4.size
        have tS := (((t4.set0 (.slice (some ⟨b, 0, none⟩) g.ins.length e0)).set1 (.slice (some ⟨t, 0, none⟩) L.length e1)).set2 (.slice (some ⟨gm, 0, none⟩) g.shown.length em)).keep ((Below.refl _ _).alloc (Nat.le_refl _) (.cells #[.slice none 0 0, .slice none 0 0] 39))
        have SV : (fun u : World => u.cell? ⟨w1.heap.size, 0, none⟩ = some (.slice (some ⟨b, 0, none⟩) g.ins.length e0) ∧ u.cell? ⟨w1.heap.size, 1, none⟩ = some (.slice (some ⟨t, 0, none⟩) L.length e1) ∧ u.cell? ⟨w1.heap.size, 2, none⟩ = some (.slice (some ⟨gm, 0, none⟩) g.shown.length em) ∧ u.cell? ⟨w4.heap.size, 0, none⟩ = some (.slice none 0 0) ∧ u.cell? ⟨w4.heap.size, 1, none⟩ = some (.slice none 0 0)) V5 := by
          rw [h5'] at tS
          refine ⟨tS.c0, tS.c1, tS.c2, ?_, ?_⟩
          · rw [← h5']; simp [go_sem]
          · rw [← h5']; simp [go_sem]
        have HV5 : Hid (((((w4.setCell ⟨w1.heap.size, 0, none⟩ (.slice (some ⟨b, 0, none⟩) g.ins.length e0)).setCell ⟨w1.heap.size, 1, none⟩ (.slice (some ⟨t, 0, none⟩) L.length e1)).setCell ⟨w1.heap.size, 2, none⟩ (.slice (some ⟨gm, 0, none⟩) g.shown.length em)).alloc (.cells #[.slice none 0 0, .slice none 0 0] 39)) = V5) := h5'
        clear h5' sp5a
        replace x0 := cell_on b4 (by omega) x0
        replace x1 := cell_on b4 (by omega) x1
        replace x2 := cell_on b4 (by omega) x2
        replace y0 := cell_on b4 (by omega) y0
        replace y1 := cell_on b4 (by omega) y1
        have kx4 : ∀ q, w4.frozen? ⟨w.heap.size + 1 + 1, q, none⟩ = false := fun q => (b4.frozen (p := ⟨w.heap.size + 1 + 1, q, none⟩) (by simp only; omega)).trans (kx q)
        have ky4 : ∀ q, w4.frozen? ⟨w.heap.size + 1 + 1 + 1, q, none⟩ = false := fun q => (b4.frozen (p := ⟨w.heap.size + 1 + 1 + 1, q, none⟩) (by simp only; omega)).trans (ky q)
        have hw24 : w.heap.size + 4 ≤ w4.heap.size := by omega
        have hc5 : ∀ bb q v, w4.cell? ⟨bb, q, none⟩ = some v → bb < w.heap.size + 4 → V5.cell? ⟨bb, q, none⟩ = some v := fun bb q v hv hb => by rw [World.cell?_of_block (sp5.block bb (block_lt_of_cell hv) (by omega))]; exact hv
        have hq5 : ∀ bb q, w4.frozen? ⟨bb, q, none⟩ = false → bb < w.heap.size + 4 → V5.frozen? ⟨bb, q, none⟩ = false := fun bb q hv hb => by rw [World.frozen?_of_block (sp5.block bb (by omega) (by omega))]; exact hv
        go_wp2_with fail
        rw [HV5.out]
        clear HV5 u0 u1 u2 v0 v1 v2
        have hbd : Below V5.heap.size V5 V5.drew := (Below.refl _ _).drew
        have HSB : Hid (∀ u : World, (∀ k, w1.heap.size ≤ k → k < V5.heap.size → u.heap[k]? = V5.heap[k]?) → u.cell? ⟨w1.heap.size, 0, none⟩ = some (.slice (some ⟨b, 0, none⟩) g.ins.length e0) ∧ u.cell? ⟨w1.heap.size, 1, none⟩ = some (.slice (some ⟨t, 0, none⟩) L.length e1) ∧ u.cell? ⟨w1.heap.size, 2, none⟩ = some (.slice (some ⟨gm, 0, none⟩) g.shown.length em) ∧ u.cell? ⟨w4.heap.size, 0, none⟩ = some (.slice none 0 0) ∧ u.cell? ⟨w4.heap.size, 1, none⟩ = some (.slice none 0 0)) := fun u hu => ⟨(World.cell?_of_block (hu w1.heap.size (Nat.le_refl _) (by omega))).trans SV.1, (World.cell?_of_block (hu w1.heap.size (Nat.le_refl _) (by omega))).trans SV.2.1, (World.cell?_of_block (hu w1.heap.size (Nat.le_refl _) (by omega))).trans SV.2.2.1, (World.cell?_of_block (hu w4.heap.size (by omega) (by omega))).trans SV.2.2.2.1, (World.cell?_of_block (hu w4.heap.size (by omega) (by omega))).trans SV.2.2.2.2⟩
        have SW : (fun u : World => u.cell? ⟨w1.heap.size, 0, none⟩ = some (.slice (some ⟨b, 0, none⟩) g.ins.length e0) ∧ u.cell? ⟨w1.heap.size, 1, none⟩ = some (.slice (some ⟨t, 0, none⟩) L.length e1) ∧ u.cell? ⟨w1.heap.size, 2, none⟩ = some (.slice (some ⟨gm, 0, none⟩) g.shown.length em) ∧ u.cell? ⟨w4.heap.size, 0, none⟩ = some (.slice none 0 0) ∧ u.cell? ⟨w4.heap.size, 1, none⟩ = some (.slice none 0 0)) V5.drew := HSB.out _ (fun k _ hk => hbd.block k hk)
        have km := Tryz.methOverflows (.agg #[])
        refine wp_region_held_drew (S := fun u => u.cell? ⟨w1.heap.size, 0, none⟩ = some (.slice (some ⟨b, 0, none⟩) g.ins.length e0) ∧ u.cell? ⟨w1.heap.size, 1, none⟩ = some (.slice (some ⟨t, 0, none⟩) L.length e1) ∧ u.cell? ⟨w1.heap.size, 2, none⟩ = some (.slice (some ⟨gm, 0, none⟩) g.shown.length em) ∧ u.cell? ⟨w4.heap.size, 0, none⟩ = some (.slice none 0 0) ∧ u.cell? ⟨w4.heap.size, 1, none⟩ = some (.slice none 0 0)) (by kernel_rfl) SW (fun _ => ?_)
        refine wpAnyH_take (i := 0) (v := .agg #[.slice (some ⟨b, 0, none⟩) g.ins.length e0, .slice (some ⟨t, 0, none⟩) L.length e1, .slice (some ⟨gm, 0, none⟩) g.shown.length em]) rfl (by kernel_rfl) (by kernel_rfl) (by kernel_rfl) (fun _ _ _ h => h) (Or.inl ⟨by rfl, ?_⟩) SW ?_
        · rintro u ⟨p1, p2, p3, p4, p5⟩
          go_simp
        simp only [Act.put, List.setIfInBounds_toArray]
        refine wpAnyH_take (i := 1) (v := .agg #[.slice none 0 0, .slice none 0 0]) rfl (by kernel_rfl) (by kernel_rfl) (by kernel_rfl) (fun _ _ _ h => h) (Or.inl ⟨by rfl, ?_⟩) SW ?_
        · rintro u ⟨p1, p2, p3, p4, p5⟩
          go_simp
        simp only [Act.put]
        refine wpAnyH_take (i := 2) (v := .iface 162 (.agg #[])) rfl (by kernel_rfl) (by kernel_rfl) (by kernel_rfl) (fun _ _ _ h => h) (Or.inl ⟨by rfl, ?_⟩) SW ?_
        · rintro u ⟨p1, p2, p3, p4, p5⟩
          go_simp
        simp only [Act.put]
        refine wpAnyH_ready (rs := [3]) (by kernel_rfl) (by simp) ?_
        refine AllReadyH.cons rfl (fun K hK => ?_) AllReadyH.nil
        rw [if_pos (by rfl)]
        go_simp
        refine (code_overflows _).mono ?_
        rintro e w6 ⟨rfl, b6⟩
        have b56 : Below V5.heap.size V5 w6 := hbd.trans (b6.mono hbd.size)
        have z6 := b56.size
        have S6 : (fun u : World => u.cell? ⟨w1.heap.size, 0, none⟩ = some (.slice (some ⟨b, 0, none⟩) g.ins.length e0) ∧ u.cell? ⟨w1.heap.size, 1, none⟩ = some (.slice (some ⟨t, 0, none⟩) L.length e1) ∧ u.cell? ⟨w1.heap.size, 2, none⟩ = some (.slice (some ⟨gm, 0, none⟩) g.shown.length em) ∧ u.cell? ⟨w4.heap.size, 0, none⟩ = some (.slice none 0 0) ∧ u.cell? ⟨w4.heap.size, 1, none⟩ = some (.slice none 0 0)) w6 := HSB.out _ (fun k _ hk => b56.block k hk)
        refine hK.out _ _ S6 (fun _ => ?_)
        clear hK K SW
        have x06 := cell_on b56 (by omega) (hc5 _ _ _ x0 (by omega))
        have x16 := cell_on b56 (by omega) (hc5 _ _ _ x1 (by omega))
        have x26 := cell_on b56 (by omega) (hc5 _ _ _ x2 (by omega))
        have y06 := cell_on b56 (by omega) (hc5 _ _ _ y0 (by omega))
        have y16 := cell_on b56 (by omega) (hc5 _ _ _ y1 (by omega))
        have kx6 : ∀ q, w6.frozen? ⟨w.heap.size + 1 + 1, q, none⟩ = false := fun q => (b56.frozen (p := ⟨w.heap.size + 1 + 1, q, none⟩) (by simp only; omega)).trans (hq5 _ q (kx4 q) (by omega))
        have ky6 : ∀ q, w6.frozen? ⟨w.heap.size + 1 + 1 + 1, q, none⟩ = false := fun q => (b56.frozen (p := ⟨w.heap.size + 1 + 1 + 1, q, none⟩) (by simp only; omega)).trans (hq5 _ q (ky4 q) (by omega))
        clear x0 x1 x2 y0 y1 kx ky kx4 ky4 hc5 hq5 km
        refine wpAnyH_ready (rs := [4]) (by kernel_rfl) (by simp) ?_
        refine AllReadyH.cons rfl (fun K hK => ?_) AllReadyH.nil
        rw [if_pos (by rfl)]
        go_simp
        obtain ⟨w7, h7⟩ : ∃ w7, ((w6.setCell ⟨w.heap.size + 1 + 1, 0, none⟩ (.slice (some ⟨b, 0, none⟩) g.ins.length e0)).setCell ⟨w.heap.size + 1 + 1, 1, none⟩ (.slice (some ⟨t, 0, none⟩) L.length e1)).setCell ⟨w.heap.size + 1 + 1, 2, none⟩ (.slice (some ⟨gm, 0, none⟩) g.shown.length em) = w7 := ⟨_, rfl⟩
        have sp7 : Span (w.heap.size + 2) (w.heap.size + 4) w6 w7 := by rw [← h7]; exact (((Span.refl _ _ _).setCell (by omega) (by omega) _ _).setCell (by omega) (by omega) _ _).setCell (by omega) (by omega) _ _
        have q0 : w7.cell? ⟨w.heap.size + 1 + 1, 0, none⟩ = some (.slice (some ⟨b, 0, none⟩) g.ins.length e0) := by rw [← h7]; simp [go_sem, x06]
        have q1 : w7.cell? ⟨w.heap.size + 1 + 1, 1, none⟩ = some (.slice (some ⟨t, 0, none⟩) L.length e1) := by rw [← h7]; simp [go_sem, x16]
        have q2 : w7.cell? ⟨w.heap.size + 1 + 1, 2, none⟩ = some (.slice (some ⟨gm, 0, none⟩) g.shown.length em) := by rw [← h7]; simp [go_sem, x26]
        have y07 : w7.cell? ⟨w.heap.size + 1 + 1 + 1, 0, none⟩ = some (.slice none 0 0) := by rw [← h7]; simp [go_sem, y06]
        have y17 : w7.cell? ⟨w.heap.size + 1 + 1 + 1, 1, none⟩ = some (.slice none 0 0) := by rw [← h7]; simp [go_sem, y16]
        have ky7 : ∀ q, w7.frozen? ⟨w.heap.size + 1 + 1 + 1, q, none⟩ = false := fun q => by rw [← h7]; simp [go_sem, ky6]
        have S7 : (fun u : World => u.cell? ⟨w1.heap.size, 0, none⟩ = some (.slice (some ⟨b, 0, none⟩) g.ins.length e0) ∧ u.cell? ⟨w1.heap.size, 1, none⟩ = some (.slice (some ⟨t, 0, none⟩) L.length e1) ∧ u.cell? ⟨w1.heap.size, 2, none⟩ = some (.slice (some ⟨gm, 0, none⟩) g.shown.length em) ∧ u.cell? ⟨w4.heap.size, 0, none⟩ = some (.slice none 0 0) ∧ u.cell? ⟨w4.heap.size, 1, none⟩ = some (.slice none 0 0)) w7 := HSB.out _ (fun k hk hk2 => (sp7.block k (by omega) (by omega)).trans (b56.block k hk2))
        rw [h7]
        clear h7
        refine hK.out _ _ S7 (fun _ => ?_)
        clear hK K S6
        refine wpAnyH_ready (rs := [5]) (by kernel_rfl) (by simp) ?_
        refine AllReadyH.cons rfl (fun K hK => ?_) AllReadyH.nil
        rw [if_pos (by rfl)]
        go_simp
        obtain ⟨w8, h8⟩ : ∃ w8, (w7.setCell ⟨w.heap.size + 1 + 1 + 1, 0, none⟩ (.slice none 0 0)).setCell ⟨w.heap.size + 1 + 1 + 1, 1, none⟩ (.slice none 0 0) = w8 := ⟨_, rfl⟩
        have sp8 : Span (w.heap.size + 2) (w.heap.size + 4) w6 w8 := by rw [← h8]; exact (sp7.setCell (by omega) (by omega) _ _).setCell (by omega) (by omega) _ _
        have q0' : w8.cell? ⟨w.heap.size + 1 + 1, 0, none⟩ = some (.slice (some ⟨b, 0, none⟩) g.ins.length e0) := by rw [← h8]; simp [go_sem, q0]
        have q1' : w8.cell? ⟨w.heap.size + 1 + 1, 1, none⟩ = some (.slice (some ⟨t, 0, none⟩) L.length e1) := by rw [← h8]; simp [go_sem, q1]
        have q2' : w8.cell? ⟨w.heap.size + 1 + 1, 2, none⟩ = some (.slice (some ⟨gm, 0, none⟩) g.shown.length em) := by rw [← h8]; simp [go_sem, q2]
        have y0' : w8.cell? ⟨w.heap.size + 1 + 1 + 1, 0, none⟩ = some (.slice none 0 0) := by rw [← h8]; simp [go_sem, y07]
        have y1' : w8.cell? ⟨w.heap.size + 1 + 1 + 1, 1, none⟩ = some (.slice none 0 0) := by rw [← h8]; simp [go_sem, y17]
        have S8 : (fun u : World => u.cell? ⟨w1.heap.size, 0, none⟩ = some (.slice (some ⟨b, 0, none⟩) g.ins.length e0) ∧ u.cell? ⟨w1.heap.size, 1, none⟩ = some (.slice (some ⟨t, 0, none⟩) L.length e1) ∧ u.cell? ⟨w1.heap.size, 2, none⟩ = some (.slice (some ⟨gm, 0, none⟩) g.shown.length em) ∧ u.cell? ⟨w4.heap.size, 0, none⟩ = some (.slice none 0 0) ∧ u.cell? ⟨w4.heap.size, 1, none⟩ = some (.slice none 0 0)) w8 := HSB.out _ (fun k hk hk2 => (sp8.block k (by omega) (by omega)).trans (b56.block k hk2))
        rw [h8]
        clear h8 sp7 q0 q1 q2 y07 y17 ky7
        refine hK.out _ _ S8 (fun _ => ?_)
        clear hK K S7
        refine wpAnyH_ready (rs := [6]) (by kernel_rfl) (by simp) ?_
        refine AllReadyH.cons rfl (fun K hK => ?_) AllReadyH.nil
        rw [if_pos (by rfl)]
        go_simp
        refine hK.out _ _ S8 (fun _ => ?_)
        clear hK K
        refine wpAnyH_done (by kernel_rfl) ?_ _
        clear S8 HSB
        have z8 := sp8.size
        have B4 : Below w.heap.size w w4 := B1.trans ((b13.trans (b4.mono b13.size)).mono B1.size)
        have B8 : Below w.heap.size w w8 := (B4.trans (sp5.below (by omega) B4.size)).trans ((b56.mono (by omega)).trans (sp8.below (by omega) (by omega)))
        have hf8 := (((hf3.below b4).span sp5 (.inl (Nat.le_refl _))).below b56).span sp8 (.inr (by omega))
        go_wp2_with fail
        exact bodyPost_ret (v := .tuple #[.agg #[.slice (some ⟨b, 0, none⟩) g.ins.length e0, .slice (some ⟨t, 0, none⟩) L.length e1, .slice (some ⟨gm, 0, none⟩) g.shown.length em], .agg #[.slice none 0 0, .slice none 0 0], .int .i64 4]) (by simp [results, Tryz.results11, go_sem, q0', q1', q2', y0', y1']) rfl ⟨⟨⟨g.ins, g.wins.set i.toNat r, g.shown⟩, L, [], [], _, _, _, _, none, none, _, _, _, 0, 0, w8.heap.size, w8.heap.size, rfl, .inr ⟨HI.out, r, 0, HP.out, .inr (.inr ⟨rfl, g.shown, by rw [← HLL.out]; exact HCO.out, rfl⟩)⟩, HLL.out, by omega, Nat.le_refl _, Nat.le_refl _, .inr ⟨b, t, rfl, rfl, hf8.widen (by omega) (by omega)⟩, .inl rfl, .inl rfl, hcap⟩, B8⟩
    · have HCO : Hid (ComeP (L.map (·.l)) g.shown j (valsM (L.map (·.l)) out) j 1) := hcome
      clear hcome
      obtain ⟨u0, u1, u2, v0, v1, v2⟩ := id t3
      generalize valsM (L.map (·.l)) out = sv at *
      have HC := settled_shows (some ⟨b, 0, none⟩) (some ⟨t, 0, none⟩) (some ⟨gm, 0, none⟩) ja g.ins.length L.length g.shown.length e0 e1 em gv sv.length cv cj j w3 hjs h4.row
      go_wp2_with fail
      refine HC.mono ?_
      rintro e w4 ⟨⟨gs, cs, rfl, hgs, hcs, hos⟩, b4⟩
      have t4 := t3.keep b4
      have hlt4 : w1.heap.size < w4.heap.size := block_lt_of_cell t4.c0
      have ne4 : w1.heap.size ≠ w4.heap.size := by omega
      clear u0 u1 u2 v0 v1 v2 HC
      obtain ⟨u0, u1, u2, v0, v1, v2⟩ := id t4
      obtain ⟨V5, h5'⟩ : ∃ V5, (((w4.setCell ⟨w1.heap.size, 0, none⟩ (.slice (some ⟨b, 0, none⟩) g.ins.length e0)).setCell ⟨w1.heap.size, 1, none⟩ (.slice (some ⟨t, 0, none⟩) L.length e1)).setCell ⟨w1.heap.size, 2, none⟩ (.slice ja j.length cj)).alloc (.cells #[.slice (some ⟨gv, 0, none⟩) sv.length cv, .slice (some ⟨gs, 0, none⟩) j.length cs] 39) = V5 := ⟨_, rfl⟩
      have sp5a : Span w1.heap.size (w1.heap.size + 1) w4 (((w4.setCell ⟨w1.heap.size, 0, none⟩ (.slice (some ⟨b, 0, none⟩) g.ins.length e0)).setCell ⟨w1.heap.size, 1, none⟩ (.slice (some ⟨t, 0, none⟩) L.length e1)).setCell ⟨w1.heap.size, 2, none⟩ (.slice ja j.length cj)) := (((Span.refl _ _ _).setCell (Nat.le_refl _) (Nat.lt_succ_self _) _ _).setCell (Nat.le_refl _) (Nat.lt_succ_self _) _ _).setCell (Nat.le_refl _) (Nat.lt_succ_self _) _ _
      have sp5 : Span w1.heap.size (w1.heap.size + 1) w4 V5 := by
        rw [← h5']
        have hb : Below _ (((w4.setCell ⟨w1.heap.size, 0, none⟩ (.slice (some ⟨b, 0, none⟩) g.ins.length e0)).setCell ⟨w1.heap.size, 1, none⟩ (.slice (some ⟨t, 0, none⟩) L.length e1)).setCell ⟨w1.heap.size, 2, none⟩ (.slice ja j.length cj)) _ := (Below.refl _ _).alloc (Nat.le_refl _) (.cells #[.slice (some ⟨gv, 0, none⟩) sv.length cv, .slice (some ⟨gs, 0, none⟩) j.length cs] 39)
        exact ⟨hb.os.trans sp5a.os, hb.tape.trans sp5a.tape, hb.output.trans sp5a.output, Nat.le_trans sp5a.size hb.size, fun k hk hn => (hb.block k (Nat.lt_of_lt_of_le hk sp5a.size)).trans (sp5a.block k hk hn)⟩
      have z5 : V5.heap.size = w4.heap.size + 1 := by rw [← h5']; simp
      have z4 := b4.size
      have tS := (((t4.set0 (.slice (some ⟨b, 0, none⟩) g.ins.length e0)).set1 (.slice (some ⟨t, 0, none⟩) L.length e1)).set2 (.slice ja j.length cj)).keep ((Below.refl _ _).alloc (Nat.le_refl _) (.cells #[.slice (some ⟨gv, 0, none⟩) sv.length cv, .slice (some ⟨gs, 0, none⟩) j.length cs] 39))
      have SV : (fun u : World => u.cell? ⟨w1.heap.size, 0, none⟩ = some (.slice (some ⟨b, 0, none⟩) g.ins.length e0) ∧ u.cell? ⟨w1.heap.size, 1, none⟩ = some (.slice (some ⟨t, 0, none⟩) L.length e1) ∧ u.cell? ⟨w1.heap.size, 2, none⟩ = some (.slice ja j.length cj) ∧ u.cell? ⟨w4.heap.size, 0, none⟩ = some (.slice (some ⟨gv, 0, none⟩) sv.length cv) ∧ u.cell? ⟨w4.heap.size, 1, none⟩ = some (.slice (some ⟨gs, 0, none⟩) j.length cs)) V5 := by
        rw [h5'] at tS
        refine ⟨tS.c0, tS.c1, tS.c2, ?_, ?_⟩
        · rw [← h5']; simp [go_sem]
        · rw [← h5']; simp [go_sem]
      have HV5 : Hid (((((w4.setCell ⟨w1.heap.size, 0, none⟩ (.slice (some ⟨b, 0, none⟩) g.ins.length e0)).setCell ⟨w1.heap.size, 1, none⟩ (.slice (some ⟨t, 0, none⟩) L.length e1)).setCell ⟨w1.heap.size, 2, none⟩ (.slice ja j.length cj)).alloc (.cells #[.slice (some ⟨gv, 0, none⟩) sv.length cv, .slice (some ⟨gs, 0, none⟩) j.length cs] 39)) = V5) := h5'
      clear h5' sp5a
      replace x0 := cell_on b4 (by omega) x0
      replace x1 := cell_on b4 (by omega) x1
      replace x2 := cell_on b4 (by omega) x2
      replace y0 := cell_on b4 (by omega) y0
      replace y1 := cell_on b4 (by omega) y1
      have kx4 : ∀ q, w4.frozen? ⟨w.heap.size + 1 + 1, q, none⟩ = false := fun q => (b4.frozen (p := ⟨w.heap.size + 1 + 1, q, none⟩) (by simp only; omega)).trans (kx q)
      have ky4 : ∀ q, w4.frozen? ⟨w.heap.size + 1 + 1 + 1, q, none⟩ = false := fun q => (b4.frozen (p := ⟨w.heap.size + 1 + 1 + 1, q, none⟩) (by simp only; omega)).trans (ky q)
      have hw24 : w.heap.size + 4 ≤ w4.heap.size := by omega
      have hc5 : ∀ bb q v, w4.cell? ⟨bb, q, none⟩ = some v → bb < w.heap.size + 4 → V5.cell? ⟨bb, q, none⟩ = some v := fun bb q v hv hb => by rw [World.cell?_of_block (sp5.block bb (block_lt_of_cell hv) (by omega))]; exact hv
      have hq5 : ∀ bb q, w4.frozen? ⟨bb, q, none⟩ = false → bb < w.heap.size + 4 → V5.frozen? ⟨bb, q, none⟩ = false := fun bb q hv hb => by rw [World.frozen?_of_block (sp5.block bb (by omega) (by omega))]; exact hv
      go_wp2_with fail
      rw [HV5.out]
      clear HV5 u0 u1 u2 v0 v1 v2
      have hbd : Below V5.heap.size V5 V5.drew := (Below.refl _ _).drew
      have HSB : Hid (∀ u : World, (∀ k, w1.heap.size ≤ k → k < V5.heap.size → u.heap[k]? = V5.heap[k]?) → u.cell? ⟨w1.heap.size, 0, none⟩ = some (.slice (some ⟨b, 0, none⟩) g.ins.length e0) ∧ u.cell? ⟨w1.heap.size, 1, none⟩ = some (.slice (some ⟨t, 0, none⟩) L.length e1) ∧ u.cell? ⟨w1.heap.size, 2, none⟩ = some (.slice ja j.length cj) ∧ u.cell? ⟨w4.heap.size, 0, none⟩ = some (.slice (some ⟨gv, 0, none⟩) sv.length cv) ∧ u.cell? ⟨w4.heap.size, 1, none⟩ = some (.slice (some ⟨gs, 0, none⟩) j.length cs)) := fun u hu => ⟨(World.cell?_of_block (hu w1.heap.size (Nat.le_refl _) (by omega))).trans SV.1, (World.cell?_of_block (hu w1.heap.size (Nat.le_refl _) (by omega))).trans SV.2.1, (World.cell?_of_block (hu w1.heap.size (Nat.le_refl _) (by omega))).trans SV.2.2.1, (World.cell?_of_block (hu w4.heap.size (by omega) (by omega))).trans SV.2.2.2.1, (World.cell?_of_block (hu w4.heap.size (by omega) (by omega))).trans SV.2.2.2.2⟩
      have SW : (fun u : World => u.cell? ⟨w1.heap.size, 0, none⟩ = some (.slice (some ⟨b, 0, none⟩) g.ins.length e0) ∧ u.cell? ⟨w1.heap.size, 1, none⟩ = some (.slice (some ⟨t, 0, none⟩) L.length e1) ∧ u.cell? ⟨w1.heap.size, 2, none⟩ = some (.slice ja j.length cj) ∧ u.cell? ⟨w4.heap.size, 0, none⟩ = some (.slice (some ⟨gv, 0, none⟩) sv.length cv) ∧ u.cell? ⟨w4.heap.size, 1, none⟩ = some (.slice (some ⟨gs, 0, none⟩) j.length cs)) V5.drew := HSB.out _ (fun k _ hk => hbd.block k hk)
      have km := Tryz.methShows (.agg #[.slice (some ⟨gv, 0, none⟩) sv.length cv, .slice ja j.length cj])
      refine wp_region_held_drew (S := fun u => u.cell? ⟨w1.heap.size, 0, none⟩ = some (.slice (some ⟨b, 0, none⟩) g.ins.length e0) ∧ u.cell? ⟨w1.heap.size, 1, none⟩ = some (.slice (some ⟨t, 0, none⟩) L.length e1) ∧ u.cell? ⟨w1.heap.size, 2, none⟩ = some (.slice ja j.length cj) ∧ u.cell? ⟨w4.heap.size, 0, none⟩ = some (.slice (some ⟨gv, 0, none⟩) sv.length cv) ∧ u.cell? ⟨w4.heap.size, 1, none⟩ = some (.slice (some ⟨gs, 0, none⟩) j.length cs)) (by kernel_rfl) SW (fun _ => ?_)
      refine wpAnyH_take (i := 0) (v := .agg #[.slice (some ⟨b, 0, none⟩) g.ins.length e0, .slice (some ⟨t, 0, none⟩) L.length e1, .slice ja j.length cj]) rfl (by kernel_rfl) (by kernel_rfl) (by kernel_rfl) (fun _ _ _ h => h) (Or.inl ⟨by rfl, ?_⟩) SW ?_
      · rintro u ⟨p1, p2, p3, p4, p5⟩
        go_simp
      simp only [Act.put, List.setIfInBounds_toArray]
      refine wpAnyH_take (i := 1) (v := .agg #[.slice (some ⟨gv, 0, none⟩) sv.length cv, .slice (some ⟨gs, 0, none⟩) j.length cs]) rfl (by kernel_rfl) (by kernel_rfl) (by kernel_rfl) (fun _ _ _ h => h) (Or.inl ⟨by rfl, ?_⟩) SW ?_
      · rintro u ⟨p1, p2, p3, p4, p5⟩
        go_simp
      simp only [Act.put]
      refine wpAnyH_take (i := 2) (v := .iface 165 (.agg #[.slice (some ⟨gv, 0, none⟩) sv.length cv, .slice ja j.length cj])) rfl (by kernel_rfl) (by kernel_rfl) (by kernel_rfl) (fun _ _ _ h => h) (Or.inl ⟨by rfl, ?_⟩) SW ?_
      · rintro u ⟨p1, p2, p3, p4, p5⟩
        go_simp
      simp only [Act.put]
      refine wpAnyH_ready (rs := [3]) (by kernel_rfl) (by simp) ?_
      refine AllReadyH.cons rfl (fun K hK => ?_) AllReadyH.nil
      rw [if_pos (by rfl)]
      go_simp
      refine (code_shows _ _ _).mono ?_
      rintro e w6 ⟨rfl, b6⟩
      have b56 : Below V5.heap.size V5 w6 := hbd.trans (b6.mono hbd.size)
      have z6 := b56.size
      have S6 : (fun u : World => u.cell? ⟨w1.heap.size, 0, none⟩ = some (.slice (some ⟨b, 0, none⟩) g.ins.length e0) ∧ u.cell? ⟨w1.heap.size, 1, none⟩ = some (.slice (some ⟨t, 0, none⟩) L.length e1) ∧ u.cell? ⟨w1.heap.size, 2, none⟩ = some (.slice ja j.length cj) ∧ u.cell? ⟨w4.heap.size, 0, none⟩ = some (.slice (some ⟨gv, 0, none⟩) sv.length cv) ∧ u.cell? ⟨w4.heap.size, 1, none⟩ = some (.slice (some ⟨gs, 0, none⟩) j.length cs)) w6 := HSB.out _ (fun k _ hk => b56.block k hk)
      refine hK.out _ _ S6 (fun _ => ?_)
      clear hK K SW
      have x06 := cell_on b56 (by omega) (hc5 _ _ _ x0 (by omega))
      have x16 := cell_on b56 (by omega) (hc5 _ _ _ x1 (by omega))
      have x26 := cell_on b56 (by omega) (hc5 _ _ _ x2 (by omega))
      have y06 := cell_on b56 (by omega) (hc5 _ _ _ y0 (by omega))
      have y16 := cell_on b56 (by omega) (hc5 _ _ _ y1 (by omega))
      have kx6 : ∀ q, w6.frozen? ⟨w.heap.size + 1 + 1, q, none⟩ = false := fun q => (b56.frozen (p := ⟨w.heap.size + 1 + 1, q, none⟩) (by simp only; omega)).trans (hq5 _ q (kx4 q) (by omega))
      have ky6 : ∀ q, w6.frozen? ⟨w.heap.size + 1 + 1 + 1, q, none⟩ = false := fun q => (b56.frozen (p := ⟨w.heap.size + 1 + 1 + 1, q, none⟩) (by simp only; omega)).trans (hq5 _ q (ky4 q) (by omega))
      clear x0 x1 x2 y0 y1 kx ky kx4 ky4 hc5 hq5 km
      refine wpAnyH_ready (rs := [4]) (by kernel_rfl) (by simp) ?_
      refine AllReadyH.cons rfl (fun K hK => ?_) AllReadyH.nil
      rw [if_pos (by rfl)]
      go_simp
      obtain ⟨w7, h7⟩ : ∃ w7, ((w6.setCell ⟨w.heap.size + 1 + 1, 0, none⟩ (.slice (some ⟨b, 0, none⟩) g.ins.length e0)).setCell ⟨w.heap.size + 1 + 1, 1, none⟩ (.slice (some ⟨t, 0, none⟩) L.length e1)).setCell ⟨w.heap.size + 1 + 1, 2, none⟩ (.slice ja j.length cj) = w7 := ⟨_, rfl⟩
      have sp7 : Span (w.heap.size + 2) (w.heap.size + 4) w6 w7 := by rw [← h7]; exact (((Span.refl _ _ _).setCell (by omega) (by omega) _ _).setCell (by omega) (by omega) _ _).setCell (by omega) (by omega) _ _
      have q0 : w7.cell? ⟨w.heap.size + 1 + 1, 0, none⟩ = some (.slice (some ⟨b, 0, none⟩) g.ins.length e0) := by rw [← h7]; simp [go_sem, x06]
      have q1 : w7.cell? ⟨w.heap.size + 1 + 1, 1, none⟩ = some (.slice (some ⟨t, 0, none⟩) L.length e1) := by rw [← h7]; simp [go_sem, x16]
      have q2 : w7.cell? ⟨w.heap.size + 1 + 1, 2, none⟩ = some (.slice ja j.length cj) := by rw [← h7]; simp [go_sem, x26]
      have y07 : w7.cell? ⟨w.heap.size + 1 + 1 + 1, 0, none⟩ = some (.slice none 0 0) := by rw [← h7]; simp [go_sem, y06]
      have y17 : w7.cell? ⟨w.heap.size + 1 + 1 + 1, 1, none⟩ = some (.slice none 0 0) := by rw [← h7]; simp [go_sem, y16]
      have ky7 : ∀ q, w7.frozen? ⟨w.heap.size + 1 + 1 + 1, q, none⟩ = false := fun q => by rw [← h7]; simp [go_sem, ky6]
      have S7 : (fun u : World => u.cell? ⟨w1.heap.size, 0, none⟩ = some (.slice (some ⟨b, 0, none⟩) g.ins.length e0) ∧ u.cell? ⟨w1.heap.size, 1, none⟩ = some (.slice (some ⟨t, 0, none⟩) L.length e1) ∧ u.cell? ⟨w1.heap.size, 2, none⟩ = some (.slice ja j.length cj) ∧ u.cell? ⟨w4.heap.size, 0, none⟩ = some (.slice (some ⟨gv, 0, none⟩) sv.length cv) ∧ u.cell? ⟨w4.heap.size, 1, none⟩ = some (.slice (some ⟨gs, 0, none⟩) j.length cs)) w7 := HSB.out _ (fun k hk hk2 => (sp7.block k (by omega) (by omega)).trans (b56.block k hk2))
      rw [h7]
      clear h7
      refine hK.out _ _ S7 (fun _ => ?_)
      clear hK K S6
      refine wpAnyH_ready (rs := [5]) (by kernel_rfl) (by simp) ?_
      refine AllReadyH.cons rfl (fun K hK => ?_) AllReadyH.nil
      rw [if_pos (by rfl)]
      go_simp
      obtain ⟨w8, h8⟩ : ∃ w8, (w7.setCell ⟨w.heap.size + 1 + 1 + 1, 0, none⟩ (.slice (some ⟨gv, 0, none⟩) sv.length cv)).setCell ⟨w.heap.size + 1 + 1 + 1, 1, none⟩ (.slice (some ⟨gs, 0, none⟩) j.length cs) = w8 := ⟨_, rfl⟩
      have sp8 : Span (w.heap.size + 2) (w.heap.size + 4) w6 w8 := by rw [← h8]; exact (sp7.setCell (by omega) (by omega) _ _).setCell (by omega) (by omega) _ _
      have q0' : w8.cell? ⟨w.heap.size + 1 + 1, 0, none⟩ = some (.slice (some ⟨b, 0, none⟩) g.ins.length e0) := by rw [← h8]; simp [go_sem, q0]
      have q1' : w8.cell? ⟨w.heap.size + 1 + 1, 1, none⟩ = some (.slice (some ⟨t, 0, none⟩) L.length e1) := by rw [← h8]; simp [go_sem, q1]
      have q2' : w8.cell? ⟨w.heap.size + 1 + 1, 2, none⟩ = some (.slice ja j.length cj) := by rw [← h8]; simp [go_sem, q2]
      have y0' : w8.cell? ⟨w.heap.size + 1 + 1 + 1, 0, none⟩ = some (.slice (some ⟨gv, 0, none⟩) sv.length cv) := by rw [← h8]; simp [go_sem, y07]
      have y1' : w8.cell? ⟨w.heap.size + 1 + 1 + 1, 1, none⟩ = some (.slice (some ⟨gs, 0, none⟩) j.length cs) := by rw [← h8]; simp [go_sem, y17]
      have S8 : (fun u : World => u.cell? ⟨w1.heap.size, 0, none⟩ = some (.slice (some ⟨b, 0, none⟩) g.ins.length e0) ∧ u.cell? ⟨w1.heap.size, 1, none⟩ = some (.slice (some ⟨t, 0, none⟩) L.length e1) ∧ u.cell? ⟨w1.heap.size, 2, none⟩ = some (.slice ja j.length cj) ∧ u.cell? ⟨w4.heap.size, 0, none⟩ = some (.slice (some ⟨gv, 0, none⟩) sv.length cv) ∧ u.cell? ⟨w4.heap.size, 1, none⟩ = some (.slice (some ⟨gs, 0, none⟩) j.length cs)) w8 := HSB.out _ (fun k hk hk2 => (sp8.block k (by omega) (by omega)).trans (b56.block k hk2))
      rw [h8]
      clear h8 sp7 q0 q1 q2 y07 y17 ky7
      refine hK.out _ _ S8 (fun _ => ?_)
      clear hK K S7
      refine wpAnyH_ready (rs := [6]) (by kernel_rfl) (by simp) ?_
      refine AllReadyH.cons rfl (fun K hK => ?_) AllReadyH.nil
      rw [if_pos (by rfl)]
      go_simp
      refine hK.out _ _ S8 (fun _ => ?_)
      clear hK K
      refine wpAnyH_done (by kernel_rfl) ?_ _
      clear S8 HSB
      have z8 := sp8.size
      have B4 : Below w.heap.size w w4 := B1.trans ((b13.trans (b4.mono b13.size)).mono B1.size)
      have B8 : Below w.heap.size w w8 := (B4.trans (sp5.below (by omega) B4.size)).trans ((b56.mono (by omega)).trans (sp8.below (by omega) (by omega)))
      have hf8 := (((hf3.below b4).span sp5 (.inl (Nat.le_refl _))).below b56).span sp8 (.inr (by omega))
      have hj8 := (((h4.below b4).span sp5 (.inr (by omega))).below b56).span sp8 (.inr (by omega))
      have hz3 : SafeZ w3 mid w3.heap.size (some ⟨gv, 0, none⟩) sv := .inr ⟨gv, rfl, h5, h6.lt, h6⟩
      have hv8 := (((hz3.below b4).span sp5 (.inr (by omega))).below b56).span sp8 (.inr (by omega))
      have hs4 : Safe w4 w3.heap.size w4.heap.size (some ⟨gs, 0, none⟩) j := .inr ⟨gs, rfl, hgs, hos.lt, hos⟩
      have hs8 := ((hs4.span sp5 (.inr (by omega))).below b56).span sp8 (.inr (by omega))
      have hnew : FullG w8 W0.heap.size mid b t ja g.ins L j := by
        have hw := hf8.widen (Nat.le_refl W0.heap.size) (show w1.heap.size ≤ mid by omega)
        refine ⟨hw.names, hw.wins, hw.bt, hw.bin, hw.tin, hw.bfar, ?_⟩
        rcases hj8 with e | ⟨s, e, q1, q2, q3⟩
        · exact .inl e
        · have hbin := hf8.bin
          have htin := hf8.tin
          exact .inr ⟨s, e, by omega, q2, by omega, by omega, q3, fun p hp => .inr (by have := (hf8.wins.in_ p hp).2.2; omega)⟩
      clear hf8 hj8 hz3 hs4
      go_wp2_with fail
      exact bodyPost_ret (v := .tuple #[.agg #[.slice (some ⟨b, 0, none⟩) g.ins.length e0, .slice (some ⟨t, 0, none⟩) L.length e1, .slice ja j.length cj], .agg #[.slice (some ⟨gv, 0, none⟩) sv.length cv, .slice (some ⟨gs, 0, none⟩) j.length cs], .int .i64 1]) (by simp [results, Tryz.results11, go_sem, q0', q1', q2', y0', y1']) rfl ⟨⟨⟨g.ins, g.wins.set i.toNat r, j⟩, L, sv, j, 1, _, _, _, _, _, _, _, _, _, _, mid, w3.heap.size, rfl, .inr ⟨HI.out, r, 0, HP.out, .inr (.inr ⟨rfl, j, by rw [← HLL.out]; exact HCO.out, rfl⟩)⟩, HLL.out, by omega, h2, by omega, .inr ⟨b, t, rfl, rfl, hnew.widen (by omega) (Nat.le_refl _)⟩, hv8, hs8.widenS (Nat.le_refl _) (by omega), hcap⟩, B8⟩

end Go.Proofs.YtpfhegengmlkmacGreatDoor
/- The walk of the law FnExactWindowLast. -/
namespace Go.Proofs.YtpfhegengmlkmacGreatDoor
open Go.RowKit Go.BigFrame
set_option maxRecDepth 100000

theorem Span.of_below {lo hi : Nat} {w w' : World} (h : Below w.heap.size w w') : Span lo hi w w' := ⟨h.os, h.tape, h.output, h.size, fun k hk _ => h.block k hk⟩
theorem Span.cell {lo hi b o : Nat} {w w' : World} {v : Value} (h : Span lo hi w w') (hc : w.cell? ⟨b, o, none⟩ = some v) (hd : b < lo ∨ hi ≤ b) : w'.cell? ⟨b, o, none⟩ = some v :=
  (World.cell?_of_block (h.block b (block_lt_of_cell hc) hd)).trans hc

set_option maxHeartbeats 800000 in
theorem markItem_any (x : Int) (a : Option Addr) (cap lo hi : Nat) (m : List (ByteArray × Int)) (k : Int) (w : World) (hn : m.length ≤ 1048576) (hk0 : 0 ≤ k) (hk1 : k ≤ 10000000) (hs : Safe w lo hi a m) :
    Calls Tryz.prog 60 #[.agg #[.int .i64 x, .slice a m.length cap], .int .i64 k] w fun e w' => e = .returned (.int .i64 (k + 2 * (m.length : Int))) ∧ Safe w' lo hi a (marked k m.length) ∧ Span lo hi w w' := by
  have hb0 : Below w.heap.size w (w.alloc (.cells #[.int .i64 x, .slice a m.length cap] 44)) := (Below.refl _ _).alloc (Nat.le_refl _) _
  go_enter Tryz.func60, Tryz.ntmps60
  go_wp2_with fail
  refine (markSafe_any a cap lo hi m k _ hn hk0 hk1 (hs.below hb0)).mono ?_
  rintro e w1 ⟨rfl, hs1, sp1⟩
  have HS : Hid (Safe w1 lo hi a (marked k m.length) ∧ Span lo hi w w1) := ⟨hs1, (Span.of_below hb0).trans sp1⟩
  clear hs1 sp1
  go_wp2_with fail
  go_ret
  exact ⟨rfl, HS.out⟩

theorem isL_len {l : List ItemL} {x : Int} {m : List (ByteArray × Int)} {ok : Bool} (h : IsL l x m ok) : m.length ≤ 12 := by
  by_cases hp : WinP l ∧ 0 < l.length
  · have e := congrArg Prod.snd (h.1 hp).2
    simp only at e
    rw [e]
    exact (hp.1.2.1 (l.length - 1) (by omega)).1.1
  · rw [(h.2 hp).2.2]; simp

end Go.Proofs.YtpfhegengmlkmacGreatDoor
/- Walks: szFeed, toFeed, eqFeed, markFeed; eqShow, markShow, heldShow; szGather with sums; markGather of a copy. -/
namespace Go.Proofs.YtpfhegengmlkmacGreatDoor
open Go.RowKit Go.BigFrame
set_option maxRecDepth 100000

set_option maxHeartbeats 800000 in
theorem szFeed_any (i x : Int) (a : Option Addr) (c : Nat) (l : List (ByteArray × Int)) (left : Int) (w : World) (hr : Row w a l) (hf : FitM l) (h0 : 0 ≤ left) (h1 : left ≤ 1048576) :
    Calls Tryz.prog 7 #[.agg #[.int .i64 i, .int .i64 x, .slice a l.length c], .int .i64 left] w fun e w' => ∃ r : Int, e = .returned (.int .i64 r) ∧ -1 ≤ r ∧ r ≤ left ∧ (0 ≤ r → SmallM left l) ∧ Below w.heap.size w w' := by
  have hb0 : Below w.heap.size w (w.alloc (.cells #[.int .i64 i, .int .i64 x, .slice a l.length c] 30)) := (Below.refl _ _).alloc (Nat.le_refl _) _
  go_enter Tryz.func7, Tryz.ntmps7
  go_wp2_with fail
  refine (szItem_any x a c l left _ (hr.below hb0) hf h0 h1).mono ?_
  rintro e w1 ⟨r, rfl, hr0, hr1, hr2, b1⟩
  have B1 : Below w.heap.size w w1 := hb0.trans (b1.mono hb0.size)
  have HS : Hid (0 ≤ r → SmallM left l) := hr2
  clear hr2
  by_cases hneg : r < 0
  · go_wp2_with fail
    go_ret
    exact ⟨-1, rfl, by omega, by omega, fun h => by omega, B1⟩
  · go_wp2_with fail
    go_ret
    exact ⟨r, rfl, hr0, hr1, HS.out, B1⟩

set_option maxHeartbeats 1600000 in
theorem toFeed_any (i x : Int) (a : Option Addr) (c : Nat) (l : List (ByteArray × Int)) (w : World) (hr : Row w a l) (hl : l.length ≤ 1048576) :
    Calls Tryz.prog 10 #[.agg #[.int .i64 i, .int .i64 x, .slice a l.length c]] w fun e w' => (∃ b, w.heap.size ≤ b ∧ e = .returned (.agg #[.int .i64 i, .int .i64 x, .slice (some ⟨b, 0, none⟩) l.length l.length]) ∧ Own w' b l) ∧ Below w.heap.size w w' := by
  obtain ⟨W0, hW0⟩ : ∃ W0, ((w.alloc (.cells #[.int .i64 i, .int .i64 x, .slice a l.length c] 30)).alloc (.cells #[.int .i64 0, .int .i64 0, .slice none 0 0] 46)).alloc (.cells #[.int .i64 i, .int .i64 0, .slice none 0 0] 46) = W0 := ⟨_, rfl⟩
  have hz : W0.heap.size = w.heap.size + 3 := by rw [← hW0]; simp
  have hb0 : Below w.heap.size w W0 := by rw [← hW0]; exact (((Below.refl _ _).alloc (Nat.le_refl _) _).alloc (by simp) _).alloc (by simp; omega) _
  have tR : Tri W0 (w.heap.size + 1) (.int .i64 0) (.int .i64 0) (.slice none 0 0) := by rw [← hW0]; constructor <;> simp [go_sem]
  have tO : Tri W0 (w.heap.size + 1 + 1) (.int .i64 i) (.int .i64 0) (.slice none 0 0) := by rw [← hW0]; constructor <;> simp [go_sem]
  have HW : Hid ((((w.alloc (.cells #[.int .i64 i, .int .i64 x, .slice a l.length c] 30)).alloc (.cells #[.int .i64 0, .int .i64 0, .slice none 0 0] 46)).alloc (.cells #[.int .i64 i, .int .i64 0, .slice none 0 0] 46)) = W0) := hW0
  clear hW0
  go_enter Tryz.func10, Tryz.ntmps10
  go_wp2_with fail
  rw [HW.out]
  clear HW
  refine (toItem_any x a c l _ (hr.below hb0) hl).mono ?_
  rintro e w1 ⟨⟨b, hb, rfl, ho⟩, b1⟩
  have z1 := b1.size
  have B1 : Below w.heap.size w w1 := hb0.trans (b1.mono hb0.size)
  replace tR := tR.keep b1
  replace tO := tO.keep b1
  obtain ⟨o0, o1, o2, g0, g1, g2⟩ := id tO
  obtain ⟨r0, r1, r2, f0, f1, f2⟩ := id tR
  have ne1 : w.heap.size + 1 ≠ w.heap.size + 1 + 1 := by omega
  have ne2 : w.heap.size + 1 + 1 ≠ w.heap.size + 1 := by omega
  go_wp2_with fail
  obtain ⟨w9, h9⟩ : ∃ w9, ((((w1.setCell ⟨w.heap.size + 1 + 1, 1, none⟩ (.int .i64 x)).setCell ⟨w.heap.size + 1 + 1, 2, none⟩ (.slice (some ⟨b, 0, none⟩) l.length l.length)).setCell ⟨w.heap.size + 1, 0, none⟩ (.int .i64 i)).setCell ⟨w.heap.size + 1, 1, none⟩ (.int .i64 x)).setCell ⟨w.heap.size + 1, 2, none⟩ (.slice (some ⟨b, 0, none⟩) l.length l.length) = w9 := ⟨_, rfl⟩
  have sp : Span (w.heap.size + 1) (w.heap.size + 3) w1 w9 := by rw [← h9]; exact (((((Span.refl _ _ _).setCell (by omega) (by omega) _ _).setCell (by omega) (by omega) _ _).setCell (by omega) (by omega) _ _).setCell (by omega) (by omega) _ _).setCell (by omega) (by omega) _ _
  have n0 : w9.cell? ⟨w.heap.size + 1, 0, none⟩ = some (.int .i64 i) := by rw [← h9]; simp [go_sem, r0]
  have n1 : w9.cell? ⟨w.heap.size + 1, 1, none⟩ = some (.int .i64 x) := by rw [← h9]; simp [go_sem, r1]
  have n2 : w9.cell? ⟨w.heap.size + 1, 2, none⟩ = some (.slice (some ⟨b, 0, none⟩) l.length l.length) := by rw [← h9]; simp [go_sem, r2]
  have B9 : Below w.heap.size w w9 := B1.trans (sp.below (by omega) B1.size)
  have ho9 : Own w9 b l := by obtain ⟨mm, f, h7, hf⟩ := id ho; exact ⟨mm, f, h7.of_block (sp.block b ho.lt (by omega)), hf⟩
  rw [h9]
  clear h9
  exact bodyPost_ret (v := .agg #[.int .i64 i, .int .i64 x, .slice (some ⟨b, 0, none⟩) l.length l.length]) (by simp [results, Tryz.results10, go_sem, n0, n1, n2]) rfl ⟨⟨b, by omega, rfl, ho9⟩, B9⟩

set_option maxHeartbeats 800000 in
theorem eqFeed_same (i x : Int) (a1 a2 : Option Addr) (c1 c2 : Nat) (l : List (ByteArray × Int)) (w : World) (hl : l.length ≤ maxLen) (h1 : Row w a1 l) (h2 : Row w a2 l) :
    Calls Tryz.prog 14 #[.agg #[.int .i64 i, .int .i64 x, .slice a1 l.length c1], .agg #[.int .i64 i, .int .i64 x, .slice a2 l.length c2]] w fun e w' => e = .returned (.bool true) ∧ Below w.heap.size w w' := by
  have hb0 : Below w.heap.size w ((w.alloc (.cells #[.int .i64 i, .int .i64 x, .slice a1 l.length c1] 46)).alloc (.cells #[.int .i64 i, .int .i64 x, .slice a2 l.length c2] 46)) := ((Below.refl _ _).alloc (Nat.le_refl _) _).alloc (by simp) _
  go_enter Tryz.func14, Tryz.ntmps14
  go_wp2_with fail
  refine (eqItem_same x a1 a2 c1 c2 l _ hl (h1.below hb0) (h2.below hb0)).mono ?_
  rintro e w1 ⟨rfl, b1⟩
  go_wp2_with fail
  go_ret
  exact ⟨rfl, hb0.trans (b1.mono hb0.size)⟩

set_option maxHeartbeats 800000 in
theorem markFeed_any (i x : Int) (a : Option Addr) (cap lo hi : Nat) (m : List (ByteArray × Int)) (k : Int) (w : World) (hn : m.length ≤ 1048576) (hk0 : 0 ≤ k) (hk1 : k ≤ 10000000) (hs : Safe w lo hi a m) :
    Calls Tryz.prog 16 #[.agg #[.int .i64 i, .int .i64 x, .slice a m.length cap], .int .i64 k] w fun e w' => e = .returned (.int .i64 (k + 2 * (m.length : Int))) ∧ Span lo hi w w' := by
  have hb0 : Below w.heap.size w (w.alloc (.cells #[.int .i64 i, .int .i64 x, .slice a m.length cap] 46)) := (Below.refl _ _).alloc (Nat.le_refl _) _
  go_enter Tryz.func16, Tryz.ntmps16
  go_wp2_with fail
  generalize w.alloc (.cells #[.int .i64 i, .int .i64 x, .slice a m.length cap] 46) = W0 at *
  refine (markItem_any x a cap lo hi m k _ hn hk0 hk1 (hs.below hb0)).mono ?_
  rintro e w1 ⟨rfl, _, s1⟩
  go_wp2_with fail
  go_ret
  have sA : Span lo hi w W0 := ⟨hb0.os, hb0.tape, hb0.output, hb0.size, fun i hi _ => hb0.block i hi⟩
  exact ⟨rfl, sA.trans s1⟩

set_option maxHeartbeats 800000 in
theorem eqShow_same (a1 a2 b1 b2 : Option Addr) (c1 c2 d1 d2 : Nat) (sv : List Int) (ss : List (ByteArray × Int)) (w : World) (hv : sv.length ≤ maxLen) (hl : ss.length ≤ maxLen) (h1 : RowZ w a1 sv) (h2 : Row w a2 ss) (h3 : RowZ w b1 sv) (h4 : Row w b2 ss) :
    Calls Tryz.prog 13 #[.agg #[.slice a1 sv.length c1, .slice a2 ss.length c2], .agg #[.slice b1 sv.length d1, .slice b2 ss.length d2]] w fun e w' => e = .returned (.bool true) ∧ Below w.heap.size w w' := by
  have hb0 : Below w.heap.size w ((w.alloc (.cells #[.slice a1 sv.length c1, .slice a2 ss.length c2] 39)).alloc (.cells #[.slice b1 sv.length d1, .slice b2 ss.length d2] 39)) := ((Below.refl _ _).alloc (Nat.le_refl _) _).alloc (by simp) _
  have d1' : ((w.alloc (.cells #[.slice a1 sv.length c1, .slice a2 ss.length c2] 39)).alloc (.cells #[.slice b1 sv.length d1, .slice b2 ss.length d2] 39)).cell? ⟨w.heap.size, 1, none⟩ = some (.slice a2 ss.length c2) := by simp [go_sem]
  have d2' : ((w.alloc (.cells #[.slice a1 sv.length c1, .slice a2 ss.length c2] 39)).alloc (.cells #[.slice b1 sv.length d1, .slice b2 ss.length d2] 39)).cell? ⟨w.heap.size + 1, 1, none⟩ = some (.slice b2 ss.length d2) := by simp [go_sem]
  go_enter Tryz.func13, Tryz.ntmps13
  go_wp2_with fail
  generalize (w.alloc (.cells #[.slice a1 sv.length c1, .slice a2 ss.length c2] 39)).alloc (.cells #[.slice b1 sv.length d1, .slice b2 ss.length d2] 39) = W0 at *
  refine (eqIntS_same a1 b1 c1 d1 sv _ hv (h1.below hb0) (h3.below hb0)).mono ?_
  rintro e w1 ⟨rfl, b1'⟩
  have B1 : Below w.heap.size w w1 := hb0.trans (b1'.mono hb0.size)
  replace d1' := cell_on b1' (block_lt_of_cell d1') d1'
  replace d2' := cell_on b1' (block_lt_of_cell d2') d2'
  go_wp2_with fail
  refine (eqMarkS_same a2 b2 c2 d2 ss _ hl (h2.below B1) (h4.below B1)).mono ?_
  rintro e w2 ⟨rfl, b2'⟩
  go_wp2_with fail
  go_ret
  exact ⟨rfl, B1.trans (b2'.mono B1.size)⟩

set_option maxHeartbeats 800000 in
theorem markShow_any (a1 a2 : Option Addr) (c1 c2 h1 h2 h3 : Nat) (sv : List Int) (ss : List (ByteArray × Int)) (k : Int) (w : World) (hv : sv.length ≤ 6) (hl : ss.length ≤ 12) (hk0 : 0 ≤ k) (hk1 : k ≤ 100000) (h12 : h1 ≤ h2) (h23 : h2 ≤ h3) (hz3 : h3 ≤ w.heap.size) (hs1 : SafeZ w h1 h2 a1 sv) (hs2 : Safe w h2 h3 a2 ss) :
    Calls Tryz.prog 17 #[.agg #[.slice a1 sv.length c1, .slice a2 ss.length c2], .int .i64 k] w fun e w' => e = .returned (.int .i64 (k + (sv.length : Int) + 2 * (ss.length : Int))) ∧ SafeZ w' h1 h2 a1 (numsZ k sv.length) ∧ Safe w' h2 h3 a2 (marked (k + (sv.length : Int)) ss.length) ∧ Span h1 h3 w w' := by
  have hb0 : Below w.heap.size w (w.alloc (.cells #[.slice a1 sv.length c1, .slice a2 ss.length c2] 39)) := (Below.refl _ _).alloc (Nat.le_refl _) _
  have d1' : (w.alloc (.cells #[.slice a1 sv.length c1, .slice a2 ss.length c2] 39)).cell? ⟨w.heap.size, 1, none⟩ = some (.slice a2 ss.length c2) := by simp [go_sem]
  go_enter Tryz.func17, Tryz.ntmps17
  go_wp2_with fail
  generalize w.alloc (.cells #[.slice a1 sv.length c1, .slice a2 ss.length c2] 39) = W0 at *
  refine (markSafeZ_any a1 c1 h1 h2 sv k _ (by omega) hk0 (by omega) (hs1.below hb0)).mono ?_
  rintro e w1 ⟨rfl, hs1', s1⟩
  have d1'' : w1.cell? ⟨w.heap.size, 1, none⟩ = some (.slice a2 ss.length c2) := by rw [World.cell?_of_block (s1.block w.heap.size (block_lt_of_cell d1') (by omega))]; exact d1'
  clear d1'
  go_wp2_with fail
  refine (markSafe_any a2 c2 h2 h3 ss (k + (sv.length : Int)) _ (by omega) (by omega) (by omega) ((hs2.below hb0).span s1 (.inr (Nat.le_refl _)))).mono ?_
  rintro e w2 ⟨rfl, hs2', s2⟩
  go_wp2_with fail
  go_ret
  have sA : Span h1 h3 w W0 := ⟨hb0.os, hb0.tape, hb0.output, hb0.size, fun i hi _ => hb0.block i hi⟩
  exact ⟨rfl, hs1'.span s2 (.inl (Nat.le_refl _)), hs2', (sA.trans (s1.wide (Nat.le_refl _) h23)).trans (s2.wide h12 (Nat.le_refl _))⟩

set_option maxHeartbeats 800000 in
theorem heldShow_any (a1 a2 : Option Addr) (c1 c2 n s : Nat) (k : Int) (w : World) (hv : n ≤ 6) (hl : s ≤ 12) (hk0 : 0 ≤ k) (hk1 : k ≤ 100000) (hr1 : RowZ w a1 (numsZ k n)) (hr2 : Row w a2 (marked (k + (n : Int)) s)) :
    Calls Tryz.prog 19 #[.agg #[.slice a1 n c1, .slice a2 s c2], .int .i64 k] w fun e w' => e = .returned (.int .i64 (k + (n : Int) + 2 * (s : Int))) ∧ Below w.heap.size w w' := by
  have hb0 : Below w.heap.size w (w.alloc (.cells #[.slice a1 n c1, .slice a2 s c2] 39)) := (Below.refl _ _).alloc (Nat.le_refl _) _
  have d1' : (w.alloc (.cells #[.slice a1 n c1, .slice a2 s c2] 39)).cell? ⟨w.heap.size, 1, none⟩ = some (.slice a2 s c2) := by simp [go_sem]
  go_enter Tryz.func19, Tryz.ntmps19
  go_wp2_with fail
  generalize w.alloc (.cells #[.slice a1 n c1, .slice a2 s c2] 39) = W0 at *
  refine (heldIntS_any a1 c1 n k _ (by omega) hk0 (by omega) (hr1.below hb0)).mono ?_
  rintro e w1 ⟨rfl, b1⟩
  have B1 : Below w.heap.size w w1 := hb0.trans (b1.mono hb0.size)
  replace d1' := cell_on b1 (block_lt_of_cell d1') d1'
  have hneg : ¬ k + (n : Int) < 0 := by omega
  go_wp2_with fail
  refine (heldMarkS_any a2 c2 s (k + (n : Int)) _ (by omega) (by omega) (by omega) (hr2.below B1)).mono ?_
  rintro e w2 ⟨rfl, b2⟩
  have hneg2 : ¬ k + (n : Int) + 2 * (s : Int) < 0 := by omega
  go_wp2_with fail
  go_ret
  exact ⟨rfl, B1.trans (b2.mono B1.size)⟩

set_option maxHeartbeats 800000 in
theorem szGather_w (a0 a1 a2 : Option Addr) (c0 c1 c2 : Nat) (g : GatL) (left : Int) (w : World) (r0 : RowS w a0 g.ins) (r1 : RowW w a1 g.wins) (r2 : Row w a2 g.shown) (hf : FitG g) (h0 : 0 ≤ left) (h1 : left ≤ 1048576) :
    Calls Tryz.prog 6 #[.agg #[.slice a0 g.ins.length c0, .slice a1 g.wins.length c1, .slice a2 g.shown.length c2], .int .i64 left] w fun e w' => ∃ r : Int, e = .returned (.int .i64 r) ∧ -1 ≤ r ∧ r ≤ left ∧ (0 ≤ r → SmallG left g ∧ (lensW g.wins : Int) ≤ left) ∧ Below w.heap.size w w' := by
  have hb0 : Below w.heap.size w (w.alloc (.cells #[.slice a0 g.ins.length c0, .slice a1 g.wins.length c1, .slice a2 g.shown.length c2] 26)) := (Below.refl _ _).alloc (Nat.le_refl _) _
  have hlt := box_lt w (.cells #[.slice a0 g.ins.length c0, .slice a1 g.wins.length c1, .slice a2 g.shown.length c2] 26)
  have d1 : (w.alloc (.cells #[.slice a0 g.ins.length c0, .slice a1 g.wins.length c1, .slice a2 g.shown.length c2] 26)).cell? ⟨w.heap.size, 1, none⟩ = some (.slice a1 g.wins.length c1) := by simp [go_sem]
  have d2 : (w.alloc (.cells #[.slice a0 g.ins.length c0, .slice a1 g.wins.length c1, .slice a2 g.shown.length c2] 26)).cell? ⟨w.heap.size, 2, none⟩ = some (.slice a2 g.shown.length c2) := by simp [go_sem]
  go_enter Tryz.func6, Tryz.ntmps6
  go_wp2_with fail
  generalize w.alloc (.cells #[.slice a0 g.ins.length c0, .slice a1 g.wins.length c1, .slice a2 g.shown.length c2] 26) = W0 at *
  refine (szStringS_any a0 c0 g.ins left _ hf.ins.1 (r0.below hb0) hf.ins.2 h0 h1).mono ?_
  rintro e w1 ⟨⟨r, rfl, hr0, hr1, hr2⟩, rfl⟩
  have HS : Hid (0 ≤ r → SmallS left g.ins) := hr2
  clear hr2
  by_cases hneg : r < 0
  · go_wp2_with fail
    go_ret
    exact ⟨-1, rfl, by omega, by omega, fun h => by omega, hb0⟩
  go_wp2_with fail
  refine (szItemSS_w a1 c1 g.wins r _ (r1.below hb0) hf.wins (by omega) (by omega)).mono ?_
  rintro e w2 ⟨r', rfl, hs0, hs1, hs2, b2⟩
  have HW : Hid (0 ≤ r' → (lensW g.wins : Int) ≤ r ∧ SmallW r g.wins) := hs2
  clear hs2
  have B2 : Below w.heap.size w w2 := hb0.trans (b2.mono hb0.size)
  replace d2 := cell_on b2 hlt d2
  by_cases hneg2 : r' < 0
  · go_wp2_with fail
    go_ret
    exact ⟨-1, rfl, by omega, by omega, fun h => by omega, B2⟩
  go_wp2_with fail
  refine (szMarkS_any a2 c2 g.shown r' _ hf.shown.1 (r2.below B2) hf.shown.2 (by omega) (by omega)).mono ?_
  rintro e w3 ⟨r'', rfl, ht0, ht1, ht2, b3⟩
  have HM : Hid (0 ≤ r'' → SmallM r' g.shown) := ht2
  clear ht2
  have B3 : Below w.heap.size w w3 := B2.trans (b3.mono B2.size)
  by_cases hneg3 : r'' < 0
  · go_wp2_with fail
    go_ret
    exact ⟨-1, rfl, by omega, by omega, fun h => by omega, B3⟩
  go_wp2_with fail
  go_ret
  exact ⟨r'', rfl, ht0, by omega, fun h => ⟨⟨HS.out (by omega), (HW.out (by omega)).2.mono hr1, (HM.out h).mono (by omega)⟩, by have := (HW.out (by omega)).1; omega⟩, B3⟩

theorem PartW.spanBelow {w w' : World} {lo T g k lo' hi' : Nat} {ws : List (List ItemL)} (h : PartW w lo T g ws k) (hs : Span lo' hi' w w') (hd : hi' ≤ g) (hg : g < lo) : PartW w' lo T g ws k := by
  obtain ⟨L, U, G, f, h, hf, hd'⟩ := h
  refine ⟨L, U, G, f, h.of_block (hs.block g h.lt (.inr hd)), fun j hj hk => ?_, hd'⟩
  obtain ⟨h1, h2, h3, h4, h5, h6⟩ := hf j hj hk
  exact ⟨h1, h2.span h4 h5 hs (.inr (by omega)), h3, h4, h5, h6⟩

set_option maxHeartbeats 1600000 in
/-- A copied gather is marked: only its own blocks turn. -/
theorem markX_any (b0 b1 b2 lo hi d0 d1 d2 : Nat) (g : GatL) (w : World) (hs : SmallG 1048576 g) (hsum : lensW g.wins ≤ 1048576) (h01 : b0 < b1) (h1l : b1 < lo) (hlh : lo ≤ hi) (hh2 : hi ≤ b2) (hp0 : PartS w b0 g.ins g.ins.length) (hp1 : PartW w lo hi b1 g.wins g.wins.length) (hp2 : Own w b2 g.shown) :
    Calls Tryz.prog 15 #[.agg #[.slice (some ⟨b0, 0, none⟩) g.ins.length d0, .slice (some ⟨b1, 0, none⟩) g.wins.length d1, .slice (some ⟨b2, 0, none⟩) g.shown.length d2], .int .i64 1] w fun e w' => (∃ k' : Int, e = .returned (.int .i64 k') ∧ 0 ≤ k' ∧ k' ≤ 9000000) ∧ Span b0 (b2 + 1) w w' := by
  have hl0 : g.ins.length ≤ 1048576 := by have := hs.ins.1; omega
  have hl1 : g.wins.length ≤ 1048576 := by have := hs.wins.1; omega
  have hl2 : g.shown.length ≤ 1048576 := by have := hs.shown.1; omega
  have hw2 := hp2.lt
  have hb0 : Below w.heap.size w (w.alloc (.cells #[.slice (some ⟨b0, 0, none⟩) g.ins.length d0, .slice (some ⟨b1, 0, none⟩) g.wins.length d1, .slice (some ⟨b2, 0, none⟩) g.shown.length d2] 36)) := (Below.refl _ _).alloc (Nat.le_refl _) _
  have tG := tri_new w (.slice (some ⟨b0, 0, none⟩) g.ins.length d0) (.slice (some ⟨b1, 0, none⟩) g.wins.length d1) (.slice (some ⟨b2, 0, none⟩) g.shown.length d2) 36
  obtain ⟨c0, c1, c2, _, _, _⟩ := id tG
  have HS : Hid (SmallG 1048576 g) := hs
  clear hs
  go_enter Tryz.func15, Tryz.ntmps15
  go_wp2_with fail
  generalize w.alloc (.cells #[.slice (some ⟨b0, 0, none⟩) g.ins.length d0, .slice (some ⟨b1, 0, none⟩) g.wins.length d1, .slice (some ⟨b2, 0, none⟩) g.shown.length d2] 36) = W0 at *
  have hz : w.heap.size < W0.heap.size := block_lt_of_cell tG.c0
  have hp0' : PartS W0 b0 g.ins g.ins.length := hp0.below (by omega) hb0
  refine (markStringS_any b0 d0 g.ins 1 _ hl0 (by omega) (by omega) hp0').mono ?_
  rintro e w1 ⟨rfl, m1⟩
  have s1 : Span b0 (b0 + 1) W0 w1 := m1.span (Nat.le_refl _) (Nat.lt_succ_self _)
  have c1' : w1.cell? ⟨w.heap.size, 1, none⟩ = some (.slice (some ⟨b1, 0, none⟩) g.wins.length d1) := by rw [World.cell?_of_block (s1.block w.heap.size hz (by omega))]; exact c1
  have c2' : w1.cell? ⟨w.heap.size, 2, none⟩ = some (.slice (some ⟨b2, 0, none⟩) g.shown.length d2) := by rw [World.cell?_of_block (s1.block w.heap.size hz (by omega))]; exact c2
  have hp1' : PartW w1 lo hi b1 g.wins g.wins.length := (hp1.below hb0).spanBelow s1 (by omega) (by omega)
  clear c0 c1 c2
  go_wp2_with fail
  refine (markItemSS_any b1 d1 lo hi g.wins (1 + (g.ins.length : Int)) _ hl1 h1l (by omega) (by omega) hsum HS.out.wins hp1').mono ?_
  rintro e w2 ⟨⟨k2, rfl, hk20, hk21⟩, s2⟩
  have c2'' : w2.cell? ⟨w.heap.size, 2, none⟩ = some (.slice (some ⟨b2, 0, none⟩) g.shown.length d2) := by rw [World.cell?_of_block (s2.block w.heap.size (block_lt_of_cell c2') (by omega))]; exact c2'
  have ho2 : Own w2 b2 g.shown := by
    have h1 := hp2.below hb0
    obtain ⟨mm, f, h7, hf⟩ := id h1
    have e1 := s1.block b2 h1.lt (by omega)
    have hl' : b2 < w1.heap.size := Nat.lt_of_lt_of_le h1.lt s1.size
    exact ⟨mm, f, h7.of_block ((s2.block b2 hl' (by omega)).trans e1), hf⟩
  clear c1' c2'
  go_wp2_with fail
  refine (markMarkS_any b2 d2 g.shown.length k2 _ hl2 hk20 (by omega) g.shown rfl ho2).mono ?_
  rintro e w3 ⟨rfl, _, m3⟩
  go_wp2_with fail
  go_ret
  have sA : Span b0 (b2 + 1) w W0 := ⟨hb0.os, hb0.tape, hb0.output, hb0.size, fun i hi _ => hb0.block i hi⟩
  exact ⟨⟨k2 + 2 * (g.shown.length : Int), rfl, by omega, by omega⟩, ((sA.trans (s1.wide (Nat.le_refl _) (by omega))).trans (s2.wide (by omega) (by omega))).trans ((m3.span (Nat.le_refl b2) (Nat.lt_succ_self b2)).wide (by omega) (Nat.le_refl _))⟩

end Go.Proofs.YtpfhegengmlkmacGreatDoor
/- A region that draws its order, by an invariant over which of its operations are done. -/
namespace Go.Proofs.YtpfhegengmlkmacGreatDoor
open Go.RowKit

/-- What operation i waits for. -/
def waits (ops : Array Oper) (i : Nat) : List Nat := match ops[i]? with
  | none => []
  | some o => (o.after.toList.filter (Region.binds .any)).map (·.on)
/-- Each waits for earlier ones alone. -/
def earlier (ops : Array Oper) : Bool := (List.range ops.size).all fun i => (waits ops i).all fun j => decide (j < i)

theorem mem_ready {ops : Array Oper} {listed : Array Bool} {i : Nat} : i ∈ Region.ready .any ops listed ↔ i < ops.size ∧ listed.getD i true = false ∧ ∀ j ∈ waits ops i, listed.getD j false = true := by
  unfold Region.ready waits
  rw [List.mem_filter, List.mem_range]
  refine and_congr_right fun hi => ?_
  rw [Array.getElem?_eq_getElem hi]
  simp only [Option.map_some, Option.getD_some, Bool.and_eq_true, Bool.not_eq_true', List.mem_map, List.mem_filter]
  refine and_congr_right fun _ => ?_
  rw [Array.all_eq_true']
  constructor
  · rintro h j ⟨e, ⟨he, hb⟩, rfl⟩
    have := h e (by simpa using he)
    simpa [hb] using this
  · intro h e he
    by_cases hb : Region.binds .any e = true
    · simpa [hb] using h e.on ⟨e, ⟨by simpa using he, hb⟩, rfl⟩
    · simp [hb]

/-- f, and operation i done. -/
def andDone (f : Nat → Bool) (i : Nat) : Nat → Bool := fun k => if k = i then true else f k
theorem andDone_same (f : Nat → Bool) (i : Nat) : andDone f i i = true := if_pos rfl
theorem andDone_other (f : Nat → Bool) {i k : Nat} (h : k ≠ i) : andDone f i k = f k := if_neg h
/-- How many are still to come. -/
def toCome (n : Nat) (f : Nat → Bool) : Nat := ((List.range n).filter fun k => !f k).length
theorem toCome_step {n i : Nat} {f : Nat → Bool} (hi : i < n) (h : f i = false) : toCome n (andDone f i) < toCome n f := by
  unfold toCome
  have e : ((List.range n).filter fun k => !andDone f i k) = ((List.range n).filter fun k => !f k).filter fun k => decide (k ≠ i) := by
    rw [List.filter_filter]
    refine List.filter_congr fun k _ => ?_
    by_cases hk : k = i
    · subst hk; simp [andDone]
    · simp [andDone, hk]
  rw [e]
  refine List.length_filter_lt_length_iff_exists.2 ⟨i, ?_, by simp⟩
  simp [List.mem_filter, hi, h]
theorem earlier_spec {ops : Array Oper} (h : earlier ops = true) {i j : Nat} (hi : i < ops.size) (hj : j ∈ waits ops i) : j < i := by
  have h1 := List.all_eq_true.1 h i (List.mem_range.2 hi)
  simpa using List.all_eq_true.1 h1 j hj

/-- One obligation an operation. -/
theorem wpAny_inv {P : Program} {ops : Array Oper} {Q : Exit → Act → World → Prop} (Inv : (Nat → Bool) → Act → World → Prop) (he : earlier ops = true)
    (hstep : ∀ f a w i, Inv f a w → i < ops.size → f i = false → (∀ j ∈ waits ops i, f j = true) → wpOp P ops Q i (Inv (andDone f i)) a w)
    (hend : ∀ f a w, Inv f a w → (∀ i, i < ops.size → f i = true) → Q .normal a w) :
    ∀ (fuel : Nat) (listed : Array Bool) (f : Nat → Bool) (a : Act) (w : World), listed.size = ops.size → (∀ i, (h : i < listed.size) → listed[i] = f i) → toCome ops.size f ≤ fuel → Inv f a w → wpAny P .any ops Q fuel listed a w := by
  have hget : ∀ {listed : Array Bool} {f : Nat → Bool}, listed.size = ops.size → (∀ i, (h : i < listed.size) → listed[i] = f i) → ∀ i d, i < ops.size → listed.getD i d = f i := fun {listed f} hs hl i d hi => by
    rw [Array.getD_eq_getD_getElem?, Array.getElem?_eq_getElem (by omega)]
    exact hl i (by omega)
  have hall : ∀ {listed : Array Bool} {f : Nat → Bool}, listed.size = ops.size → (∀ i, (h : i < listed.size) → listed[i] = f i) → Region.ready .any ops listed = [] → ∀ i, i < ops.size → f i = true := fun {listed f} hs hl hr i => by
    induction i using Nat.strongRecOn with
    | _ i ih =>
      intro hi
      refine Classical.byContradiction fun hn => ?_
      have hm : i ∈ Region.ready .any ops listed := mem_ready.2 ⟨hi, by rw [hget hs hl i true hi]; simpa using hn, fun j hj => by
        have hji := earlier_spec he hi hj
        rw [hget hs hl j false (by omega)]
        exact ih j hji (by omega)⟩
      rw [hr] at hm
      simp at hm
  intro fuel
  induction fuel with
  | zero =>
    intro listed f a w hs hl hc hI
    have hr : Region.ready .any ops listed = [] := by
      refine List.eq_nil_iff_forall_not_mem.2 fun i hi => ?_
      obtain ⟨h1, h2, _⟩ := mem_ready.1 hi
      rw [hget hs hl i true h1] at h2
      have := toCome_step h1 h2
      omega
    exact ⟨hr, hend f a w hI (hall hs hl hr)⟩
  | succ fuel ih =>
    intro listed f a w hs hl hc hI
    refine ⟨fun hr => hend f a w hI (hall hs hl hr), fun i hi => ?_⟩
    obtain ⟨h1, h2, h3⟩ := mem_ready.1 hi
    rw [hget hs hl i true h1] at h2
    have h4 : ∀ j ∈ waits ops i, f j = true := fun j hj => by
      have hji := earlier_spec he h1 hj
      rw [← hget hs hl j false (by omega)]
      exact h3 j hj
    have hlt := toCome_step h1 h2
    have hk : ∀ a' w', Inv (andDone f i) a' w' → wpAny P .any ops Q fuel (listed.setIfInBounds i true) a' w' := fun a' w' h' => ih _ (andDone f i) a' w' (by simpa using hs) (fun k hk' => by
      have hk2 : k < listed.size := by simpa using hk'
      rw [Array.getElem_setIfInBounds (by simpa using hk2)]
      by_cases e : i = k
      · subst e; simp [andDone]
      · rw [if_neg e, andDone_other f (fun h => e h.symm)]
        exact hl k hk2) (by omega) h'
    have hs' := hstep f a w i hI h1 h2 h4
    unfold wpOp at hs' ⊢
    split
    · rename_i ho
      rw [ho] at hs'
      exact hk _ _ hs'
    · rename_i o ho
      rw [ho] at hs'
      simp only at hs'
      split
      · rename_i hw
        rw [if_pos hw] at hs'
        rcases hs' with h | h
        · exact .inl (Oper.wp_mono hk h)
        · exact .inr h
      · rename_i hw
        rw [if_neg hw] at hs'
        exact hk _ _ hs'

theorem wp_region_inv {P : Program} {id : Nat} {ops : Array Oper} {Q : Exit → Act → World → Prop} {a : Act} {w : World} (hm : P.follows .mixedOrders = true) (he : earlier ops = true) (Inv : (Nat → Bool) → Act → World → Prop) (h0 : Inv (fun _ => false) a w.drew)
    (hstep : ∀ f a w i, Inv f a w → i < ops.size → f i = false → (∀ j ∈ waits ops i, f j = true) → wpOp P ops Q i (Inv (andDone f i)) a w)
    (hend : ∀ f a w, Inv f a w → (∀ i, i < ops.size → f i = true) → Q .normal a w) : (Code.region id ops true).wp P Q a w :=
  wp_region_any hm (wpAny_inv Inv he hstep hend ops.size _ (fun _ => false) a _ (by simp) (fun i hi => by simp) (by unfold toCome; exact Nat.le_trans (List.length_filter_le _ _) (by simp)) h0)
/-- An operation without a guard, or whose guard lets it. -/
theorem wpOp_wanted {P : Program} {ops : Array Oper} {Q : Exit → Act → World → Prop} {K : Act → World → Prop} {i : Nat} {a : Act} {w : World} {o : Oper} (ho : ops[i]? = some o) (hw : Region.wanted o (yielded ops a.tmps) = true) (h : o.wp P a w K Q) : wpOp P ops Q i K a w := by
  unfold wpOp
  rw [ho]
  simp only
  rw [if_pos hw]
  exact .inl h

end Go.Proofs.YtpfhegengmlkmacGreatDoor
/- What the law of GatherPut keeps while a region calls and lays two boxes, in whatever order. -/
namespace Go.Proofs.YtpfhegengmlkmacGreatDoor
open Go.RowKit Go.BigFrame
set_option maxRecDepth 100000

/-- Two cells of a box. -/
structure Duo (w : World) (b : Nat) (x y : Value) : Prop where
  c0 : w.cell? ⟨b, 0, none⟩ = some x
  c1 : w.cell? ⟨b, 1, none⟩ = some y
  f0 : w.frozen? ⟨b, 0, none⟩ = false
  f1 : w.frozen? ⟨b, 1, none⟩ = false
theorem Duo.keep {w w' : World} {b : Nat} {x y : Value} (h : Duo w b x y) (hb : Below w.heap.size w w') : Duo w' b x y := by
  have hl : b < w.heap.size := block_lt_of_cell h.c0
  exact ⟨cell_on hb hl h.c0, cell_on hb hl h.c1, (hb.frozen (p := ⟨b, 0, none⟩) hl).trans h.f0, (hb.frozen (p := ⟨b, 1, none⟩) hl).trans h.f1⟩
theorem Duo.span {w w' : World} {b lo hi : Nat} {x y : Value} (h : Duo w b x y) (hs : Span lo hi w w') (hd : b < lo ∨ hi ≤ b) : Duo w' b x y := by
  have e := hs.block b (block_lt_of_cell h.c0) hd
  exact ⟨(World.cell?_of_block (a := ⟨b, 0, none⟩) e).trans h.c0, (World.cell?_of_block (a := ⟨b, 1, none⟩) e).trans h.c1, (World.frozen?_of_block (a := ⟨b, 0, none⟩) e).trans h.f0, (World.frozen?_of_block (a := ⟨b, 1, none⟩) e).trans h.f1⟩
theorem Duo.set0 {w : World} {b : Nat} {x y : Value} (h : Duo w b x y) (v : Value) : Duo (w.setCell ⟨b, 0, none⟩ v) b v y := ⟨by simp [go_sem, h.c0], by simp [go_sem, h.c1], by simp [go_sem, h.f0], by simp [go_sem, h.f1]⟩
theorem Duo.set1 {w : World} {b : Nat} {x y : Value} (h : Duo w b x y) (v : Value) : Duo (w.setCell ⟨b, 1, none⟩ v) b x v := ⟨by simp [go_sem, h.c0], by simp [go_sem, h.c1], by simp [go_sem, h.f0], by simp [go_sem, h.f1]⟩
theorem duo_new (w : World) (x y : Value) (t : TypeId) : Duo (w.alloc (.cells #[x, y] t)) w.heap.size x y := ⟨by simp [go_sem], by simp [go_sem], by simp [go_sem], by simp [go_sem]⟩
theorem PartS.keepP {w w' : World} {b k : Nat} {l : List ByteArray} (h : PartS w b l k) (hb : Below w.heap.size w w') : PartS w' b l k := h.below h.lt hb

/-- What a call of GatherPut has answered. -/
structure ResG where
  g : GatL
  L : List WinY
  sv : List Int
  ss : List (ByteArray × Int)
  code : Int
  s0 : Option Addr
  s1 : Option Addr
  s2 : Option Addr
  s3 : Option Addr
  s4 : Option Addr
  d0 : Nat
  d1 : Nat
  d2 : Nat
  d3 : Nat
  d4 : Nat
  tl : Nat
  h1 : Nat
  h2 : Nat
  th : Nat
abbrev ResG.gv (R : ResG) : Value := .agg #[.slice R.s0 R.g.ins.length R.d0, .slice R.s1 R.L.length R.d1, .slice R.s2 R.g.shown.length R.d2]
abbrev ResG.wv (R : ResG) : Value := .agg #[.slice R.s3 R.sv.length R.d3, .slice R.s4 R.ss.length R.d4]
abbrev ResG.all (R : ResG) : Value := .tuple #[R.gv, R.wv, .int .i64 R.code]
/-- It lies so: the gather, the values and the stamp in blocks of their own. -/
structure CalI (g : GatL) (i x : Int) (m : List (ByteArray × Int)) (R : ResG) (u : World) : Prop where
  put : PutG g i x m R.g R.sv R.ss R.code
  map : R.L.map (·.l) = R.g.wins
  sg : SafeG u R.tl R.h1 R.s0 R.s1 R.s2 R.g.ins R.L R.g.shown
  sz : SafeZ u R.h1 R.h2 R.s3 R.sv
  ss : Safe u R.h2 R.th R.s4 R.ss
  o1 : R.tl ≤ R.h1
  o2 : R.h1 ≤ R.h2
  o3 : R.h2 ≤ R.th
  o4 : R.th ≤ u.heap.size
  cap : R.g.ins.length ≤ R.d0 ∧ R.d0 ≤ maxLen
/-- It lies so: somewhere between two. -/
structure CalS (g : GatL) (i x : Int) (m : List (ByteArray × Int)) (R : ResG) (u : World) : Prop where
  put : PutG g i x m R.g R.sv R.ss R.code
  map : R.L.map (·.l) = R.g.wins
  sg : SafeG u R.tl R.th R.s0 R.s1 R.s2 R.g.ins R.L R.g.shown
  sz : SafeZ u R.tl R.th R.s3 R.sv
  ss : Safe u R.tl R.th R.s4 R.ss
  o1 : R.tl ≤ R.th
  o4 : R.th ≤ u.heap.size
theorem CalI.below {g : GatL} {i x : Int} {m : List (ByteArray × Int)} {R : ResG} {u u' : World} (h : CalI g i x m R u) (hb : Below u.heap.size u u') : CalI g i x m R u' := ⟨h.put, h.map, h.sg.below hb, h.sz.below hb, h.ss.below hb, h.o1, h.o2, h.o3, Nat.le_trans h.o4 hb.size, h.cap⟩
theorem CalS.below {g : GatL} {i x : Int} {m : List (ByteArray × Int)} {R : ResG} {u u' : World} (h : CalS g i x m R u) (hb : Below u.heap.size u u') : CalS g i x m R u' := ⟨h.put, h.map, h.sg.below hb, h.sz.below hb, h.ss.below hb, h.o1, Nat.le_trans h.o4 hb.size⟩
theorem CalI.span {g : GatL} {i x : Int} {m : List (ByteArray × Int)} {R : ResG} {u u' : World} {lo hi : Nat} (h : CalI g i x m R u) (hs : Span lo hi u u') (hd : R.th ≤ lo ∨ hi ≤ R.tl) : CalI g i x m R u' := by
  have h1 := h.o1
  have h2 := h.o2
  have h3 := h.o3
  exact ⟨h.put, h.map, h.sg.span hs (by omega), h.sz.span hs (by omega), h.ss.span hs (by omega), h.o1, h.o2, h.o3, Nat.le_trans h.o4 hs.size, h.cap⟩
theorem CalS.span {g : GatL} {i x : Int} {m : List (ByteArray × Int)} {R : ResG} {u u' : World} {lo hi : Nat} (h : CalS g i x m R u) (hs : Span lo hi u u') (hd : R.th ≤ lo ∨ hi ≤ R.tl) : CalS g i x m R u' := ⟨h.put, h.map, h.sg.span hs hd, h.sz.span hs hd, h.ss.span hs hd, h.o1, Nat.le_trans h.o4 hs.size⟩
theorem GPE.cal {w w' : World} {g : GatL} {i x : Int} {m : List (ByteArray × Int)} {e : Ending} (h : GPE w w' g i x m e) : ∃ R : ResG, e = .returned R.all ∧ R.tl = w.heap.size ∧ R.th = w'.heap.size ∧ CalI g i x m R w' := by
  obtain ⟨g', L, sv, ss, code, a0, a1, a2, a3, a4, d0, d1, d2, d3, d4, h1, h2, rfl, hp, hm, o1, o2, o3, k1, k2, k3, k4⟩ := h
  exact ⟨⟨g', L, sv, ss, code, a0, a1, a2, a3, a4, d0, d1, d2, d3, d4, w.heap.size, h1, h2, w'.heap.size⟩, rfl, rfl, rfl, hp, hm, k1, k2, k3, o1, o2, o3, Nat.le_refl _, k4⟩
theorem GPS.cal {w w' : World} {g : GatL} {i x : Int} {m : List (ByteArray × Int)} {e : Ending} (h : GPS w w' g i x m e) (hb : w.heap.size ≤ w'.heap.size) : ∃ R : ResG, e = .returned R.all ∧ R.tl = w.heap.size ∧ R.th = w'.heap.size ∧ CalS g i x m R w' := by
  obtain ⟨g', L, sv, ss, code, a0, a1, a2, a3, a4, d0, d1, d2, d3, d4, rfl, hp, hm, k1, k2, k3⟩ := h
  exact ⟨⟨g', L, sv, ss, code, a0, a1, a2, a3, a4, d0, d1, d2, d3, d4, w.heap.size, 0, 0, w'.heap.size⟩, rfl, rfl, rfl, hp, hm, k1, k2, k3, hb, Nat.le_refl _⟩
/-- Both sides answer the same. -/
theorem cal_same {g : GatL} {i x : Int} {m : List (ByteArray × Int)} {R R' : ResG} {u u' : World} (h : CalS g i x m R u) (k : CalI g i x m R' u') : R.g = R'.g ∧ R.sv = R'.sv ∧ R.ss = R'.ss ∧ R.code = R'.code ∧ R.L.length = R'.L.length := by
  obtain ⟨h1, h2, h3, h4⟩ := h.put.one k.put
  refine ⟨h1, h2, h3, h4, ?_⟩
  have e1 := congrArg List.length h.map
  have e2 := congrArg List.length k.map
  rw [List.length_map] at e1 e2
  rw [e1, e2, h1]

/-- What holds while the region runs: f says which operations are done. -/
structure Fx (Cal : ResG → World → Prop) (W : World) (GV FV : Value) (g : GatL) (i x : Int) (m : List (ByteArray × Int)) (f : Nat → Bool) (R : ResG) (b9 b10 p0 p1 p2 pl ph pf : Nat) (v6 v7 v8 v30 v31 v32 v33 v34 v35 v36 v37 v38 : Value) (u : World) : Prop where
  bel : Below W.heap.size W u
  k0 : f 0 = true → v31 = GV
  k1 : f 1 = true → v32 = .agg #[.slice (some ⟨p0, 0, none⟩) g.ins.length g.ins.length, .slice (some ⟨p1, 0, none⟩) g.wins.length g.wins.length, .slice (some ⟨p2, 0, none⟩) g.shown.length g.shown.length] ∧ (f 4 = false → PartS u p0 g.ins g.ins.length ∧ PartW u pl ph p1 g.wins g.wins.length ∧ Own u p2 g.shown)
  k2 : f 2 = true → v33 = FV
  k3 : f 3 = true → v34 = .agg #[.int .i64 i, .int .i64 x, .slice (some ⟨pf, 0, none⟩) m.length m.length] ∧ (f 4 = false → Own u pf m)
  k4 : f 4 = true → v35 = R.all ∧ Cal R u ∧ W.heap.size ≤ R.tl
  k5 : f 5 = true → v30 = R.all
  k6 : f 6 = true → v36 = R.gv
  k7 : f 7 = true → v37 = R.wv
  k8 : f 8 = true → v38 = .int .i64 R.code
  k9 : f 9 = true → v6 = .pointer (some ⟨b9, 0, none⟩) ∧ W.heap.size ≤ b9 ∧ b9 < u.heap.size ∧ (f 4 = true → b9 < R.tl ∨ R.th ≤ b9) ∧ (f 11 = false → Tri u b9 (.slice none 0 0) (.slice none 0 0) (.slice none 0 0)) ∧ (f 11 = true → Tri u b9 (.slice R.s0 R.g.ins.length R.d0) (.slice R.s1 R.L.length R.d1) (.slice R.s2 R.g.shown.length R.d2))
  k10 : f 10 = true → v7 = .pointer (some ⟨b10, 0, none⟩) ∧ W.heap.size ≤ b10 ∧ b10 < u.heap.size ∧ (f 4 = true → b10 < R.tl ∨ R.th ≤ b10) ∧ (f 12 = false → Duo u b10 (.slice none 0 0) (.slice none 0 0)) ∧ (f 12 = true → Duo u b10 (.slice R.s3 R.sv.length R.d3) (.slice R.s4 R.ss.length R.d4))
  k13 : f 13 = true → v8 = .int .i64 R.code
  ne : f 9 = true → f 10 = true → b9 ≠ b10
  c4 : f 4 = true → f 1 = true ∧ f 3 = true
  c5 : f 5 = true → f 4 = true
  c6 : f 6 = true → f 4 = true
  c7 : f 7 = true → f 4 = true
  c8 : f 8 = true → f 4 = true
  c11 : f 11 = true → f 4 = true ∧ f 9 = true
  c12 : f 12 = true → f 4 = true ∧ f 10 = true
  c13 : f 13 = true → f 4 = true
/-- While the copies are still used: they may lie where the boxes do not. -/
theorem Fx.below {Cal : ResG → World → Prop} (hC : ∀ R u u', Cal R u → Below u.heap.size u u' → Cal R u') {W u u' : World} {GV FV : Value} {g : GatL} {i x : Int} {m : List (ByteArray × Int)} {f : Nat → Bool} {R : ResG} {b9 b10 p0 p1 p2 pl ph pf : Nat} {v6 v7 v8 v30 v31 v32 v33 v34 v35 v36 v37 v38 : Value} (h : Fx Cal W GV FV g i x m f R b9 b10 p0 p1 p2 pl ph pf v6 v7 v8 v30 v31 v32 v33 v34 v35 v36 v37 v38 u) (hb : Below u.heap.size u u') :
    Fx Cal W GV FV g i x m f R b9 b10 p0 p1 p2 pl ph pf v6 v7 v8 v30 v31 v32 v33 v34 v35 v36 v37 v38 u' :=
  { h with
    bel := h.bel.trans (hb.mono h.bel.size)
    k1 := fun e => let ⟨q0, q1⟩ := h.k1 e; ⟨q0, fun e' => let ⟨r1, r2, r3⟩ := q1 e'; ⟨r1.keepP hb, r2.below hb, r3.below hb⟩⟩
    k3 := fun e => let ⟨q0, q1⟩ := h.k3 e; ⟨q0, fun e' => (q1 e').below hb⟩
    k4 := fun e => let ⟨q0, q1, q2⟩ := h.k4 e; ⟨q0, hC _ _ _ q1 hb, q2⟩
    k9 := fun e => let ⟨q0, q1, q2, q3, q4, q5⟩ := h.k9 e; ⟨q0, q1, Nat.lt_of_lt_of_le q2 hb.size, q3, fun e' => (q4 e').keep hb, fun e' => (q5 e').keep hb⟩
    k10 := fun e => let ⟨q0, q1, q2, q3, q4, q5⟩ := h.k10 e; ⟨q0, q1, Nat.lt_of_lt_of_le q2 hb.size, q3, fun e' => (q4 e').keep hb, fun e' => (q5 e').keep hb⟩ }

end Go.Proofs.YtpfhegengmlkmacGreatDoor
/- What the law of GatherPut asks of answers: they are compared, marked, and held. -/
namespace Go.Proofs.YtpfhegengmlkmacGreatDoor
open Go.RowKit Go.BigFrame
set_option maxRecDepth 100000

theorem NiceG.fit {g : GatL} (h : NiceG g) : FitG g :=
  ⟨⟨by have := h.ins; unfold maxLen; omega, fun j hj => by have := h.names j hj; unfold maxLen; omega⟩, ⟨by have := h.wins; unfold maxLen; omega, fun j hj => (h.items _ (List.getElem_mem hj)).fit⟩, stamp_fit h.shown⟩
/-- How an answer can be read. -/
structure RowsR (R : ResG) (u : World) : Prop where
  nice : NiceG R.g
  sv6 : R.sv.length ≤ 6
  st : StampP R.ss
  len : R.L.length = R.g.wins.length
  r0 : RowS u R.s0 R.g.ins
  r1 : RowW u R.s1 R.g.wins
  r2 : Row u R.s2 R.g.shown
  r3 : RowZ u R.s3 R.sv
  r4 : Row u R.s4 R.ss
theorem map_len {L : List WinY} {ws : List (List ItemL)} (h : L.map (·.l) = ws) : L.length = ws.length := by rw [← h, List.length_map]
theorem CalI.rows {g : GatL} {i x : Int} {m : List (ByteArray × Int)} {R : ResG} {u : World} (h : CalI g i x m R u) : RowsR R u := by
  obtain ⟨k1, k2, k3⟩ := h.put.nice
  obtain ⟨q0, q1, q2⟩ := h.sg.rows
  rw [h.map] at q1
  exact ⟨k1, k2, k3, map_len h.map, q0, q1, q2, h.sz.row, h.ss.row⟩
theorem CalS.rows {g : GatL} {i x : Int} {m : List (ByteArray × Int)} {R : ResG} {u : World} (h : CalS g i x m R u) : RowsR R u := by
  obtain ⟨k1, k2, k3⟩ := h.put.nice
  obtain ⟨q0, q1, q2⟩ := h.sg.rows
  rw [h.map] at q1
  exact ⟨k1, k2, k3, map_len h.map, q0, q1, q2, h.sz.row, h.ss.row⟩
theorem eqRows_any {R R' : ResG} {u : World} (h : RowsR R u) (k : RowsR R' u) (e : R'.g = R.g) : Calls Tryz.prog 12 #[R'.gv, R.gv] u fun e w' => e = .returned (.bool true) ∧ Below u.heap.size u w' := by
  have z := eqGather_same R'.s0 R'.s1 R'.s2 R.s0 R.s1 R.s2 R'.d0 R'.d1 R'.d2 R.d0 R.d1 R.d2 R.g u h.nice.fit (e ▸ k.r0) (e ▸ k.r1) (e ▸ k.r2) h.r0 h.r1 h.r2
  have l1 := h.len
  have l2 := k.len
  rw [e] at l2
  unfold ResG.gv
  rw [l1, l2, e]
  exact z
theorem eqRowsS_any {R R' : ResG} {u : World} (h : RowsR R u) (k : RowsR R' u) (e1 : R'.sv = R.sv) (e2 : R'.ss = R.ss) : Calls Tryz.prog 13 #[R'.wv, R.wv] u fun e w' => e = .returned (.bool true) ∧ Below u.heap.size u w' := by
  have z := eqShow_same R'.s3 R'.s4 R.s3 R.s4 R'.d3 R'.d4 R.d3 R.d4 R.sv R.ss u (by have := h.sv6; unfold maxLen; omega) (by have := h.st.1; unfold maxLen; omega) (e1 ▸ k.r3) (e2 ▸ k.r4) h.r3 h.r4
  unfold ResG.wv
  rw [e1, e2]
  exact z
theorem eqCal_any {g : GatL} {i x : Int} {m : List (ByteArray × Int)} {R R' : ResG} {u : World} (h : CalS g i x m R u) (k : CalI g i x m R' u) : Calls Tryz.prog 12 #[R'.gv, R.gv] u fun e w' => e = .returned (.bool true) ∧ Below u.heap.size u w' := eqRows_any h.rows k.rows (cal_same h k).1.symm
theorem eqCalS_any {g : GatL} {i x : Int} {m : List (ByteArray × Int)} {R R' : ResG} {u : World} (h : CalS g i x m R u) (k : CalI g i x m R' u) : Calls Tryz.prog 13 #[R'.wv, R.wv] u fun e w' => e = .returned (.bool true) ∧ Below u.heap.size u w' := eqRowsS_any h.rows k.rows (cal_same h k).2.1.symm (cal_same h k).2.2.1.symm

/-- The gather is marked, the rest is not yet. -/
structure HalfI (K : Int) (R : ResG) (u : World) : Prop where
  nice : NiceG R.g
  sv6 : R.sv.length ≤ 6
  st : StampP R.ss
  map : R.L.map (·.l) = R.g.wins
  ke : K = kG R.g.ins.length R.L R.g.shown.length
  sg : SafeG u R.tl R.h1 R.s0 R.s1 R.s2 (textsM 1 R.g.ins.length) (mixY (1 + (R.g.ins.length : Int)) R.L.length R.L) (marked (kAt (1 + (R.g.ins.length : Int)) R.L.length R.L) R.g.shown.length)
  sz : SafeZ u R.h1 R.h2 R.s3 R.sv
  ss : Safe u R.h2 R.th R.s4 R.ss
  o1 : R.tl ≤ R.h1
  o2 : R.h1 ≤ R.h2
  o3 : R.h2 ≤ R.th
  o4 : R.th ≤ u.heap.size
/-- All is marked. -/
structure MarI (K M : Int) (R : ResG) (u : World) : Prop where
  nice : NiceG R.g
  sv6 : R.sv.length ≤ 6
  st : StampP R.ss
  map : R.L.map (·.l) = R.g.wins
  ke : K = kG R.g.ins.length R.L R.g.shown.length
  me : M = K + (R.sv.length : Int) + 2 * (R.ss.length : Int)
  sg : SafeG u R.tl R.h1 R.s0 R.s1 R.s2 (textsM 1 R.g.ins.length) (mixY (1 + (R.g.ins.length : Int)) R.L.length R.L) (marked (kAt (1 + (R.g.ins.length : Int)) R.L.length R.L) R.g.shown.length)
  sz : SafeZ u R.h1 R.h2 R.s3 (numsZ K R.sv.length)
  ss : Safe u R.h2 R.th R.s4 (marked (K + (R.sv.length : Int)) R.ss.length)
  o1 : R.tl ≤ R.h1
  o2 : R.h1 ≤ R.h2
  o3 : R.h2 ≤ R.th
  o4 : R.th ≤ u.heap.size
theorem HalfI.below {K : Int} {R : ResG} {u u' : World} (h : HalfI K R u) (hb : Below u.heap.size u u') : HalfI K R u' := { h with sg := h.sg.below hb, sz := h.sz.below hb, ss := h.ss.below hb, o4 := Nat.le_trans h.o4 hb.size }
theorem MarI.below {K M : Int} {R : ResG} {u u' : World} (h : MarI K M R u) (hb : Below u.heap.size u u') : MarI K M R u' := { h with sg := h.sg.below hb, sz := h.sz.below hb, ss := h.ss.below hb, o4 := Nat.le_trans h.o4 hb.size }
theorem items_of {R : ResG} (h : NiceG R.g) (e : R.L.map (·.l) = R.g.wins) : ∀ p ∈ R.L, StampsP p.l := fun p hp => h.items _ (e ▸ List.mem_map.2 ⟨p, hp, rfl⟩)
theorem kg_le {R : ResG} (h : NiceG R.g) (e : R.L.map (·.l) = R.g.wins) : 0 ≤ kG R.g.ins.length R.L R.g.shown.length ∧ kG R.g.ins.length R.L R.g.shown.length ≤ 1000 := by
  have h1 := kAt_le (items_of h e) R.L.length (1 + (R.g.ins.length : Int)) (Nat.le_refl _)
  have h2 := map_len e
  have h3 := h.wins
  have h4 := h.ins
  have h5 := h.shown.1
  unfold kG
  omega
theorem markCalG_any {g : GatL} {i x : Int} {m : List (ByteArray × Int)} {R : ResG} {u : World} (h : CalI g i x m R u) : Calls Tryz.prog 15 #[R.gv, .int .i64 1] u fun e w' => ∃ K : Int, e = .returned (.int .i64 K) ∧ 0 ≤ K ∧ K ≤ 1000 ∧ HalfI K R w' ∧ Span R.tl R.th u w' := by
  obtain ⟨k1, k2, k3⟩ := h.put.nice
  have z1 := h.o1
  have z2 := h.o2
  have z3 := h.o3
  have z4 := h.o4
  refine (markG_any R.s0 R.s1 R.s2 R.d0 R.d1 R.d2 R.tl R.h1 R.g.ins R.L R.g.shown u k1.ins (by rw [map_len h.map]; exact k1.wins) (items_of k1 h.map) k1.shown.1 (by omega) h.sg).mono ?_
  rintro e w' ⟨rfl, hs, sp⟩
  have hk := kg_le k1 h.map
  exact ⟨_, rfl, hk.1, hk.2, ⟨k1, k2, k3, h.map, rfl, hs, h.sz.span sp (by omega), h.ss.span sp (by omega), z1, z2, z3, Nat.le_trans z4 sp.size⟩, sp.wide (Nat.le_refl _) (by omega)⟩
theorem markCalS_any {K : Int} {R : ResG} {u : World} (h : HalfI K R u) : Calls Tryz.prog 17 #[R.wv, .int .i64 K] u fun e w' => ∃ M : Int, e = .returned (.int .i64 M) ∧ 0 ≤ M ∧ M ≤ 2000 ∧ MarI K M R w' ∧ Span R.tl R.th u w' := by
  have hk := kg_le h.nice h.map
  rw [← h.ke] at hk
  have z1 := h.o1
  have z2 := h.o2
  have z3 := h.o3
  have z4 := h.o4
  have z5 := h.sv6
  have z6 := h.st.1
  refine (markShow_any R.s3 R.s4 R.d3 R.d4 R.h1 R.h2 R.th R.sv R.ss K u h.sv6 h.st.1 hk.1 (by omega) z2 z3 z4 h.sz h.ss).mono ?_
  rintro e w' ⟨rfl, h1, h2, sp⟩
  exact ⟨_, rfl, by omega, by omega, ⟨h.nice, h.sv6, h.st, h.map, h.ke, rfl, h.sg.span sp (by omega), h1, h2, z1, z2, z3, Nat.le_trans z4 sp.size⟩, sp.wide (by omega) (Nat.le_refl _)⟩
theorem heldCalG_any {K M : Int} {R : ResG} {u : World} (h : MarI K M R u) : Calls Tryz.prog 18 #[R.gv, .int .i64 1] u fun e w' => e = .returned (.int .i64 K) ∧ Below u.heap.size u w' := by
  have hk := h.ke
  subst hk
  exact heldG_any R.s0 R.s1 R.s2 R.d0 R.d1 R.d2 R.tl R.h1 R.g.ins.length R.g.shown.length R.L u h.nice.ins (by rw [map_len h.map]; exact h.nice.wins) (items_of h.nice h.map) h.nice.shown.1 h.sg
theorem heldCalS_any {K M : Int} {R : ResG} {u : World} (h : MarI K M R u) : Calls Tryz.prog 19 #[R.wv, .int .i64 K] u fun e w' => e = .returned (.int .i64 M) ∧ Below u.heap.size u w' := by
  have hk := kg_le h.nice h.map
  rw [← h.ke] at hk
  have hm := h.me
  subst hm
  exact heldShow_any R.s3 R.s4 R.d3 R.d4 R.sv.length R.ss.length K u h.sv6 h.st.1 hk.1 (by omega) h.sz.row h.ss.row

end Go.Proofs.YtpfhegengmlkmacGreatDoor
