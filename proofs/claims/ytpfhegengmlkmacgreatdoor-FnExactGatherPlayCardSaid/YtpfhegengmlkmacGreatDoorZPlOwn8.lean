/- Texts of this claim, one behind the other. -/
import Derived.Test.YtpfhegengmlkmacGreatDoorZPlOwn7
/- Walk: impl.GatherPut. -/
namespace Go.Proofs.YtpfhegengmlkmacGreatDoor
open Go.RowKit Go.BigFrame
set_option maxRecDepth 100000

/-- The library's own variable for the type error. -/
def ErrT (w : World) : Prop := w.cell? ⟨0, 0, none⟩ = some (.iface 197 (.agg #[.pointer (some ⟨11, 92, none⟩)]))
theorem ErrT.below {w w' : World} (h : ErrT w) (hb : Below w.heap.size w w') : ErrT w' := cell_on hb (block_lt_of_cell h) h

theorem Tri.set2 {w : World} {b : Nat} {x y z : Value} (h : Tri w b x y z) (v : Value) : Tri (w.setCell ⟨b, 2, none⟩ v) b x y v :=
  ⟨by simp [go_sem, h.c0], by simp [go_sem, h.c1], by simp [go_sem, h.c2], by simp [go_sem, h.f0], by simp [go_sem, h.f1], by simp [go_sem, h.f2]⟩
theorem Tryz.methKeeps (h : Value) (w : World) : (Go.method 466 161 h "loop.example/bedstone/impl.code").run Tryz.prog w = .ok (292, h) w := by kernel_rfl
theorem Tryz.methOverflows (h : Value) (w : World) : (Go.method 466 162 h "loop.example/bedstone/impl.code").run Tryz.prog w = .ok (293, h) w := by kernel_rfl
theorem Tryz.methShows (h : Value) (w : World) : (Go.method 466 165 h "loop.example/bedstone/impl.code").run Tryz.prog w = .ok (294, h) w := by kernel_rfl
/-- What GatherPut answers. -/
def GPE (w w' : World) (g : GatL) (i x : Int) (m : List (ByteArray × Int)) (e : Ending) : Prop :=
  ∃ (g' : GatL) (L : List WinY) (sv : List Int) (ss : List (ByteArray × Int)) (code : Int) (a0 a1 a2 a3 a4 : Option Addr) (d0 d1 d2 d3 d4 h1 h2 : Nat), e = .returned (.tuple #[.agg #[.slice a0 g'.ins.length d0, .slice a1 L.length d1, .slice a2 g'.shown.length d2], .agg #[.slice a3 sv.length d3, .slice a4 ss.length d4], .int .i64 code]) ∧ PutG g i x m g' sv ss code ∧ L.map (·.l) = g'.wins ∧
    w.heap.size ≤ h1 ∧ h1 ≤ h2 ∧ h2 ≤ w'.heap.size ∧ SafeG w' w.heap.size h1 a0 a1 a2 g'.ins L g'.shown ∧ SafeZ w' h1 h2 a3 sv ∧ Safe w' h2 w'.heap.size a4 ss ∧ (g'.ins.length ≤ d0 ∧ d0 ≤ maxLen)

set_option maxHeartbeats 20000000 in
theorem implGP_any (a0 a1 a2 am : Option Addr) (c0 c1 c2 cm : Nat) (g : GatL) (i x : Int) (m : List (ByteArray × Int)) (w : World) (hf : FitG g) (hi : g.ins.length ≤ 1048576) (hc : g.ins.length ≤ c0) (hc2 : c0 ≤ maxLen) (r0 : RowS w a0 g.ins) (r1 : RowW w a1 g.wins) (r2 : Row w a2 g.shown) (hfm : FitM m) (hcm : m.length ≤ cm) (hrm : Row w am m) (het : ErrT w) :
    Calls Tryz.prog 11 #[.agg #[.slice a0 g.ins.length c0, .slice a1 g.wins.length c1, .slice a2 g.shown.length c2], .agg #[.int .i64 i, .int .i64 x, .slice am m.length cm]] w fun e w' => GPE w w' g i x m e ∧ Below w.heap.size w w' := by
  obtain ⟨W0, hW0⟩ : ∃ W0, (((w.alloc (.cells #[.slice a0 g.ins.length c0, .slice a1 g.wins.length c1, .slice a2 g.shown.length c2] 36)).alloc (.cells #[.int .i64 i, .int .i64 x, .slice am m.length cm] 46)).alloc (.cells #[.slice none 0 0, .slice none 0 0, .slice none 0 0] 36)).alloc (.cells #[.slice none 0 0, .slice none 0 0] 39) = W0 := ⟨_, rfl⟩
  have hz : W0.heap.size = w.heap.size + 4 := by rw [← hW0]; simp
  have hb0 : Below w.heap.size w W0 := by rw [← hW0]; exact ((((Below.refl _ _).alloc (Nat.le_refl _) _).alloc (by simp) _).alloc (by simp; omega) _).alloc (by simp; omega) _
  have x0 : W0.cell? ⟨w.heap.size + 1 + 1, 0, none⟩ = some (.slice none 0 0) := by rw [← hW0]; simp [go_sem]
  have x1 : W0.cell? ⟨w.heap.size + 1 + 1, 1, none⟩ = some (.slice none 0 0) := by rw [← hW0]; simp [go_sem]
  have x2 : W0.cell? ⟨w.heap.size + 1 + 1, 2, none⟩ = some (.slice none 0 0) := by rw [← hW0]; simp [go_sem]
  have y0 : W0.cell? ⟨w.heap.size + 1 + 1 + 1, 0, none⟩ = some (.slice none 0 0) := by rw [← hW0]; simp [go_sem]
  have y1 : W0.cell? ⟨w.heap.size + 1 + 1 + 1, 1, none⟩ = some (.slice none 0 0) := by rw [← hW0]; simp [go_sem]
  have fx : ∀ q, W0.frozen? ⟨w.heap.size + 1 + 1, q, none⟩ = false := fun q => by rw [← hW0]; simp [go_sem]
  have fy : ∀ q, W0.frozen? ⟨w.heap.size + 1 + 1 + 1, q, none⟩ = false := fun q => by rw [← hW0]; simp [go_sem]
  have HW : Hid (((((w.alloc (.cells #[.slice a0 g.ins.length c0, .slice a1 g.wins.length c1, .slice a2 g.shown.length c2] 36)).alloc (.cells #[.int .i64 i, .int .i64 x, .slice am m.length cm] 46)).alloc (.cells #[.slice none 0 0, .slice none 0 0, .slice none 0 0] 36)).alloc (.cells #[.slice none 0 0, .slice none 0 0] 39)) = W0) := hW0
  clear hW0
  go_enter Tryz.func11, Tryz.ntmps11
  go_wp2_with fail
  rw [HW.out]
  clear HW
  refine (taking_any a0 a1 a2 am c0 c1 c2 cm g i x m _ hf hi hc hc2 (r0.below hb0) (r1.below hb0) (r2.below hb0) hfm hcm (hrm.below hb0)).mono ?_
  rintro e w1 ⟨hT, b1⟩
  have z1 := b1.size
  have B1 : Below w.heap.size w w1 := hb0.trans (b1.mono hb0.size)
  replace x0 := cell_on b1 (by omega) x0
  replace x1 := cell_on b1 (by omega) x1
  replace x2 := cell_on b1 (by omega) x2
  replace y0 := cell_on b1 (by omega) y0
  replace y1 := cell_on b1 (by omega) y1
  have gx : ∀ q, w1.frozen? ⟨w.heap.size + 1 + 1, q, none⟩ = false := fun q => (b1.frozen (p := ⟨w.heap.size + 1 + 1, q, none⟩) (by simp only; omega)).trans (fx q)
  have gy : ∀ q, w1.frozen? ⟨w.heap.size + 1 + 1 + 1, q, none⟩ = false := fun q => (b1.frozen (p := ⟨w.heap.size + 1 + 1 + 1, q, none⟩) (by simp only; omega)).trans (fy q)
  replace het := het.below B1
  clear fx fy
  have hsplit : (∃ (s0 s1 s2 : Option Addr) (n0 n1 n2 e0 e1 e2 : Nat) (c : Int), e = .returned (.tuple #[.agg #[.slice s0 n0 e0, .slice s1 n1 e1, .slice s2 n2 e2], .iface 96 (.agg #[.int .i64 c])]) ∧ ∀ w9, Span (w.heap.size + 2) (w.heap.size + 4) w1 w9 → GPE w w9 g i x m (.returned (.tuple #[.agg #[.slice s0 n0 e0, .slice s1 n1 e1, .slice s2 n2 e2], .agg #[.slice none 0 0, .slice none 0 0], .int .i64 c]))) ∨
      (InG g i ∧ ∃ r b t e0 e1 gm em L, e = .returned (.tuple #[.agg #[.slice (some ⟨b, 0, none⟩) g.ins.length e0, .slice (some ⟨t, 0, none⟩) L.length e1, .slice (some ⟨gm, 0, none⟩) g.shown.length em], .nilIface]) ∧ IsP (g.wins.getD i.toNat []) x m r 0 ∧ FullG w1 W0.heap.size w1.heap.size b t (some ⟨gm, 0, none⟩) g.ins L g.shown ∧ (g.shown.length ≤ em ∧ g.ins.length ≤ e0 ∧ e0 ≤ maxLen) ∧ L.map (·.l) = g.wins.set i.toNat r) := by
    rcases hT with ⟨rfl, hno⟩ | ⟨hI, r, c, b, t, e0, e1, gm, em, L, err, rfl, hP, hfull, hem, hcase⟩
    · refine .inl ⟨none, none, none, 0, 0, 0, 0, 0, 0, 2, rfl, fun w9 h9 => ⟨emptyG, [], [], [], 2, none, none, none, none, none, 0, 0, 0, 0, 0, w9.heap.size, w9.heap.size, rfl, ?_, rfl, by have := h9.size; omega, Nat.le_refl _, Nat.le_refl _, .inl ⟨rfl, rfl, rfl⟩, .inl rfl, .inl rfl, by simp [emptyG], by unfold maxLen; omega⟩⟩
      rcases hno with h | ⟨hI, r, hP⟩
      · exact .inl ⟨h, rfl, rfl, rfl, rfl⟩
      · exact .inr ⟨hI, r, 1, hP, .inl ⟨rfl, rfl, rfl, rfl, rfl⟩⟩
    · rcases hcase with ⟨rfl, hLL, rfl⟩ | ⟨rfl, hLL, rfl⟩
      · refine .inl ⟨_, _, _, _, _, _, _, _, _, _, rfl, fun w9 h9 => ⟨g, L, [], [], 3, _, _, _, none, none, _, _, _, 0, 0, w9.heap.size, w9.heap.size, rfl, .inr ⟨hI, r, 2, hP, .inr (.inl ⟨rfl, rfl, rfl, rfl, rfl⟩)⟩, hLL, by have := h9.size; omega, Nat.le_refl _, Nat.le_refl _, .inr ⟨b, t, rfl, rfl, (hfull.span h9 (.inr (by omega))).widen (by omega) h9.size⟩, .inl rfl, .inl rfl, hem.2⟩⟩
      · exact .inr ⟨hI, r, b, t, e0, e1, gm, em, L, rfl, hP, hfull, hem, hLL⟩
  clear hT
  rcases hsplit with ⟨s0, s1, s2, n0, n1, n2, e0, e1, e2, c, rfl, hfin⟩ | ⟨hI, r, b, t, e0, e1, gm, em, L, rfl, hP, hfull, ⟨hem, hcap⟩, hLL⟩
  · have HF : Hid _ := hfin
    clear hfin
    have bV : Below w1.heap.size w1 ((w1.alloc (.cells #[.slice s0 n0 e0, .slice s1 n1 e1, .slice s2 n2 e2] 36)).alloc (.cells #[.int .i64 0] 96)) := ((Below.refl _ _).alloc (Nat.le_refl _) _).alloc (by simp) _
    have tV := (tri_new w1 (.slice s0 n0 e0) (.slice s1 n1 e1) (.slice s2 n2 e2) 36).keep (show Below _ _ ((w1.alloc (.cells #[.slice s0 n0 e0, .slice s1 n1 e1, .slice s2 n2 e2] 36)).alloc (.cells #[.int .i64 0] 96)) from (Below.refl _ _).alloc (Nat.le_refl _) _)
    have hvn : ((w1.alloc (.cells #[.slice s0 n0 e0, .slice s1 n1 e1, .slice s2 n2 e2] 36)).alloc (.cells #[.int .i64 0] 96)).cell? ⟨w1.heap.size + 1, 0, none⟩ = some (.int .i64 0) := by simp [go_sem]
    have hvf : ((w1.alloc (.cells #[.slice s0 n0 e0, .slice s1 n1 e1, .slice s2 n2 e2] 36)).alloc (.cells #[.int .i64 0] 96)).frozen? ⟨w1.heap.size + 1, 0, none⟩ = false := by simp [go_sem]
    go_wp2_with fail
    generalize (w1.alloc (.cells #[.slice s0 n0 e0, .slice s1 n1 e1, .slice s2 n2 e2] 36)).alloc (.cells #[.int .i64 0] 96) = V at *
    refine (as_hit c ⟨w1.heap.size + 1, 0, none⟩ (.int .i64 0) _ (het.below bV) hvn hvf).mono ?_
    rintro e w2 ⟨rfl, W, bW, hw2⟩
    have hVl : w1.heap.size + 1 < V.heap.size := block_lt_of_cell hvn
    have hnc : w2.cell? ⟨w1.heap.size + 1, 0, none⟩ = some (.int .i64 c) := by rw [hw2]; exact World.cell?_setCell_same' _ _ _ (by rw [cell_on bW hVl hvn]; rfl)
    have t2 : Tri w2 w1.heap.size (.slice s0 n0 e0) (.slice s1 n1 e1) (.slice s2 n2 e2) := by rw [hw2]; exact (tV.keep bW).far (by omega) _ _
    have b2 : Below w1.heap.size w1 w2 := by rw [hw2]; exact (bV.trans (bW.mono bV.size)).setCell (p := ⟨w1.heap.size + 1, 0, none⟩) (by simp only; omega) _
    have z2 := b2.size
    clear hw2 bW bV tV hvn hvf hVl
    replace x0 := cell_on b2 (by omega) x0
    replace x1 := cell_on b2 (by omega) x1
    replace x2 := cell_on b2 (by omega) x2
    replace y0 := cell_on b2 (by omega) y0
    replace y1 := cell_on b2 (by omega) y1
    have kx : ∀ q, w2.frozen? ⟨w.heap.size + 1 + 1, q, none⟩ = false := fun q => (b2.frozen (p := ⟨w.heap.size + 1 + 1, q, none⟩) (by simp only; omega)).trans (gx q)
    have ky : ∀ q, w2.frozen? ⟨w.heap.size + 1 + 1 + 1, q, none⟩ = false := fun q => (b2.frozen (p := ⟨w.heap.size + 1 + 1 + 1, q, none⟩) (by simp only; omega)).trans (gy q)
    clear gx gy
    obtain ⟨u0, u1, u2, _, _, _⟩ := id t2
    go_wp2_with fail
    have hbd : Below w2.heap.size w2 w2.drew := (Below.refl _ _).drew
    have n2l : w1.heap.size + 1 < w2.heap.size := block_lt_of_cell hnc
    have hS0 : (fun u : World => u.cell? ⟨w1.heap.size, 0, none⟩ = some (.slice s0 n0 e0) ∧ u.cell? ⟨w1.heap.size, 1, none⟩ = some (.slice s1 n1 e1) ∧ u.cell? ⟨w1.heap.size, 2, none⟩ = some (.slice s2 n2 e2) ∧ u.cell? ⟨w1.heap.size + 1, 0, none⟩ = some (.int .i64 c)) w2 := ⟨u0, u1, u2, hnc⟩
    have HSB : Hid (∀ u : World, (∀ k, w1.heap.size ≤ k → k < w2.heap.size → u.heap[k]? = w2.heap[k]?) → u.cell? ⟨w1.heap.size, 0, none⟩ = some (.slice s0 n0 e0) ∧ u.cell? ⟨w1.heap.size, 1, none⟩ = some (.slice s1 n1 e1) ∧ u.cell? ⟨w1.heap.size, 2, none⟩ = some (.slice s2 n2 e2) ∧ u.cell? ⟨w1.heap.size + 1, 0, none⟩ = some (.int .i64 c)) := fun u hu => ⟨(World.cell?_of_block (hu w1.heap.size (Nat.le_refl _) (by omega))).trans u0, (World.cell?_of_block (hu w1.heap.size (Nat.le_refl _) (by omega))).trans u1, (World.cell?_of_block (hu w1.heap.size (Nat.le_refl _) (by omega))).trans u2, (World.cell?_of_block (hu (w1.heap.size + 1) (by omega) (by omega))).trans hnc⟩
    have SW : (fun u : World => u.cell? ⟨w1.heap.size, 0, none⟩ = some (.slice s0 n0 e0) ∧ u.cell? ⟨w1.heap.size, 1, none⟩ = some (.slice s1 n1 e1) ∧ u.cell? ⟨w1.heap.size, 2, none⟩ = some (.slice s2 n2 e2) ∧ u.cell? ⟨w1.heap.size + 1, 0, none⟩ = some (.int .i64 c)) w2.drew := HSB.out _ (fun k _ hk => hbd.block k hk)
    refine wp_region_held_drew (S := fun u => u.cell? ⟨w1.heap.size, 0, none⟩ = some (.slice s0 n0 e0) ∧ u.cell? ⟨w1.heap.size, 1, none⟩ = some (.slice s1 n1 e1) ∧ u.cell? ⟨w1.heap.size, 2, none⟩ = some (.slice s2 n2 e2) ∧ u.cell? ⟨w1.heap.size + 1, 0, none⟩ = some (.int .i64 c)) (by kernel_rfl) SW (fun _ => ?_)
    refine wpAnyH_take (i := 0) (v := .agg #[.slice s0 n0 e0, .slice s1 n1 e1, .slice s2 n2 e2]) rfl (by kernel_rfl) (by kernel_rfl) (by kernel_rfl) (fun _ _ _ h => h) (Or.inl ⟨by rfl, ?_⟩) SW ?_
    · rintro u ⟨p1, p2, p3, p4⟩
      go_simp
    simp only [Act.put, List.setIfInBounds_toArray]
    refine wpAnyH_take (i := 1) (v := .agg #[.slice none 0 0, .slice none 0 0]) rfl (by kernel_rfl) (by kernel_rfl) (by kernel_rfl) (fun _ _ _ h => h) (Or.inl ⟨by rfl, ?_⟩) SW ?_
    · rintro u ⟨p1, p2, p3, p4⟩
      go_simp
    simp only [Act.put]
    refine wpAnyH_take (i := 2) (v := .pointer (some ⟨w1.heap.size + 1, 0, none⟩)) rfl (by kernel_rfl) (by kernel_rfl) (by kernel_rfl) (fun _ _ _ h => h) (Or.inl ⟨by rfl, ?_⟩) SW ?_
    · rintro u ⟨p1, p2, p3, p4⟩
      go_simp
    simp only [Act.put]
    refine wpAnyH_take (i := 3) (v := .int .i64 c) rfl (by kernel_rfl) (by kernel_rfl) (by kernel_rfl) (fun _ _ _ h => h) (Or.inl ⟨by rfl, ?_⟩) SW ?_
    · rintro u ⟨p1, p2, p3, p4⟩
      go_simp
    simp only [Act.put]
    have x0d : w2.drew.cell? ⟨w.heap.size + 1 + 1, 0, none⟩ = some (.slice none 0 0) := x0
    have x1d : w2.drew.cell? ⟨w.heap.size + 1 + 1, 1, none⟩ = some (.slice none 0 0) := x1
    have x2d : w2.drew.cell? ⟨w.heap.size + 1 + 1, 2, none⟩ = some (.slice none 0 0) := x2
    have y0d : w2.drew.cell? ⟨w.heap.size + 1 + 1 + 1, 0, none⟩ = some (.slice none 0 0) := y0
    have y1d : w2.drew.cell? ⟨w.heap.size + 1 + 1 + 1, 1, none⟩ = some (.slice none 0 0) := y1
    have kxd : ∀ q, w2.drew.frozen? ⟨w.heap.size + 1 + 1, q, none⟩ = false := kx
    have kyd : ∀ q, w2.drew.frozen? ⟨w.heap.size + 1 + 1 + 1, q, none⟩ = false := ky
    have b2d : Below w1.heap.size w1 w2.drew := b2.drew
    have hdz : w2.heap.size ≤ w2.drew.heap.size := hbd.size
    have hdb : ∀ k, k < w2.heap.size → w2.drew.heap[k]? = w2.heap[k]? := hbd.block
    clear x0 x1 x2 y0 y1 kx ky SW hbd
    generalize w2.drew = V2 at *
    refine wpAnyH_ready (rs := [4]) (by kernel_rfl) (by simp) ?_
    refine AllReadyH.cons rfl (fun K hK => ?_) AllReadyH.nil
    rw [if_pos (by rfl)]
    go_simp
    obtain ⟨w3, h3⟩ : ∃ w3, ((V2.setCell ⟨w.heap.size + 1 + 1, 0, none⟩ (.slice s0 n0 e0)).setCell ⟨w.heap.size + 1 + 1, 1, none⟩ (.slice s1 n1 e1)).setCell ⟨w.heap.size + 1 + 1, 2, none⟩ (.slice s2 n2 e2) = w3 := ⟨_, rfl⟩
    have sp3 : Span (w.heap.size + 2) (w.heap.size + 4) V2 w3 := by rw [← h3]; exact (((Span.refl _ _ _).setCell (by omega) (by omega) _ _).setCell (by omega) (by omega) _ _).setCell (by omega) (by omega) _ _
    have v0 : w3.cell? ⟨w.heap.size + 1 + 1, 0, none⟩ = some (.slice s0 n0 e0) := by rw [← h3]; simp [go_sem, x0d]
    have v1 : w3.cell? ⟨w.heap.size + 1 + 1, 1, none⟩ = some (.slice s1 n1 e1) := by rw [← h3]; simp [go_sem, x1d]
    have v2 : w3.cell? ⟨w.heap.size + 1 + 1, 2, none⟩ = some (.slice s2 n2 e2) := by rw [← h3]; simp [go_sem, x2d]
    have y03 : w3.cell? ⟨w.heap.size + 1 + 1 + 1, 0, none⟩ = some (.slice none 0 0) := by rw [← h3]; simp [go_sem, y0d]
    have y13 : w3.cell? ⟨w.heap.size + 1 + 1 + 1, 1, none⟩ = some (.slice none 0 0) := by rw [← h3]; simp [go_sem, y1d]
    have ky3 : ∀ q, w3.frozen? ⟨w.heap.size + 1 + 1 + 1, q, none⟩ = false := fun q => by rw [← h3]; simp [go_sem, kyd]
    have S3 : (fun u : World => u.cell? ⟨w1.heap.size, 0, none⟩ = some (.slice s0 n0 e0) ∧ u.cell? ⟨w1.heap.size, 1, none⟩ = some (.slice s1 n1 e1) ∧ u.cell? ⟨w1.heap.size, 2, none⟩ = some (.slice s2 n2 e2) ∧ u.cell? ⟨w1.heap.size + 1, 0, none⟩ = some (.int .i64 c)) w3 := HSB.out _ (fun k hk hk2 => (sp3.block k (by omega) (by omega)).trans (hdb k hk2))
    rw [h3]
    clear h3
    refine hK.out _ _ S3 (fun _ => ?_)
    clear hK K
    refine wpAnyH_ready (rs := [5]) (by kernel_rfl) (by simp) ?_
    refine AllReadyH.cons rfl (fun K hK => ?_) AllReadyH.nil
    rw [if_pos (by rfl)]
    go_simp
    obtain ⟨w4, h4⟩ : ∃ w4, (w3.setCell ⟨w.heap.size + 1 + 1 + 1, 0, none⟩ (.slice none 0 0)).setCell ⟨w.heap.size + 1 + 1 + 1, 1, none⟩ (.slice none 0 0) = w4 := ⟨_, rfl⟩
    have sp4 : Span (w.heap.size + 2) (w.heap.size + 4) V2 w4 := by rw [← h4]; exact (sp3.setCell (by omega) (by omega) _ _).setCell (by omega) (by omega) _ _
    have v0' : w4.cell? ⟨w.heap.size + 1 + 1, 0, none⟩ = some (.slice s0 n0 e0) := by rw [← h4]; simp [go_sem, v0]
    have v1' : w4.cell? ⟨w.heap.size + 1 + 1, 1, none⟩ = some (.slice s1 n1 e1) := by rw [← h4]; simp [go_sem, v1]
    have v2' : w4.cell? ⟨w.heap.size + 1 + 1, 2, none⟩ = some (.slice s2 n2 e2) := by rw [← h4]; simp [go_sem, v2]
    have y0' : w4.cell? ⟨w.heap.size + 1 + 1 + 1, 0, none⟩ = some (.slice none 0 0) := by rw [← h4]; simp [go_sem, y03]
    have y1' : w4.cell? ⟨w.heap.size + 1 + 1 + 1, 1, none⟩ = some (.slice none 0 0) := by rw [← h4]; simp [go_sem, y13]
    have S4 : (fun u : World => u.cell? ⟨w1.heap.size, 0, none⟩ = some (.slice s0 n0 e0) ∧ u.cell? ⟨w1.heap.size, 1, none⟩ = some (.slice s1 n1 e1) ∧ u.cell? ⟨w1.heap.size, 2, none⟩ = some (.slice s2 n2 e2) ∧ u.cell? ⟨w1.heap.size + 1, 0, none⟩ = some (.int .i64 c)) w4 := HSB.out _ (fun k hk hk2 => (sp4.block k (by omega) (by omega)).trans (hdb k hk2))
    rw [h4]
    clear h4 sp3 v0 v1 v2 y03 y13 ky3
    refine hK.out _ _ S4 (fun _ => ?_)
    clear hK K S3
    refine wpAnyH_ready (rs := [6]) (by kernel_rfl) (by simp) ?_
    refine AllReadyH.cons rfl (fun K hK => ?_) AllReadyH.nil
    rw [if_pos (by rfl)]
    go_simp
    refine hK.out _ _ S4 (fun _ => ?_)
    clear hK K
    refine wpAnyH_done (by kernel_rfl) ?_ _
    have hspan : Span (w.heap.size + 2) (w.heap.size + 4) w1 w4 := ⟨sp4.os.trans b2d.os, sp4.tape.trans b2d.tape, sp4.output.trans b2d.output, Nat.le_trans b2d.size sp4.size, fun k hk hn => (sp4.block k (Nat.lt_of_lt_of_le hk b2d.size) hn).trans (b2d.block k hk)⟩
    have hB4 : Below w.heap.size w w4 := B1.trans (hspan.below (by omega) B1.size)
    clear S4
    go_wp2_with fail
    exact bodyPost_ret (v := .tuple #[.agg #[.slice s0 n0 e0, .slice s1 n1 e1, .slice s2 n2 e2], .agg #[.slice none 0 0, .slice none 0 0], .int .i64 c]) (by simp [results, Tryz.results11, go_sem, v0', v1', v2', y0', y1']) rfl ⟨HF.out w4 hspan, hB4⟩
  · have HI : Hid (InG g i) := hI
    have HP : Hid (IsP (g.wins.getD i.toNat []) x m r 0) := hP
    have HLL : Hid (L.map (·.l) = g.wins.set i.toNat r) := hLL
    clear hI hP hLL
    have bV : Below w1.heap.size w1 ((w1.alloc (.cells #[.slice (some ⟨b, 0, none⟩) g.ins.length e0, .slice (some ⟨t, 0, none⟩) L.length e1, .slice (some ⟨gm, 0, none⟩) g.shown.length em] 36)).alloc (.cells #[.int .i64 0] 96)) := ((Below.refl _ _).alloc (Nat.le_refl _) _).alloc (by simp) _
    have tV := (tri_new w1 (.slice (some ⟨b, 0, none⟩) g.ins.length e0) (.slice (some ⟨t, 0, none⟩) L.length e1) (.slice (some ⟨gm, 0, none⟩) g.shown.length em) 36).keep (show Below _ _ ((w1.alloc (.cells #[.slice (some ⟨b, 0, none⟩) g.ins.length e0, .slice (some ⟨t, 0, none⟩) L.length e1, .slice (some ⟨gm, 0, none⟩) g.shown.length em] 36)).alloc (.cells #[.int .i64 0] 96)) from (Below.refl _ _).alloc (Nat.le_refl _) _)
    go_wp2_with fail
    generalize (w1.alloc (.cells #[.slice (some ⟨b, 0, none⟩) g.ins.length e0, .slice (some ⟨t, 0, none⟩) L.length e1, .slice (some ⟨gm, 0, none⟩) g.shown.length em] 36)).alloc (.cells #[.int .i64 0] 96) = V at *
    refine (as_nil _ _).mono ?_
    rintro e w2 ⟨rfl, rfl⟩
    obtain ⟨u0, u1, u2, _, _, _⟩ := id tV
    have hn := HI.out.1.nice
    have hst : ∀ l ∈ L.map (·.l), StampsP l := by rw [HLL.out]; exact set_stamps hn.items (isP_stamps HP.out)
    have hl6 : (L.map (·.l)).length ≤ 6 := by rw [HLL.out, List.length_set]; exact hn.wins
    have hfV := hfull.below bV
    have HC := comes_any (some ⟨b, 0, none⟩) (some ⟨t, 0, none⟩) (some ⟨gm, 0, none⟩) e0 e1 em g.ins.length (L.map (·.l)) g.shown w2 hl6 hst hfV.wins.row hn.shown hem hfV.stamp.row
    simp only [List.length_map] at HC
    go_wp2_with fail
    refine HC.mono ?_
    rintro e w3 ⟨hE, b3⟩
    clear HC
    have b13 : Below w1.heap.size w1 w3 := bV.trans (b3.mono bV.size)
    have t3 := tV.keep b3
    have hf3 := hfull.below b13
    have z3 := b13.size
    have z3' := b3.size
    have hVz : w1.heap.size < w2.heap.size := block_lt_of_cell u0
    replace x0 := cell_on b13 (by omega) x0
    replace x1 := cell_on b13 (by omega) x1
    replace x2 := cell_on b13 (by omega) x2
    replace y0 := cell_on b13 (by omega) y0
    replace y1 := cell_on b13 (by omega) y1
    have kx : ∀ q, w3.frozen? ⟨w.heap.size + 1 + 1, q, none⟩ = false := fun q => (b13.frozen (p := ⟨w.heap.size + 1 + 1, q, none⟩) (by simp only; omega)).trans (gx q)
    have ky : ∀ q, w3.frozen? ⟨w.heap.size + 1 + 1 + 1, q, none⟩ = false := fun q => (b13.frozen (p := ⟨w.heap.size + 1 + 1 + 1, q, none⟩) (by simp only; omega)).trans (gy q)
    clear gx gy u0 u1 u2 tV bV hfV
    have hsplit : (∃ (tt : TypeId) (code : Int), (tt = 161 ∧ code = 0 ∨ tt = 162 ∧ code = 4) ∧ e = .returned (.iface tt (.agg #[])) ∧ ComeP (L.map (·.l)) g.shown g.shown [] [] code) ∨ (∃ out j gv cv ja cj mid, e = .returned (.iface 165 (.agg #[.slice (some ⟨gv, 0, none⟩) (valsM (L.map (·.l)) out).length cv, .slice ja j.length cj])) ∧ ComeP (L.map (·.l)) g.shown j (valsM (L.map (·.l)) out) j 1 ∧ StampP j ∧ w2.heap.size ≤ mid ∧ mid ≤ w3.heap.size ∧ j.length ≤ cj ∧ Safe w3 w2.heap.size mid ja j ∧ mid ≤ gv ∧ NumB w3 gv (valsM (L.map (·.l)) out)) := by
      obtain ⟨out, ok, hB, h⟩ := hE
      rcases h with ⟨rfl, rfl⟩ | ⟨rfl, j, okj, hJ, h⟩
      · exact .inl ⟨_, 0, .inl ⟨rfl, rfl⟩, rfl, out, false, hB, .inl ⟨rfl, rfl, rfl, rfl, rfl⟩⟩
      · rcases h with ⟨rfl, rfl⟩ | ⟨rfl, o, hO, h⟩
        · exact .inl ⟨_, 4, .inr ⟨rfl, rfl⟩, rfl, out, true, hB, .inr ⟨rfl, j, false, hJ, .inl ⟨rfl, rfl, rfl, rfl, rfl⟩⟩⟩
        · rcases h with ⟨ho, rfl⟩ | ⟨rfl, gv, cv, ja, cj, mid, rfl, h1, h2, h3, h4, h5, h6⟩
          · exact .inl ⟨_, 0, .inl ⟨rfl, rfl⟩, rfl, out, true, hB, .inr ⟨rfl, j, true, hJ, .inr ⟨rfl, o, hO, .inl ⟨ho, rfl, rfl, rfl, rfl⟩⟩⟩⟩
          · exact .inr ⟨out, j, gv, cv, ja, cj, mid, rfl, ⟨out, true, hB, .inr ⟨rfl, j, true, hJ, .inr ⟨rfl, 1, hO, .inr ⟨rfl, rfl, rfl, rfl, rfl⟩⟩⟩⟩, hJ.stamp, h1, h2, h3, h4, h5, h6⟩
    clear hE
    rcases hsplit with ⟨tt, code, htt, rfl, hcome⟩ | ⟨out, j, gv, cv, ja, cj, mid, rfl, hcome, hjs, h1, h2, h3, h4, h5, h6⟩
    · have HCO : Hid (ComeP (L.map (·.l)) g.shown g.shown [] [] code) := hcome
      clear hcome
      rcases htt with ⟨rfl, rfl⟩ | ⟨rfl, rfl⟩
      · obtain ⟨u0, u1, u2, v0, v1, v2⟩ := id t3
        have HC := settled_none (some ⟨b, 0, none⟩) (some ⟨t, 0, none⟩) (some ⟨gm, 0, none⟩) g.ins.length L.length g.shown.length e0 e1 em 161 (.inl rfl) w3
        go_wp2_with fail
        refine HC.mono ?_
        rintro e w4 ⟨rfl, b4⟩
        have t4 := t3.keep b4
        have hlt4 : w1.heap.size < w4.heap.size := block_lt_of_cell t4.c0
        have ne4 : w1.heap.size ≠ w4.heap.size := by omega
        clear u0 u1 u2 v0 v1 v2 HC
        obtain ⟨u0, u1, u2, v0, v1, v2⟩ := id t4
        obtain ⟨V5, h5'⟩ : ∃ V5, (((w4.setCell ⟨w1.heap.size, 0, none⟩ (.slice (some ⟨b, 0, none⟩) g.ins.length e0)).setCell ⟨w1.heap.size, 1, none⟩ (.slice (some ⟨t, 0, none⟩) L.length e1)).setCell ⟨w1.heap.size, 2, none⟩ (.slice (some ⟨gm, 0, none⟩) g.shown.length em)).alloc (.cells #[.slice none 0 0, .slice none 0 0] 39) = V5 := ⟨_, rfl⟩
        have sp5a : Span w1.heap.size (w1.heap.size + 1) w4 (((w4.setCell ⟨w1.heap.size, 0, none⟩ (.slice (some ⟨b, 0, none⟩) g.ins.length e0)).setCell ⟨w1.heap.size, 1, none⟩ (.slice (some ⟨t, 0, none⟩) L.length e1)).setCell ⟨w1.heap.size, 2, none⟩ (.slice (some ⟨gm, 0, none⟩) g.shown.length em)) := (((Span.refl _ _ _).setCell (Nat.le_refl _) (Nat.lt_succ_self _) _ _).setCell (Nat.le_refl _) (Nat.lt_succ_self _) _ _).setCell (Nat.le_refl _) (Nat.lt_succ_self _) _ _
        have sp5 : Span w1.heap.size (w1.heap.size + 1) w4 V5 := by
          rw [← h5']
          have hb : Below _ (((w4.setCell ⟨w1.heap.size, 0, none⟩ (.slice (some ⟨b, 0, none⟩) g.ins.length e0)).setCell ⟨w1.heap.size, 1, none⟩ (.slice (some ⟨t, 0, none⟩) L.length e1)).setCell ⟨w1.heap.size, 2, none⟩ (.slice (some ⟨gm, 0, none⟩) g.shown.length em)) _ := (Below.refl _ _).alloc (Nat.le_refl _) (.cells #[.slice none 0 0, .slice none 0 0] 39)
          exact ⟨hb.os.trans sp5a.os, hb.tape.trans sp5a.tape, hb.output.trans sp5a.output, Nat.le_trans sp5a.size hb.size, fun k hk hn => (hb.block k (Nat.lt_of_lt_of_le hk sp5a.size)).trans (sp5a.block k hk hn)⟩
        have z5 : V5.heap.size = w4.heap.size + 1 := by rw [← h5']; simp
        have z4 := b4.size
        have tS := (((t4.set0 (.slice (some ⟨b, 0, none⟩) g.ins.length e0)).set1 (.slice (some ⟨t, 0, none⟩) L.length e1)).set2 (.slice (some ⟨gm, 0, none⟩) g.shown.length em)).keep ((Below.refl _ _).alloc (Nat.le_refl _) (.cells #[.slice none 0 0, .slice none 0 0] 39))
        have SV : (fun u : World => u.cell? ⟨w1.heap.size, 0, none⟩ = some (.slice (some ⟨b, 0, none⟩) g.ins.length e0) ∧ u.cell? ⟨w1.heap.size, 1, none⟩ = some (.slice (some ⟨t, 0, none⟩) L.length e1) ∧ u.cell? ⟨w1.heap.size, 2, none⟩ = some (.slice (some ⟨gm, 0, none⟩) g.shown.length em) ∧ u.cell? ⟨w4.heap.size, 0, none⟩ = some (.slice none 0 0) ∧ u.cell? ⟨w4.heap.size, 1, none⟩ = some (.slice none 0 0)) V5 := by
          rw [h5'] at tS
          refine ⟨tS.c0, tS.c1, tS.c2, ?_, ?_⟩
          · rw [← h5']; simp [go_sem]
          · rw [← h5']; simp [go_sem]
        have HV5 : Hid (((((w4.setCell ⟨w1.heap.size, 0, none⟩ (.slice (some ⟨b, 0, none⟩) g.ins.length e0)).setCell ⟨w1.heap.size, 1, none⟩ (.slice (some ⟨t, 0, none⟩) L.length e1)).setCell ⟨w1.heap.size, 2, none⟩ (.slice (some ⟨gm, 0, none⟩) g.shown.length em)).alloc (.cells #[.slice none 0 0, .slice none 0 0] 39)) = V5) := h5'
        clear h5' sp5a
        replace x0 := cell_on b4 (by omega) x0
        replace x1 := cell_on b4 (by omega) x1
        replace x2 := cell_on b4 (by omega) x2
        replace y0 := cell_on b4 (by omega) y0
        replace y1 := cell_on b4 (by omega) y1
        have kx4 : ∀ q, w4.frozen? ⟨w.heap.size + 1 + 1, q, none⟩ = false := fun q => (b4.frozen (p := ⟨w.heap.size + 1 + 1, q, none⟩) (by simp only; omega)).trans (kx q)
        have ky4 : ∀ q, w4.frozen? ⟨w.heap.size + 1 + 1 + 1, q, none⟩ = false := fun q => (b4.frozen (p := ⟨w.heap.size + 1 + 1 + 1, q, none⟩) (by simp only; omega)).trans (ky q)
        have hw24 : w.heap.size + 4 ≤ w4.heap.size := by omega
        have hc5 : ∀ bb q v, w4.cell? ⟨bb, q, none⟩ = some v → bb < w.heap.size + 4 → V5.cell? ⟨bb, q, none⟩ = some v := fun bb q v hv hb => by rw [World.cell?_of_block (sp5.block bb (block_lt_of_cell hv) (by omega))]; exact hv
        have hq5 : ∀ bb q, w4.frozen? ⟨bb, q, none⟩ = false → bb < w.heap.size + 4 → V5.frozen? ⟨bb, q, none⟩ = false := fun bb q hv hb => by rw [World.frozen?_of_block (sp5.block bb (by omega) (by omega))]; exact hv
        go_wp2_with fail
        rw [HV5.out]
        clear HV5 u0 u1 u2 v0 v1 v2
        have hbd : Below V5.heap.size V5 V5.drew := (Below.refl _ _).drew
        have HSB : Hid (∀ u : World, (∀ k, w1.heap.size ≤ k → k < V5.heap.size → u.heap[k]? = V5.heap[k]?) → u.cell? ⟨w1.heap.size, 0, none⟩ = some (.slice (some ⟨b, 0, none⟩) g.ins.length e0) ∧ u.cell? ⟨w1.heap.size, 1, none⟩ = some (.slice (some ⟨t, 0, none⟩) L.length e1) ∧ u.cell? ⟨w1.heap.size, 2, none⟩ = some (.slice (some ⟨gm, 0, none⟩) g.shown.length em) ∧ u.cell? ⟨w4.heap.size, 0, none⟩ = some (.slice none 0 0) ∧ u.cell? ⟨w4.heap.size, 1, none⟩ = some (.slice none 0 0)) := fun u hu => ⟨(World.cell?_of_block (hu w1.heap.size (Nat.le_refl _) (by omega))).trans SV.1, (World.cell?_of_block (hu w1.heap.size (Nat.le_refl _) (by omega))).trans SV.2.1, (World.cell?_of_block (hu w1.heap.size (Nat.le_refl _) (by omega))).trans SV.2.2.1, (World.cell?_of_block (hu w4.heap.size (by omega) (by omega))).trans SV.2.2.2.1, (World.cell?_of_block (hu w4.heap.size (by omega) (by omega))).trans SV.2.2.2.2⟩
        have SW : (fun u : World => u.cell? ⟨w1.heap.size, 0, none⟩ = some (.slice (some ⟨b, 0, none⟩) g.ins.length e0) ∧ u.cell? ⟨w1.heap.size, 1, none⟩ = some (.slice (some ⟨t, 0, none⟩) L.length e1) ∧ u.cell? ⟨w1.heap.size, 2, none⟩ = some (.slice (some ⟨gm, 0, none⟩) g.shown.length em) ∧ u.cell? ⟨w4.heap.size, 0, none⟩ = some (.slice none 0 0) ∧ u.cell? ⟨w4.heap.size, 1, none⟩ = some (.slice none 0 0)) V5.drew := HSB.out _ (fun k _ hk => hbd.block k hk)
        have km := Tryz.methKeeps (.agg #[])
        refine wp_region_held_drew (S := fun u => u.cell? ⟨w1.heap.size, 0, none⟩ = some (.slice (some ⟨b, 0, none⟩) g.ins.length e0) ∧ u.cell? ⟨w1.heap.size, 1, none⟩ = some (.slice (some ⟨t, 0, none⟩) L.length e1) ∧ u.cell? ⟨w1.heap.size, 2, none⟩ = some (.slice (some ⟨gm, 0, none⟩) g.shown.length em) ∧ u.cell? ⟨w4.heap.size, 0, none⟩ = some (.slice none 0 0) ∧ u.cell? ⟨w4.heap.size, 1, none⟩ = some (.slice none 0 0)) (by kernel_rfl) SW (fun _ => ?_)
        refine wpAnyH_take (i := 0) (v := .agg #[.slice (some ⟨b, 0, none⟩) g.ins.length e0, .slice (some ⟨t, 0, none⟩) L.length e1, .slice (some ⟨gm, 0, none⟩) g.shown.length em]) rfl (by kernel_rfl) (by kernel_rfl) (by kernel_rfl) (fun _ _ _ h => h) (Or.inl ⟨by rfl, ?_⟩) SW ?_
        · rintro u ⟨p1, p2, p3, p4, p5⟩
          go_simp
        simp only [Act.put, List.setIfInBounds_toArray]
        refine wpAnyH_take (i := 1) (v := .agg #[.slice none 0 0, .slice none 0 0]) rfl (by kernel_rfl) (by kernel_rfl) (by kernel_rfl) (fun _ _ _ h => h) (Or.inl ⟨by rfl, ?_⟩) SW ?_
        · rintro u ⟨p1, p2, p3, p4, p5⟩
          go_simp
        simp only [Act.put]
        refine wpAnyH_take (i := 2) (v := .iface 161 (.agg #[])) rfl (by kernel_rfl) (by kernel_rfl) (by kernel_rfl) (fun _ _ _ h => h) (Or.inl ⟨by rfl, ?_⟩) SW ?_
        · rintro u ⟨p1, p2, p3, p4, p5⟩
          go_simp
        simp only [Act.put]
        refine wpAnyH_ready (rs := [3]) (by kernel_rfl) (by simp) ?_
        refine AllReadyH.cons rfl (fun K hK => ?_) AllReadyH.nil
        rw [if_pos (by rfl)]
        go_simp
        refine (code_keeps _).mono ?_
        rintro e w6 ⟨rfl, b6⟩
        have b56 : Below V5.heap.size V5 w6 := hbd.trans (b6.mono hbd.size)
        have z6 := b56.size
        have S6 : (fun u : World => u.cell? ⟨w1.heap.size, 0, none⟩ = some (.slice (some ⟨b, 0, none⟩) g.ins.length e0) ∧ u.cell? ⟨w1.heap.size, 1, none⟩ = some (.slice (some ⟨t, 0, none⟩) L.length e1) ∧ u.cell? ⟨w1.heap.size, 2, none⟩ = some (.slice (some ⟨gm, 0, none⟩) g.shown.length em) ∧ u.cell? ⟨w4.heap.size, 0, none⟩ = some (.slice none 0 0) ∧ u.cell? ⟨w4.heap.size, 1, none⟩ = some (.slice none 0 0)) w6 := HSB.out _ (fun k _ hk => b56.block k hk)
        refine hK.out _ _ S6 (fun _ => ?_)
        clear hK K SW
        have x06 := cell_on b56 (by omega) (hc5 _ _ _ x0 (by omega))
        have x16 := cell_on b56 (by omega) (hc5 _ _ _ x1 (by omega))
        have x26 := cell_on b56 (by omega) (hc5 _ _ _ x2 (by omega))
        have y06 := cell_on b56 (by omega) (hc5 _ _ _ y0 (by omega))
        have y16 := cell_on b56 (by omega) (hc5 _ _ _ y1 (by omega))
        have kx6 : ∀ q, w6.frozen? ⟨w.heap.size + 1 + 1, q, none⟩ = false := fun q => (b56.frozen (p := ⟨w.heap.size + 1 + 1, q, none⟩) (by simp only; omega)).trans (hq5 _ q (kx4 q) (by omega))
        have ky6 : ∀ q, w6.frozen? ⟨w.heap.size + 1 + 1 + 1, q, none⟩ = false := fun q => (b56.frozen (p := ⟨w.heap.size + 1 + 1 + 1, q, none⟩) (by simp only; omega)).trans (hq5 _ q (ky4 q) (by omega))
        clear x0 x1 x2 y0 y1 kx ky kx4 ky4 hc5 hq5 km
        refine wpAnyH_ready (rs := [4]) (by kernel_rfl) (by simp) ?_
        refine AllReadyH.cons rfl (fun K hK => ?_) AllReadyH.nil
        rw [if_pos (by rfl)]
        go_simp
        obtain ⟨w7, h7⟩ : ∃ w7, ((w6.setCell ⟨w.heap.size + 1 + 1, 0, none⟩ (.slice (some ⟨b, 0, none⟩) g.ins.length e0)).setCell ⟨w.heap.size + 1 + 1, 1, none⟩ (.slice (some ⟨t, 0, none⟩) L.length e1)).setCell ⟨w.heap.size + 1 + 1, 2, none⟩ (.slice (some ⟨gm, 0, none⟩) g.shown.length em) = w7 := ⟨_, rfl⟩
        have sp7 : Span (w.heap.size + 2) (w.heap.size + 4) w6 w7 := by rw [← h7]; exact (((Span.refl _ _ _).setCell (by omega) (by omega) _ _).setCell (by omega) (by omega) _ _).setCell (by omega) (by omega) _ _
        have q0 : w7.cell? ⟨w.heap.size + 1 + 1, 0, none⟩ = some (.slice (some ⟨b, 0, none⟩) g.ins.length e0) := by rw [← h7]; simp [go_sem, x06]
        have q1 : w7.cell? ⟨w.heap.size + 1 + 1, 1, none⟩ = some (.slice (some ⟨t, 0, none⟩) L.length e1) := by rw [← h7]; simp [go_sem, x16]
        have q2 : w7.cell? ⟨w.heap.size + 1 + 1, 2, none⟩ = some (.slice (some ⟨gm, 0, none⟩) g.shown.length em) := by rw [← h7]; simp [go_sem, x26]
        have y07 : w7.cell? ⟨w.heap.size + 1 + 1 + 1, 0, none⟩ = some (.slice none 0 0) := by rw [← h7]; simp [go_sem, y06]
        have y17 : w7.cell? ⟨w.heap.size + 1 + 1 + 1, 1, none⟩ = some (.slice none 0 0) := by rw [← h7]; simp [go_sem, y16]
        have ky7 : ∀ q, w7.frozen? ⟨w.heap.size + 1 + 1 + 1, q, none⟩ = false := fun q => by rw [← h7]; simp [go_sem, ky6]
        have S7 : (fun u : World => u.cell? ⟨w1.heap.size, 0, none⟩ = some (.slice (some ⟨b, 0, none⟩) g.ins.length e0) ∧ u.cell? ⟨w1.heap.size, 1, none⟩ = some (.slice (some ⟨t, 0, none⟩) L.length e1) ∧ u.cell? ⟨w1.heap.size, 2, none⟩ = some (.slice (some ⟨gm, 0, none⟩) g.shown.length em) ∧ u.cell? ⟨w4.heap.size, 0, none⟩ = some (.slice none 0 0) ∧ u.cell? ⟨w4.heap.size, 1, none⟩ = some (.slice none 0 0)) w7 := HSB.out _ (fun k hk hk2 => (sp7.block k (by omega) (by omega)).trans (b56.block k hk2))
        rw [h7]
        clear h7
        refine hK.out _ _ S7 (fun _ => ?_)
        clear hK K S6
        refine wpAnyH_ready (rs := [5]) (by kernel_rfl) (by simp) ?_
        refine AllReadyH.cons rfl (fun K hK => ?_) AllReadyH.nil
        rw [if_pos (by rfl)]
        go_simp
        obtain ⟨w8, h8⟩ : ∃ w8, (w7.setCell ⟨w.heap.size + 1 + 1 + 1, 0, none⟩ (.slice none 0 0)).setCell ⟨w.heap.size + 1 + 1 + 1, 1, none⟩ (.slice none 0 0) = w8 := ⟨_, rfl⟩
        have sp8 : Span (w.heap.size + 2) (w.heap.size + 4) w6 w8 := by rw [← h8]; exact (sp7.setCell (by omega) (by omega) _ _).setCell (by omega) (by omega) _ _
        have q0' : w8.cell? ⟨w.heap.size + 1 + 1, 0, none⟩ = some (.slice (some ⟨b, 0, none⟩) g.ins.length e0) := by rw [← h8]; simp [go_sem, q0]
        have q1' : w8.cell? ⟨w.heap.size + 1 + 1, 1, none⟩ = some (.slice (some ⟨t, 0, none⟩) L.length e1) := by rw [← h8]; simp [go_sem, q1]
        have q2' : w8.cell? ⟨w.heap.size + 1 + 1, 2, none⟩ = some (.slice (some ⟨gm, 0, none⟩) g.shown.length em) := by rw [← h8]; simp [go_sem, q2]
        have y0' : w8.cell? ⟨w.heap.size + 1 + 1 + 1, 0, none⟩ = some (.slice none 0 0) := by rw [← h8]; simp [go_sem, y07]
        have y1' : w8.cell? ⟨w.heap.size + 1 + 1 + 1, 1, none⟩ = some (.slice none 0 0) := by rw [← h8]; simp [go_sem, y17]
        have S8 : (fun u : World => u.cell? ⟨w1.heap.size, 0, none⟩ = some (.slice (some ⟨b, 0, none⟩) g.ins.length e0) ∧ u.cell? ⟨w1.heap.size, 1, none⟩ = some (.slice (some ⟨t, 0, none⟩) L.length e1) ∧ u.cell? ⟨w1.heap.size, 2, none⟩ = some (.slice (some ⟨gm, 0, none⟩) g.shown.length em) ∧ u.cell? ⟨w4.heap.size, 0, none⟩ = some (.slice none 0 0) ∧ u.cell? ⟨w4.heap.size, 1, none⟩ = some (.slice none 0 0)) w8 := HSB.out _ (fun k hk hk2 => (sp8.block k (by omega) (by omega)).trans (b56.block k hk2))
        rw [h8]
        clear h8 sp7 q0 q1 q2 y07 y17 ky7
        refine hK.out _ _ S8 (fun _ => ?_)
        clear hK K S7
        refine wpAnyH_ready (rs := [6]) (by kernel_rfl) (by simp) ?_
        refine AllReadyH.cons rfl (fun K hK => ?_) AllReadyH.nil
        rw [if_pos (by rfl)]
        go_simp
        refine hK.out _ _ S8 (fun _ => ?_)
        clear hK K
        refine wpAnyH_done (by kernel_rfl) ?_ _
        clear S8 HSB
        have z8 := sp8.size
        have B4 : Below w.heap.size w w4 := B1.trans ((b13.trans (b4.mono b13.size)).mono B1.size)
        have B8 : Below w.heap.size w w8 := (B4.trans (sp5.below (by omega) B4.size)).trans ((b56.mono (by omega)).trans (sp8.below (by omega) (by omega)))
        have hf8 := (((hf3.below b4).span sp5 (.inl (Nat.le_refl _))).below b56).span sp8 (.inr (by omega))
        go_wp2_with fail
        exact bodyPost_ret (v := .tuple #[.agg #[.slice (some ⟨b, 0, none⟩) g.ins.length e0, .slice (some ⟨t, 0, none⟩) L.length e1, .slice (some ⟨gm, 0, none⟩) g.shown.length em], .agg #[.slice none 0 0, .slice none 0 0], .int .i64 0]) (by simp [results, Tryz.results11, go_sem, q0', q1', q2', y0', y1']) rfl ⟨⟨⟨g.ins, g.wins.set i.toNat r, g.shown⟩, L, [], [], _, _, _, _, none, none, _, _, _, 0, 0, w8.heap.size, w8.heap.size, rfl, .inr ⟨HI.out, r, 0, HP.out, .inr (.inr ⟨rfl, g.shown, by rw [← HLL.out]; exact HCO.out, rfl⟩)⟩, HLL.out, by omega, Nat.le_refl _, Nat.le_refl _, .inr ⟨b, t, rfl, rfl, hf8.widen (by omega) (by omega)⟩, .inl rfl, .inl rfl, hcap⟩, B8⟩
      · obtain ⟨u0, u1, u2, v0, v1, v2⟩ := id t3
        have HC := settled_none (some ⟨b, 0, none⟩) (some ⟨t, 0, none⟩) (some ⟨gm, 0, none⟩) g.ins.length L.length g.shown.length e0 e1 em 162 (.inr rfl) w3
        go_wp2_with fail
        refine HC.mono ?_
        rintro e w4 ⟨rfl, b4⟩
        have t4 := t3.keep b4
        have hlt4 : w1.heap.size < w4.heap.size := block_lt_of_cell t4.c0
        have ne4 : w1.heap.size ≠ w4.heap.size := by omega
        clear u0 u1 u2 v0 v1 v2 HC
        obtain ⟨u0, u1, u2, v0, v1, v2⟩ := id t4
        obtain ⟨V5, h5'⟩ : ∃ V5, (((w4.setCell ⟨w1.heap.size, 0, none⟩ (.slice (some ⟨b, 0, none⟩) g.ins.length e0)).setCell ⟨w1.heap.size, 1, none⟩ (.slice (some ⟨t, 0, none⟩) L.length e1)).setCell ⟨w1.heap.size, 2, none⟩ (.slice (some ⟨gm, 0, none⟩) g.shown.length em)).alloc (.cells #[.slice none 0 0, .slice none 0 0] 39) = V5 := ⟨_, rfl⟩
        have sp5a : Span w1.heap.size (w1.heap.size + 1) w4 (((w4.setCell ⟨w1.heap.size, 0, none⟩ (.slice (some ⟨b, 0, none⟩) g.ins.length e0)).setCell ⟨w1.heap.size, 1, none⟩ (.slice (some ⟨t, 0, none⟩) L.length e1)).setCell ⟨w1.heap.size, 2, none⟩ (.slice (some ⟨gm, 0, none⟩) g.shown.length em)) := (((Span.refl _ _ _).setCell (Nat.le_refl _) (Nat.lt_succ_self _) _ _).setCell (Nat.le_refl _) (Nat.lt_succ_self _) _ _).setCell (Nat.le_refl _) (Nat.lt_succ_self _) _ _
        have sp5 : Span w1.heap.size (w1.heap.size + 1) w4 V5 := by
          rw [← h5']
          have hb : Below _ (((w4.setCell ⟨w1.heap.size, 0, none⟩ (.slice (some ⟨b, 0, none⟩) g.ins.length e0)).setCell ⟨w1.heap.size, 1, none⟩ (.slice (some ⟨t, 0, none⟩) L.length e1)).setCell ⟨w1.heap.size, 2, none⟩ (.slice (some ⟨gm, 0, none⟩) g.shown.length em)) _ := (Below.refl _ _).alloc (Nat.le_refl _) (.cells #[.slice none 0 0, .slice none 0 0] 39)
          exact ⟨hb.os.trans sp5a.os, hb.tape.trans sp5a.tape, hb.output.trans sp5a.output, Nat.le_trans sp5a.size hb.size, fun k hk hn => (hb.block k (Nat.lt_of_lt_of_le hk sp5a.size)).trans (sp5a.block k hk hn)⟩
        have z5 : V5.heap.size = w4.heap.size + 1 := by rw [← h5']; simp
        have z4 := b4.size
        have tS := (((t4.set0 (.slice (some ⟨b, 0, none⟩) g.ins.length e0)).set1 (.slice (some ⟨t, 0, none⟩) L.length e1)).set2 (.slice (some ⟨gm, 0, none⟩) g.shown.length em)).keep ((Below.refl _ _).alloc (Nat.le_refl _) (.cells #[.slice none 0 0, .slice none 0 0] 39))
        have SV : (fun u : World => u.cell? ⟨w1.heap.size, 0, none⟩ = some (.slice (some ⟨b, 0, none⟩) g.ins.length e0) ∧ u.cell? ⟨w1.heap.size, 1, none⟩ = some (.slice (some ⟨t, 0, none⟩) L.length e1) ∧ u.cell? ⟨w1.heap.size, 2, none⟩ = some (.slice (some ⟨gm, 0, none⟩) g.shown.length em) ∧ u.cell? ⟨w4.heap.size, 0, none⟩ = some (.slice none 0 0) ∧ u.cell? ⟨w4.heap.size, 1, none⟩ = some (.slice none 0 0)) V5 := by
          rw [h5'] at tS
          refine ⟨tS.c0, tS.c1, tS.c2, ?_, ?_⟩
          · rw [← h5']; simp [go_sem]
          · rw [← h5']; simp [go_sem]
        have HV5 : Hid (((((w4.setCell ⟨w1.heap.size, 0, none⟩ (.slice (some ⟨b, 0, none⟩) g.ins.length e0)).setCell ⟨w1.heap.size, 1, none⟩ (.slice (some ⟨t, 0, none⟩) L.length e1)).setCell ⟨w1.heap.size, 2, none⟩ (.slice (some ⟨gm, 0, none⟩) g.shown.length em)).alloc (.cells #[.slice none 0 0, .slice none 0 0] 39)) = V5) := h5'
        clear h5' sp5a
        replace x0 := cell_on b4 (by omega) x0
        replace x1 := cell_on b4 (by omega) x1
        replace x2 := cell_on b4 (by omega) x2
        replace y0 := cell_on b4 (by omega) y0
        replace y1 := cell_on b4 (by omega) y1
        have kx4 : ∀ q, w4.frozen? ⟨w.heap.size + 1 + 1, q, none⟩ = false := fun q => (b4.frozen (p := ⟨w.heap.size + 1 + 1, q, none⟩) (by simp only; omega)).trans (kx q)
        have ky4 : ∀ q, w4.frozen? ⟨w.heap.size + 1 + 1 + 1, q, none⟩ = false := fun q => (b4.frozen (p := ⟨w.heap.size + 1 + 1 + 1, q, none⟩) (by simp only; omega)).trans (ky q)
        have hw24 : w.heap.size + 4 ≤ w4.heap.size := by omega
        have hc5 : ∀ bb q v, w4.cell? ⟨bb, q, none⟩ = some v → bb < w.heap.size + 4 → V5.cell? ⟨bb, q, none⟩ = some v := fun bb q v hv hb => by rw [World.cell?_of_block (sp5.block bb (block_lt_of_cell hv) (by omega))]; exact hv
        have hq5 : ∀ bb q, w4.frozen? ⟨bb, q, none⟩ = false → bb < w.heap.size + 4 → V5.frozen? ⟨bb, q, none⟩ = false := fun bb q hv hb => by rw [World.frozen?_of_block (sp5.block bb (by omega) (by omega))]; exact hv
        go_wp2_with fail
        rw [HV5.out]
        clear HV5 u0 u1 u2 v0 v1 v2
        have hbd : Below V5.heap.size V5 V5.drew := (Below.refl _ _).drew
        have HSB : Hid (∀ u : World, (∀ k, w1.heap.size ≤ k → k < V5.heap.size → u.heap[k]? = V5.heap[k]?) → u.cell? ⟨w1.heap.size, 0, none⟩ = some (.slice (some ⟨b, 0, none⟩) g.ins.length e0) ∧ u.cell? ⟨w1.heap.size, 1, none⟩ = some (.slice (some ⟨t, 0, none⟩) L.length e1) ∧ u.cell? ⟨w1.heap.size, 2, none⟩ = some (.slice (some ⟨gm, 0, none⟩) g.shown.length em) ∧ u.cell? ⟨w4.heap.size, 0, none⟩ = some (.slice none 0 0) ∧ u.cell? ⟨w4.heap.size, 1, none⟩ = some (.slice none 0 0)) := fun u hu => ⟨(World.cell?_of_block (hu w1.heap.size (Nat.le_refl _) (by omega))).trans SV.1, (World.cell?_of_block (hu w1.heap.size (Nat.le_refl _) (by omega))).trans SV.2.1, (World.cell?_of_block (hu w1.heap.size (Nat.le_refl _) (by omega))).trans SV.2.2.1, (World.cell?_of_block (hu w4.heap.size (by omega) (by omega))).trans SV.2.2.2.1, (World.cell?_of_block (hu w4.heap.size (by omega) (by omega))).trans SV.2.2.2.2⟩
        have SW : (fun u : World => u.cell? ⟨w1.heap.size, 0, none⟩ = some (.slice (some ⟨b, 0, none⟩) g.ins.length e0) ∧ u.cell? ⟨w1.heap.size, 1, none⟩ = some (.slice (some ⟨t, 0, none⟩) L.length e1) ∧ u.cell? ⟨w1.heap.size, 2, none⟩ = some (.slice (some ⟨gm, 0, none⟩) g.shown.length em) ∧ u.cell? ⟨w4.heap.size, 0, none⟩ = some (.slice none 0 0) ∧ u.cell? ⟨w4.heap.size, 1, none⟩ = some (.slice none 0 0)) V5.drew := HSB.out _ (fun k _ hk => hbd.block k hk)
        have km := Tryz.methOverflows (.agg #[])
        refine wp_region_held_drew (S := fun u => u.cell? ⟨w1.heap.size, 0, none⟩ = some (.slice (some ⟨b, 0, none⟩) g.ins.length e0) ∧ u.cell? ⟨w1.heap.size, 1, none⟩ = some (.slice (some ⟨t, 0, none⟩) L.length e1) ∧ u.cell? ⟨w1.heap.size, 2, none⟩ = some (.slice (some ⟨gm, 0, none⟩) g.shown.length em) ∧ u.cell? ⟨w4.heap.size, 0, none⟩ = some (.slice none 0 0) ∧ u.cell? ⟨w4.heap.size, 1, none⟩ = some (.slice none 0 0)) (by kernel_rfl) SW (fun _ => ?_)
        refine wpAnyH_take (i := 0) (v := .agg #[.slice (some ⟨b, 0, none⟩) g.ins.length e0, .slice (some ⟨t, 0, none⟩) L.length e1, .slice (some ⟨gm, 0, none⟩) g.shown.length em]) rfl (by kernel_rfl) (by kernel_rfl) (by kernel_rfl) (fun _ _ _ h => h) (Or.inl ⟨by rfl, ?_⟩) SW ?_
        · rintro u ⟨p1, p2, p3, p4, p5⟩
          go_simp
        simp only [Act.put, List.setIfInBounds_toArray]
        refine wpAnyH_take (i := 1) (v := .agg #[.slice none 0 0, .slice none 0 0]) rfl (by kernel_rfl) (by kernel_rfl) (by kernel_rfl) (fun _ _ _ h => h) (Or.inl ⟨by rfl, ?_⟩) SW ?_
        · rintro u ⟨p1, p2, p3, p4, p5⟩
          go_simp
        simp only [Act.put]
        refine wpAnyH_take (i := 2) (v := .iface 162 (.agg #[])) rfl (by kernel_rfl) (by kernel_rfl) (by kernel_rfl) (fun _ _ _ h => h) (Or.inl ⟨by rfl, ?_⟩) SW ?_
        · rintro u ⟨p1, p2, p3, p4, p5⟩
          go_simp
        simp only [Act.put]
        refine wpAnyH_ready (rs := [3]) (by kernel_rfl) (by simp) ?_
        refine AllReadyH.cons rfl (fun K hK => ?_) AllReadyH.nil
        rw [if_pos (by rfl)]
        go_simp
        refine (code_overflows _).mono ?_
        rintro e w6 ⟨rfl, b6⟩
        have b56 : Below V5.heap.size V5 w6 := hbd.trans (b6.mono hbd.size)
        have z6 := b56.size
        have S6 : (fun u : World => u.cell? ⟨w1.heap.size, 0, none⟩ = some (.slice (some ⟨b, 0, none⟩) g.ins.length e0) ∧ u.cell? ⟨w1.heap.size, 1, none⟩ = some (.slice (some ⟨t, 0, none⟩) L.length e1) ∧ u.cell? ⟨w1.heap.size, 2, none⟩ = some (.slice (some ⟨gm, 0, none⟩) g.shown.length em) ∧ u.cell? ⟨w4.heap.size, 0, none⟩ = some (.slice none 0 0) ∧ u.cell? ⟨w4.heap.size, 1, none⟩ = some (.slice none 0 0)) w6 := HSB.out _ (fun k _ hk => b56.block k hk)
        refine hK.out _ _ S6 (fun _ => ?_)
        clear hK K SW
        have x06 := cell_on b56 (by omega) (hc5 _ _ _ x0 (by omega))
        have x16 := cell_on b56 (by omega) (hc5 _ _ _ x1 (by omega))
        have x26 := cell_on b56 (by omega) (hc5 _ _ _ x2 (by omega))
        have y06 := cell_on b56 (by omega) (hc5 _ _ _ y0 (by omega))
        have y16 := cell_on b56 (by omega) (hc5 _ _ _ y1 (by omega))
        have kx6 : ∀ q, w6.frozen? ⟨w.heap.size + 1 + 1, q, none⟩ = false := fun q => (b56.frozen (p := ⟨w.heap.size + 1 + 1, q, none⟩) (by simp only; omega)).trans (hq5 _ q (kx4 q) (by omega))
        have ky6 : ∀ q, w6.frozen? ⟨w.heap.size + 1 + 1 + 1, q, none⟩ = false := fun q => (b56.frozen (p := ⟨w.heap.size + 1 + 1 + 1, q, none⟩) (by simp only; omega)).trans (hq5 _ q (ky4 q) (by omega))
        clear x0 x1 x2 y0 y1 kx ky kx4 ky4 hc5 hq5 km
        refine wpAnyH_ready (rs := [4]) (by kernel_rfl) (by simp) ?_
        refine AllReadyH.cons rfl (fun K hK => ?_) AllReadyH.nil
        rw [if_pos (by rfl)]
        go_simp
        obtain ⟨w7, h7⟩ : ∃ w7, ((w6.setCell ⟨w.heap.size + 1 + 1, 0, none⟩ (.slice (some ⟨b, 0, none⟩) g.ins.length e0)).setCell ⟨w.heap.size + 1 + 1, 1, none⟩ (.slice (some ⟨t, 0, none⟩) L.length e1)).setCell ⟨w.heap.size + 1 + 1, 2, none⟩ (.slice (some ⟨gm, 0, none⟩) g.shown.length em) = w7 := ⟨_, rfl⟩
        have sp7 : Span (w.heap.size + 2) (w.heap.size + 4) w6 w7 := by rw [← h7]; exact (((Span.refl _ _ _).setCell (by omega) (by omega) _ _).setCell (by omega) (by omega) _ _).setCell (by omega) (by omega) _ _
        have q0 : w7.cell? ⟨w.heap.size + 1 + 1, 0, none⟩ = some (.slice (some ⟨b, 0, none⟩) g.ins.length e0) := by rw [← h7]; simp [go_sem, x06]
        have q1 : w7.cell? ⟨w.heap.size + 1 + 1, 1, none⟩ = some (.slice (some ⟨t, 0, none⟩) L.length e1) := by rw [← h7]; simp [go_sem, x16]
        have q2 : w7.cell? ⟨w.heap.size + 1 + 1, 2, none⟩ = some (.slice (some ⟨gm, 0, none⟩) g.shown.length em) := by rw [← h7]; simp [go_sem, x26]
        have y07 : w7.cell? ⟨w.heap.size + 1 + 1 + 1, 0, none⟩ = some (.slice none 0 0) := by rw [← h7]; simp [go_sem, y06]
        have y17 : w7.cell? ⟨w.heap.size + 1 + 1 + 1, 1, none⟩ = some (.slice none 0 0) := by rw [← h7]; simp [go_sem, y16]
        have ky7 : ∀ q, w7.frozen? ⟨w.heap.size + 1 + 1 + 1, q, none⟩ = false := fun q => by rw [← h7]; simp [go_sem, ky6]
        have S7 : (fun u : World => u.cell? ⟨w1.heap.size, 0, none⟩ = some (.slice (some ⟨b, 0, none⟩) g.ins.length e0) ∧ u.cell? ⟨w1.heap.size, 1, none⟩ = some (.slice (some ⟨t, 0, none⟩) L.length e1) ∧ u.cell? ⟨w1.heap.size, 2, none⟩ = some (.slice (some ⟨gm, 0, none⟩) g.shown.length em) ∧ u.cell? ⟨w4.heap.size, 0, none⟩ = some (.slice none 0 0) ∧ u.cell? ⟨w4.heap.size, 1, none⟩ = some (.slice none 0 0)) w7 := HSB.out _ (fun k hk hk2 => (sp7.block k (by omega) (by omega)).trans (b56.block k hk2))
        rw [h7]
        clear h7
        refine hK.out _ _ S7 (fun _ => ?_)
        clear hK K S6
        refine wpAnyH_ready (rs := [5]) (by kernel_rfl) (by simp) ?_
        refine AllReadyH.cons rfl (fun K hK => ?_) AllReadyH.nil
        rw [if_pos (by rfl)]
        go_simp
        obtain ⟨w8, h8⟩ : ∃ w8, (w7.setCell ⟨w.heap.size + 1 + 1 + 1, 0, none⟩ (.slice none 0 0)).setCell ⟨w.heap.size + 1 + 1 + 1, 1, none⟩ (.slice none 0 0) = w8 := ⟨_, rfl⟩
        have sp8 : Span (w.heap.size + 2) (w.heap.size + 4) w6 w8 := by rw [← h8]; exact (sp7.setCell (by omega) (by omega) _ _).setCell (by omega) (by omega) _ _
        have q0' : w8.cell? ⟨w.heap.size + 1 + 1, 0, none⟩ = some (.slice (some ⟨b, 0, none⟩) g.ins.length e0) := by rw [← h8]; simp [go_sem, q0]
        have q1' : w8.cell? ⟨w.heap.size + 1 + 1, 1, none⟩ = some (.slice (some ⟨t, 0, none⟩) L.length e1) := by rw [← h8]; simp [go_sem, q1]
        have q2' : w8.cell? ⟨w.heap.size + 1 + 1, 2, none⟩ = some (.slice (some ⟨gm, 0, none⟩) g.shown.length em) := by rw [← h8]; simp [go_sem, q2]
        have y0' : w8.cell? ⟨w.heap.size + 1 + 1 + 1, 0, none⟩ = some (.slice none 0 0) := by rw [← h8]; simp [go_sem, y07]
        have y1' : w8.cell? ⟨w.heap.size + 1 + 1 + 1, 1, none⟩ = some (.slice none 0 0) := by rw [← h8]; simp [go_sem, y17]
        have S8 : (fun u : World => u.cell? ⟨w1.heap.size, 0, none⟩ = some (.slice (some ⟨b, 0, none⟩) g.ins.length e0) ∧ u.cell? ⟨w1.heap.size, 1, none⟩ = some (.slice (some ⟨t, 0, none⟩) L.length e1) ∧ u.cell? ⟨w1.heap.size, 2, none⟩ = some (.slice (some ⟨gm, 0, none⟩) g.shown.length em) ∧ u.cell? ⟨w4.heap.size, 0, none⟩ = some (.slice none 0 0) ∧ u.cell? ⟨w4.heap.size, 1, none⟩ = some (.slice none 0 0)) w8 := HSB.out _ (fun k hk hk2 => (sp8.block k (by omega) (by omega)).trans (b56.block k hk2))
        rw [h8]
        clear h8 sp7 q0 q1 q2 y07 y17 ky7
        refine hK.out _ _ S8 (fun _ => ?_)
        clear hK K S7
        refine wpAnyH_ready (rs := [6]) (by kernel_rfl) (by simp) ?_
        refine AllReadyH.cons rfl (fun K hK => ?_) AllReadyH.nil
        rw [if_pos (by rfl)]
        go_simp
        refine hK.out _ _ S8 (fun _ => ?_)
        clear hK K
        refine wpAnyH_done (by kernel_rfl) ?_ _
        clear S8 HSB
        have z8 := sp8.size
        have B4 : Below w.heap.size w w4 := B1.trans ((b13.trans (b4.mono b13.size)).mono B1.size)
        have B8 : Below w.heap.size w w8 := (B4.trans (sp5.below (by omega) B4.size)).trans ((b56.mono (by omega)).trans (sp8.below (by omega) (by omega)))
        have hf8 := (((hf3.below b4).span sp5 (.inl (Nat.le_refl _))).below b56).span sp8 (.inr (by omega))
        go_wp2_with fail
        exact bodyPost_ret (v := .tuple #[.agg #[.slice (some ⟨b, 0, none⟩) g.ins.length e0, .slice (some ⟨t, 0, none⟩) L.length e1, .slice (some ⟨gm, 0, none⟩) g.shown.length em], .agg #[.slice none 0 0, .slice none 0 0], .int .i64 4]) (by simp [results, Tryz.results11, go_sem, q0', q1', q2', y0', y1']) rfl ⟨⟨⟨g.ins, g.wins.set i.toNat r, g.shown⟩, L, [], [], _, _, _, _, none, none, _, _, _, 0, 0, w8.heap.size, w8.heap.size, rfl, .inr ⟨HI.out, r, 0, HP.out, .inr (.inr ⟨rfl, g.shown, by rw [← HLL.out]; exact HCO.out, rfl⟩)⟩, HLL.out, by omega, Nat.le_refl _, Nat.le_refl _, .inr ⟨b, t, rfl, rfl, hf8.widen (by omega) (by omega)⟩, .inl rfl, .inl rfl, hcap⟩, B8⟩
    · have HCO : Hid (ComeP (L.map (·.l)) g.shown j (valsM (L.map (·.l)) out) j 1) := hcome
      clear hcome
      obtain ⟨u0, u1, u2, v0, v1, v2⟩ := id t3
      generalize valsM (L.map (·.l)) out = sv at *
      have HC := settled_shows (some ⟨b, 0, none⟩) (some ⟨t, 0, none⟩) (some ⟨gm, 0, none⟩) ja g.ins.length L.length g.shown.length e0 e1 em gv sv.length cv cj j w3 hjs h4.row
      go_wp2_with fail
      refine HC.mono ?_
      rintro e w4 ⟨⟨gs, cs, rfl, hgs, hcs, hos⟩, b4⟩
      have t4 := t3.keep b4
      have hlt4 : w1.heap.size < w4.heap.size := block_lt_of_cell t4.c0
      have ne4 : w1.heap.size ≠ w4.heap.size := by omega
      clear u0 u1 u2 v0 v1 v2 HC
      obtain ⟨u0, u1, u2, v0, v1, v2⟩ := id t4
      obtain ⟨V5, h5'⟩ : ∃ V5, (((w4.setCell ⟨w1.heap.size, 0, none⟩ (.slice (some ⟨b, 0, none⟩) g.ins.length e0)).setCell ⟨w1.heap.size, 1, none⟩ (.slice (some ⟨t, 0, none⟩) L.length e1)).setCell ⟨w1.heap.size, 2, none⟩ (.slice ja j.length cj)).alloc (.cells #[.slice (some ⟨gv, 0, none⟩) sv.length cv, .slice (some ⟨gs, 0, none⟩) j.length cs] 39) = V5 := ⟨_, rfl⟩
      have sp5a : Span w1.heap.size (w1.heap.size + 1) w4 (((w4.setCell ⟨w1.heap.size, 0, none⟩ (.slice (some ⟨b, 0, none⟩) g.ins.length e0)).setCell ⟨w1.heap.size, 1, none⟩ (.slice (some ⟨t, 0, none⟩) L.length e1)).setCell ⟨w1.heap.size, 2, none⟩ (.slice ja j.length cj)) := (((Span.refl _ _ _).setCell (Nat.le_refl _) (Nat.lt_succ_self _) _ _).setCell (Nat.le_refl _) (Nat.lt_succ_self _) _ _).setCell (Nat.le_refl _) (Nat.lt_succ_self _) _ _
      have sp5 : Span w1.heap.size (w1.heap.size + 1) w4 V5 := by
        rw [← h5']
        have hb : Below _ (((w4.setCell ⟨w1.heap.size, 0, none⟩ (.slice (some ⟨b, 0, none⟩) g.ins.length e0)).setCell ⟨w1.heap.size, 1, none⟩ (.slice (some ⟨t, 0, none⟩) L.length e1)).setCell ⟨w1.heap.size, 2, none⟩ (.slice ja j.length cj)) _ := (Below.refl _ _).alloc (Nat.le_refl _) (.cells #[.slice (some ⟨gv, 0, none⟩) sv.length cv, .slice (some ⟨gs, 0, none⟩) j.length cs] 39)
        exact ⟨hb.os.trans sp5a.os, hb.tape.trans sp5a.tape, hb.output.trans sp5a.output, Nat.le_trans sp5a.size hb.size, fun k hk hn => (hb.block k (Nat.lt_of_lt_of_le hk sp5a.size)).trans (sp5a.block k hk hn)⟩
      have z5 : V5.heap.size = w4.heap.size + 1 := by rw [← h5']; simp
      have z4 := b4.size
      have tS := (((t4.set0 (.slice (some ⟨b, 0, none⟩) g.ins.length e0)).set1 (.slice (some ⟨t, 0, none⟩) L.length e1)).set2 (.slice ja j.length cj)).keep ((Below.refl _ _).alloc (Nat.le_refl _) (.cells #[.slice (some ⟨gv, 0, none⟩) sv.length cv, .slice (some ⟨gs, 0, none⟩) j.length cs] 39))
      have SV : (fun u : World => u.cell? ⟨w1.heap.size, 0, none⟩ = some (.slice (some ⟨b, 0, none⟩) g.ins.length e0) ∧ u.cell? ⟨w1.heap.size, 1, none⟩ = some (.slice (some ⟨t, 0, none⟩) L.length e1) ∧ u.cell? ⟨w1.heap.size, 2, none⟩ = some (.slice ja j.length cj) ∧ u.cell? ⟨w4.heap.size, 0, none⟩ = some (.slice (some ⟨gv, 0, none⟩) sv.length cv) ∧ u.cell? ⟨w4.heap.size, 1, none⟩ = some (.slice (some ⟨gs, 0, none⟩) j.length cs)) V5 := by
        rw [h5'] at tS
        refine ⟨tS.c0, tS.c1, tS.c2, ?_, ?_⟩
        · rw [← h5']; simp [go_sem]
        · rw [← h5']; simp [go_sem]
      have HV5 : Hid (((((w4.setCell ⟨w1.heap.size, 0, none⟩ (.slice (some ⟨b, 0, none⟩) g.ins.length e0)).setCell ⟨w1.heap.size, 1, none⟩ (.slice (some ⟨t, 0, none⟩) L.length e1)).setCell ⟨w1.heap.size, 2, none⟩ (.slice ja j.length cj)).alloc (.cells #[.slice (some ⟨gv, 0, none⟩) sv.length cv, .slice (some ⟨gs, 0, none⟩) j.length cs] 39)) = V5) := h5'
      clear h5' sp5a
      replace x0 := cell_on b4 (by omega) x0
      replace x1 := cell_on b4 (by omega) x1
      replace x2 := cell_on b4 (by omega) x2
      replace y0 := cell_on b4 (by omega) y0
      replace y1 := cell_on b4 (by omega) y1
      have kx4 : ∀ q, w4.frozen? ⟨w.heap.size + 1 + 1, q, none⟩ = false := fun q => (b4.frozen (p := ⟨w.heap.size + 1 + 1, q, none⟩) (by simp only; omega)).trans (kx q)
      have ky4 : ∀ q, w4.frozen? ⟨w.heap.size + 1 + 1 + 1, q, none⟩ = false := fun q => (b4.frozen (p := ⟨w.heap.size + 1 + 1 + 1, q, none⟩) (by simp only; omega)).trans (ky q)
      have hw24 : w.heap.size + 4 ≤ w4.heap.size := by omega
      have hc5 : ∀ bb q v, w4.cell? ⟨bb, q, none⟩ = some v → bb < w.heap.size + 4 → V5.cell? ⟨bb, q, none⟩ = some v := fun bb q v hv hb => by rw [World.cell?_of_block (sp5.block bb (block_lt_of_cell hv) (by omega))]; exact hv
      have hq5 : ∀ bb q, w4.frozen? ⟨bb, q, none⟩ = false → bb < w.heap.size + 4 → V5.frozen? ⟨bb, q, none⟩ = false := fun bb q hv hb => by rw [World.frozen?_of_block (sp5.block bb (by omega) (by omega))]; exact hv
      go_wp2_with fail
      rw [HV5.out]
      clear HV5 u0 u1 u2 v0 v1 v2
      have hbd : Below V5.heap.size V5 V5.drew := (Below.refl _ _).drew
      have HSB : Hid (∀ u : World, (∀ k, w1.heap.size ≤ k → k < V5.heap.size → u.heap[k]? = V5.heap[k]?) → u.cell? ⟨w1.heap.size, 0, none⟩ = some (.slice (some ⟨b, 0, none⟩) g.ins.length e0) ∧ u.cell? ⟨w1.heap.size, 1, none⟩ = some (.slice (some ⟨t, 0, none⟩) L.length e1) ∧ u.cell? ⟨w1.heap.size, 2, none⟩ = some (.slice ja j.length cj) ∧ u.cell? ⟨w4.heap.size, 0, none⟩ = some (.slice (some ⟨gv, 0, none⟩) sv.length cv) ∧ u.cell? ⟨w4.heap.size, 1, none⟩ = some (.slice (some ⟨gs, 0, none⟩) j.length cs)) := fun u hu => ⟨(World.cell?_of_block (hu w1.heap.size (Nat.le_refl _) (by omega))).trans SV.1, (World.cell?_of_block (hu w1.heap.size (Nat.le_refl _) (by omega))).trans SV.2.1, (World.cell?_of_block (hu w1.heap.size (Nat.le_refl _) (by omega))).trans SV.2.2.1, (World.cell?_of_block (hu w4.heap.size (by omega) (by omega))).trans SV.2.2.2.1, (World.cell?_of_block (hu w4.heap.size (by omega) (by omega))).trans SV.2.2.2.2⟩
      have SW : (fun u : World => u.cell? ⟨w1.heap.size, 0, none⟩ = some (.slice (some ⟨b, 0, none⟩) g.ins.length e0) ∧ u.cell? ⟨w1.heap.size, 1, none⟩ = some (.slice (some ⟨t, 0, none⟩) L.length e1) ∧ u.cell? ⟨w1.heap.size, 2, none⟩ = some (.slice ja j.length cj) ∧ u.cell? ⟨w4.heap.size, 0, none⟩ = some (.slice (some ⟨gv, 0, none⟩) sv.length cv) ∧ u.cell? ⟨w4.heap.size, 1, none⟩ = some (.slice (some ⟨gs, 0, none⟩) j.length cs)) V5.drew := HSB.out _ (fun k _ hk => hbd.block k hk)
      have km := Tryz.methShows (.agg #[.slice (some ⟨gv, 0, none⟩) sv.length cv, .slice ja j.length cj])
      refine wp_region_held_drew (S := fun u => u.cell? ⟨w1.heap.size, 0, none⟩ = some (.slice (some ⟨b, 0, none⟩) g.ins.length e0) ∧ u.cell? ⟨w1.heap.size, 1, none⟩ = some (.slice (some ⟨t, 0, none⟩) L.length e1) ∧ u.cell? ⟨w1.heap.size, 2, none⟩ = some (.slice ja j.length cj) ∧ u.cell? ⟨w4.heap.size, 0, none⟩ = some (.slice (some ⟨gv, 0, none⟩) sv.length cv) ∧ u.cell? ⟨w4.heap.size, 1, none⟩ = some (.slice (some ⟨gs, 0, none⟩) j.length cs)) (by kernel_rfl) SW (fun _ => ?_)
      refine wpAnyH_take (i := 0) (v := .agg #[.slice (some ⟨b, 0, none⟩) g.ins.length e0, .slice (some ⟨t, 0, none⟩) L.length e1, .slice ja j.length cj]) rfl (by kernel_rfl) (by kernel_rfl) (by kernel_rfl) (fun _ _ _ h => h) (Or.inl ⟨by rfl, ?_⟩) SW ?_
      · rintro u ⟨p1, p2, p3, p4, p5⟩
        go_simp
      simp only [Act.put, List.setIfInBounds_toArray]
      refine wpAnyH_take (i := 1) (v := .agg #[.slice (some ⟨gv, 0, none⟩) sv.length cv, .slice (some ⟨gs, 0, none⟩) j.length cs]) rfl (by kernel_rfl) (by kernel_rfl) (by kernel_rfl) (fun _ _ _ h => h) (Or.inl ⟨by rfl, ?_⟩) SW ?_
      · rintro u ⟨p1, p2, p3, p4, p5⟩
        go_simp
      simp only [Act.put]
      refine wpAnyH_take (i := 2) (v := .iface 165 (.agg #[.slice (some ⟨gv, 0, none⟩) sv.length cv, .slice ja j.length cj])) rfl (by kernel_rfl) (by kernel_rfl) (by kernel_rfl) (fun _ _ _ h => h) (Or.inl ⟨by rfl, ?_⟩) SW ?_
      · rintro u ⟨p1, p2, p3, p4, p5⟩
        go_simp
      simp only [Act.put]
      refine wpAnyH_ready (rs := [3]) (by kernel_rfl) (by simp) ?_
      refine AllReadyH.cons rfl (fun K hK => ?_) AllReadyH.nil
      rw [if_pos (by rfl)]
      go_simp
      refine (code_shows _ _ _).mono ?_
      rintro e w6 ⟨rfl, b6⟩
      have b56 : Below V5.heap.size V5 w6 := hbd.trans (b6.mono hbd.size)
      have z6 := b56.size
      have S6 : (fun u : World => u.cell? ⟨w1.heap.size, 0, none⟩ = some (.slice (some ⟨b, 0, none⟩) g.ins.length e0) ∧ u.cell? ⟨w1.heap.size, 1, none⟩ = some (.slice (some ⟨t, 0, none⟩) L.length e1) ∧ u.cell? ⟨w1.heap.size, 2, none⟩ = some (.slice ja j.length cj) ∧ u.cell? ⟨w4.heap.size, 0, none⟩ = some (.slice (some ⟨gv, 0, none⟩) sv.length cv) ∧ u.cell? ⟨w4.heap.size, 1, none⟩ = some (.slice (some ⟨gs, 0, none⟩) j.length cs)) w6 := HSB.out _ (fun k _ hk => b56.block k hk)
      refine hK.out _ _ S6 (fun _ => ?_)
      clear hK K SW
      have x06 := cell_on b56 (by omega) (hc5 _ _ _ x0 (by omega))
      have x16 := cell_on b56 (by omega) (hc5 _ _ _ x1 (by omega))
      have x26 := cell_on b56 (by omega) (hc5 _ _ _ x2 (by omega))
      have y06 := cell_on b56 (by omega) (hc5 _ _ _ y0 (by omega))
      have y16 := cell_on b56 (by omega) (hc5 _ _ _ y1 (by omega))
      have kx6 : ∀ q, w6.frozen? ⟨w.heap.size + 1 + 1, q, none⟩ = false := fun q => (b56.frozen (p := ⟨w.heap.size + 1 + 1, q, none⟩) (by simp only; omega)).trans (hq5 _ q (kx4 q) (by omega))
      have ky6 : ∀ q, w6.frozen? ⟨w.heap.size + 1 + 1 + 1, q, none⟩ = false := fun q => (b56.frozen (p := ⟨w.heap.size + 1 + 1 + 1, q, none⟩) (by simp only; omega)).trans (hq5 _ q (ky4 q) (by omega))
      clear x0 x1 x2 y0 y1 kx ky kx4 ky4 hc5 hq5 km
      refine wpAnyH_ready (rs := [4]) (by kernel_rfl) (by simp) ?_
      refine AllReadyH.cons rfl (fun K hK => ?_) AllReadyH.nil
      rw [if_pos (by rfl)]
      go_simp
      obtain ⟨w7, h7⟩ : ∃ w7, ((w6.setCell ⟨w.heap.size + 1 + 1, 0, none⟩ (.slice (some ⟨b, 0, none⟩) g.ins.length e0)).setCell ⟨w.heap.size + 1 + 1, 1, none⟩ (.slice (some ⟨t, 0, none⟩) L.length e1)).setCell ⟨w.heap.size + 1 + 1, 2, none⟩ (.slice ja j.length cj) = w7 := ⟨_, rfl⟩
      have sp7 : Span (w.heap.size + 2) (w.heap.size + 4) w6 w7 := by rw [← h7]; exact (((Span.refl _ _ _).setCell (by omega) (by omega) _ _).setCell (by omega) (by omega) _ _).setCell (by omega) (by omega) _ _
      have q0 : w7.cell? ⟨w.heap.size + 1 + 1, 0, none⟩ = some (.slice (some ⟨b, 0, none⟩) g.ins.length e0) := by rw [← h7]; simp [go_sem, x06]
      have q1 : w7.cell? ⟨w.heap.size + 1 + 1, 1, none⟩ = some (.slice (some ⟨t, 0, none⟩) L.length e1) := by rw [← h7]; simp [go_sem, x16]
      have q2 : w7.cell? ⟨w.heap.size + 1 + 1, 2, none⟩ = some (.slice ja j.length cj) := by rw [← h7]; simp [go_sem, x26]
      have y07 : w7.cell? ⟨w.heap.size + 1 + 1 + 1, 0, none⟩ = some (.slice none 0 0) := by rw [← h7]; simp [go_sem, y06]
      have y17 : w7.cell? ⟨w.heap.size + 1 + 1 + 1, 1, none⟩ = some (.slice none 0 0) := by rw [← h7]; simp [go_sem, y16]
      have ky7 : ∀ q, w7.frozen? ⟨w.heap.size + 1 + 1 + 1, q, none⟩ = false := fun q => by rw [← h7]; simp [go_sem, ky6]
      have S7 : (fun u : World => u.cell? ⟨w1.heap.size, 0, none⟩ = some (.slice (some ⟨b, 0, none⟩) g.ins.length e0) ∧ u.cell? ⟨w1.heap.size, 1, none⟩ = some (.slice (some ⟨t, 0, none⟩) L.length e1) ∧ u.cell? ⟨w1.heap.size, 2, none⟩ = some (.slice ja j.length cj) ∧ u.cell? ⟨w4.heap.size, 0, none⟩ = some (.slice (some ⟨gv, 0, none⟩) sv.length cv) ∧ u.cell? ⟨w4.heap.size, 1, none⟩ = some (.slice (some ⟨gs, 0, none⟩) j.length cs)) w7 := HSB.out _ (fun k hk hk2 => (sp7.block k (by omega) (by omega)).trans (b56.block k hk2))
      rw [h7]
      clear h7
      refine hK.out _ _ S7 (fun _ => ?_)
      clear hK K S6
      refine wpAnyH_ready (rs := [5]) (by kernel_rfl) (by simp) ?_
      refine AllReadyH.cons rfl (fun K hK => ?_) AllReadyH.nil
      rw [if_pos (by rfl)]
      go_simp
      obtain ⟨w8, h8⟩ : ∃ w8, (w7.setCell ⟨w.heap.size + 1 + 1 + 1, 0, none⟩ (.slice (some ⟨gv, 0, none⟩) sv.length cv)).setCell ⟨w.heap.size + 1 + 1 + 1, 1, none⟩ (.slice (some ⟨gs, 0, none⟩) j.length cs) = w8 := ⟨_, rfl⟩
      have sp8 : Span (w.heap.size + 2) (w.heap.size + 4) w6 w8 := by rw [← h8]; exact (sp7.setCell (by omega) (by omega) _ _).setCell (by omega) (by omega) _ _
      have q0' : w8.cell? ⟨w.heap.size + 1 + 1, 0, none⟩ = some (.slice (some ⟨b, 0, none⟩) g.ins.length e0) := by rw [← h8]; simp [go_sem, q0]
      have q1' : w8.cell? ⟨w.heap.size + 1 + 1, 1, none⟩ = some (.slice (some ⟨t, 0, none⟩) L.length e1) := by rw [← h8]; simp [go_sem, q1]
      have q2' : w8.cell? ⟨w.heap.size + 1 + 1, 2, none⟩ = some (.slice ja j.length cj) := by rw [← h8]; simp [go_sem, q2]
      have y0' : w8.cell? ⟨w.heap.size + 1 + 1 + 1, 0, none⟩ = some (.slice (some ⟨gv, 0, none⟩) sv.length cv) := by rw [← h8]; simp [go_sem, y07]
      have y1' : w8.cell? ⟨w.heap.size + 1 + 1 + 1, 1, none⟩ = some (.slice (some ⟨gs, 0, none⟩) j.length cs) := by rw [← h8]; simp [go_sem, y17]
      have S8 : (fun u : World => u.cell? ⟨w1.heap.size, 0, none⟩ = some (.slice (some ⟨b, 0, none⟩) g.ins.length e0) ∧ u.cell? ⟨w1.heap.size, 1, none⟩ = some (.slice (some ⟨t, 0, none⟩) L.length e1) ∧ u.cell? ⟨w1.heap.size, 2, none⟩ = some (.slice ja j.length cj) ∧ u.cell? ⟨w4.heap.size, 0, none⟩ = some (.slice (some ⟨gv, 0, none⟩) sv.length cv) ∧ u.cell? ⟨w4.heap.size, 1, none⟩ = some (.slice (some ⟨gs, 0, none⟩) j.length cs)) w8 := HSB.out _ (fun k hk hk2 => (sp8.block k (by omega) (by omega)).trans (b56.block k hk2))
      rw [h8]
      clear h8 sp7 q0 q1 q2 y07 y17 ky7
      refine hK.out _ _ S8 (fun _ => ?_)
      clear hK K S7
      refine wpAnyH_ready (rs := [6]) (by kernel_rfl) (by simp) ?_
      refine AllReadyH.cons rfl (fun K hK => ?_) AllReadyH.nil
      rw [if_pos (by rfl)]
      go_simp
      refine hK.out _ _ S8 (fun _ => ?_)
      clear hK K
      refine wpAnyH_done (by kernel_rfl) ?_ _
      clear S8 HSB
      have z8 := sp8.size
      have B4 : Below w.heap.size w w4 := B1.trans ((b13.trans (b4.mono b13.size)).mono B1.size)
      have B8 : Below w.heap.size w w8 := (B4.trans (sp5.below (by omega) B4.size)).trans ((b56.mono (by omega)).trans (sp8.below (by omega) (by omega)))
      have hf8 := (((hf3.below b4).span sp5 (.inl (Nat.le_refl _))).below b56).span sp8 (.inr (by omega))
      have hj8 := (((h4.below b4).span sp5 (.inr (by omega))).below b56).span sp8 (.inr (by omega))
      have hz3 : SafeZ w3 mid w3.heap.size (some ⟨gv, 0, none⟩) sv := .inr ⟨gv, rfl, h5, h6.lt, h6⟩
      have hv8 := (((hz3.below b4).span sp5 (.inr (by omega))).below b56).span sp8 (.inr (by omega))
      have hs4 : Safe w4 w3.heap.size w4.heap.size (some ⟨gs, 0, none⟩) j := .inr ⟨gs, rfl, hgs, hos.lt, hos⟩
      have hs8 := ((hs4.span sp5 (.inr (by omega))).below b56).span sp8 (.inr (by omega))
      have hnew : FullG w8 W0.heap.size mid b t ja g.ins L j := by
        have hw := hf8.widen (Nat.le_refl W0.heap.size) (show w1.heap.size ≤ mid by omega)
        refine ⟨hw.names, hw.wins, hw.bt, hw.bin, hw.tin, hw.bfar, ?_⟩
        rcases hj8 with e | ⟨s, e, q1, q2, q3⟩
        · exact .inl e
        · have hbin := hf8.bin
          have htin := hf8.tin
          exact .inr ⟨s, e, by omega, q2, by omega, by omega, q3, fun p hp => .inr (by have := (hf8.wins.in_ p hp).2.2; omega)⟩
      clear hf8 hj8 hz3 hs4
      go_wp2_with fail
      exact bodyPost_ret (v := .tuple #[.agg #[.slice (some ⟨b, 0, none⟩) g.ins.length e0, .slice (some ⟨t, 0, none⟩) L.length e1, .slice ja j.length cj], .agg #[.slice (some ⟨gv, 0, none⟩) sv.length cv, .slice (some ⟨gs, 0, none⟩) j.length cs], .int .i64 1]) (by simp [results, Tryz.results11, go_sem, q0', q1', q2', y0', y1']) rfl ⟨⟨⟨g.ins, g.wins.set i.toNat r, j⟩, L, sv, j, 1, _, _, _, _, _, _, _, _, _, _, mid, w3.heap.size, rfl, .inr ⟨HI.out, r, 0, HP.out, .inr (.inr ⟨rfl, j, by rw [← HLL.out]; exact HCO.out, rfl⟩)⟩, HLL.out, by omega, h2, by omega, .inr ⟨b, t, rfl, rfl, hnew.widen (by omega) (Nat.le_refl _)⟩, hv8, hs8.widenS (Nat.le_refl _) (by omega), hcap⟩, B8⟩

end Go.Proofs.YtpfhegengmlkmacGreatDoor
/- What the law of GatherPut keeps while a region calls and lays two boxes, in whatever order. -/
namespace Go.Proofs.YtpfhegengmlkmacGreatDoor
open Go.RowKit Go.BigFrame
set_option maxRecDepth 100000

/-- Two cells of a box. -/
structure Duo (w : World) (b : Nat) (x y : Value) : Prop where
  c0 : w.cell? ⟨b, 0, none⟩ = some x
  c1 : w.cell? ⟨b, 1, none⟩ = some y
  f0 : w.frozen? ⟨b, 0, none⟩ = false
  f1 : w.frozen? ⟨b, 1, none⟩ = false
theorem Duo.keep {w w' : World} {b : Nat} {x y : Value} (h : Duo w b x y) (hb : Below w.heap.size w w') : Duo w' b x y := by
  have hl : b < w.heap.size := block_lt_of_cell h.c0
  exact ⟨cell_on hb hl h.c0, cell_on hb hl h.c1, (hb.frozen (p := ⟨b, 0, none⟩) hl).trans h.f0, (hb.frozen (p := ⟨b, 1, none⟩) hl).trans h.f1⟩
theorem Duo.span {w w' : World} {b lo hi : Nat} {x y : Value} (h : Duo w b x y) (hs : Span lo hi w w') (hd : b < lo ∨ hi ≤ b) : Duo w' b x y := by
  have e := hs.block b (block_lt_of_cell h.c0) hd
  exact ⟨(World.cell?_of_block (a := ⟨b, 0, none⟩) e).trans h.c0, (World.cell?_of_block (a := ⟨b, 1, none⟩) e).trans h.c1, (World.frozen?_of_block (a := ⟨b, 0, none⟩) e).trans h.f0, (World.frozen?_of_block (a := ⟨b, 1, none⟩) e).trans h.f1⟩
theorem Duo.set0 {w : World} {b : Nat} {x y : Value} (h : Duo w b x y) (v : Value) : Duo (w.setCell ⟨b, 0, none⟩ v) b v y := ⟨by simp [go_sem, h.c0], by simp [go_sem, h.c1], by simp [go_sem, h.f0], by simp [go_sem, h.f1]⟩
theorem Duo.set1 {w : World} {b : Nat} {x y : Value} (h : Duo w b x y) (v : Value) : Duo (w.setCell ⟨b, 1, none⟩ v) b x v := ⟨by simp [go_sem, h.c0], by simp [go_sem, h.c1], by simp [go_sem, h.f0], by simp [go_sem, h.f1]⟩
theorem duo_new (w : World) (x y : Value) (t : TypeId) : Duo (w.alloc (.cells #[x, y] t)) w.heap.size x y := ⟨by simp [go_sem], by simp [go_sem], by simp [go_sem], by simp [go_sem]⟩
theorem PartS.keepP {w w' : World} {b k : Nat} {l : List ByteArray} (h : PartS w b l k) (hb : Below w.heap.size w w') : PartS w' b l k := h.below h.lt hb

/-- What a call of GatherPut has answered. -/
structure ResG where
  g : GatL
  L : List WinY
  sv : List Int
  ss : List (ByteArray × Int)
  code : Int
  s0 : Option Addr
  s1 : Option Addr
  s2 : Option Addr
  s3 : Option Addr
  s4 : Option Addr
  d0 : Nat
  d1 : Nat
  d2 : Nat
  d3 : Nat
  d4 : Nat
  tl : Nat
  h1 : Nat
  h2 : Nat
  th : Nat
abbrev ResG.gv (R : ResG) : Value := .agg #[.slice R.s0 R.g.ins.length R.d0, .slice R.s1 R.L.length R.d1, .slice R.s2 R.g.shown.length R.d2]
abbrev ResG.wv (R : ResG) : Value := .agg #[.slice R.s3 R.sv.length R.d3, .slice R.s4 R.ss.length R.d4]
abbrev ResG.all (R : ResG) : Value := .tuple #[R.gv, R.wv, .int .i64 R.code]
/-- It lies so: the gather, the values and the stamp in blocks of their own. -/
structure CalI (g : GatL) (i x : Int) (m : List (ByteArray × Int)) (R : ResG) (u : World) : Prop where
  put : PutG g i x m R.g R.sv R.ss R.code
  map : R.L.map (·.l) = R.g.wins
  sg : SafeG u R.tl R.h1 R.s0 R.s1 R.s2 R.g.ins R.L R.g.shown
  sz : SafeZ u R.h1 R.h2 R.s3 R.sv
  ss : Safe u R.h2 R.th R.s4 R.ss
  o1 : R.tl ≤ R.h1
  o2 : R.h1 ≤ R.h2
  o3 : R.h2 ≤ R.th
  o4 : R.th ≤ u.heap.size
  cap : R.g.ins.length ≤ R.d0 ∧ R.d0 ≤ maxLen
/-- It lies so: somewhere between two. -/
structure CalS (g : GatL) (i x : Int) (m : List (ByteArray × Int)) (R : ResG) (u : World) : Prop where
  put : PutG g i x m R.g R.sv R.ss R.code
  map : R.L.map (·.l) = R.g.wins
  sg : SafeG u R.tl R.th R.s0 R.s1 R.s2 R.g.ins R.L R.g.shown
  sz : SafeZ u R.tl R.th R.s3 R.sv
  ss : Safe u R.tl R.th R.s4 R.ss
  o1 : R.tl ≤ R.th
  o4 : R.th ≤ u.heap.size
theorem CalI.below {g : GatL} {i x : Int} {m : List (ByteArray × Int)} {R : ResG} {u u' : World} (h : CalI g i x m R u) (hb : Below u.heap.size u u') : CalI g i x m R u' := ⟨h.put, h.map, h.sg.below hb, h.sz.below hb, h.ss.below hb, h.o1, h.o2, h.o3, Nat.le_trans h.o4 hb.size, h.cap⟩
theorem CalS.below {g : GatL} {i x : Int} {m : List (ByteArray × Int)} {R : ResG} {u u' : World} (h : CalS g i x m R u) (hb : Below u.heap.size u u') : CalS g i x m R u' := ⟨h.put, h.map, h.sg.below hb, h.sz.below hb, h.ss.below hb, h.o1, Nat.le_trans h.o4 hb.size⟩
theorem CalI.span {g : GatL} {i x : Int} {m : List (ByteArray × Int)} {R : ResG} {u u' : World} {lo hi : Nat} (h : CalI g i x m R u) (hs : Span lo hi u u') (hd : R.th ≤ lo ∨ hi ≤ R.tl) : CalI g i x m R u' := by
  have h1 := h.o1
  have h2 := h.o2
  have h3 := h.o3
  exact ⟨h.put, h.map, h.sg.span hs (by omega), h.sz.span hs (by omega), h.ss.span hs (by omega), h.o1, h.o2, h.o3, Nat.le_trans h.o4 hs.size, h.cap⟩
theorem CalS.span {g : GatL} {i x : Int} {m : List (ByteArray × Int)} {R : ResG} {u u' : World} {lo hi : Nat} (h : CalS g i x m R u) (hs : Span lo hi u u') (hd : R.th ≤ lo ∨ hi ≤ R.tl) : CalS g i x m R u' := ⟨h.put, h.map, h.sg.span hs hd, h.sz.span hs hd, h.ss.span hs hd, h.o1, Nat.le_trans h.o4 hs.size⟩
theorem GPE.cal {w w' : World} {g : GatL} {i x : Int} {m : List (ByteArray × Int)} {e : Ending} (h : GPE w w' g i x m e) : ∃ R : ResG, e = .returned R.all ∧ R.tl = w.heap.size ∧ R.th = w'.heap.size ∧ CalI g i x m R w' := by
  obtain ⟨g', L, sv, ss, code, a0, a1, a2, a3, a4, d0, d1, d2, d3, d4, h1, h2, rfl, hp, hm, o1, o2, o3, k1, k2, k3, k4⟩ := h
  exact ⟨⟨g', L, sv, ss, code, a0, a1, a2, a3, a4, d0, d1, d2, d3, d4, w.heap.size, h1, h2, w'.heap.size⟩, rfl, rfl, rfl, hp, hm, k1, k2, k3, o1, o2, o3, Nat.le_refl _, k4⟩
theorem GPS.cal {w w' : World} {g : GatL} {i x : Int} {m : List (ByteArray × Int)} {e : Ending} (h : GPS w w' g i x m e) (hb : w.heap.size ≤ w'.heap.size) : ∃ R : ResG, e = .returned R.all ∧ R.tl = w.heap.size ∧ R.th = w'.heap.size ∧ CalS g i x m R w' := by
  obtain ⟨g', L, sv, ss, code, a0, a1, a2, a3, a4, d0, d1, d2, d3, d4, rfl, hp, hm, k1, k2, k3⟩ := h
  exact ⟨⟨g', L, sv, ss, code, a0, a1, a2, a3, a4, d0, d1, d2, d3, d4, w.heap.size, 0, 0, w'.heap.size⟩, rfl, rfl, rfl, hp, hm, k1, k2, k3, hb, Nat.le_refl _⟩
/-- Both sides answer the same. -/
theorem cal_same {g : GatL} {i x : Int} {m : List (ByteArray × Int)} {R R' : ResG} {u u' : World} (h : CalS g i x m R u) (k : CalI g i x m R' u') : R.g = R'.g ∧ R.sv = R'.sv ∧ R.ss = R'.ss ∧ R.code = R'.code ∧ R.L.length = R'.L.length := by
  obtain ⟨h1, h2, h3, h4⟩ := h.put.one k.put
  refine ⟨h1, h2, h3, h4, ?_⟩
  have e1 := congrArg List.length h.map
  have e2 := congrArg List.length k.map
  rw [List.length_map] at e1 e2
  rw [e1, e2, h1]

/-- What holds while the region runs: f says which operations are done. -/
structure Fx (Cal : ResG → World → Prop) (W : World) (GV FV : Value) (g : GatL) (i x : Int) (m : List (ByteArray × Int)) (f : Nat → Bool) (R : ResG) (b9 b10 p0 p1 p2 pl ph pf : Nat) (v6 v7 v8 v30 v31 v32 v33 v34 v35 v36 v37 v38 : Value) (u : World) : Prop where
  bel : Below W.heap.size W u
  k0 : f 0 = true → v31 = GV
  k1 : f 1 = true → v32 = .agg #[.slice (some ⟨p0, 0, none⟩) g.ins.length g.ins.length, .slice (some ⟨p1, 0, none⟩) g.wins.length g.wins.length, .slice (some ⟨p2, 0, none⟩) g.shown.length g.shown.length] ∧ (f 4 = false → PartS u p0 g.ins g.ins.length ∧ PartW u pl ph p1 g.wins g.wins.length ∧ Own u p2 g.shown)
  k2 : f 2 = true → v33 = FV
  k3 : f 3 = true → v34 = .agg #[.int .i64 i, .int .i64 x, .slice (some ⟨pf, 0, none⟩) m.length m.length] ∧ (f 4 = false → Own u pf m)
  k4 : f 4 = true → v35 = R.all ∧ Cal R u ∧ W.heap.size ≤ R.tl
  k5 : f 5 = true → v30 = R.all
  k6 : f 6 = true → v36 = R.gv
  k7 : f 7 = true → v37 = R.wv
  k8 : f 8 = true → v38 = .int .i64 R.code
  k9 : f 9 = true → v6 = .pointer (some ⟨b9, 0, none⟩) ∧ W.heap.size ≤ b9 ∧ b9 < u.heap.size ∧ (f 4 = true → b9 < R.tl ∨ R.th ≤ b9) ∧ (f 11 = false → Tri u b9 (.slice none 0 0) (.slice none 0 0) (.slice none 0 0)) ∧ (f 11 = true → Tri u b9 (.slice R.s0 R.g.ins.length R.d0) (.slice R.s1 R.L.length R.d1) (.slice R.s2 R.g.shown.length R.d2))
  k10 : f 10 = true → v7 = .pointer (some ⟨b10, 0, none⟩) ∧ W.heap.size ≤ b10 ∧ b10 < u.heap.size ∧ (f 4 = true → b10 < R.tl ∨ R.th ≤ b10) ∧ (f 12 = false → Duo u b10 (.slice none 0 0) (.slice none 0 0)) ∧ (f 12 = true → Duo u b10 (.slice R.s3 R.sv.length R.d3) (.slice R.s4 R.ss.length R.d4))
  k13 : f 13 = true → v8 = .int .i64 R.code
  ne : f 9 = true → f 10 = true → b9 ≠ b10
  c4 : f 4 = true → f 1 = true ∧ f 3 = true
  c5 : f 5 = true → f 4 = true
  c6 : f 6 = true → f 4 = true
  c7 : f 7 = true → f 4 = true
  c8 : f 8 = true → f 4 = true
  c11 : f 11 = true → f 4 = true ∧ f 9 = true
  c12 : f 12 = true → f 4 = true ∧ f 10 = true
  c13 : f 13 = true → f 4 = true
/-- While the copies are still used: they may lie where the boxes do not. -/
theorem Fx.below {Cal : ResG → World → Prop} (hC : ∀ R u u', Cal R u → Below u.heap.size u u' → Cal R u') {W u u' : World} {GV FV : Value} {g : GatL} {i x : Int} {m : List (ByteArray × Int)} {f : Nat → Bool} {R : ResG} {b9 b10 p0 p1 p2 pl ph pf : Nat} {v6 v7 v8 v30 v31 v32 v33 v34 v35 v36 v37 v38 : Value} (h : Fx Cal W GV FV g i x m f R b9 b10 p0 p1 p2 pl ph pf v6 v7 v8 v30 v31 v32 v33 v34 v35 v36 v37 v38 u) (hb : Below u.heap.size u u') :
    Fx Cal W GV FV g i x m f R b9 b10 p0 p1 p2 pl ph pf v6 v7 v8 v30 v31 v32 v33 v34 v35 v36 v37 v38 u' :=
  { h with
    bel := h.bel.trans (hb.mono h.bel.size)
    k1 := fun e => let ⟨q0, q1⟩ := h.k1 e; ⟨q0, fun e' => let ⟨r1, r2, r3⟩ := q1 e'; ⟨r1.keepP hb, r2.below hb, r3.below hb⟩⟩
    k3 := fun e => let ⟨q0, q1⟩ := h.k3 e; ⟨q0, fun e' => (q1 e').below hb⟩
    k4 := fun e => let ⟨q0, q1, q2⟩ := h.k4 e; ⟨q0, hC _ _ _ q1 hb, q2⟩
    k9 := fun e => let ⟨q0, q1, q2, q3, q4, q5⟩ := h.k9 e; ⟨q0, q1, Nat.lt_of_lt_of_le q2 hb.size, q3, fun e' => (q4 e').keep hb, fun e' => (q5 e').keep hb⟩
    k10 := fun e => let ⟨q0, q1, q2, q3, q4, q5⟩ := h.k10 e; ⟨q0, q1, Nat.lt_of_lt_of_le q2 hb.size, q3, fun e' => (q4 e').keep hb, fun e' => (q5 e').keep hb⟩ }

end Go.Proofs.YtpfhegengmlkmacGreatDoor
/- What the law of GatherPut asks of answers: they are compared, marked, and held. -/
namespace Go.Proofs.YtpfhegengmlkmacGreatDoor
open Go.RowKit Go.BigFrame
set_option maxRecDepth 100000

theorem NiceG.fit {g : GatL} (h : NiceG g) : FitG g :=
  ⟨⟨by have := h.ins; unfold maxLen; omega, fun j hj => by have := h.names j hj; unfold maxLen; omega⟩, ⟨by have := h.wins; unfold maxLen; omega, fun j hj => (h.items _ (List.getElem_mem hj)).fit⟩, stamp_fit h.shown⟩
/-- How an answer can be read. -/
structure RowsR (R : ResG) (u : World) : Prop where
  nice : NiceG R.g
  sv6 : R.sv.length ≤ 6
  st : StampP R.ss
  len : R.L.length = R.g.wins.length
  r0 : RowS u R.s0 R.g.ins
  r1 : RowW u R.s1 R.g.wins
  r2 : Row u R.s2 R.g.shown
  r3 : RowZ u R.s3 R.sv
  r4 : Row u R.s4 R.ss
theorem map_len {L : List WinY} {ws : List (List ItemL)} (h : L.map (·.l) = ws) : L.length = ws.length := by rw [← h, List.length_map]
theorem CalI.rows {g : GatL} {i x : Int} {m : List (ByteArray × Int)} {R : ResG} {u : World} (h : CalI g i x m R u) : RowsR R u := by
  obtain ⟨k1, k2, k3⟩ := h.put.nice
  obtain ⟨q0, q1, q2⟩ := h.sg.rows
  rw [h.map] at q1
  exact ⟨k1, k2, k3, map_len h.map, q0, q1, q2, h.sz.row, h.ss.row⟩
theorem CalS.rows {g : GatL} {i x : Int} {m : List (ByteArray × Int)} {R : ResG} {u : World} (h : CalS g i x m R u) : RowsR R u := by
  obtain ⟨k1, k2, k3⟩ := h.put.nice
  obtain ⟨q0, q1, q2⟩ := h.sg.rows
  rw [h.map] at q1
  exact ⟨k1, k2, k3, map_len h.map, q0, q1, q2, h.sz.row, h.ss.row⟩
theorem eqRows_any {R R' : ResG} {u : World} (h : RowsR R u) (k : RowsR R' u) (e : R'.g = R.g) : Calls Tryz.prog 12 #[R'.gv, R.gv] u fun e w' => e = .returned (.bool true) ∧ Below u.heap.size u w' := by
  have z := eqGather_same R'.s0 R'.s1 R'.s2 R.s0 R.s1 R.s2 R'.d0 R'.d1 R'.d2 R.d0 R.d1 R.d2 R.g u h.nice.fit (e ▸ k.r0) (e ▸ k.r1) (e ▸ k.r2) h.r0 h.r1 h.r2
  have l1 := h.len
  have l2 := k.len
  rw [e] at l2
  unfold ResG.gv
  rw [l1, l2, e]
  exact z
theorem eqRowsS_any {R R' : ResG} {u : World} (h : RowsR R u) (k : RowsR R' u) (e1 : R'.sv = R.sv) (e2 : R'.ss = R.ss) : Calls Tryz.prog 13 #[R'.wv, R.wv] u fun e w' => e = .returned (.bool true) ∧ Below u.heap.size u w' := by
  have z := eqShow_same R'.s3 R'.s4 R.s3 R.s4 R'.d3 R'.d4 R.d3 R.d4 R.sv R.ss u (by have := h.sv6; unfold maxLen; omega) (by have := h.st.1; unfold maxLen; omega) (e1 ▸ k.r3) (e2 ▸ k.r4) h.r3 h.r4
  unfold ResG.wv
  rw [e1, e2]
  exact z
theorem eqCal_any {g : GatL} {i x : Int} {m : List (ByteArray × Int)} {R R' : ResG} {u : World} (h : CalS g i x m R u) (k : CalI g i x m R' u) : Calls Tryz.prog 12 #[R'.gv, R.gv] u fun e w' => e = .returned (.bool true) ∧ Below u.heap.size u w' := eqRows_any h.rows k.rows (cal_same h k).1.symm
theorem eqCalS_any {g : GatL} {i x : Int} {m : List (ByteArray × Int)} {R R' : ResG} {u : World} (h : CalS g i x m R u) (k : CalI g i x m R' u) : Calls Tryz.prog 13 #[R'.wv, R.wv] u fun e w' => e = .returned (.bool true) ∧ Below u.heap.size u w' := eqRowsS_any h.rows k.rows (cal_same h k).2.1.symm (cal_same h k).2.2.1.symm

/-- The gather is marked, the rest is not yet. -/
structure HalfI (K : Int) (R : ResG) (u : World) : Prop where
  nice : NiceG R.g
  sv6 : R.sv.length ≤ 6
  st : StampP R.ss
  map : R.L.map (·.l) = R.g.wins
  ke : K = kG R.g.ins.length R.L R.g.shown.length
  sg : SafeG u R.tl R.h1 R.s0 R.s1 R.s2 (textsM 1 R.g.ins.length) (mixY (1 + (R.g.ins.length : Int)) R.L.length R.L) (marked (kAt (1 + (R.g.ins.length : Int)) R.L.length R.L) R.g.shown.length)
  sz : SafeZ u R.h1 R.h2 R.s3 R.sv
  ss : Safe u R.h2 R.th R.s4 R.ss
  o1 : R.tl ≤ R.h1
  o2 : R.h1 ≤ R.h2
  o3 : R.h2 ≤ R.th
  o4 : R.th ≤ u.heap.size
/-- All is marked. -/
structure MarI (K M : Int) (R : ResG) (u : World) : Prop where
  nice : NiceG R.g
  sv6 : R.sv.length ≤ 6
  st : StampP R.ss
  map : R.L.map (·.l) = R.g.wins
  ke : K = kG R.g.ins.length R.L R.g.shown.length
  me : M = K + (R.sv.length : Int) + 2 * (R.ss.length : Int)
  sg : SafeG u R.tl R.h1 R.s0 R.s1 R.s2 (textsM 1 R.g.ins.length) (mixY (1 + (R.g.ins.length : Int)) R.L.length R.L) (marked (kAt (1 + (R.g.ins.length : Int)) R.L.length R.L) R.g.shown.length)
  sz : SafeZ u R.h1 R.h2 R.s3 (numsZ K R.sv.length)
  ss : Safe u R.h2 R.th R.s4 (marked (K + (R.sv.length : Int)) R.ss.length)
  o1 : R.tl ≤ R.h1
  o2 : R.h1 ≤ R.h2
  o3 : R.h2 ≤ R.th
  o4 : R.th ≤ u.heap.size
theorem HalfI.below {K : Int} {R : ResG} {u u' : World} (h : HalfI K R u) (hb : Below u.heap.size u u') : HalfI K R u' := { h with sg := h.sg.below hb, sz := h.sz.below hb, ss := h.ss.below hb, o4 := Nat.le_trans h.o4 hb.size }
theorem MarI.below {K M : Int} {R : ResG} {u u' : World} (h : MarI K M R u) (hb : Below u.heap.size u u') : MarI K M R u' := { h with sg := h.sg.below hb, sz := h.sz.below hb, ss := h.ss.below hb, o4 := Nat.le_trans h.o4 hb.size }
theorem items_of {R : ResG} (h : NiceG R.g) (e : R.L.map (·.l) = R.g.wins) : ∀ p ∈ R.L, StampsP p.l := fun p hp => h.items _ (e ▸ List.mem_map.2 ⟨p, hp, rfl⟩)
theorem kg_le {R : ResG} (h : NiceG R.g) (e : R.L.map (·.l) = R.g.wins) : 0 ≤ kG R.g.ins.length R.L R.g.shown.length ∧ kG R.g.ins.length R.L R.g.shown.length ≤ 1000 := by
  have h1 := kAt_le (items_of h e) R.L.length (1 + (R.g.ins.length : Int)) (Nat.le_refl _)
  have h2 := map_len e
  have h3 := h.wins
  have h4 := h.ins
  have h5 := h.shown.1
  unfold kG
  omega
theorem markCalG_any {g : GatL} {i x : Int} {m : List (ByteArray × Int)} {R : ResG} {u : World} (h : CalI g i x m R u) : Calls Tryz.prog 15 #[R.gv, .int .i64 1] u fun e w' => ∃ K : Int, e = .returned (.int .i64 K) ∧ 0 ≤ K ∧ K ≤ 1000 ∧ HalfI K R w' ∧ Span R.tl R.th u w' := by
  obtain ⟨k1, k2, k3⟩ := h.put.nice
  have z1 := h.o1
  have z2 := h.o2
  have z3 := h.o3
  have z4 := h.o4
  refine (markG_any R.s0 R.s1 R.s2 R.d0 R.d1 R.d2 R.tl R.h1 R.g.ins R.L R.g.shown u k1.ins (by rw [map_len h.map]; exact k1.wins) (items_of k1 h.map) k1.shown.1 (by omega) h.sg).mono ?_
  rintro e w' ⟨rfl, hs, sp⟩
  have hk := kg_le k1 h.map
  exact ⟨_, rfl, hk.1, hk.2, ⟨k1, k2, k3, h.map, rfl, hs, h.sz.span sp (by omega), h.ss.span sp (by omega), z1, z2, z3, Nat.le_trans z4 sp.size⟩, sp.wide (Nat.le_refl _) (by omega)⟩
theorem markCalS_any {K : Int} {R : ResG} {u : World} (h : HalfI K R u) : Calls Tryz.prog 17 #[R.wv, .int .i64 K] u fun e w' => ∃ M : Int, e = .returned (.int .i64 M) ∧ 0 ≤ M ∧ M ≤ 2000 ∧ MarI K M R w' ∧ Span R.tl R.th u w' := by
  have hk := kg_le h.nice h.map
  rw [← h.ke] at hk
  have z1 := h.o1
  have z2 := h.o2
  have z3 := h.o3
  have z4 := h.o4
  have z5 := h.sv6
  have z6 := h.st.1
  refine (markShow_any R.s3 R.s4 R.d3 R.d4 R.h1 R.h2 R.th R.sv R.ss K u h.sv6 h.st.1 hk.1 (by omega) z2 z3 z4 h.sz h.ss).mono ?_
  rintro e w' ⟨rfl, h1, h2, sp⟩
  exact ⟨_, rfl, by omega, by omega, ⟨h.nice, h.sv6, h.st, h.map, h.ke, rfl, h.sg.span sp (by omega), h1, h2, z1, z2, z3, Nat.le_trans z4 sp.size⟩, sp.wide (by omega) (Nat.le_refl _)⟩
theorem heldCalG_any {K M : Int} {R : ResG} {u : World} (h : MarI K M R u) : Calls Tryz.prog 18 #[R.gv, .int .i64 1] u fun e w' => e = .returned (.int .i64 K) ∧ Below u.heap.size u w' := by
  have hk := h.ke
  subst hk
  exact heldG_any R.s0 R.s1 R.s2 R.d0 R.d1 R.d2 R.tl R.h1 R.g.ins.length R.g.shown.length R.L u h.nice.ins (by rw [map_len h.map]; exact h.nice.wins) (items_of h.nice h.map) h.nice.shown.1 h.sg
theorem heldCalS_any {K M : Int} {R : ResG} {u : World} (h : MarI K M R u) : Calls Tryz.prog 19 #[R.wv, .int .i64 K] u fun e w' => e = .returned (.int .i64 M) ∧ Below u.heap.size u w' := by
  have hk := kg_le h.nice h.map
  rw [← h.ke] at hk
  have hm := h.me
  subst hm
  exact heldShow_any R.s3 R.s4 R.d3 R.d4 R.sv.length R.ss.length K u h.sv6 h.st.1 hk.1 (by omega) h.sz.row h.ss.row

end Go.Proofs.YtpfhegengmlkmacGreatDoor
/- What holds while GatherPlay runs, on both sides. -/
namespace Go.Proofs.YtpfhegengmlkmacGreatDoor
open Go.RowKit Go.BigFrame
set_option maxRecDepth 100000

/-- The cells of shows, two each. -/
def hcells : List ShoY → List Value
  | [] => []
  | p :: r => .slice p.a1 p.vals.length p.c1 :: .slice p.a2 p.st.length p.c2 :: hcells r
theorem hcells_append : ∀ L r, hcells (L ++ r) = hcells L ++ hcells r
  | [], _ => rfl
  | p :: L, r => by simp [hcells, hcells_append L r]
theorem hcells_at : ∀ (L : List ShoY) (k : Nat) (h : k < L.length), (hcells L)[k * 2]? = some (.slice L[k].a1 L[k].vals.length L[k].c1) ∧ (hcells L)[k * 2 + 1]? = some (.slice L[k].a2 L[k].st.length L[k].c2)
  | p :: r, 0, _ => by simp [hcells]
  | p :: r, k + 1, h => by
    have := hcells_at r k (by simpa using h)
    have e0 : (k + 1) * 2 = k * 2 + 1 + 1 := by omega
    rw [e0]
    simp only [hcells, List.getElem?_cons_succ, List.getElem_cons_succ]
    exact this
theorem show_unlike : 39 ≠ 3 := by decide

/-- A row that grew is one block at most. -/
theorem grown_span {w w' : World} {r : Option Nat} (hg : w.grownBy w' r) : ∃ lo hi, Span lo hi w w' ∧ (lo < hi → r = some lo ∧ hi = lo + 1) ∧ (¬ lo < hi → hi = 0) := by
  cases r with
  | none => exact ⟨0, 0, ⟨hg.os, hg.tape, hg.output, hg.size, fun i hi _ => hg.block i hi (by simp)⟩, fun h => absurd h (Nat.lt_irrefl _), fun _ => rfl⟩
  | some k => exact ⟨k, k + 1, span_grown hg, fun _ => ⟨rfl, rfl⟩, fun h => absurd (Nat.lt_succ_self k) h⟩

structure PlyW (B : Nat) (u : World) (bG glo ghi : Nat) (g : GatL) (Lw : List WinY) (a0 a1 a2 : Option Addr) (d0 d1 d2 : Nat) (vs vc : Value) (L : List ShoY) (cs : List Int) : Prop where
  tG : Tri u bG (.slice a0 g.ins.length d0) (.slice a1 Lw.length d1) (.slice a2 g.shown.length d2)
  map : Lw.map (·.l) = g.wins
  nice : NiceG g
  sg : SafeG u glo ghi a0 a1 a2 g.ins Lw g.shown
  glt : ghi ≤ u.heap.size
  gbox : bG < glo ∨ ghi ≤ bG
  bB : bG < B
  BU : B ≤ u.heap.size
  osh : u.ownsRow B 39 2 vs L.length (hcells L)
  oco : GathN u B vc cs
  at_ : ∀ p ∈ L, p.In u ∧ B ≤ p.lo
  dis : L.Pairwise fun p q => p.hi ≤ q.lo
  sfar : ∀ p ∈ L, ∀ k, vs.ownBlock = some k → k < p.lo ∨ p.hi ≤ k
  cfar : ∀ p ∈ L, ∀ k, vc.ownBlock = some k → k < p.lo ∨ p.hi ≤ k
  sgf : ∀ k, vs.ownBlock = some k → k < glo ∨ ghi ≤ k
  cgf : ∀ k, vc.ownBlock = some k → k < glo ∨ ghi ≤ k
theorem PlyW.keep {B : Nat} {u u' : World} {bG glo ghi : Nat} {g : GatL} {Lw : List WinY} {a0 a1 a2 : Option Addr} {d0 d1 d2 : Nat} {vs vc : Value} {L : List ShoY} {cs : List Int} (h : PlyW B u bG glo ghi g Lw a0 a1 a2 d0 d1 d2 vs vc L cs) (hb : Below u.heap.size u u') : PlyW B u' bG glo ghi g Lw a0 a1 a2 d0 d1 d2 vs vc L cs :=
  { h with tG := h.tG.keep hb, sg := h.sg.below hb, glt := Nat.le_trans h.glt hb.size, BU := Nat.le_trans h.BU hb.size, osh := own_keep h.osh hb, oco := own_keep (show World.ownsRow _ _ _ _ _ _ _ from h.oco) hb, at_ := fun p hp => ⟨(h.at_ p hp).1.below hb, (h.at_ p hp).2⟩ }
theorem PlyW.rows {B : Nat} {u : World} {bG glo ghi : Nat} {g : GatL} {Lw : List WinY} {a0 a1 a2 : Option Addr} {d0 d1 d2 : Nat} {vs vc : Value} {L : List ShoY} {cs : List Int} (h : PlyW B u bG glo ghi g Lw a0 a1 a2 d0 d1 d2 vs vc L cs) : Lw.length = g.wins.length ∧ RowS u a0 g.ins ∧ RowW u a1 g.wins ∧ Row u a2 g.shown := by
  obtain ⟨q0, q1, q2⟩ := h.sg.rows
  rw [h.map] at q1
  exact ⟨map_len h.map, q0, q1, q2⟩
/-- One code more. -/
theorem PlyW.code {B : Nat} {u u' : World} {bG glo ghi g' cap : Nat} {g : GatL} {Lw : List WinY} {a0 a1 a2 : Option Addr} {d0 d1 d2 : Nat} {vs vc : Value} {L : List ShoY} {cs : List Int} {c : Int} (h : PlyW B u bG glo ghi g Lw a0 a1 a2 d0 d1 d2 vs vc L cs)
    (ho : u'.ownsRow B 3 1 (.slice (some ⟨g', 0, none⟩) (cs.length + 1) cap) (cs.length + 1) ((cs.map fun y => .int .i64 y) ++ [.int .i64 c])) (hg : u.grownBy u' vc.ownBlock) (hloc : vc.ownBlock = some g' ∨ g' = u.heap.size) : PlyW B u' bG glo ghi g Lw a0 a1 a2 d0 d1 d2 vs (.slice (some ⟨g', 0, none⟩) (cs.length + 1) cap) L (cs ++ [c]) := by
  obtain ⟨lo, hi, hs, k1, k2⟩ := grown_span hg
  have hfrom := own_from (show World.ownsRow _ _ _ _ _ _ _ from h.oco)
  have hbB := h.bB
  have hnew : ∀ k, (Value.slice (some ⟨g', 0, none⟩) (cs.length + 1) cap).ownBlock = some k → k = g' := fun k e => by simp [Value.ownBlock] at e; exact e.symm
  refine { h with tG := h.tG.span hs ?_, sg := h.sg.span hs ?_, glt := Nat.le_trans h.glt hs.size, BU := Nat.le_trans h.BU hs.size, osh := World.ownsRow.kept h.osh hg (own_types h.osh h.oco show_unlike), oco := GathN.snoc ho, at_ := fun p hp => ⟨(h.at_ p hp).1.span hs ?_, (h.at_ p hp).2⟩, cfar := fun p hp k e => ?_, cgf := fun k e => ?_ }
  · by_cases e : lo < hi
    · have := hfrom lo (k1 e).1; omega
    · have := k2 e; omega
  · by_cases e : lo < hi
    · have := h.cgf lo (k1 e).1; have := (k1 e).2; omega
    · have := k2 e; omega
  · by_cases e : lo < hi
    · have := h.cfar p hp lo (k1 e).1; have := (k1 e).2; omega
    · have := k2 e; omega
  · obtain rfl := hnew k e
    rcases hloc with e | rfl
    · exact h.cfar p hp _ e
    · exact .inr (h.at_ p hp).1.o3
  · obtain rfl := hnew k e
    rcases hloc with e | rfl
    · exact h.cgf _ e
    · exact .inr h.glt
/-- One show more. -/
theorem PlyW.show_ {B : Nat} {u u' : World} {bG glo ghi g' cap : Nat} {g : GatL} {Lw : List WinY} {a0 a1 a2 : Option Addr} {d0 d1 d2 : Nat} {vs vc : Value} {L : List ShoY} {cs : List Int} {p : ShoY} (h : PlyW B u bG glo ghi g Lw a0 a1 a2 d0 d1 d2 vs vc L cs)
    (hp : p.In u) (hpB : B ≤ p.lo) (hpL : ∀ q ∈ L, q.hi ≤ p.lo) (hps : ∀ k, vs.ownBlock = some k → k < p.lo ∨ p.hi ≤ k) (hpc : ∀ k, vc.ownBlock = some k → k < p.lo ∨ p.hi ≤ k)
    (ho : u'.ownsRow B 39 2 (.slice (some ⟨g', 0, none⟩) (L.length + 1) cap) (L.length + 1) (hcells L ++ [.slice p.a1 p.vals.length p.c1, .slice p.a2 p.st.length p.c2])) (hg : u.grownBy u' vs.ownBlock) (hloc : vs.ownBlock = some g' ∨ g' = u.heap.size) : PlyW B u' bG glo ghi g Lw a0 a1 a2 d0 d1 d2 (.slice (some ⟨g', 0, none⟩) (L.length + 1) cap) vc (L ++ [p]) cs := by
  obtain ⟨lo, hi, hs, k1, k2⟩ := grown_span hg
  have hfrom := own_from h.osh
  have hbB := h.bB
  have hnew : ∀ k, (Value.slice (some ⟨g', 0, none⟩) (L.length + 1) cap).ownBlock = some k → k = g' := fun k e => by simp [Value.ownBlock] at e; exact e.symm
  refine { h with tG := h.tG.span hs ?_, sg := h.sg.span hs ?_, glt := Nat.le_trans h.glt hs.size, BU := Nat.le_trans h.BU hs.size, osh := by rw [List.length_append, hcells_append]; exact ho, oco := World.ownsRow.kept (show World.ownsRow _ _ _ _ _ _ _ from h.oco) hg (own_types (show World.ownsRow _ _ _ _ _ _ _ from h.oco) h.osh (Ne.symm show_unlike)), at_ := fun q hq => ?_, dis := ?_, sfar := fun q hq k e => ?_, cfar := fun q hq k e => ?_, sgf := fun k e => ?_ }
  · by_cases e : lo < hi
    · have := hfrom lo (k1 e).1; omega
    · have := k2 e; omega
  · by_cases e : lo < hi
    · have := h.sgf lo (k1 e).1; have := (k1 e).2; omega
    · have := k2 e; omega
  · rcases List.mem_append.1 hq with hq | hq
    · refine ⟨(h.at_ q hq).1.span hs ?_, (h.at_ q hq).2⟩
      by_cases e : lo < hi
      · have := h.sfar q hq lo (k1 e).1; have := (k1 e).2; omega
      · have := k2 e; omega
    · obtain rfl : q = p := by simpa using hq
      refine ⟨hp.span hs ?_, hpB⟩
      by_cases e : lo < hi
      · have := hps lo (k1 e).1; have := (k1 e).2; omega
      · have := k2 e; omega
  · rw [List.pairwise_append]
    exact ⟨h.dis, List.pairwise_singleton _ _, fun q hq r hr => by
      obtain rfl : r = p := by simpa using hr
      exact hpL q hq⟩
  · obtain rfl := hnew k e
    rcases List.mem_append.1 hq with hq | hq
    · rcases hloc with e | rfl
      · exact h.sfar q hq _ e
      · exact .inr (h.at_ q hq).1.o3
    · obtain rfl : q = p := by simpa using hq
      rcases hloc with e | rfl
      · exact hps _ e
      · exact .inr hp.o3
  · rcases List.mem_append.1 hq with hq | hq
    · exact h.cfar q hq k e
    · obtain rfl : q = p := by simpa using hq
      exact hpc k e
  · obtain rfl := hnew k e
    rcases hloc with e | rfl
    · exact h.sgf _ e
    · exact .inr h.glt
/-- Another gather. -/
theorem PlyW.put {B : Nat} {u : World} {bG glo ghi glo' ghi' : Nat} {g g' : GatL} {Lw Lw' : List WinY} {a0 a1 a2 a0' a1' a2' : Option Addr} {d0 d1 d2 d0' d1' d2' : Nat} {vs vc : Value} {L : List ShoY} {cs : List Int} (h : PlyW B u bG glo ghi g Lw a0 a1 a2 d0 d1 d2 vs vc L cs)
    (hm : Lw'.map (·.l) = g'.wins) (hn : NiceG g') (hsg : SafeG u glo' ghi' a0' a1' a2' g'.ins Lw' g'.shown) (hgl : ghi' ≤ u.heap.size) (hbx : bG < glo' ∨ ghi' ≤ bG) (hs : ∀ k, vs.ownBlock = some k → k < glo' ∨ ghi' ≤ k) (hc : ∀ k, vc.ownBlock = some k → k < glo' ∨ ghi' ≤ k) :
    PlyW B (((u.setCell ⟨bG, 0, none⟩ (.slice a0' g'.ins.length d0')).setCell ⟨bG, 1, none⟩ (.slice a1' Lw'.length d1')).setCell ⟨bG, 2, none⟩ (.slice a2' g'.shown.length d2')) bG glo' ghi' g' Lw' a0' a1' a2' d0' d1' d2' vs vc L cs := by
  have hsp : Span bG (bG + 1) u (((u.setCell ⟨bG, 0, none⟩ (.slice a0' g'.ins.length d0')).setCell ⟨bG, 1, none⟩ (.slice a1' Lw'.length d1')).setCell ⟨bG, 2, none⟩ (.slice a2' g'.shown.length d2')) := (((Span.refl _ _ _).setCell (Nat.le_refl _) (Nat.lt_succ_self _) _ _).setCell (Nat.le_refl _) (Nat.lt_succ_self _) _ _).setCell (Nat.le_refl _) (Nat.lt_succ_self _) _ _
  have hbB := h.bB
  exact { tG := ((h.tG.set0 _).set1 _).set2c _, map := hm, nice := hn, sg := hsg.span hsp (by omega), glt := Nat.le_trans hgl hsp.size, gbox := hbx, bB := h.bB, BU := Nat.le_trans h.BU hsp.size, osh := own_farY (own_farY (own_farY h.osh hbB _ _) hbB _ _) hbB _ _, oco := own_farY (own_farY (own_farY (show World.ownsRow _ _ _ _ _ _ _ from h.oco) hbB _ _) hbB _ _) hbB _ _, at_ := fun p hp => ⟨(h.at_ p hp).1.span hsp (by have := (h.at_ p hp).2; omega), (h.at_ p hp).2⟩, dis := h.dis, sfar := h.sfar, cfar := h.cfar, sgf := hs, cgf := hc }
/-- The answer. -/
theorem PlyW.ans {B lo : Nat} {u : World} {bG glo ghi : Nat} {g : GatL} {Lw : List WinY} {a0 a1 a2 : Option Addr} {d0 d1 d2 : Nat} {vs vc : Value} {L : List ShoY} {cs : List Int} (h : PlyW B u bG glo ghi g Lw a0 a1 a2 d0 d1 d2 vs vc L cs) (hlo : lo ≤ B) : ∃ sa sc ca cc, vs = .slice sa L.length sc ∧ vc = .slice ca cs.length cc ∧ PlyA u lo u.heap.size sa ca L cs := by
  have hut := own_types (show World.ownsRow _ _ _ _ _ _ _ from h.oco) h.osh (Ne.symm show_unlike)
  have hco := h.oco
  have hcf := h.cfar
  have hsf := h.sfar
  rcases h.osh.2 with ⟨rfl, e1⟩ | ⟨t, sc, cur, rfl, htB, hh, hn, _⟩
  · have hL : L = [] := List.length_eq_zero_iff.1 e1
    subst hL
    rcases (show World.ownsRow _ _ _ _ _ _ _ from hco).2 with ⟨rfl, e2⟩ | ⟨c, cc, cur, rfl, hcB, hh, hn, _⟩
    · have hc : cs = [] := List.length_eq_zero_iff.1 e2
      subst hc
      exact ⟨none, 0, none, 0, rfl, rfl, .inl rfl, .inl rfl⟩
    · refine ⟨none, 0, some ⟨c, 0, none⟩, cc, rfl, rfl, .inl rfl, .inr ⟨c, rfl, by omega, (Array.getElem?_eq_some_iff.1 hh).1, (GathN.block hco).2, fun p hp => by simp at hp⟩⟩
  · have htl : t < u.heap.size := (Array.getElem?_eq_some_iff.1 hh).1
    have hW : HW u lo u.heap.size t L := ⟨htl, fun k hk => by
      have hc := hcells_at L k hk
      have e0 := World.ownsRow.cellAt h.osh (k * 2) (by omega)
      have e1 := World.ownsRow.cellAt h.osh (k * 2 + 1) (by omega)
      rw [hc.1] at e0
      rw [hc.2] at e1
      exact ⟨e0, e1⟩, fun p hp => (h.at_ p hp).1, fun p hp => hsf p hp t rfl, fun p hp => ⟨by have := (h.at_ p hp).2; omega, (h.at_ p hp).1.o3⟩, h.dis.imp fun h => .inl h⟩
    rcases (show World.ownsRow _ _ _ _ _ _ _ from hco).2 with ⟨rfl, e2⟩ | ⟨c, cc, cur', rfl, hcB, hh', hn', _⟩
    · have hc : cs = [] := List.length_eq_zero_iff.1 e2
      subst hc
      exact ⟨some ⟨t, 0, none⟩, sc, none, 0, rfl, rfl, .inr ⟨t, rfl, by omega, htl, hW, fun c e => by cases e⟩, .inl rfl⟩
    · have hne : c ≠ t := by
        rcases hut with e | e
        · simp [Value.ownBlock] at e
        · intro q; exact e (by rw [q]; rfl)
      refine ⟨some ⟨t, 0, none⟩, sc, some ⟨c, 0, none⟩, cc, rfl, rfl, .inr ⟨t, rfl, by omega, htl, hW, fun c' e => by cases e; exact hne⟩, .inr ⟨c, rfl, by omega, (Array.getElem?_eq_some_iff.1 hh').1, (GathN.block hco).2, fun p hp => hcf p hp c rfl⟩⟩

/-- A gather anew lies as every gather does. -/
theorem SafeN.full {w : World} {lo hi : Nat} {a0 a1 a2 : Option Addr} {nm : List ByteArray} (h : SafeN w lo hi a0 a1 nm) (h0 : nm ≠ []) : ∃ L : List WinY, L.length = nm.length ∧ L.map (·.l) = (newG nm).wins ∧ SafeG w lo hi a0 a1 a2 (newG nm).ins L (newG nm).shown := by
  rcases h with e | ⟨b, t, rfl, rfl, h1, h2, h3, h4, h5, h6, h7⟩
  · exact absurd e h0
  · obtain ⟨m, f, hr, hnm, hf⟩ := h7
    have hl : ((List.range nm.length).map fun j => WinY.mk [] (f j) lo lo).length = nm.length := by simp
    refine ⟨(List.range nm.length).map fun j => WinY.mk [] (f j) lo lo, hl, ?_, .inr ⟨b, t, rfl, rfl, h6, ⟨hr.lt, fun k hk => ?_, fun p hp => ?_, fun p hp => ?_, fun p hp => ?_, ?_⟩, h5, ⟨h1, h2⟩, ⟨h3, h4⟩, fun p hp => ?_, .inl rfl⟩⟩
    · simp only [List.map_map, newG]
      apply List.ext_getElem
      · simp
      · intro i h8 h9
        simp
    · rw [hl] at hk
      rw [hr.cell (by omega)]
      simp
    · obtain ⟨j, hj, rfl⟩ := List.mem_map.1 hp
      obtain ⟨s, c, e⟩ := hf j (List.mem_range.1 hj)
      exact ⟨s, c, e, Nat.zero_le _, .inl rfl⟩
    · obtain ⟨j, hj, rfl⟩ := List.mem_map.1 hp
      exact .inr h3
    · obtain ⟨j, hj, rfl⟩ := List.mem_map.1 hp
      exact ⟨Nat.le_refl _, Nat.le_refl _, by show lo ≤ hi; omega⟩
    · rw [List.pairwise_map]
      exact List.Pairwise.imp (fun _ => .inl (Nat.le_refl _)) (List.pairwise_lt_range)
    · obtain ⟨j, hj, rfl⟩ := List.mem_map.1 hp
      exact .inr h1

/-- What GatherNew answers, for a play to begin with. -/
theorem NewE.start {w w' : World} {ins : List ByteArray} {e : Ending} (h : NewE w w' ins e) : (∃ a0 c0 a1 c1 a2 c2 L, e = .returned (.tuple #[.agg #[.slice a0 ins.length c0, .slice a1 (List.length L) c1, .slice a2 0 c2], .bool true]) ∧ IsN ins ins true ∧ L.map (·.l) = (newG ins).wins ∧ SafeG w' w.heap.size w'.heap.size a0 a1 a2 (newG ins).ins L (newG ins).shown ∧ ins.length ≤ c0 ∧ c0 ≤ maxLen) ∨ (e = .returned (.tuple #[.agg #[.slice none 0 0, .slice none 0 0, .slice none 0 0], .bool false]) ∧ IsN ins [] false) := by
  rcases id h with ⟨B, v0, v1, L, v2, hB, rfl, hp, h1, h2, h3, ⟨a2, c2, rfl⟩⟩ | ⟨rfl, hp⟩
  · have hpos : 0 < ins.length := hp.1
    obtain ⟨nm, ok, b0, e0, b1, e1, b2, e2, he, hN, hS⟩ := h.safe
    simp only [Ending.returned.injEq, Value.tuple.injEq, Array.mk.injEq, List.cons.injEq, Value.agg.injEq, Value.bool.injEq, and_true] at he
    obtain ⟨⟨rfl, rfl, he2⟩, hok⟩ := he
    subst hok
    obtain rfl : nm = ins := by
      rcases hN with ⟨_, _, e⟩ | ⟨e, _, _⟩
      · exact e
      · cases e
    obtain ⟨L', hl', hm', hs'⟩ := hS.full (a2 := a2) (fun e => by rw [e] at hpos; simp at hpos)
    have hcap : nm.length ≤ e0 ∧ e0 ≤ maxLen := by
      rcases (show World.ownsRow _ _ _ _ _ _ _ from h1).2 with ⟨_, e⟩ | ⟨g', cap, cur, e, _, _, hn, hmx, _⟩
      · omega
      · simp only [Value.slice.injEq] at e
        omega
    exact .inl ⟨b0, e0, b1, e1, a2, c2, L', by rw [hl'], hN, hm', hs', hcap⟩
  · exact .inr ⟨rfl, .inr ⟨rfl, hp, rfl⟩⟩
theorem hid_hold {P : Prop} (h : Hid P) : P := h.out
theorem CalI.grown {g : GatL} {i x : Int} {m : List (ByteArray × Int)} {R : ResG} {u u' : World} {r : Option Nat} (h : CalI g i x m R u) (hg : u.grownBy u' r) (hd : ∀ k, r = some k → k < R.tl ∨ R.th ≤ k) : CalI g i x m R u' := by
  obtain ⟨lo, hi, hs, k1, k2⟩ := grown_span hg
  refine h.span hs ?_
  by_cases e : lo < hi
  · have := hd lo (k1 e).1; have := (k1 e).2; omega
  · have := k2 e; omega
theorem CalS.grown {g : GatL} {i x : Int} {m : List (ByteArray × Int)} {R : ResG} {u u' : World} {r : Option Nat} (h : CalS g i x m R u) (hg : u.grownBy u' r) (hd : ∀ k, r = some k → k < R.tl ∨ R.th ≤ k) : CalS g i x m R u' := by
  obtain ⟨lo, hi, hs, k1, k2⟩ := grown_span hg
  refine h.span hs ?_
  by_cases e : lo < hi
  · have := hd lo (k1 e).1; have := (k1 e).2; omega
  · have := k2 e; omega
theorem Tri.grownO {w w' : World} {b : Nat} {x y z : Value} {r : Option Nat} (h : Tri w b x y z) (hg : w.grownBy w' r) (hd : ∀ k, r = some k → k ≠ b) : Tri w' b x y z := by
  obtain ⟨lo, hi, hs, k1, k2⟩ := grown_span hg
  refine h.span hs ?_
  by_cases e : lo < hi
  · have := hd lo (k1 e).1; have := (k1 e).2; omega
  · have := k2 e; omega
theorem Duo.grown {w w' : World} {b : Nat} {x y : Value} {r : Option Nat} (h : Duo w b x y) (hg : w.grownBy w' r) (hd : ∀ k, r = some k → k ≠ b) : Duo w' b x y := by
  obtain ⟨lo, hi, hs, k1, k2⟩ := grown_span hg
  refine h.span hs ?_
  by_cases e : lo < hi
  · have := hd lo (k1 e).1; have := (k1 e).2; omega
  · have := k2 e; omega
theorem grown_low {W w w' : World} {B : Nat} {r : Option Nat} (hb : Below B W w) (hB : B ≤ w.heap.size) (hg : w.grownBy w' r) (hd : ∀ k, r = some k → B ≤ k) : Below B W w' := hb.grown hg hB hd
/-- What GatherPlay answers, and where it lies. -/
def PlyE (imp : Bool) (w w' : World) (ins : List ByteArray) (fs : List FeedV) (e : Ending) : Prop :=
  ∃ (L : List ShoY) (cs : List Int) (sa ca : Option Addr) (sc cc : Nat), e = .returned (.tuple #[.slice sa L.length sc, .slice ca cs.length cc]) ∧ PlayR ins fs (L.map (·.sv)) cs ∧ PlyA w' w.heap.size w'.heap.size sa ca L cs ∧ (imp = true → ∀ p ∈ L, p.mid ≤ p.mi2)

end Go.Proofs.YtpfhegengmlkmacGreatDoor
/- Walk: impl.GatherPlay. -/
namespace Go.Proofs.YtpfhegengmlkmacGreatDoor
open Go.RowKit Go.BigFrame
set_option maxRecDepth 100000

theorem Tryz.infoSh : (Tryz.prog.info? 39).map (fun i => (i.zero, i.size, i.bytes)) = some (some (.agg #[.slice none 0 0, .slice none 0 0]), 2, 48) := by kernel_rfl

set_option maxHeartbeats 12800000 in
theorem implPlay_any (a0 am : Option Addr) (c0 cm : Nat) (ins : List ByteArray) (fs : List FeedV) (w : World) (hl : ins.length ≤ 1048576) (hc : ins.length ≤ c0) (hc2 : c0 ≤ maxLen) (hr : RowS w a0 ins) (hs : ∀ j, (h : j < ins.length) → ins[j].size ≤ maxLen) (hff : FitF fs) (hrf : RowF w am fs) (het : ErrT w) :
    Calls Tryz.prog 25 #[.slice a0 ins.length c0, .slice am fs.length cm] w fun e w' => PlyE true w w' ins fs e ∧ Below w.heap.size w w' := by
  have hfl := hff.1
  unfold maxLen at hfl
  obtain ⟨iz, hiz, hy0, hy1, hy2⟩ := info_parts Tryz.infoZ
  obtain ⟨ih, hih, hh0, hh1, hh2⟩ := info_parts Tryz.infoSh
  go_enter Tryz.func25, Tryz.ntmps25
  go_wp2_with fail
  refine (implGN_any a0 c0 ins _ hl hc hc2 hr hs).mono ?_
  rintro e w1 ⟨hE, b1⟩
  have z1 := b1.size
  rcases hE.start with ⟨s0, e0, s1, e1, s2, e2, Lw, rfl, hN, hmap, hsg, hcap⟩ | ⟨rfl, hN⟩
  · have HN : Hid (IsN ins ins true) := hN
    clear hE hN
    have bA : Below w1.heap.size w1 (w1.alloc (.cells #[.slice s0 ins.length e0, .slice s1 Lw.length e1, .slice s2 0 e2] 36)) := (Below.refl _ _).alloc (Nat.le_refl _) _
    have tA := tri_new w1 (.slice s0 ins.length e0) (.slice s1 Lw.length e1) (.slice s2 0 e2) 36
    have zA : (w1.alloc (.cells #[.slice s0 ins.length e0, .slice s1 Lw.length e1, .slice s2 0 e2] 36)).heap.size = w1.heap.size + 1 := by simp
    have BA : Below w.heap.size w (w1.alloc (.cells #[.slice s0 ins.length e0, .slice s1 Lw.length e1, .slice s2 0 e2] 36)) := b1.trans (bA.mono z1)
    by_cases h60 : 60 < fs.length
    · go_wp2_with fail
      exact bodyPost_ret (v := .tuple #[.slice none 0 0, .slice none 0 0]) (by simp [results, Tryz.results25, go_sem]) rfl ⟨⟨[], [], none, none, 0, 0, rfl, ⟨ins, true, HN.out, .inr ⟨.inr h60, rfl, rfl⟩⟩, ⟨.inl rfl, .inl rfl⟩, fun _ p hp => by simp at hp⟩, BA⟩
    · have hW0 : PlyW (w1.heap.size + 1) (w1.alloc (.cells #[.slice s0 ins.length e0, .slice s1 Lw.length e1, .slice s2 0 e2] 36)) w1.heap.size w.heap.size w1.heap.size (newG ins) Lw s0 s1 s2 e0 e1 e2 (.slice none 0 0) (.slice none 0 0) [] [] :=
        { tG := tA, map := hmap, nice := newG_nice HN.out, sg := hsg.below bA, glt := by omega, gbox := .inr (Nat.le_refl _), bB := Nat.lt_succ_self _, BU := by omega, osh := World.ownsRow_nil _ _ _ _, oco := World.ownsRow_nil _ _ _ _, at_ := (fun p hp => by simp at hp), dis := List.Pairwise.nil, sfar := (fun p hp => by simp at hp), cfar := (fun p hp => by simp at hp), sgf := (fun k e => by cases e), cgf := (fun k e => by cases e) }
      have hB1 : w.heap.size ≤ w1.heap.size + 1 := by omega
      clear tA hsg bA zA hmap
      go_wp2_with fail
      generalize w1.alloc (.cells #[.slice s0 ins.length e0, .slice s1 Lw.length e1, .slice s2 0 e2] 36) = WA at *
      generalize w1.heap.size = bG at *
      go_loopw [8, 9, 29] (fun vs vc i wr => ∃ (k glo ghi : Nat) (g : GatL) (Lw : List WinY) (a0 a1 a2 : Option Addr) (d0 d1 d2 : Nat) (L : List ShoY) (cs : List Int), k ≤ fs.length ∧ i = .int .i64 k ∧ PlyW (bG + 1) wr bG glo ghi g Lw a0 a1 a2 d0 d1 d2 vs vc L cs ∧ (g.ins.length ≤ d0 ∧ d0 ≤ maxLen) ∧ Hid (PlayTo (newG ins) (fs.take k) g (L.map (·.sv)) cs) ∧ (∀ p ∈ L, p.mid ≤ p.mi2) ∧ Below w.heap.size w wr) (fun _ _ i _ => fs.length - (intOf i).toNat)
      case atStart => exact ⟨0, w.heap.size, bG, newG ins, Lw, s0, s1, s2, e0, e1, e2, [], [], Nat.zero_le _, rfl, hW0, hcap, PlayTo.nil, fun p hp => by simp at hp, BA⟩
      case round =>
        clear hW0 BA hcap
        obtain ⟨k, glo, ghi, g, Lw', p0, p1, p2, d0, d1, d2, L, cs, hk, rfl, hW, hcap, HP, hmid, hb⟩ := hrel
        by_cases hlt : k < fs.length
        · obtain ⟨bf, of, rfl, hbf, q0, q1, vq, q2, ⟨fa, fc, rfl, hfc, hrow⟩⟩ := (hrf.below hb) k hlt
          have k0 : (0 : Int) ≤ (k : Int) := by omega
          have k1 : (k : Int) < (fs.length : Int) := by omega
          have hfk := hff.2 k hlt
          have bF : Below wr.heap.size wr (wr.alloc (.cells #[.int .i64 fs[k].1, .int .i64 fs[k].2.1, .slice fa fs[k].2.2.length fc] 46)) := (Below.refl _ _).alloc (Nat.le_refl _) _
          have hWf := hW.keep bF
          obtain ⟨t0, t1, t2, _, _, _⟩ := id hWf.tG
          have hbl : bG < wr.heap.size := block_lt_of_cell hW.tG.c0
          obtain ⟨hLl, r0, r1, r2⟩ := hWf.rows
          have hcall := implGP_any p0 p1 p2 fa d0 d1 d2 fc g fs[k].1 fs[k].2.1 fs[k].2.2 _ hW.nice.fit (by have := hW.nice.ins; omega) hcap.1 hcap.2 r0 r1 r2 hfk hfc (hrow.below bF) (het.below (hb.trans (bF.mono hb.size)))
          rw [← hLl] at hcall
          have HCALL : Hid _ := hcall
          have hbF := hb.trans (bF.mono hb.size)
          have zF := bF.size
          clear hcall r0 r1 r2 hLl bF hrow hW
          have HCS : Hid (cs.length = k ∧ L.length ≤ k) := by
            unfold Hid
            have h := HP.out.nice (newG_nice HN.out)
            have e : (fs.take k).length = k := by rw [List.length_take]; omega
            have h3 := h.2.2.1
            have h4 := h.2.2.2
            rw [List.length_map] at h4
            omega
          go_wp2_with fail
          refine Calls.mono HCALL.out ?_
          rintro e w2 ⟨hG, b2⟩
          obtain ⟨R, rfl, et1, et2, hI⟩ := hG.cal
          generalize wr.alloc (.cells #[.int .i64 fs[k].1, .int .i64 fs[k].2.1, .slice fa fs[k].2.2.length fc] 46) = wf at *
          have hW2 := hWf.keep b2
          have z2 := b2.size
          have B2 : Below w.heap.size w w2 := hbF.trans (b2.mono hbF.size)
          have hcb : ∀ j, u9.ownBlock = some j → j < R.tl := fun j e => by rw [et1]; exact ((show World.ownsRow _ _ _ _ _ _ _ from hWf.oco).lt j e).2
          have hsb : ∀ j, u8.ownBlock = some j → j < R.tl := fun j e => by rw [et1]; exact (hWf.osh.lt j e).2
          have hLt : ∀ p ∈ L, p.hi ≤ R.tl := fun p hp => by rw [et1]; exact (hWf.at_ p hp).1.o3
          have hBt : bG + 1 ≤ R.tl := by rw [et1]; exact hWf.BU
          have bX : Below w2.heap.size w2 ((w2.alloc (.cells #[.slice R.s0 R.g.ins.length R.d0, .slice R.s1 R.L.length R.d1, .slice R.s2 R.g.shown.length R.d2] 36)).alloc (.cells #[.slice R.s3 R.sv.length R.d3, .slice R.s4 R.ss.length R.d4] 39)) := ((Below.refl _ _).alloc (Nat.le_refl _) _).alloc (by simp) _
          have tT : Tri ((w2.alloc (.cells #[.slice R.s0 R.g.ins.length R.d0, .slice R.s1 R.L.length R.d1, .slice R.s2 R.g.shown.length R.d2] 36)).alloc (.cells #[.slice R.s3 R.sv.length R.d3, .slice R.s4 R.ss.length R.d4] 39)) w2.heap.size (.slice R.s0 R.g.ins.length R.d0) (.slice R.s1 R.L.length R.d1) (.slice R.s2 R.g.shown.length R.d2) := by constructor <;> simp [go_sem]
          have dS : Duo ((w2.alloc (.cells #[.slice R.s0 R.g.ins.length R.d0, .slice R.s1 R.L.length R.d1, .slice R.s2 R.g.shown.length R.d2] 36)).alloc (.cells #[.slice R.s3 R.sv.length R.d3, .slice R.s4 R.ss.length R.d4] 39)) (w2.heap.size + 1) (.slice R.s3 R.sv.length R.d3) (.slice R.s4 R.ss.length R.d4) := by constructor <;> simp [go_sem]
          have zX : ((w2.alloc (.cells #[.slice R.s0 R.g.ins.length R.d0, .slice R.s1 R.L.length R.d1, .slice R.s2 R.g.shown.length R.d2] 36)).alloc (.cells #[.slice R.s3 R.sv.length R.d3, .slice R.s4 R.ss.length R.d4] 39)).heap.size = w2.heap.size + 1 + 1 := by simp
          have hWX := hW2.keep bX
          have hIX := hI.below bX
          have BX := B2.trans (bX.mono B2.size)
          have HPUT : Hid (PutG g fs[k].1 fs[k].2.1 fs[k].2.2 R.g R.sv R.ss R.code) := hI.put
          clear hW2 hI bX hG hWf t0 t1 t2 HCALL
          go_wp2_with (at_builtin; refine hid_hold ?_)
          generalize (w2.alloc (.cells #[.slice R.s0 R.g.ins.length R.d0, .slice R.s1 R.L.length R.d1, .slice R.s2 R.g.shown.length R.d2] 36)).alloc (.cells #[.slice R.s3 R.sv.length R.d3, .slice R.s4 R.ss.length R.d4] 39) = WX at *
          have bN : Below WX.heap.size WX (WX.alloc (.cells #[.int .i64 R.code] 3)) := (Below.refl _ _).alloc (Nat.le_refl _) _
          have hWN := hWX.keep bN
          have hIN := hIX.below bN
          have tTN := tT.keep bN
          have dSN := dS.keep bN
          have BN := BX.trans (bN.mono BX.size)
          have zN : (WX.alloc (.cells #[.int .i64 R.code] 3)).heap.size = WX.heap.size + 1 := by simp
          have hnew := one_new WX (.int .i64 R.code) 3
          rw [zX] at hnew
          clear hWX hIX tT dS BX bN
          unfold Hid
          generalize WX.alloc (.cells #[.int .i64 R.code] 3) = WN at *
          refine wpList_append_lies _ rfl _ _ 37 rfl (bG + 1) 3 iz (.int .i64 0) 1 8 Tryz.underlying37 hiz hy0 hy1 hy2 rfl (by decide) _ _ _ rfl hWN.oco ⟨w2.heap.size + 1 + 1, 0, none⟩ 1 1 [.int .i64 R.code] rfl rfl hnew (by simp [Value.oneCell']) (by decide) (by have := HCS.out; unfold maxLen; omega) (by have := HCS.out; omega) hWN.BU _ rfl ?_
          intro g5 cap5 w5 hown5 hgr5 hloc5 _
          have hW5 := hWN.code hown5 hgr5 hloc5
          have hth : R.th ≤ WN.heap.size := by omega
          have hI5 := hIN.grown hgr5 (fun j e => .inl (hcb j e))
          have tT5 := tTN.grownO hgr5 (fun j e => by have := hcb j e; have := hIN.o1; have := hIN.o2; have := hIN.o3; omega)
          have dS5 := dSN.grown hgr5 (fun j e => by have := hcb j e; have := hIN.o1; have := hIN.o2; have := hIN.o3; omega)
          have B5 : Below w.heap.size w w5 := grown_low BN BN.size hgr5 (fun j e => by have := own_from (show World.ownsRow _ _ _ _ _ _ _ from hWN.oco) j e; omega)
          have z5 := hgr5.size
          have hc5 : ∀ j, (Value.slice (some ⟨g5, 0, none⟩) (cs.length + 1) cap5).ownBlock = some j → j < R.tl ∨ R.th ≤ j := fun j e => by
            obtain rfl : g5 = j := by simpa [Value.ownBlock] using e
            rcases hloc5 with e | e
            · exact .inl (hcb _ e)
            · exact .inr (by omega)
          clear hWN hIN tTN dSN BN hgr5 hnew hown5 hloc5
          have hnice := HPUT.out.nice.1
          have htake : fs.take (k + 1) = fs.take k ++ [fs[k]] := List.take_succ_eq_append_getElem hlt
          have hsnoc := PlayTo.snoc (f := fs[k]) HP.out HPUT.out
          rw [← htake] at hsnoc
          have o1 := hI5.o1
          have o2 := hI5.o2
          have o3 := hI5.o3
          have o4 := hI5.o4
          by_cases h2 : R.code = 2
          · rw [if_pos h2, if_neg (by omega)] at hsnoc
            have HA : Hid (PlayTo (newG ins) (fs.take (k + 1)) g (L.map (·.sv)) (cs ++ [R.code])) := hsnoc
            clear hsnoc htake tT5 dS5 hI5 o1 o2 o3 o4
            go_wp2_with fail
            exact ⟨⟨k + 1, glo, ghi, g, Lw', p0, p1, p2, d0, d1, d2, L, cs ++ [R.code], by omega, by go_num, hW5, hcap, HA, hmid, B5⟩, by simp [intOf]; omega⟩
          · have hW6 := hW5.put (d0' := R.d0) (d1' := R.d1) (d2' := R.d2) hI5.map hnice hI5.sg (by omega) (.inl (by omega)) (fun j e => .inl (hsb j e)) (fun j e => by have := hc5 j e; omega)
            have sp6 : Span bG (bG + 1) w5 (((w5.setCell ⟨bG, 0, none⟩ (.slice R.s0 R.g.ins.length R.d0)).setCell ⟨bG, 1, none⟩ (.slice R.s1 R.L.length R.d1)).setCell ⟨bG, 2, none⟩ (.slice R.s2 R.g.shown.length R.d2)) := (((Span.refl _ _ _).setCell (Nat.le_refl _) (Nat.lt_succ_self _) _ _).setCell (Nat.le_refl _) (Nat.lt_succ_self _) _ _).setCell (Nat.le_refl _) (Nat.lt_succ_self _) _ _
            have hI6 := hI5.span sp6 (by omega)
            have dS6 := dS5.span sp6 (by omega)
            have z6 : (((w5.setCell ⟨bG, 0, none⟩ (.slice R.s0 R.g.ins.length R.d0)).setCell ⟨bG, 1, none⟩ (.slice R.s1 R.L.length R.d1)).setCell ⟨bG, 2, none⟩ (.slice R.s2 R.g.shown.length R.d2)).heap.size = w5.heap.size := by simp
            have B6 := B5.trans (sp6.below (show w.heap.size ≤ bG by omega) B5.size)
            obtain ⟨y0, y1, y2, y3, y4, y5⟩ := id hW5.tG
            obtain ⟨t0, t1, t2, _, _, _⟩ := id tT5
            obtain ⟨v0, v1, _, _⟩ := id dS6
            have hcap6 := hI5.cap
            by_cases h1 : R.code = 1
            · rw [if_neg h2, if_pos h1] at hsnoc
              have HB : Hid (PlayTo (newG ins) (fs.take (k + 1)) R.g (L.map (·.sv) ++ [(R.sv, R.ss)]) (cs ++ [R.code])) := hsnoc
              clear hsnoc htake hI5 dS5 hW5 B5
              go_wp2_with (at_builtin; refine hid_hold ?_)
              generalize ((w5.setCell ⟨bG, 0, none⟩ (.slice R.s0 R.g.ins.length R.d0)).setCell ⟨bG, 1, none⟩ (.slice R.s1 R.L.length R.d1)).setCell ⟨bG, 2, none⟩ (.slice R.s2 R.g.shown.length R.d2) = W6 at *
              have bM : Below W6.heap.size W6 (W6.alloc (.cells #[.slice R.s3 R.sv.length R.d3, .slice R.s4 R.ss.length R.d4] 39)) := (Below.refl _ _).alloc (Nat.le_refl _) _
              have hWM := hW6.keep bM
              have hIM := hI6.below bM
              have BM := B6.trans (bM.mono B6.size)
              have zM : (W6.alloc (.cells #[.slice R.s3 R.sv.length R.d3, .slice R.s4 R.ss.length R.d4] 39)).heap.size = W6.heap.size + 1 := by simp
              have hnew := two_new W6 (.slice R.s3 R.sv.length R.d3) (.slice R.s4 R.ss.length R.d4) 39
              rw [z6] at hnew
              clear hW6 hI6 dS6 B6 bM v0 v1 y0 y1 y2 y3 y4 y5 t0 t1 t2 tT5 sp6
              unfold Hid
              generalize W6.alloc (.cells #[.slice R.s3 R.sv.length R.d3, .slice R.s4 R.ss.length R.d4] 39) = WM at *
              refine wpList_append_lies _ rfl _ _ 58 rfl (bG + 1) 39 ih (.agg #[.slice none 0 0, .slice none 0 0]) 2 48 Tryz.underlying58 hih hh0 hh1 hh2 rfl (by decide) _ _ _ rfl hWM.osh ⟨w5.heap.size, 0, none⟩ 1 1 [.slice R.s3 R.sv.length R.d3, .slice R.s4 R.ss.length R.d4] rfl rfl hnew (by simp [Value.oneCell']) (by decide) (by have := HCS.out; unfold maxLen; omega) (by have := HCS.out; omega) hWM.BU _ rfl ?_
              intro g8 cap8 w8 hown8 hgr8 hloc8 _
              have hW8 := hWM.show_ (p := ⟨R.sv, R.ss, R.s3, R.d3, R.s4, R.d4, R.h1, R.h2, R.h2, R.th⟩) ⟨hIM.sz, hIM.ss, o2, o3, hIM.o4, o2, o3⟩ (show bG + 1 ≤ R.h1 by omega) (fun q hq => show q.hi ≤ R.h1 by have := hLt q hq; omega) (fun j e => .inl (show j < R.h1 by have := hsb j e; omega)) (fun j e => show j < R.h1 ∨ R.th ≤ j by have := hc5 j e; omega) hown8 hgr8 hloc8
              have B8 : Below w.heap.size w w8 := grown_low BM BM.size hgr8 (fun j e => by have := own_from hWM.osh j e; omega)
              have hmid8 : ∀ p ∈ L ++ [(⟨R.sv, R.ss, R.s3, R.d3, R.s4, R.d4, R.h1, R.h2, R.h2, R.th⟩ : ShoY)], p.mid ≤ p.mi2 := fun p hp => by
                rcases List.mem_append.1 hp with hp | hp
                · exact hmid p hp
                · obtain rfl : p = _ := by simpa using hp
                  exact Nat.le_refl _
              have HB8 : Hid (PlayTo (newG ins) (fs.take (k + 1)) R.g ((L ++ [(⟨R.sv, R.ss, R.s3, R.d3, R.s4, R.d4, R.h1, R.h2, R.h2, R.th⟩ : ShoY)]).map (·.sv)) (cs ++ [R.code])) := by
                unfold Hid
                rw [List.map_append]
                exact HB.out
              clear hWM hIM BM hgr8 hnew hown8 hloc8
              go_wp2_with fail
              exact ⟨⟨k + 1, R.tl, R.h1, R.g, R.L, R.s0, R.s1, R.s2, R.d0, R.d1, R.d2, _, cs ++ [R.code], by omega, by go_num, hW8, hcap6, HB8, hmid8, B8⟩, by simp [intOf]; omega⟩
            · rw [if_neg h2, if_neg h1] at hsnoc
              have HB : Hid (PlayTo (newG ins) (fs.take (k + 1)) R.g (L.map (·.sv)) (cs ++ [R.code])) := hsnoc
              clear hsnoc htake hI5 dS5 hW5 B5
              go_wp2_with fail
              exact ⟨⟨k + 1, R.tl, R.h1, R.g, R.L, R.s0, R.s1, R.s2, R.d0, R.d1, R.d2, L, cs ++ [R.code], by omega, by go_num, hW6, hcap6, HB, hmid, B6⟩, by simp [intOf]; omega⟩
        · obtain rfl : k = fs.length := by omega
          obtain ⟨sa, sc, ca, cc, rfl, rfl, hA⟩ := hW.ans (lo := w.heap.size) hB1
          have HF : Hid (PlayTo (newG ins) fs g (L.map (·.sv)) cs) := by
            have h := HP.out
            rw [List.take_of_length_le (Nat.le_refl _)] at h
            exact h
          go_wp2_with fail
          exact bodyPost_ret (v := .tuple #[.slice sa L.length sc, .slice ca cs.length cc]) (by simp [results, Tryz.results25, go_sem]) rfl ⟨⟨L, cs, sa, ca, sc, cc, rfl, ⟨ins, true, HN.out, .inl ⟨rfl, by omega, g, HF.out⟩⟩, hA, fun _ => hmid⟩, hb⟩
  · clear hE
    have bA : Below w1.heap.size w1 (w1.alloc (.cells #[.slice none 0 0, .slice none 0 0, .slice none 0 0] 36)) := (Below.refl _ _).alloc (Nat.le_refl _) _
    go_wp2_with fail
    exact bodyPost_ret (v := .tuple #[.slice none 0 0, .slice none 0 0]) (by simp [results, Tryz.results25, go_sem]) rfl ⟨⟨[], [], none, none, 0, 0, rfl, ⟨[], false, hN, .inr ⟨.inl rfl, rfl, rfl⟩⟩, ⟨.inl rfl, .inl rfl⟩, fun _ p hp => by simp at hp⟩, b1.trans (bA.mono z1)⟩

end Go.Proofs.YtpfhegengmlkmacGreatDoor
/- What the specification's play keeps while a region calls GatherPut and lays two boxes, in whatever order. -/
namespace Go.Proofs.YtpfhegengmlkmacGreatDoor
open Go.RowKit Go.BigFrame
set_option maxRecDepth 100000

/-- What holds while the region runs: f says which operations are done. -/
structure Fy (Cal : ResG → World → Prop) (W : World) (GV SV IV PV FV : Value) (f : Nat → Bool) (R : ResG) (b10 b11 : Nat) (v11 v12 v13 v32 v33 v34 v35 v36 v37 v38 v39 v40 v41 : Value) (u : World) : Prop where
  bel : Below W.heap.size W u
  k0 : f 0 = true → v33 = GV
  k1 : f 1 = true → v34 = SV
  k2 : f 2 = true → v35 = IV
  k3 : f 3 = true → v36 = PV
  k4 : f 4 = true → v37 = FV
  k5 : f 5 = true → v38 = R.all ∧ Cal R u ∧ W.heap.size ≤ R.tl
  k6 : f 6 = true → v32 = R.all
  k7 : f 7 = true → v39 = R.gv
  k8 : f 8 = true → v40 = R.wv
  k9 : f 9 = true → v41 = .int .i64 R.code
  k10 : f 10 = true → v11 = .pointer (some ⟨b10, 0, none⟩) ∧ W.heap.size ≤ b10 ∧ b10 < u.heap.size ∧ (f 5 = true → b10 < R.tl ∨ R.th ≤ b10) ∧ (f 12 = false → Tri u b10 (.slice none 0 0) (.slice none 0 0) (.slice none 0 0)) ∧ (f 12 = true → Tri u b10 (.slice R.s0 R.g.ins.length R.d0) (.slice R.s1 R.L.length R.d1) (.slice R.s2 R.g.shown.length R.d2))
  k11 : f 11 = true → v12 = .pointer (some ⟨b11, 0, none⟩) ∧ W.heap.size ≤ b11 ∧ b11 < u.heap.size ∧ (f 5 = true → b11 < R.tl ∨ R.th ≤ b11) ∧ (f 13 = false → Duo u b11 (.slice none 0 0) (.slice none 0 0)) ∧ (f 13 = true → Duo u b11 (.slice R.s3 R.sv.length R.d3) (.slice R.s4 R.ss.length R.d4))
  k14 : f 14 = true → v13 = .int .i64 R.code
  ne : f 10 = true → f 11 = true → b10 ≠ b11
  c6 : f 6 = true → f 5 = true
  c7 : f 7 = true → f 5 = true
  c8 : f 8 = true → f 5 = true
  c9 : f 9 = true → f 5 = true
  c12 : f 12 = true → f 5 = true ∧ f 10 = true
  c13 : f 13 = true → f 5 = true ∧ f 11 = true
  c14 : f 14 = true → f 5 = true
theorem Fy.below {Cal : ResG → World → Prop} (hC : ∀ R u u', Cal R u → Below u.heap.size u u' → Cal R u') {W u u' : World} {GV SV IV PV FV : Value} {f : Nat → Bool} {R : ResG} {b10 b11 : Nat} {v11 v12 v13 v32 v33 v34 v35 v36 v37 v38 v39 v40 v41 : Value} (h : Fy Cal W GV SV IV PV FV f R b10 b11 v11 v12 v13 v32 v33 v34 v35 v36 v37 v38 v39 v40 v41 u) (hb : Below u.heap.size u u') :
    Fy Cal W GV SV IV PV FV f R b10 b11 v11 v12 v13 v32 v33 v34 v35 v36 v37 v38 v39 v40 v41 u' :=
  { h with
    bel := h.bel.trans (hb.mono h.bel.size)
    k5 := fun e => let ⟨q0, q1, q2⟩ := h.k5 e; ⟨q0, hC _ _ _ q1 hb, q2⟩
    k10 := fun e => let ⟨q0, q1, q2, q3, q4, q5⟩ := h.k10 e; ⟨q0, q1, Nat.lt_of_lt_of_le q2 hb.size, q3, fun e' => (q4 e').keep hb, fun e' => (q5 e').keep hb⟩
    k11 := fun e => let ⟨q0, q1, q2, q3, q4, q5⟩ := h.k11 e; ⟨q0, q1, Nat.lt_of_lt_of_le q2 hb.size, q3, fun e' => (q4 e').keep hb, fun e' => (q5 e').keep hb⟩ }

end Go.Proofs.YtpfhegengmlkmacGreatDoor
