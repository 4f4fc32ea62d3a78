/- Texts of this claim, one behind the other. -/
import Derived.Test.YtpfhegengmlkmaaGreatDoorZW49
namespace Go.Proofs.YtpfhegengmlkmaaGreatDoor
open Go.RowKit Go.BigFrame
set_option maxRecDepth 100000

/-- What DrawGatherPut answers: a gather and a feed. -/
def PuE (w' : World) (e : Ending) : Prop := ∃ (g : GatL) (a0 : Option Addr) (c0 : Nat) (a1 : Option Addr) (c1 : Nat) (a2 : Option Addr) (c2 : Nat) (i x : Int) (m : List (ByteArray × Int)) (am : Option Addr) (cm : Nat), e = .returned (.tuple #[.agg #[.slice a0 g.ins.length c0, .slice a1 g.wins.length c1, .slice a2 g.shown.length c2], .agg #[.int .i64 i, .int .i64 x, .slice am m.length cm]]) ∧ FitG g ∧ g.ins.length ≤ 100 ∧ (g.ins.length ≤ c0 ∧ c0 ≤ maxLen) ∧ (RowS w' a0 g.ins ∧ RowW w' a1 g.wins ∧ Row w' a2 g.shown) ∧ FitM m ∧ m.length ≤ cm ∧ Row w' am m
theorem GathF.agree {w u : World} {B : Nat} {v : Value} {L : List FeedL} (h : GathF w B v L) (hA : Agree B w.heap.size w u) : GathF u B v L := ⟨own_agree h.1 hA, fun p hp => ⟨(h.2 p hp).1.agree hA, (h.2 p hp).2⟩⟩
theorem GathF.last {w : World} {B : Nat} {a : Option Addr} {cap n : Nat} {L : List FeedL} (h : GathF w B (.slice a n cap) L) (h0 : 0 < L.length) : ∃ (b : Nat) (i x : Int) (m : List (ByteArray × Int)) (am : Option Addr) (cm : Nat), a = some ⟨b, 0, none⟩ ∧ B ≤ b ∧ FitM m ∧ m.length ≤ cm ∧ ∀ u, Agree B w.heap.size w u → u.cell? ⟨b, (n - 1) * 3, none⟩ = some (.int .i64 i) ∧ u.cell? ⟨b, (n - 1) * 3 + 1, none⟩ = some (.int .i64 x) ∧ u.cell? ⟨b, (n - 1) * 3 + 2, none⟩ = some (.slice am m.length cm) ∧ Row u am m := by
  rcases h.1.2 with ⟨_, e⟩ | ⟨g, cap', cur, e, hB, hh, hn, _⟩
  · omega
  · simp only [Value.slice.injEq] at e
    obtain ⟨rfl, rfl, rfl⟩ := e
    have hk : L.length - 1 < L.length := by omega
    have h2 := fcells_at L (L.length - 1) hk
    obtain ⟨hs, hl, hz⟩ := h.2 _ (List.getElem_mem hk)
    refine ⟨g, L[L.length - 1].1, L[L.length - 1].2.1.1, L[L.length - 1].2.1.2, L[L.length - 1].2.2.1, L[L.length - 1].2.2.2, rfl, hB, ⟨by unfold maxLen; omega, fun j hj => by have := hz _ (List.getElem_mem hj); unfold maxLen; omega⟩, hs.1, fun u hu => ?_⟩
    have hu' := h.agree hu
    exact ⟨(World.ownsRow.cellAt hu'.1 _ (by omega)).trans h2.1, (World.ownsRow.cellAt hu'.1 _ (by omega)).trans h2.2.1, (World.ownsRow.cellAt hu'.1 _ (by omega)).trans h2.2.2, (hu'.2 _ (List.getElem_mem hk)).1.row⟩

set_option maxHeartbeats 12800000 in
theorem drawPut_any (ab : Option Addr) (n c : Nat) (w : World) (h : Bytes w ab n c) :
    Calls Tryz.prog 20 #[.slice ab n c] w fun e w' => PuE w' e ∧ Below w.heap.size w w' := by
  have bA0 : Below w.heap.size w ((w.alloc (.cells #[.slice none 0 0, .slice none 0 0, .slice none 0 0] 30)).alloc (.cells #[.int .i64 0, .int .i64 0, .slice none 0 0] 42)) := ((Below.refl _ _).alloc (Nat.le_refl _) _).alloc (by simp) _
  have tO : Tri ((w.alloc (.cells #[.slice none 0 0, .slice none 0 0, .slice none 0 0] 30)).alloc (.cells #[.int .i64 0, .int .i64 0, .slice none 0 0] 42)) w.heap.size (.slice none 0 0) (.slice none 0 0) (.slice none 0 0) := by constructor <;> simp [go_sem]
  have tP : Tri ((w.alloc (.cells #[.slice none 0 0, .slice none 0 0, .slice none 0 0] 30)).alloc (.cells #[.int .i64 0, .int .i64 0, .slice none 0 0] 42)) (w.heap.size + 1) (.int .i64 0) (.int .i64 0) (.slice none 0 0) := by constructor <;> simp [go_sem]
  have hby := h.below bA0
  have z0 : ((w.alloc (.cells #[.slice none 0 0, .slice none 0 0, .slice none 0 0] 30)).alloc (.cells #[.int .i64 0, .int .i64 0, .slice none 0 0] 42)).heap.size = w.heap.size + 2 := by simp
  replace z0 := Nat.le_of_eq z0.symm
  clear h
  go_enter Tryz.func20, Tryz.ntmps20
  go_wp2_with fail
  generalize (w.alloc (.cells #[.slice none 0 0, .slice none 0 0, .slice none 0 0] 30)).alloc (.cells #[.int .i64 0, .int .i64 0, .slice none 0 0] 42) = W0 at *
  refine (l1Open_any ab n c W0 hby).mono ?_
  rintro e w1 ⟨⟨m, rfl, hr1⟩, hb1⟩
  have z1 := hb1.size
  replace tO := tO.keep hb1
  replace tP := tP.keep hb1
  have Bl : Below w.heap.size w w1 := bA0.trans (hb1.mono bA0.size)
  have hrBl := hr1.lt
  obtain ⟨rB, hrB⟩ : ∃ rB, rB = W0.heap.size := ⟨_, rfl⟩
  rw [← hrB] at hr1 hrBl z0 z1 ⊢
  clear bA0 hby hb1 hrB
  go_wp2_with fail
  refine (l6Which_any rB m c 0 ab w1 hr1 (by omega)).mono ?_
  rintro e w2 ⟨⟨wv, wl, p2, rfl, hw2, hwl0, hwl1, hr2, hp2⟩, hb2⟩
  obtain ⟨gw, cw, rfl, hgw⟩ := hw2.some (by omega)
  have z2 := hb2.size
  generalize hnw : wl.length = nw at *
  have hwh2 : ∀ j, j < nw → ∃ x : Int, w2.cell? ⟨gw, j, none⟩ = some (.int .i64 x) := fun j hj => ⟨_, hw2.cells hnw.symm (by omega)⟩
  replace tO := tO.span (hb2.span (Nat.le_refl _) (Nat.lt_succ_self _)) (by omega)
  replace tP := tP.span (hb2.span (Nat.le_refl _) (Nat.lt_succ_self _)) (by omega)
  replace Bl := Bl.trans (hb2.below (by omega) Bl.size)
  clear hr1 hw2 hnw hb2
  go_wp2_with fail
  refine (l6Ins_any nw w2 (by omega)).mono ?_
  rintro e w3 ⟨⟨vi, li, rfl, hg3, hll, hs8⟩, b3⟩
  subst hll
  obtain ⟨ia, ic, rfl, hic1, hic2, hri⟩ := hg3.rows
  have hs8' : ∀ j, (h : j < li.length) → li[j].size ≤ maxLen := fun j hj => by have := hs8 _ (List.getElem_mem hj); unfold maxLen; omega
  have hr3 := hr2.below b3
  have hwh3 : ∀ j, j < li.length → ∃ x : Int, w3.cell? ⟨gw, j, none⟩ = some (.int .i64 x) := fun j hj => by
    obtain ⟨x, e⟩ := hwh2 j hj
    exact ⟨x, cell_on b3 (block_lt_of_cell e) e⟩
  have z3 := b3.size
  replace tO := tO.keep b3
  replace tP := tP.keep b3
  replace Bl := Bl.trans (b3.mono Bl.size)
  clear b3 hr2 hwh2 hg3 hs8
  go_wp2_with fail
  refine (specGN_any ia ic li w3 (by omega) hri hs8').mono ?_
  rintro e w4 ⟨hE, b4⟩
  have z4 := b4.size
  obtain ⟨gI, aI0, e0, aI1, e1, aI2, e2, LI, bb, rfl, hnice, hmap, hsg, hcap, hroom⟩ := hE.begin
  have hr4 := hr3.below b4
  have hwh4 : ∀ j, j < li.length → ∃ x : Int, w4.cell? ⟨gw, j, none⟩ = some (.int .i64 x) := fun j hj => by
    obtain ⟨x, e⟩ := hwh3 j hj
    exact ⟨x, cell_on b4 (block_lt_of_cell e) e⟩
  replace tO := tO.keep b4
  replace tP := tP.keep b4
  replace Bl := Bl.trans (b4.mono Bl.size)
  clear b4 hr3 hwh3 hE hri hic1 hic2 hs8'
  have bA : Below w4.heap.size w4 (w4.alloc (.cells #[.slice aI0 gI.ins.length e0, .slice aI1 LI.length e1, .slice aI2 gI.shown.length e2] 30)) := (Below.refl _ _).alloc (Nat.le_refl _) _
  have tA := tri_new w4 (.slice aI0 gI.ins.length e0) (.slice aI1 LI.length e1) (.slice aI2 gI.shown.length e2) 30
  have zA : (w4.alloc (.cells #[.slice aI0 gI.ins.length e0, .slice aI1 LI.length e1, .slice aI2 gI.shown.length e2] 30)).heap.size = w4.heap.size + 1 := by simp
  have hWG : PlyW (w4.heap.size + 1) (w4.alloc (.cells #[.slice aI0 gI.ins.length e0, .slice aI1 LI.length e1, .slice aI2 gI.shown.length e2] 30)) w4.heap.size w3.heap.size w4.heap.size gI LI aI0 aI1 aI2 e0 e1 e2 (.slice none 0 0) (.slice none 0 0) [] [] :=
    { tG := tA, map := hmap, nice := hnice, sg := hsg.below bA, glt := by omega, gbox := .inr (Nat.le_refl _), bB := Nat.lt_succ_self _, BU := by omega, osh := World.ownsRow_nil _ _ _ _, oco := World.ownsRow_nil _ _ _ _, at_ := (fun p hp => by simp at hp), dis := List.Pairwise.nil, sfar := (fun p hp => by simp at hp), cfar := (fun p hp => by simp at hp), sgf := (fun k e => by cases e), cgf := (fun k e => by cases e) }
  replace hroom := hroom.below bA
  replace hr4 := hr4.below bA
  replace tO := tO.keep bA
  replace tP := tP.keep bA
  replace hwh4 : ∀ j, j < li.length → ∃ x : Int, (w4.alloc (.cells #[.slice aI0 gI.ins.length e0, .slice aI1 LI.length e1, .slice aI2 gI.shown.length e2] 30)).cell? ⟨gw, j, none⟩ = some (.int .i64 x) := fun j hj => by
    obtain ⟨x, e⟩ := hwh4 j hj
    exact ⟨x, cell_on bA (block_lt_of_cell e) e⟩
  replace Bl := Bl.trans (bA.mono Bl.size)
  have HK : Hid _ := And.intro hWG (And.intro hroom (And.intro hr4 (And.intro tO (And.intro hwh4 (And.intro Bl (And.intro zA (And.intro hcap (And.intro z4 tP))))))))
  clear bA tA hmap hsg hnice hWG hroom hr4 tO hwh4 Bl zA hcap z4 tP
  go_wp2_with fail
  obtain ⟨hWG, hroom, hr4, tO, hwh4, Bl, zA, hcap, z4, tP⟩ := HK.out
  clear HK
  generalize w4.alloc (.cells #[.slice aI0 gI.ins.length e0, .slice aI1 LI.length e1, .slice aI2 gI.shown.length e2] 30) = W4 at *
  obtain ⟨bG, hbG⟩ : ∃ bG, bG = w4.heap.size := ⟨_, rfl⟩
  rw [← hbG] at hWG z4 zA hroom ⊢
  refine (pick_any rB m c p2 ab 14 W4 hr4 (by omega) (by omega) (by omega)).mono ?_
  rintro e w5 ⟨⟨y, rfl, hy0, hy1⟩, hr5, hb5⟩
  obtain ⟨y, rfl⟩ := Int.eq_ofNat_of_zero_le hy0
  have z5 := hb5.size
  replace hWG := hWG.but hb5 (by omega) (.inr (by omega))
  replace hroom := hroom.but hb5 (by omega)
  replace tO := tO.span (hb5.span (Nat.le_refl _) (Nat.lt_succ_self _)) (by omega)
  replace tP := tP.span (hb5.span (Nat.le_refl _) (Nat.lt_succ_self _)) (by omega)
  replace Bl := Bl.trans (hb5.below (by omega) Bl.size)
  have hwh5 : ∀ j, j < li.length → ∃ x : Int, w5.cell? ⟨gw, j, none⟩ = some (.int .i64 x) := fun j hj => by
    obtain ⟨x, e⟩ := hwh4 j hj
    exact ⟨x, (hb5.cell (b := gw) j (block_lt_of_cell e) (by omega)).trans e⟩
  clear hr4 hwh4 hb5 hbG
  go_wp2_with fail
  have hcN : (2 : Int) + (y : Int) = ((2 + y : Nat) : Int) := by omega
  rw [hcN]
  clear hcN
  refine (l6Feeds_any rB m c (p2 + 1) ab gw cw li.length (2 + y) w5 hr5 (by omega) (by omega) (by omega) (by omega) (by omega) hwh5).mono ?_
  rintro e w6 ⟨⟨vf, Lf, p6, rfl, hg6, hfl, hr6, hp6⟩, hb6⟩
  have z6 := hb6.size
  obtain ⟨fa, fc, rfl, hfc, hrf⟩ := hg6.rows
  have hff := hg6.fit (by omega)
  replace hWG := hWG.but hb6 (by omega) (.inr (by omega))
  replace hroom := hroom.but hb6 (by omega)
  replace tO := tO.span (hb6.span (Nat.le_refl _) (Nat.lt_succ_self _)) (by omega)
  replace tP := tP.span (hb6.span (Nat.le_refl _) (Nat.lt_succ_self _)) (by omega)
  replace Bl := Bl.trans (hb6.below (by omega) Bl.size)
  have HFS : Hid (∀ u, Agree w5.heap.size w6.heap.size w6 u → RowF u fa (Lf.map fvL)) := fun u hu => by
    obtain ⟨fa', fc', e, _, hrf'⟩ := (hg6.agree hu).rows
    simp only [Value.slice.injEq] at e
    obtain ⟨rfl, _, _⟩ := e
    exact hrf'
  have HLAST : Hid (∃ (b : Nat) (i x : Int) (m : List (ByteArray × Int)) (am : Option Addr) (cm : Nat), fa = some ⟨b, 0, none⟩ ∧ w5.heap.size ≤ b ∧ FitM m ∧ m.length ≤ cm ∧ ∀ u, Agree w5.heap.size w6.heap.size w6 u → u.cell? ⟨b, ((Lf.map fvL).length - 1) * 3, none⟩ = some (.int .i64 i) ∧ u.cell? ⟨b, ((Lf.map fvL).length - 1) * 3 + 1, none⟩ = some (.int .i64 x) ∧ u.cell? ⟨b, ((Lf.map fvL).length - 1) * 3 + 2, none⟩ = some (.slice am m.length cm) ∧ Row u am m) := hg6.last (by omega)
  have hl2 : 2 ≤ (Lf.map fvL).length := by rw [List.length_map]; omega
  have hl61 : (Lf.map fvL).length ≤ 61 := by rw [List.length_map]; omega
  generalize Lf.map fvL = fs at *
  clear hr5 hwh5 hb6 hg6 hrf hfl
  go_wp2_with fail
  go_loopw [9] (fun iv wr => ∃ (k glo ghi : Nat) (g : GatL) (Lw : List WinY) (a0 a1 a2 : Option Addr) (d0 d1 d2 : Nat), k ≤ fs.length ∧ iv = .int .i64 k ∧ PlyW (bG + 1) wr bG glo ghi g Lw a0 a1 a2 d0 d1 d2 (.slice none 0 0) (.slice none 0 0) [] [] ∧ (rB < glo ∧ glo ≤ ghi) ∧ (g.ins.length ≤ d0 ∧ d0 ≤ maxLen) ∧ RoomS wr glo ghi a0 a1 d0 d1 g.ins.length Lw.length ∧ But bG w6 wr) (fun iv _ => fs.length - (intOf iv).toNat)
  case atStart => exact ⟨0, w3.heap.size, bG, gI, LI, aI0, aI1, aI2, e0, e1, e2, by omega, rfl, hWG, ⟨by omega, by omega⟩, hcap, hroom, But.refl _ _⟩
  case round =>
    clear hWG hroom hcap
    obtain ⟨k, glo, ghi, g, Lw, p0, p1, p2', d0, d1, d2, hk, rfl, hWG, hglo, hcap, hroom, hbut⟩ := hrel
    have hzr := hbut.size
    by_cases hlt1 : k + 1 < fs.length
    · have hlt : k < fs.length := by omega
      have hlt1' : decide ((k : Int) + 1 < (fs.length : Int)) = true := decide_eq_true (by omega)
      obtain ⟨bf, of, rfl, hbf, q0', q1', vq, q2', ⟨fa', fc', rfl, hfc', hrow⟩⟩ := HFS.out wr (hbut.agree (.inl (by omega))) k hlt
      have k0' : (0 : Int) ≤ (k : Int) := by omega
      have k1' : (k : Int) < (fs.length : Int) := by omega
      have hfk := hff.2 k hlt
      go_wp2_with fail
      have hbl : bG < wr.heap.size := block_lt_of_cell hWG.tG.c0
      have HSS : Hid (∀ u : World, Below wr.heap.size wr u → u.cell? ⟨bG, 0, none⟩ = some (.slice p0 g.ins.length d0) ∧ u.cell? ⟨bG, 1, none⟩ = some (.slice p1 Lw.length d1) ∧ u.cell? ⟨bG, 2, none⟩ = some (.slice p2' g.shown.length d2) ∧ u.cell? ⟨bf, of + k * 3, none⟩ = some (.int .i64 fs[k].1) ∧ u.cell? ⟨bf, of + k * 3 + 1, none⟩ = some (.int .i64 fs[k].2.1) ∧ u.cell? ⟨bf, of + k * 3 + 2, none⟩ = some (.slice fa' fs[k].2.2.length fc')) := fun u hu => ⟨cell_on hu hbl hWG.tG.c0, cell_on hu hbl hWG.tG.c1, cell_on hu hbl hWG.tG.c2, cell_on hu hbf q0', cell_on hu hbf q1', cell_on hu hbf q2'⟩
      obtain ⟨hLl, s0', s1', s2'⟩ := hWG.rows
      have hil' : g.ins.length ≤ 1048576 := by have := hWG.nice.ins; omega
      have hfitG := hWG.nice.fit
      have HLL : Hid (Lw.length = g.wins.length) := hLl
      clear hLl q0' q1' q2'
      refine wp_region_inv (by kernel_rfl) (by kernel_rfl) (fun f a u => ∃ (R : ResG) (b10 b11 : Nat) (v11 v12 v13 v32 v33 v34 v35 v36 v37 v38 v39 v40 v41 : Value), a = { tmps := #[Value.slice ab n c, undef, Value.pointer (some { block := w.heap.size, off := 0 }), Value.pointer (some { block := w.heap.size + 1, off := 0 }), Value.pointer (some { block := rB, off := 0 }), Value.slice (some { block := gw, off := 0 }) li.length cw, Value.pointer (some { block := bG, off := 0 }), Value.bool bb, Value.slice (some { block := bf, off := of }) fs.length fc, Value.int IntKind.i64 (k : Int), v11, v12, v13, undef, Value.slice ab n c, Value.pointer (some { block := rB, off := 0 }), Value.pointer (some { block := rB, off := 0 }), Value.slice (some { block := gw, off := 0 }) li.length cw, Value.tuple #[Value.agg #[Value.slice aI0 gI.ins.length e0, Value.slice aI1 LI.length e1, Value.slice aI2 gI.shown.length e2], Value.bool bb], Value.slice (some { block := gw, off := 0 }) li.length cw, Value.int IntKind.i64 (li.length : Int), Value.slice ia li.length ic, Value.tuple #[Value.agg #[Value.slice aI0 gI.ins.length e0, Value.slice aI1 LI.length e1, Value.slice aI2 gI.shown.length e2], Value.bool bb], Value.agg #[Value.slice aI0 gI.ins.length e0, Value.slice aI1 LI.length e1, Value.slice aI2 gI.shown.length e2], Value.bool bb, Value.pointer (some { block := rB, off := 0 }), Value.slice (some { block := gw, off := 0 }) li.length cw, Value.pointer (some { block := rB, off := 0 }), Value.int IntKind.i64 (y : Int), Value.int IntKind.i64 (2 + (y : Int)), Value.slice (some { block := bf, off := of }) fs.length fc, Value.int IntKind.i64 (k : Int), Value.int IntKind.i64 ((k : Int) + 1), Value.slice (some { block := bf, off := of }) fs.length fc, Value.int IntKind.i64 (fs.length : Int), Value.bool true, u36, u37, v32, v33, v34, v35, v36, v37, v38, v39, v40, v41, u48, u49, u50, undef, undef, undef, undef, undef, undef, undef, undef, undef, undef, undef, undef, undef, undef, undef, undef, undef, undef, undef, undef, undef, undef, undef, undef, undef], defers := [] } ∧ Fy (CalS g fs[k].1 fs[k].2.1 fs[k].2.2) wr (.agg #[.slice p0 g.ins.length d0, .slice p1 Lw.length d1, .slice p2' g.shown.length d2]) (.slice (some ⟨bf, of, none⟩) fs.length fc) (.int .i64 (k : Int)) (.pointer (some ⟨bf, of + k * 3, none⟩)) (.agg #[.int .i64 fs[k].1, .int .i64 fs[k].2.1, .slice fa' fs[k].2.2.length fc']) f R b10 b11 v11 v12 v13 v32 v33 v34 v35 v36 v37 v38 v39 v40 v41 u) ?start ?step ?fin
      case start =>
        refine ⟨⟨⟨[], [], []⟩, [], [], [], 0, none, none, none, none, none, 0, 0, 0, 0, 0, 0, 0, 0, 0⟩, 0, 0, _, _, _, _, _, _, _, _, _, _, _, _, _, rfl, ?_⟩
        exact { bel := (Below.refl _ _).drew, k0 := (fun h => by cases h), k1 := (fun h => by cases h), k2 := (fun h => by cases h), k3 := (fun h => by cases h), k4 := (fun h => by cases h), k5 := (fun h => by cases h), k6 := (fun h => by cases h), k7 := (fun h => by cases h), k8 := (fun h => by cases h), k9 := (fun h => by cases h), k10 := (fun h => by cases h), k11 := (fun h => by cases h), k14 := (fun h => by cases h), ne := (fun h => by cases h), c6 := (fun h => by cases h), c7 := (fun h => by cases h), c8 := (fun h => by cases h), c9 := (fun h => by cases h), c12 := (fun h => by cases h), c13 := (fun h => by cases h), c14 := (fun h => by cases h) }
      case step =>
        rintro f a u j ⟨R, b10, b11, v11, v12, v13, v32, v33, v34, v35, v36, v37, v38, v39, v40, v41, rfl, hF⟩ hj hfj hw
        obtain ⟨z0, z1, z2, z3, z4, z5⟩ := HSS.out _ hF.bel
        have hj' : j < 15 := hj
        have hC : ∀ R u u', CalS g fs[k].1 fs[k].2.1 fs[k].2.2 R u → Below u.heap.size u u' → CalS g fs[k].1 fs[k].2.1 fs[k].2.2 R u' := fun R u u' h hb => h.below hb
        rcases (by omega : j = 0 ∨ j = 1 ∨ j = 2 ∨ j = 3 ∨ j = 4 ∨ j = 5 ∨ j = 6 ∨ j = 7 ∨ j = 8 ∨ j = 9 ∨ j = 10 ∨ j = 11 ∨ j = 12 ∨ j = 13 ∨ j = 14) with rfl | rfl | rfl | rfl | rfl | rfl | rfl | rfl | rfl | rfl | rfl | rfl | rfl | rfl | rfl
        · refine wpOp_wanted rfl (by kernel_rfl) ?_
          go_simp
          exact ⟨R, b10, b11, _, _, _, _, _, _, _, _, _, _, _, _, _, ⟨rfl, rfl, rfl, rfl, rfl, rfl, rfl, rfl, rfl, rfl, rfl, rfl, rfl⟩, { hF with k0 := fun _ => rfl }⟩
        · refine wpOp_wanted rfl (by kernel_rfl) ?_
          go_simp
          exact ⟨R, b10, b11, _, _, _, _, _, _, _, _, _, _, _, _, _, ⟨rfl, rfl, rfl, rfl, rfl, rfl, rfl, rfl, rfl, rfl, rfl, rfl, rfl⟩, { hF with k1 := fun _ => rfl }⟩
        · refine wpOp_wanted rfl (by kernel_rfl) ?_
          go_simp
          exact ⟨R, b10, b11, _, _, _, _, _, _, _, _, _, _, _, _, _, ⟨rfl, rfl, rfl, rfl, rfl, rfl, rfl, rfl, rfl, rfl, rfl, rfl, rfl⟩, { hF with k2 := fun _ => rfl }⟩
        · have h1 : f 1 = true := hw 1 (of_decide_eq_true (by kernel_rfl))
          have h2 : f 2 = true := hw 2 (of_decide_eq_true (by kernel_rfl))
          obtain rfl := hF.k1 h1
          obtain rfl := hF.k2 h2
          refine wpOp_wanted rfl (by kernel_rfl) ?_
          go_simp
          exact ⟨R, b10, b11, _, _, _, _, _, _, _, _, _, _, _, _, _, ⟨rfl, rfl, rfl, rfl, rfl, rfl, rfl, rfl, rfl, rfl, rfl, rfl, rfl⟩, { hF with k3 := fun _ => rfl }⟩
        · have h3 : f 3 = true := hw 3 (of_decide_eq_true (by kernel_rfl))
          obtain rfl := hF.k3 h3
          refine wpOp_wanted rfl (by kernel_rfl) ?_
          go_simp
          exact ⟨R, b10, b11, _, _, _, _, _, _, _, _, _, _, _, _, _, ⟨rfl, rfl, rfl, rfl, rfl, rfl, rfl, rfl, rfl, rfl, rfl, rfl, rfl⟩, { hF with k4 := fun _ => rfl }⟩
        · have h0 : f 0 = true := hw 0 (of_decide_eq_true (by kernel_rfl))
          have h4 : f 4 = true := hw 4 (of_decide_eq_true (by kernel_rfl))
          obtain rfl := hF.k0 h0
          obtain rfl := hF.k4 h4
          have hcall := specGP_any p0 p1 p2' fa' d0 d1 d2 fc' g fs[k].1 fs[k].2.1 fs[k].2.2 u hfitG hil' (s0'.below hF.bel) (s1'.below hF.bel) (s2'.below hF.bel) hfk (hrow.below hF.bel)
          rw [← HLL.out] at hcall
          refine wpOp_wanted rfl (by kernel_rfl) ?_
          go_simp
          refine Calls.mono hcall ?_
          rintro e n ⟨hE, bx⟩
          obtain ⟨R', rfl, e1, e2, hcal⟩ := hE.cal bx.size
          have hF' := hF.below hC bx
          have no6 : f 6 = true → False := fun h => by have := hF.c6 h; rw [hfj] at this; cases this
          have no7 : f 7 = true → False := fun h => by have := hF.c7 h; rw [hfj] at this; cases this
          have no8 : f 8 = true → False := fun h => by have := hF.c8 h; rw [hfj] at this; cases this
          have no9 : f 9 = true → False := fun h => by have := hF.c9 h; rw [hfj] at this; cases this
          have no12 : f 12 = true → False := fun h => by have := (hF.c12 h).1; rw [hfj] at this; cases this
          have no13 : f 13 = true → False := fun h => by have := (hF.c13 h).1; rw [hfj] at this; cases this
          have no14 : f 14 = true → False := fun h => by have := hF.c14 h; rw [hfj] at this; cases this
          have zW := hF.bel.size
          exact ⟨R', b10, b11, _, _, _, _, _, _, _, _, _, _, _, _, _, ⟨rfl, rfl, rfl, rfl, rfl, rfl, rfl, rfl, rfl, rfl, rfl, rfl, rfl⟩, { bel := hF'.bel, k0 := hF'.k0, k1 := hF'.k1, k2 := hF'.k2, k3 := hF'.k3, k4 := hF'.k4, k5 := fun _ => ⟨rfl, hcal, by rw [e1]; exact zW⟩, k6 := fun e => (no6 e).elim, k7 := fun e => (no7 e).elim, k8 := fun e => (no8 e).elim, k9 := fun e => (no9 e).elim, k10 := fun e => let ⟨q0, q1, q2, q3, q4, q5⟩ := hF'.k10 e; ⟨q0, q1, q2, fun _ => .inl (by rw [e1]; exact (hF.k10 e).2.2.1), q4, fun e' => (no12 e').elim⟩, k11 := fun e => let ⟨q0, q1, q2, q3, q4, q5⟩ := hF'.k11 e; ⟨q0, q1, q2, fun _ => .inl (by rw [e1]; exact (hF.k11 e).2.2.1), q4, fun e' => (no13 e').elim⟩, k14 := fun e => (no14 e).elim, ne := hF'.ne, c6 := fun _ => rfl, c7 := fun _ => rfl, c8 := fun _ => rfl, c9 := fun _ => rfl, c12 := fun e => (no12 e).elim, c13 := fun e => (no13 e).elim, c14 := fun e => (no14 e).elim }⟩
        · have h5 : f 5 = true := hw 5 (of_decide_eq_true (by kernel_rfl))
          obtain ⟨rfl, _, _⟩ := hF.k5 h5
          refine wpOp_wanted rfl (by kernel_rfl) ?_
          go_simp
          exact ⟨R, b10, b11, _, _, _, _, _, _, _, _, _, _, _, _, _, ⟨rfl, rfl, rfl, rfl, rfl, rfl, rfl, rfl, rfl, rfl, rfl, rfl, rfl⟩, { hF with k6 := fun _ => rfl, c6 := fun _ => h5 }⟩
        · have h6 : f 6 = true := hw 6 (of_decide_eq_true (by kernel_rfl))
          have h5 := hF.c6 h6
          obtain rfl := hF.k6 h6
          refine wpOp_wanted rfl (by kernel_rfl) ?_
          go_simp
          exact ⟨R, b10, b11, _, _, _, _, _, _, _, _, _, _, _, _, _, ⟨rfl, rfl, rfl, rfl, rfl, rfl, rfl, rfl, rfl, rfl, rfl, rfl, rfl⟩, { hF with k7 := fun _ => rfl, c7 := fun _ => h5 }⟩
        · have h6 : f 6 = true := hw 6 (of_decide_eq_true (by kernel_rfl))
          have h5 := hF.c6 h6
          obtain rfl := hF.k6 h6
          refine wpOp_wanted rfl (by kernel_rfl) ?_
          go_simp
          exact ⟨R, b10, b11, _, _, _, _, _, _, _, _, _, _, _, _, _, ⟨rfl, rfl, rfl, rfl, rfl, rfl, rfl, rfl, rfl, rfl, rfl, rfl, rfl⟩, { hF with k8 := fun _ => rfl, c8 := fun _ => h5 }⟩
        · have h6 : f 6 = true := hw 6 (of_decide_eq_true (by kernel_rfl))
          have h5 := hF.c6 h6
          obtain rfl := hF.k6 h6
          refine wpOp_wanted rfl (by kernel_rfl) ?_
          go_simp
          exact ⟨R, b10, b11, _, _, _, _, _, _, _, _, _, _, _, _, _, ⟨rfl, rfl, rfl, rfl, rfl, rfl, rfl, rfl, rfl, rfl, rfl, rfl, rfl⟩, { hF with k9 := fun _ => rfl, c9 := fun _ => h5 }⟩
        · refine wpOp_wanted rfl (by kernel_rfl) ?_
          go_simp
          have bx : Below u.heap.size u (u.alloc (.cells #[.slice none 0 0, .slice none 0 0, .slice none 0 0] 30)) := (Below.refl _ _).alloc (Nat.le_refl _) _
          have hF' := hF.below hC bx
          have no12 : f 12 = true → False := fun h => by have := (hF.c12 h).2; rw [hfj] at this; cases this
          have hnew := tri_new u (.slice none 0 0) (.slice none 0 0) (.slice none 0 0) 30
          have zW := hF.bel.size
          exact ⟨R, u.heap.size, b11, _, _, _, _, _, _, _, _, _, _, _, _, _, ⟨rfl, rfl, rfl, rfl, rfl, rfl, rfl, rfl, rfl, rfl, rfl, rfl, rfl⟩, { hF' with k10 := fun _ => ⟨rfl, zW, by simp, fun e => .inr (hF.k5 e).2.1.o4, fun _ => hnew, fun e => (no12 e).elim⟩, ne := fun _ e => Nat.ne_of_gt (hF.k11 e).2.2.1, c12 := fun e => (no12 e).elim }⟩
        · refine wpOp_wanted rfl (by kernel_rfl) ?_
          go_simp
          have bx : Below u.heap.size u (u.alloc (.cells #[.slice none 0 0, .slice none 0 0] 36)) := (Below.refl _ _).alloc (Nat.le_refl _) _
          have hF' := hF.below hC bx
          have no13 : f 13 = true → False := fun h => by have := (hF.c13 h).2; rw [hfj] at this; cases this
          have hnew := duo_new u (.slice none 0 0) (.slice none 0 0) 36
          have zW := hF.bel.size
          exact ⟨R, b10, u.heap.size, _, _, _, _, _, _, _, _, _, _, _, _, _, ⟨rfl, rfl, rfl, rfl, rfl, rfl, rfl, rfl, rfl, rfl, rfl, rfl, rfl⟩, { hF' with k11 := fun _ => ⟨rfl, zW, by simp, fun e => .inr (hF.k5 e).2.1.o4, fun _ => hnew, fun e => (no13 e).elim⟩, ne := fun e _ => Nat.ne_of_lt (hF.k10 e).2.2.1, c13 := fun e => (no13 e).elim }⟩
        · have h10 : f 10 = true := hw 10 (of_decide_eq_true (by kernel_rfl))
          have h7 : f 7 = true := hw 7 (of_decide_eq_true (by kernel_rfl))
          have h11 : f 11 = true := hw 11 (of_decide_eq_true (by kernel_rfl))
          have h5 := hF.c7 h7
          obtain rfl := hF.k7 h7
          obtain ⟨rfl, q1, q2, q3, q4, _⟩ := hF.k10 h10
          have tt := q4 hfj
          obtain ⟨i0, i1, i2, o0, o1, o2⟩ := id tt
          refine wpOp_wanted rfl (by kernel_rfl) ?_
          go_simp
          have sx : Span b10 (b10 + 1) u (((u.setCell ⟨b10, 0, none⟩ (.slice R.s0 R.g.ins.length R.d0)).setCell ⟨b10, 1, none⟩ (.slice R.s1 R.L.length R.d1)).setCell ⟨b10, 2, none⟩ (.slice R.s2 R.g.shown.length R.d2)) := (((Span.refl _ _ _).setCell (Nat.le_refl _) (Nat.lt_succ_self _) _ _).setCell (Nat.le_refl _) (Nat.lt_succ_self _) _ _).setCell (Nat.le_refl _) (Nat.lt_succ_self _) _ _
          have tn := ((tt.set0 (.slice R.s0 R.g.ins.length R.d0)).set1 (.slice R.s1 R.L.length R.d1)).set2c (.slice R.s2 R.g.shown.length R.d2)
          have zx : (((u.setCell ⟨b10, 0, none⟩ (.slice R.s0 R.g.ins.length R.d0)).setCell ⟨b10, 1, none⟩ (.slice R.s1 R.L.length R.d1)).setCell ⟨b10, 2, none⟩ (.slice R.s2 R.g.shown.length R.d2)).heap.size = u.heap.size := by simp
          have far := q3 h5
          have ne := hF.ne h10 h11
          have hb' := hF.bel.trans (sx.below q1 hF.bel.size)
          generalize (((u.setCell ⟨b10, 0, none⟩ (.slice R.s0 R.g.ins.length R.d0)).setCell ⟨b10, 1, none⟩ (.slice R.s1 R.L.length R.d1)).setCell ⟨b10, 2, none⟩ (.slice R.s2 R.g.shown.length R.d2)) = n at *
          exact ⟨R, b10, b11, _, _, _, _, _, _, _, _, _, _, _, _, _, ⟨rfl, rfl, rfl, rfl, rfl, rfl, rfl, rfl, rfl, rfl, rfl, rfl, rfl⟩, { bel := hb', k0 := hF.k0, k1 := hF.k1, k2 := hF.k2, k3 := hF.k3, k4 := hF.k4, k5 := fun e => let ⟨r0, r1, r2⟩ := hF.k5 e; ⟨r0, r1.span sx (by omega), r2⟩, k6 := hF.k6, k7 := hF.k7, k8 := hF.k8, k9 := hF.k9, k10 := fun _ => ⟨rfl, q1, by omega, fun _ => far, (fun e => by cases e), fun _ => tn⟩, k11 := fun e => let ⟨r0, r1, r2, r3, r4, r5⟩ := hF.k11 e; ⟨r0, r1, by omega, r3, fun e' => (r4 e').span sx (by omega), fun e' => (r5 e').span sx (by omega)⟩, k14 := hF.k14, ne := hF.ne, c6 := hF.c6, c7 := hF.c7, c8 := hF.c8, c9 := hF.c9, c12 := fun _ => ⟨h5, h10⟩, c13 := hF.c13, c14 := hF.c14 }⟩
        · have h11 : f 11 = true := hw 11 (of_decide_eq_true (by kernel_rfl))
          have h8 : f 8 = true := hw 8 (of_decide_eq_true (by kernel_rfl))
          have h10 : f 10 = true := hw 10 (of_decide_eq_true (by kernel_rfl))
          have h5 := hF.c8 h8
          obtain rfl := hF.k8 h8
          obtain ⟨rfl, q1, q2, q3, q4, _⟩ := hF.k11 h11
          have tt := q4 hfj
          obtain ⟨i0, i1, o0, o1⟩ := id tt
          refine wpOp_wanted rfl (by kernel_rfl) ?_
          go_simp
          have sx : Span b11 (b11 + 1) u ((u.setCell ⟨b11, 0, none⟩ (.slice R.s3 R.sv.length R.d3)).setCell ⟨b11, 1, none⟩ (.slice R.s4 R.ss.length R.d4)) := ((Span.refl _ _ _).setCell (Nat.le_refl _) (Nat.lt_succ_self _) _ _).setCell (Nat.le_refl _) (Nat.lt_succ_self _) _ _
          have tn := (tt.set0 (.slice R.s3 R.sv.length R.d3)).set1 (.slice R.s4 R.ss.length R.d4)
          have zx : ((u.setCell ⟨b11, 0, none⟩ (.slice R.s3 R.sv.length R.d3)).setCell ⟨b11, 1, none⟩ (.slice R.s4 R.ss.length R.d4)).heap.size = u.heap.size := by simp
          have far := q3 h5
          have ne := hF.ne h10 h11
          have hb' := hF.bel.trans (sx.below q1 hF.bel.size)
          generalize ((u.setCell ⟨b11, 0, none⟩ (.slice R.s3 R.sv.length R.d3)).setCell ⟨b11, 1, none⟩ (.slice R.s4 R.ss.length R.d4)) = n at *
          exact ⟨R, b10, b11, _, _, _, _, _, _, _, _, _, _, _, _, _, ⟨rfl, rfl, rfl, rfl, rfl, rfl, rfl, rfl, rfl, rfl, rfl, rfl, rfl⟩, { bel := hb', k0 := hF.k0, k1 := hF.k1, k2 := hF.k2, k3 := hF.k3, k4 := hF.k4, k5 := fun e => let ⟨r0, r1, r2⟩ := hF.k5 e; ⟨r0, r1.span sx (by omega), r2⟩, k6 := hF.k6, k7 := hF.k7, k8 := hF.k8, k9 := hF.k9, k11 := fun _ => ⟨rfl, q1, by omega, fun _ => far, (fun e => by cases e), fun _ => tn⟩, k10 := fun e => let ⟨r0, r1, r2, r3, r4, r5⟩ := hF.k10 e; ⟨r0, r1, by omega, r3, fun e' => (r4 e').span sx (by omega), fun e' => (r5 e').span sx (by omega)⟩, k14 := hF.k14, ne := hF.ne, c6 := hF.c6, c7 := hF.c7, c8 := hF.c8, c9 := hF.c9, c12 := hF.c12, c13 := fun _ => ⟨h5, h11⟩, c14 := hF.c14 }⟩
        · have h9 : f 9 = true := hw 9 (of_decide_eq_true (by kernel_rfl))
          have h5 := hF.c9 h9
          obtain rfl := hF.k9 h9
          refine wpOp_wanted rfl (by kernel_rfl) ?_
          go_simp
          exact ⟨R, b10, b11, _, _, _, _, _, _, _, _, _, _, _, _, _, ⟨rfl, rfl, rfl, rfl, rfl, rfl, rfl, rfl, rfl, rfl, rfl, rfl, rfl⟩, { hF with k14 := fun _ => rfl, c14 := fun _ => h5 }⟩
      case fin =>
        rintro f a u ⟨R, b10, b11, v11, v12, v13, v32, v33, v34, v35, v36, v37, v38, v39, v40, v41, rfl, hF⟩ hall
        have hm6 := hF.k6 (hall 6 (of_decide_eq_true (by kernel_rfl)))
        have hm7 := hF.k7 (hall 7 (of_decide_eq_true (by kernel_rfl)))
        have hm8 := hF.k8 (hall 8 (of_decide_eq_true (by kernel_rfl)))
        have hm9 := hF.k9 (hall 9 (of_decide_eq_true (by kernel_rfl)))
        have hm0 := hF.k0 (hall 0 (of_decide_eq_true (by kernel_rfl)))
        have hm1 := hF.k1 (hall 1 (of_decide_eq_true (by kernel_rfl)))
        have hm2 := hF.k2 (hall 2 (of_decide_eq_true (by kernel_rfl)))
        have hm3 := hF.k3 (hall 3 (of_decide_eq_true (by kernel_rfl)))
        have hm4 := hF.k4 (hall 4 (of_decide_eq_true (by kernel_rfl)))
        subst hm0 hm1 hm2 hm3 hm4 hm6 hm7 hm8 hm9
        obtain ⟨rfl, hI, wtl⟩ := hF.k5 (hall 5 (of_decide_eq_true (by kernel_rfl)))
        obtain ⟨rfl, w10, l10, far10, _, tT⟩ := hF.k10 (hall 10 (of_decide_eq_true (by kernel_rfl)))
        obtain ⟨rfl, w11, l11, far11, _, dS⟩ := hF.k11 (hall 11 (of_decide_eq_true (by kernel_rfl)))
        obtain rfl := hF.k14 (hall 14 (of_decide_eq_true (by kernel_rfl)))
        have ne := hF.ne (hall 10 (of_decide_eq_true (by kernel_rfl))) (hall 11 (of_decide_eq_true (by kernel_rfl)))
        replace tT := tT (hall 12 (of_decide_eq_true (by kernel_rfl)))
        replace dS := dS (hall 13 (of_decide_eq_true (by kernel_rfl)))
        replace far10 := far10 (hall 5 (of_decide_eq_true (by kernel_rfl)))
        replace far11 := far11 (hall 5 (of_decide_eq_true (by kernel_rfl)))
        have bU := hF.bel
        have zU := bU.size
        have hbutU : But bG w6 u := hbut.trans (But.of_below bU)
        have hWGu := hWG.keep bU
        have hroomU := hroom.below bU
        have hnice := hI.put.nice.1
        have o1 := hI.o1
        have o4 := hI.o4
        clear hF hall HSS hWG hroom s0' s1' s2' hrow
        by_cases h2 : R.code = 2
        · have HX : Hid _ := And.intro hWGu (And.intro hroomU hbutU)
          have h2' : (R.code != 2) = false := by rw [h2]; rfl
          clear hWGu hroomU hbutU hbut hI tT dS bU
          go_wp2_with fail
          exact ⟨⟨k + 1, glo, ghi, g, Lw, p0, p1, p2', d0, d1, d2, by omega, by go_num, HX.out.1, hglo, hcap, HX.out.2.1, HX.out.2.2⟩, by simp [intOf]; omega⟩
        · have h2' : (R.code != 2) = true := by rw [bne_iff_ne]; exact h2
          have hWG6 := hWGu.put (d0' := R.d0) (d1' := R.d1) (d2' := R.d2) hI.map hnice hI.sg (by omega) (.inl (by omega)) (fun j e => by cases e) (fun j e => by cases e)
          have hb6 : But bG u (((u.setCell ⟨bG, 0, none⟩ (.slice R.s0 R.g.ins.length R.d0)).setCell ⟨bG, 1, none⟩ (.slice R.s1 R.L.length R.d1)).setCell ⟨bG, 2, none⟩ (.slice R.s2 R.g.shown.length R.d2)) := (((But.refl _ _).setCell _ _).setCell _ _).setCell _ _
          have HG6 : Hid (∃ G6, (((u.setCell ⟨bG, 0, none⟩ (.slice R.s0 R.g.ins.length R.d0)).setCell ⟨bG, 1, none⟩ (.slice R.s1 R.L.length R.d1)).setCell ⟨bG, 2, none⟩ (.slice R.s2 R.g.shown.length R.d2)) = G6) := ⟨_, rfl⟩
          obtain ⟨G6, hG6⟩ := HG6.out
          clear HG6
          rw [hG6] at hWG6 hb6
          have HG6 : Hid ((((u.setCell ⟨bG, 0, none⟩ (.slice R.s0 R.g.ins.length R.d0)).setCell ⟨bG, 1, none⟩ (.slice R.s1 R.L.length R.d1)).setCell ⟨bG, 2, none⟩ (.slice R.s2 R.g.shown.length R.d2)) = G6) := hG6
          clear hG6
          have HFIN : Hid (PlyW (bG + 1) G6 bG R.tl R.th R.g R.L R.s0 R.s1 R.s2 R.d0 R.d1 R.d2 (.slice none 0 0) (.slice none 0 0) [] [] ∧ RoomS G6 R.tl R.th R.s0 R.s1 R.d0 R.d1 R.g.ins.length R.L.length ∧ But bG w6 G6 ∧ (R.g.ins.length ≤ R.d0 ∧ R.d0 ≤ maxLen) ∧ (rB < R.tl ∧ R.tl ≤ R.th)) := ⟨hWG6, hI.room.but hb6 (by omega), hbutU.trans hb6, hI.cap, by omega, o1⟩
          obtain ⟨y0, y1, y2, y3, y4, y5⟩ := id hWGu.tG
          obtain ⟨m0, m1, m2, _, _, _⟩ := id tT
          clear hWG6 hb6 hWGu hroomU hbutU hbut hI tT dS bU
          go_wp2_with (first | rw [HG6.out])
          exact ⟨⟨k + 1, R.tl, R.th, R.g, R.L, R.s0, R.s1, R.s2, R.d0, R.d1, R.d2, by omega, by go_num, HFIN.out.1, HFIN.out.2.2.2.2, HFIN.out.2.2.2.1, HFIN.out.2.1, HFIN.out.2.2.1⟩, by simp [intOf]; omega⟩
    · have hlt1' : decide ((k : Int) + 1 < (fs.length : Int)) = false := decide_eq_false (by omega)
      have hr7 := hr6.but hbut (by omega)
      have tO7 := tO.span (hbut.span (Nat.le_refl _) (Nat.lt_succ_self _)) (by omega)
      have tP7 := tP.span (hbut.span (Nat.le_refl _) (Nat.lt_succ_self _)) (by omega)
      have Bl7 := Bl.trans (hbut.below (by omega) Bl.size)
      have hA7 : Agree w5.heap.size w6.heap.size w6 wr := hbut.agree (.inl (by omega))
      go_wp2_with fail
      refine (pick_any rB m c p6 ab 16 wr hr7 (by omega) (by omega) (by omega)).mono ?_
      rintro e w8 ⟨⟨z, rfl, hz0', hz1'⟩, hr8, hb8⟩
      have hbl : bG < wr.heap.size := block_lt_of_cell hWG.tG.c0
      have gw7 : GW bG glo wr (.slice p0 g.ins.length d0) (.slice p1 Lw.length d1) g.ins Lw p2' g.shown := hWG.sg.gw hroom hWG.glt hWG.gbox hbl
      have HF : Hid (FitS g.ins ∧ FitW (Lw.map (·.l)) ∧ FitM g.shown) := by
        have h1 := hWG.nice.fit
        have h2 := h1.wins
        rw [← hWG.map] at h2
        exact ⟨h1.ins, h2, h1.shown⟩
      have hn6 := hWG.nice.ins
      have tG7 := hWG.tG
      have z8 := hb8.size
      have gw8 := gw7.agree (hb8.agreeX (.inl (by omega)))
      have tG8 := tG7.span (hb8.span (Nat.le_refl _) (Nat.lt_succ_self _)) (by omega)
      have tO8 := tO7.span (hb8.span (Nat.le_refl _) (Nat.lt_succ_self _)) (by omega)
      have tP8 := tP7.span (hb8.span (Nat.le_refl _) (Nat.lt_succ_self _)) (by omega)
      have Bl8 : Below w.heap.size w w8 := Bl7.trans (hb8.below (by omega) Bl7.size)
      have hA8 : Agree w5.heap.size w6.heap.size w6 w8 := hA7.trans (hb8.agree (.inl (by omega)))
      have hgl8 : glo ≤ w8.heap.size := by have := hWG.glt; omega
      clear hWG hroom hbut hr7 tO7 tP7 Bl7 hA7 tG7 gw7 hb8 HFS hcap hff hbl
      generalize g.ins = nm at *
      generalize g.shown = sh at *
      obtain ⟨bF, i9, x9, m9, am9, cm9, efa, hbF, hfm9, hcm9, hlf9⟩ := HLAST.out
      subst efa
      have HLF : Hid (FitM m9 ∧ m9.length ≤ cm9 ∧ ∀ u, Agree w5.heap.size w6.heap.size w6 u → u.cell? ⟨bF, (fs.length - 1) * 3, none⟩ = some (.int .i64 i9) ∧ u.cell? ⟨bF, (fs.length - 1) * 3 + 1, none⟩ = some (.int .i64 x9) ∧ u.cell? ⟨bF, (fs.length - 1) * 3 + 2, none⟩ = some (.slice am9 m9.length cm9) ∧ Row u am9 m9) := ⟨hfm9, hcm9, hlf9⟩
      clear hfm9 hcm9 hlf9 HLAST
      by_cases e0 : z = 0
      · subst e0
        go_wp2_with fail
        refine (l6Marks_any rB m c (p6 + 1) ab w8 hr8 (by omega)).mono ?_
        rintro e w9 ⟨⟨mv, ml, p9, rfl, hgm, hml, hmz, hr9, hp9⟩, hb9⟩
        obtain ⟨ma, mc, rfl, hsafe⟩ := hgm.safe
        have z9 := hb9.size
        have gw9 := gw8.agree (hb9.agreeX (.inl (by omega)))
        have tG9 := tG8.span (hb9.span (Nat.le_refl _) (Nat.lt_succ_self _)) (by omega)
        have tO9 := tO8.span (hb9.span (Nat.le_refl _) (Nat.lt_succ_self _)) (by omega)
        have tP9 := tP8.span (hb9.span (Nat.le_refl _) (Nat.lt_succ_self _)) (by omega)
        have Bl9 : Below w.heap.size w w9 := Bl8.trans (hb9.below (by omega) Bl8.size)
        have hA9 : Agree w5.heap.size w6.heap.size w6 w9 := hA8.trans (hb9.agree (.inl (by omega)))
        have gw9' : GW bG glo w9 (.slice p0 nm.length d0) (.slice p1 Lw.length d1) nm Lw ma ml := { gw9 with sh := hsafe.imp id fun ⟨s, e, h1, h2, h3⟩ => ⟨s, e, by omega, by have := gw8.lt; omega, h3⟩ }
        have HYY : Hid (∃ Y, w9.setCell ⟨bG, 2, none⟩ (.slice ma ml.length mc) = Y) := ⟨_, rfl⟩
        obtain ⟨Y, hYY⟩ := HYY.out
        clear HYY
        have bY : But bG w9 Y := by rw [← hYY]; exact (But.refl _ _).setCell _ _
        have tGY : Tri Y bG (.slice p0 nm.length d0) (.slice p1 Lw.length d1) (.slice ma ml.length mc) := by rw [← hYY]; exact tG9.set2c _
        have tOY := tO9.span (bY.span (Nat.le_refl _) (Nat.lt_succ_self _)) (by omega)
        have tPY := tP9.span (bY.span (Nat.le_refl _) (Nat.lt_succ_self _)) (by omega)
        have gwY := gw9'.agree (bY.agreeX (.inr rfl))
        have BlY : Below w.heap.size w Y := Bl9.trans (bY.below (by omega) Bl9.size)
        have hAY : Agree w5.heap.size w6.heap.size w6 Y := hA9.trans (bY.agree (.inl (by omega)))
        have hrY := hr9.but bY (by omega)
        have zY := bY.size
        have HYY : Hid (w9.setCell ⟨bG, 2, none⟩ (.slice ma ml.length mc) = Y) := hYY
        obtain ⟨x0, x1, x2, x3, x4, x5⟩ := id tG9
        have HZ : Hid _ := And.intro gwY (And.intro tGY (And.intro tOY (And.intro tPY (And.intro BlY (And.intro hAY hrY)))))
        clear tG9 tO9 tP9 Bl9 hA9 gw9 gw9' bY hYY hgm hb9 hsafe hr9 gwY tGY tOY tPY BlY hAY hrY gw8 tG8 tO8 tP8 Bl8 hA8 hr8
        go_wp2_with (rw [HYY.out])
        obtain ⟨gwY, tGY, tOY, tPY, BlY, hAY, hrY⟩ := HZ.out
        clear HZ HYY x0 x1 x2 x3 x4 x5
        refine (pick_any rB m c (p9) ab 24 Y hrY (by omega) (by omega) (by omega)).mono ?_
        rintro e w10 ⟨⟨z2', rfl, hz2', hz3'⟩, hr10, hb10⟩
        have z10 := hb10.size
        have gw10 := gwY.agree (hb10.agreeX (.inl (by omega)))
        have tG10 := tGY.span (hb10.span (Nat.le_refl _) (Nat.lt_succ_self _)) (by omega)
        have tO10 := tOY.span (hb10.span (Nat.le_refl _) (Nat.lt_succ_self _)) (by omega)
        have tP10 := tPY.span (hb10.span (Nat.le_refl _) (Nat.lt_succ_self _)) (by omega)
        have Bl10 : Below w.heap.size w w10 := BlY.trans (hb10.below (by omega) BlY.size)
        have hA10 : Agree w5.heap.size w6.heap.size w6 w10 := hAY.trans (hb10.agree (.inl (by omega)))
        clear hb10 gwY tGY tOY tPY BlY hAY hrY
        by_cases e9 : z2' = 0
        · subst e9
          go_wp2_with fail
          refine (l6Gather_any rB m c (p9 + 1) ab w10 hr10 (by omega)).mono ?_
          rintro e w11 ⟨hE, hb11⟩
          obtain ⟨gg, b0, k0, b1, k1, b2, k2, rfl, hfg, hlg, hcg, hrw⟩ := hE
          have z11 := hb11.size
          have tO11 := tO10.span (hb11.span (Nat.le_refl _) (Nat.lt_succ_self _)) (by omega)
          have tP11 := tP10.span (hb11.span (Nat.le_refl _) (Nat.lt_succ_self _)) (by omega)
          have Bl11 : Below w.heap.size w w11 := Bl10.trans (hb11.below (by omega) Bl10.size)
          have hA11 : Agree w5.heap.size w6.heap.size w6 w11 := hA10.trans (hb11.agree (.inl (by omega)))
          have bX : Below w11.heap.size w11 (w11.alloc (.cells #[.slice b0 gg.ins.length k0, .slice b1 gg.wins.length k1, .slice b2 gg.shown.length k2] 30)) := (Below.refl _ _).alloc (Nat.le_refl _) _
          have tBX := tri_new w11 (.slice b0 gg.ins.length k0) (.slice b1 gg.wins.length k1) (.slice b2 gg.shown.length k2) 30
          have tOX := tO11.keep bX
          have tPX := tP11.keep bX
          have BlX := Bl11.trans (bX.mono Bl11.size)
          have hAX := hA11.trans (below_agree (lo := w5.heap.size) (hi := w6.heap.size) bX)
          have HR : Hid (FitG gg ∧ gg.ins.length ≤ 100 ∧ (gg.ins.length ≤ k0 ∧ k0 ≤ maxLen) ∧ RowsAt (w.heap.size + 2) (w11.alloc (.cells #[.slice b0 gg.ins.length k0, .slice b1 gg.wins.length k1, .slice b2 gg.shown.length k2] 30)).drew gg b0 b1 b2) := ⟨hfg, hlg, hcg, fun u hu => hrw u (((Span.of_below bX).trans (Span.of_below (Below.refl _ _).drew)).trans (hu.wide (Nat.le_refl _) (by omega)))⟩
          have HZ : Hid _ := And.intro tBX (And.intro tOX (And.intro tPX (And.intro BlX hAX)))
          clear bX tBX tOX tPX BlX hAX tO11 tP11 Bl11 hA11 hrw hfg hcg hlg gw10 tG10 tO10 tP10 Bl10 hA10 hr10 hb11
          go_wp2_with fail
          obtain ⟨tBX, tOX, tPX, BlX, hAX⟩ := HZ.out
          clear HZ
          generalize w11.alloc (.cells #[.slice b0 gg.ins.length k0, .slice b1 gg.wins.length k1, .slice b2 gg.shown.length k2] 30) = X at *
          obtain ⟨bH, hbH⟩ : ∃ bH, bH = w11.heap.size := ⟨_, rfl⟩
          have hbH2 : w.heap.size + 2 ≤ bH := by omega
          rw [← hbH] at tBX ⊢
          clear hbH
          have hbd : Below X.heap.size X X.drew := (Below.refl _ _).drew
          have tBd := tBX.keep hbd
          have hAd : Agree w5.heap.size w6.heap.size w6 X.drew := hAX.trans (below_agree hbd)
          have Bld : Below w.heap.size w X.drew := BlX.trans (hbd.mono BlX.size)
          have zd : X.drew.heap.size = X.heap.size := rfl
          have HSS : Hid (∀ u : World, Span 0 (w.heap.size + 2) X.drew u → u.cell? ⟨bH, 0, none⟩ = some (.slice b0 gg.ins.length k0) ∧ u.cell? ⟨bH, 1, none⟩ = some (.slice b1 gg.wins.length k1) ∧ u.cell? ⟨bH, 2, none⟩ = some (.slice b2 gg.shown.length k2) ∧ u.cell? ⟨bF, (fs.length - 1) * 3, none⟩ = some (.int .i64 i9) ∧ u.cell? ⟨bF, (fs.length - 1) * 3 + 1, none⟩ = some (.int .i64 x9) ∧ u.cell? ⟨bF, (fs.length - 1) * 3 + 2, none⟩ = some (.slice am9 m9.length cm9)) := fun u hu => by
            obtain ⟨r3, r4, r5, _⟩ := HLF.out.2.2 u (hAd.trans (hu.agree (.inr (by omega))))
            exact ⟨hu.cell tBd.c0 (by omega), hu.cell tBd.c1 (by omega), hu.cell tBd.c2 (by omega), r3, r4, r5⟩
          obtain ⟨i0, i1, i2, f0, f1, f2⟩ := id (tOX.keep hbd)
          obtain ⟨j0, j1, j2, g0, g1, g2⟩ := id (tPX.keep hbd)
          have Sx := HSS.out _ (Span.refl _ _ _)
          have hkm : ((fs.length : Int) - 1) = ((fs.length - 1 : Nat) : Int) := by omega
          have k3 : (0 : Int) ≤ ((fs.length - 1 : Nat) : Int) := by omega
          have k4 : ((fs.length - 1 : Nat) : Int) < (fs.length : Int) := by omega
          refine wp_region_held_drew (S := fun u => u.cell? ⟨bH, 0, none⟩ = some (.slice b0 gg.ins.length k0) ∧ u.cell? ⟨bH, 1, none⟩ = some (.slice b1 gg.wins.length k1) ∧ u.cell? ⟨bH, 2, none⟩ = some (.slice b2 gg.shown.length k2) ∧ u.cell? ⟨bF, (fs.length - 1) * 3, none⟩ = some (.int .i64 i9) ∧ u.cell? ⟨bF, (fs.length - 1) * 3 + 1, none⟩ = some (.int .i64 x9) ∧ u.cell? ⟨bF, (fs.length - 1) * 3 + 2, none⟩ = some (.slice am9 m9.length cm9)) (by kernel_rfl) Sx (fun _ => ?_)
          generalize X.drew = D at *
          refine wpAnyH_take (i := 0) (v := .agg #[.slice b0 gg.ins.length k0, .slice b1 gg.wins.length k1, .slice b2 gg.shown.length k2]) rfl (by kernel_rfl) (by kernel_rfl) (by kernel_rfl) (fun _ _ _ h => h) (Or.inl ⟨by rfl, ?_⟩) Sx ?_
          · rintro u ⟨q0, q1, q2, q3, q4, q5⟩
            go_simp
          simp only [Act.put, List.setIfInBounds_toArray]
          refine wpAnyH_take (i := 1) (v := .slice (some ⟨bF, 0, none⟩) fs.length fc) rfl (by kernel_rfl) (by kernel_rfl) (by kernel_rfl) (fun _ _ _ h => h) (Or.inl ⟨by rfl, ?_⟩) Sx ?_
          · rintro u ⟨q0, q1, q2, q3, q4, q5⟩
            go_simp
          simp only [Act.put]
          refine wpAnyH_take (i := 2) (v := .slice (some ⟨bF, 0, none⟩) fs.length fc) rfl (by kernel_rfl) (by kernel_rfl) (by kernel_rfl) (fun _ _ _ h => h) (Or.inl ⟨by rfl, ?_⟩) Sx ?_
          · rintro u ⟨q0, q1, q2, q3, q4, q5⟩
            go_simp
          simp only [Act.put]
          refine wpAnyH_take (i := 3) (v := .int .i64 (fs.length : Int)) rfl (by kernel_rfl) (by kernel_rfl) (by kernel_rfl) (fun _ _ _ h => h) (Or.inl ⟨by rfl, ?_⟩) Sx ?_
          · rintro u ⟨q0, q1, q2, q3, q4, q5⟩
            go_simp
          simp only [Act.put]
          refine wpAnyH_take (i := 4) (v := .int .i64 ((fs.length - 1 : Nat) : Int)) rfl (by kernel_rfl) (by kernel_rfl) (by kernel_rfl) (fun _ _ _ h => h) (Or.inl ⟨by rfl, ?_⟩) Sx ?_
          · rintro u ⟨q0, q1, q2, q3, q4, q5⟩
            go_simp
            (first | done | exact wrap_small (by omega) (by omega))
          simp only [Act.put]
          refine wpAnyH_take (i := 5) (v := .pointer (some ⟨bF, (fs.length - 1) * 3, none⟩)) rfl (by kernel_rfl) (by kernel_rfl) (by kernel_rfl) (fun _ _ _ h => h) (Or.inl ⟨by rfl, ?_⟩) Sx ?_
          · rintro u ⟨q0, q1, q2, q3, q4, q5⟩
            go_simp
          simp only [Act.put]
          refine wpAnyH_take (i := 6) (v := .agg #[.int .i64 i9, .int .i64 x9, .slice am9 m9.length cm9]) rfl (by kernel_rfl) (by kernel_rfl) (by kernel_rfl) (fun _ _ _ h => h) (Or.inl ⟨by rfl, ?_⟩) Sx ?_
          · rintro u ⟨q0, q1, q2, q3, q4, q5⟩
            go_simp
          simp only [Act.put]
          clear hkm k3 k4
          refine wpAnyH_ready (rs := [7]) (by kernel_rfl) (by simp) ?_
          refine AllReadyH.cons rfl (fun K hK => ?_) AllReadyH.nil
          rw [if_pos (by rfl)]
          go_simp
          have Sa := HSS.out _ (show Span 0 (w.heap.size + 2) D (((D.setCell ⟨w.heap.size, 0, none⟩ (.slice b0 gg.ins.length k0)).setCell ⟨w.heap.size, 1, none⟩ (.slice b1 gg.wins.length k1)).setCell ⟨w.heap.size, 2, none⟩ (.slice b2 gg.shown.length k2)) from ((((Span.refl 0 (w.heap.size + 2) D).setCell (Nat.zero_le _) (by omega) _ _).setCell (Nat.zero_le _) (by omega) _ _).setCell (Nat.zero_le _) (by omega) _ _))
          refine hK.out _ _ Sa (fun _ => ?_)
          clear hK K
          refine wpAnyH_ready (rs := [8]) (by kernel_rfl) (by simp) ?_
          refine AllReadyH.cons rfl (fun K hK => ?_) AllReadyH.nil
          rw [if_pos (by rfl)]
          go_simp
          have Sb := HSS.out _ (show Span 0 (w.heap.size + 2) D ((((((D.setCell ⟨w.heap.size, 0, none⟩ (.slice b0 gg.ins.length k0)).setCell ⟨w.heap.size, 1, none⟩ (.slice b1 gg.wins.length k1)).setCell ⟨w.heap.size, 2, none⟩ (.slice b2 gg.shown.length k2)).setCell ⟨w.heap.size + 1, 0, none⟩ (.int .i64 i9)).setCell ⟨w.heap.size + 1, 1, none⟩ (.int .i64 x9)).setCell ⟨w.heap.size + 1, 2, none⟩ (.slice am9 m9.length cm9)) from (((((((Span.refl 0 (w.heap.size + 2) D).setCell (Nat.zero_le _) (by omega) _ _).setCell (Nat.zero_le _) (by omega) _ _).setCell (Nat.zero_le _) (by omega) _ _).setCell (Nat.zero_le _) (by omega) _ _).setCell (Nat.zero_le _) (by omega) _ _).setCell (Nat.zero_le _) (by omega) _ _))
          refine hK.out _ _ Sb (fun _ => ?_)
          clear hK K
          refine wpAnyH_done (by kernel_rfl) ?_ _
          obtain ⟨w9', h9⟩ : ∃ w9', ((((((D.setCell ⟨w.heap.size, 0, none⟩ (.slice b0 gg.ins.length k0)).setCell ⟨w.heap.size, 1, none⟩ (.slice b1 gg.wins.length k1)).setCell ⟨w.heap.size, 2, none⟩ (.slice b2 gg.shown.length k2)).setCell ⟨w.heap.size + 1, 0, none⟩ (.int .i64 i9)).setCell ⟨w.heap.size + 1, 1, none⟩ (.int .i64 x9)).setCell ⟨w.heap.size + 1, 2, none⟩ (.slice am9 m9.length cm9)) = w9' := ⟨_, rfl⟩
          have B9 : Below w.heap.size w w9' := by rw [← h9]; exact (((((Bld.setCell (by simp only; omega) _).setCell (by simp only; omega) _).setCell (by simp only; omega) _).setCell (by simp only; omega) _).setCell (by simp only; omega) _).setCell (by simp only; omega) _
          have S9 : Span 0 (w.heap.size + 2) D w9' := by rw [← h9]; exact (((((((Span.refl 0 (w.heap.size + 2) D).setCell (Nat.zero_le _) (by omega) _ _).setCell (Nat.zero_le _) (by omega) _ _).setCell (Nat.zero_le _) (by omega) _ _).setCell (Nat.zero_le _) (by omega) _ _).setCell (Nat.zero_le _) (by omega) _ _).setCell (Nat.zero_le _) (by omega) _ _)
          have n0 : w9'.cell? ⟨w.heap.size, 0, none⟩ = some (.slice b0 gg.ins.length k0) := by rw [← h9]; simp [go_sem, i0]
          have n1 : w9'.cell? ⟨w.heap.size, 1, none⟩ = some (.slice b1 gg.wins.length k1) := by rw [← h9]; simp [go_sem, i1]
          have n2 : w9'.cell? ⟨w.heap.size, 2, none⟩ = some (.slice b2 gg.shown.length k2) := by rw [← h9]; simp [go_sem, i2]
          have n3 : w9'.cell? ⟨w.heap.size + 1, 0, none⟩ = some (.int .i64 i9) := by rw [← h9]; simp [go_sem, j0]
          have n4 : w9'.cell? ⟨w.heap.size + 1, 1, none⟩ = some (.int .i64 x9) := by rw [← h9]; simp [go_sem, j1]
          have n5 : w9'.cell? ⟨w.heap.size + 1, 2, none⟩ = some (.slice am9 m9.length cm9) := by rw [← h9]; simp [go_sem, j2]
          rw [h9]
          clear h9
          have hrr := HR.out.2.2.2 w9' S9
          have hff9 := (HLF.out.2.2 w9' (hAd.trans (S9.agree (.inr (by omega))))).2.2.2
          go_wp2_with fail
          exact bodyPost_ret (v := .tuple #[.agg #[.slice b0 gg.ins.length k0, .slice b1 gg.wins.length k1, .slice b2 gg.shown.length k2], .agg #[.int .i64 i9, .int .i64 x9, .slice am9 m9.length cm9]]) (by simp [results, Tryz.results20, go_sem, n0, n1, n2, n3, n4, n5]) rfl ⟨⟨gg, b0, k0, b1, k1, b2, k2, i9, x9, m9, am9, cm9, rfl, HR.out.1, HR.out.2.1, HR.out.2.2.1, hrr, HLF.out.1, HLF.out.2.1, hff9⟩, B9⟩
        · have HR : Hid (FitG ⟨nm, Lw.map (·.l), ml⟩ ∧ nm.length ≤ 100 ∧ (nm.length ≤ d0 ∧ d0 ≤ maxLen) ∧ RowsAt (w.heap.size + 2) w10.drew ⟨nm, Lw.map (·.l), ml⟩ p0 p1 ma) := ⟨⟨HF.out.1, HF.out.2.1, few_fitM hml hmz⟩, by omega, gw10.cap, (gw10.agree (below_agreeX (Below.refl _ _).drew)).rowsAt (by omega)⟩
          clear gw10 hr10
          go_wp2_with fail
          have hbd : Below w10.heap.size w10 w10.drew := (Below.refl _ _).drew
          have tBd := tG10.keep hbd
          have hAd : Agree w5.heap.size w6.heap.size w6 w10.drew := hA10.trans (below_agree hbd)
          have Bld : Below w.heap.size w w10.drew := Bl10.trans (hbd.mono Bl10.size)
          have zd : w10.drew.heap.size = w10.heap.size := rfl
          have HSS : Hid (∀ u : World, Span 0 (w.heap.size + 2) w10.drew u → u.cell? ⟨bG, 0, none⟩ = some (.slice p0 nm.length d0) ∧ u.cell? ⟨bG, 1, none⟩ = some (.slice p1 Lw.length d1) ∧ u.cell? ⟨bG, 2, none⟩ = some (.slice ma ml.length mc) ∧ u.cell? ⟨bF, (fs.length - 1) * 3, none⟩ = some (.int .i64 i9) ∧ u.cell? ⟨bF, (fs.length - 1) * 3 + 1, none⟩ = some (.int .i64 x9) ∧ u.cell? ⟨bF, (fs.length - 1) * 3 + 2, none⟩ = some (.slice am9 m9.length cm9)) := fun u hu => by
            obtain ⟨r3, r4, r5, _⟩ := HLF.out.2.2 u (hAd.trans (hu.agree (.inr (by omega))))
            exact ⟨hu.cell tBd.c0 (by omega), hu.cell tBd.c1 (by omega), hu.cell tBd.c2 (by omega), r3, r4, r5⟩
          obtain ⟨i0, i1, i2, f0, f1, f2⟩ := id (tO10.keep hbd)
          obtain ⟨j0, j1, j2, g0, g1, g2⟩ := id (tP10.keep hbd)
          have Sx := HSS.out _ (Span.refl _ _ _)
          have hkm : ((fs.length : Int) - 1) = ((fs.length - 1 : Nat) : Int) := by omega
          have k3 : (0 : Int) ≤ ((fs.length - 1 : Nat) : Int) := by omega
          have k4 : ((fs.length - 1 : Nat) : Int) < (fs.length : Int) := by omega
          refine wp_region_held_drew (S := fun u => u.cell? ⟨bG, 0, none⟩ = some (.slice p0 nm.length d0) ∧ u.cell? ⟨bG, 1, none⟩ = some (.slice p1 Lw.length d1) ∧ u.cell? ⟨bG, 2, none⟩ = some (.slice ma ml.length mc) ∧ u.cell? ⟨bF, (fs.length - 1) * 3, none⟩ = some (.int .i64 i9) ∧ u.cell? ⟨bF, (fs.length - 1) * 3 + 1, none⟩ = some (.int .i64 x9) ∧ u.cell? ⟨bF, (fs.length - 1) * 3 + 2, none⟩ = some (.slice am9 m9.length cm9)) (by kernel_rfl) Sx (fun _ => ?_)
          generalize w10.drew = D at *
          refine wpAnyH_take (i := 0) (v := .agg #[.slice p0 nm.length d0, .slice p1 Lw.length d1, .slice ma ml.length mc]) rfl (by kernel_rfl) (by kernel_rfl) (by kernel_rfl) (fun _ _ _ h => h) (Or.inl ⟨by rfl, ?_⟩) Sx ?_
          · rintro u ⟨q0, q1, q2, q3, q4, q5⟩
            go_simp
          simp only [Act.put, List.setIfInBounds_toArray]
          refine wpAnyH_take (i := 1) (v := .slice (some ⟨bF, 0, none⟩) fs.length fc) rfl (by kernel_rfl) (by kernel_rfl) (by kernel_rfl) (fun _ _ _ h => h) (Or.inl ⟨by rfl, ?_⟩) Sx ?_
          · rintro u ⟨q0, q1, q2, q3, q4, q5⟩
            go_simp
          simp only [Act.put]
          refine wpAnyH_take (i := 2) (v := .slice (some ⟨bF, 0, none⟩) fs.length fc) rfl (by kernel_rfl) (by kernel_rfl) (by kernel_rfl) (fun _ _ _ h => h) (Or.inl ⟨by rfl, ?_⟩) Sx ?_
          · rintro u ⟨q0, q1, q2, q3, q4, q5⟩
            go_simp
          simp only [Act.put]
          refine wpAnyH_take (i := 3) (v := .int .i64 (fs.length : Int)) rfl (by kernel_rfl) (by kernel_rfl) (by kernel_rfl) (fun _ _ _ h => h) (Or.inl ⟨by rfl, ?_⟩) Sx ?_
          · rintro u ⟨q0, q1, q2, q3, q4, q5⟩
            go_simp
          simp only [Act.put]
          refine wpAnyH_take (i := 4) (v := .int .i64 ((fs.length - 1 : Nat) : Int)) rfl (by kernel_rfl) (by kernel_rfl) (by kernel_rfl) (fun _ _ _ h => h) (Or.inl ⟨by rfl, ?_⟩) Sx ?_
          · rintro u ⟨q0, q1, q2, q3, q4, q5⟩
            go_simp
            (first | done | exact wrap_small (by omega) (by omega))
          simp only [Act.put]
          refine wpAnyH_take (i := 5) (v := .pointer (some ⟨bF, (fs.length - 1) * 3, none⟩)) rfl (by kernel_rfl) (by kernel_rfl) (by kernel_rfl) (fun _ _ _ h => h) (Or.inl ⟨by rfl, ?_⟩) Sx ?_
          · rintro u ⟨q0, q1, q2, q3, q4, q5⟩
            go_simp
          simp only [Act.put]
          refine wpAnyH_take (i := 6) (v := .agg #[.int .i64 i9, .int .i64 x9, .slice am9 m9.length cm9]) rfl (by kernel_rfl) (by kernel_rfl) (by kernel_rfl) (fun _ _ _ h => h) (Or.inl ⟨by rfl, ?_⟩) Sx ?_
          · rintro u ⟨q0, q1, q2, q3, q4, q5⟩
            go_simp
          simp only [Act.put]
          clear hkm k3 k4
          refine wpAnyH_ready (rs := [7]) (by kernel_rfl) (by simp) ?_
          refine AllReadyH.cons rfl (fun K hK => ?_) AllReadyH.nil
          rw [if_pos (by rfl)]
          go_simp
          have Sa := HSS.out _ (show Span 0 (w.heap.size + 2) D (((D.setCell ⟨w.heap.size, 0, none⟩ (.slice p0 nm.length d0)).setCell ⟨w.heap.size, 1, none⟩ (.slice p1 Lw.length d1)).setCell ⟨w.heap.size, 2, none⟩ (.slice ma ml.length mc)) from ((((Span.refl 0 (w.heap.size + 2) D).setCell (Nat.zero_le _) (by omega) _ _).setCell (Nat.zero_le _) (by omega) _ _).setCell (Nat.zero_le _) (by omega) _ _))
          refine hK.out _ _ Sa (fun _ => ?_)
          clear hK K
          refine wpAnyH_ready (rs := [8]) (by kernel_rfl) (by simp) ?_
          refine AllReadyH.cons rfl (fun K hK => ?_) AllReadyH.nil
          rw [if_pos (by rfl)]
          go_simp
          have Sb := HSS.out _ (show Span 0 (w.heap.size + 2) D ((((((D.setCell ⟨w.heap.size, 0, none⟩ (.slice p0 nm.length d0)).setCell ⟨w.heap.size, 1, none⟩ (.slice p1 Lw.length d1)).setCell ⟨w.heap.size, 2, none⟩ (.slice ma ml.length mc)).setCell ⟨w.heap.size + 1, 0, none⟩ (.int .i64 i9)).setCell ⟨w.heap.size + 1, 1, none⟩ (.int .i64 x9)).setCell ⟨w.heap.size + 1, 2, none⟩ (.slice am9 m9.length cm9)) from (((((((Span.refl 0 (w.heap.size + 2) D).setCell (Nat.zero_le _) (by omega) _ _).setCell (Nat.zero_le _) (by omega) _ _).setCell (Nat.zero_le _) (by omega) _ _).setCell (Nat.zero_le _) (by omega) _ _).setCell (Nat.zero_le _) (by omega) _ _).setCell (Nat.zero_le _) (by omega) _ _))
          refine hK.out _ _ Sb (fun _ => ?_)
          clear hK K
          refine wpAnyH_done (by kernel_rfl) ?_ _
          obtain ⟨w9', h9⟩ : ∃ w9', ((((((D.setCell ⟨w.heap.size, 0, none⟩ (.slice p0 nm.length d0)).setCell ⟨w.heap.size, 1, none⟩ (.slice p1 Lw.length d1)).setCell ⟨w.heap.size, 2, none⟩ (.slice ma ml.length mc)).setCell ⟨w.heap.size + 1, 0, none⟩ (.int .i64 i9)).setCell ⟨w.heap.size + 1, 1, none⟩ (.int .i64 x9)).setCell ⟨w.heap.size + 1, 2, none⟩ (.slice am9 m9.length cm9)) = w9' := ⟨_, rfl⟩
          have B9 : Below w.heap.size w w9' := by rw [← h9]; exact (((((Bld.setCell (by simp only; omega) _).setCell (by simp only; omega) _).setCell (by simp only; omega) _).setCell (by simp only; omega) _).setCell (by simp only; omega) _).setCell (by simp only; omega) _
          have S9 : Span 0 (w.heap.size + 2) D w9' := by rw [← h9]; exact (((((((Span.refl 0 (w.heap.size + 2) D).setCell (Nat.zero_le _) (by omega) _ _).setCell (Nat.zero_le _) (by omega) _ _).setCell (Nat.zero_le _) (by omega) _ _).setCell (Nat.zero_le _) (by omega) _ _).setCell (Nat.zero_le _) (by omega) _ _).setCell (Nat.zero_le _) (by omega) _ _)
          have n0 : w9'.cell? ⟨w.heap.size, 0, none⟩ = some (.slice p0 nm.length d0) := by rw [← h9]; simp [go_sem, i0]
          have n1 : w9'.cell? ⟨w.heap.size, 1, none⟩ = some (.slice p1 Lw.length d1) := by rw [← h9]; simp [go_sem, i1]
          have n2 : w9'.cell? ⟨w.heap.size, 2, none⟩ = some (.slice ma ml.length mc) := by rw [← h9]; simp [go_sem, i2]
          have n3 : w9'.cell? ⟨w.heap.size + 1, 0, none⟩ = some (.int .i64 i9) := by rw [← h9]; simp [go_sem, j0]
          have n4 : w9'.cell? ⟨w.heap.size + 1, 1, none⟩ = some (.int .i64 x9) := by rw [← h9]; simp [go_sem, j1]
          have n5 : w9'.cell? ⟨w.heap.size + 1, 2, none⟩ = some (.slice am9 m9.length cm9) := by rw [← h9]; simp [go_sem, j2]
          rw [h9]
          clear h9
          have hrr := HR.out.2.2.2 w9' S9
          have hff9 := (HLF.out.2.2 w9' (hAd.trans (S9.agree (.inr (by omega))))).2.2.2
          go_wp2_with fail
          exact bodyPost_ret (v := .tuple #[.agg #[.slice p0 nm.length d0, .slice p1 Lw.length d1, .slice ma ml.length mc], .agg #[.int .i64 i9, .int .i64 x9, .slice am9 m9.length cm9]]) (by simp [results, Tryz.results20, go_sem, n0, n1, n2, n3, n4, n5]) rfl ⟨⟨⟨nm, Lw.map (·.l), ml⟩, p0, d0, p1, d1, ma, mc, i9, x9, m9, am9, cm9, by simp, HR.out.1, HR.out.2.1, HR.out.2.2.1, hrr, HLF.out.1, HLF.out.2.1, hff9⟩, B9⟩
      · go_wp2_with fail
        refine (pick_any rB m c (p6 + 1) ab 24 w8 hr8 (by omega) (by omega) (by omega)).mono ?_
        rintro e w10 ⟨⟨z2', rfl, hz2', hz3'⟩, hr10, hb10⟩
        have z10 := hb10.size
        have gw10 := gw8.agree (hb10.agreeX (.inl (by omega)))
        have tG10 := tG8.span (hb10.span (Nat.le_refl _) (Nat.lt_succ_self _)) (by omega)
        have tO10 := tO8.span (hb10.span (Nat.le_refl _) (Nat.lt_succ_self _)) (by omega)
        have tP10 := tP8.span (hb10.span (Nat.le_refl _) (Nat.lt_succ_self _)) (by omega)
        have Bl10 : Below w.heap.size w w10 := Bl8.trans (hb10.below (by omega) Bl8.size)
        have hA10 : Agree w5.heap.size w6.heap.size w6 w10 := hA8.trans (hb10.agree (.inl (by omega)))
        clear hb10 gw8 tG8 tO8 tP8 Bl8 hA8 hr8
        by_cases e9 : z2' = 0
        · subst e9
          go_wp2_with fail
          refine (l6Gather_any rB m c (p6 + 1 + 1) ab w10 hr10 (by omega)).mono ?_
          rintro e w11 ⟨hE, hb11⟩
          obtain ⟨gg, b0, k0, b1, k1, b2, k2, rfl, hfg, hlg, hcg, hrw⟩ := hE
          have z11 := hb11.size
          have tO11 := tO10.span (hb11.span (Nat.le_refl _) (Nat.lt_succ_self _)) (by omega)
          have tP11 := tP10.span (hb11.span (Nat.le_refl _) (Nat.lt_succ_self _)) (by omega)
          have Bl11 : Below w.heap.size w w11 := Bl10.trans (hb11.below (by omega) Bl10.size)
          have hA11 : Agree w5.heap.size w6.heap.size w6 w11 := hA10.trans (hb11.agree (.inl (by omega)))
          have bX : Below w11.heap.size w11 (w11.alloc (.cells #[.slice b0 gg.ins.length k0, .slice b1 gg.wins.length k1, .slice b2 gg.shown.length k2] 30)) := (Below.refl _ _).alloc (Nat.le_refl _) _
          have tBX := tri_new w11 (.slice b0 gg.ins.length k0) (.slice b1 gg.wins.length k1) (.slice b2 gg.shown.length k2) 30
          have tOX := tO11.keep bX
          have tPX := tP11.keep bX
          have BlX := Bl11.trans (bX.mono Bl11.size)
          have hAX := hA11.trans (below_agree (lo := w5.heap.size) (hi := w6.heap.size) bX)
          have HR : Hid (FitG gg ∧ gg.ins.length ≤ 100 ∧ (gg.ins.length ≤ k0 ∧ k0 ≤ maxLen) ∧ RowsAt (w.heap.size + 2) (w11.alloc (.cells #[.slice b0 gg.ins.length k0, .slice b1 gg.wins.length k1, .slice b2 gg.shown.length k2] 30)).drew gg b0 b1 b2) := ⟨hfg, hlg, hcg, fun u hu => hrw u (((Span.of_below bX).trans (Span.of_below (Below.refl _ _).drew)).trans (hu.wide (Nat.le_refl _) (by omega)))⟩
          have HZ : Hid _ := And.intro tBX (And.intro tOX (And.intro tPX (And.intro BlX hAX)))
          clear bX tBX tOX tPX BlX hAX tO11 tP11 Bl11 hA11 hrw hfg hcg hlg gw10 tG10 tO10 tP10 Bl10 hA10 hr10 hb11
          go_wp2_with fail
          obtain ⟨tBX, tOX, tPX, BlX, hAX⟩ := HZ.out
          clear HZ
          generalize w11.alloc (.cells #[.slice b0 gg.ins.length k0, .slice b1 gg.wins.length k1, .slice b2 gg.shown.length k2] 30) = X at *
          obtain ⟨bH, hbH⟩ : ∃ bH, bH = w11.heap.size := ⟨_, rfl⟩
          have hbH2 : w.heap.size + 2 ≤ bH := by omega
          rw [← hbH] at tBX ⊢
          clear hbH
          have hbd : Below X.heap.size X X.drew := (Below.refl _ _).drew
          have tBd := tBX.keep hbd
          have hAd : Agree w5.heap.size w6.heap.size w6 X.drew := hAX.trans (below_agree hbd)
          have Bld : Below w.heap.size w X.drew := BlX.trans (hbd.mono BlX.size)
          have zd : X.drew.heap.size = X.heap.size := rfl
          have HSS : Hid (∀ u : World, Span 0 (w.heap.size + 2) X.drew u → u.cell? ⟨bH, 0, none⟩ = some (.slice b0 gg.ins.length k0) ∧ u.cell? ⟨bH, 1, none⟩ = some (.slice b1 gg.wins.length k1) ∧ u.cell? ⟨bH, 2, none⟩ = some (.slice b2 gg.shown.length k2) ∧ u.cell? ⟨bF, (fs.length - 1) * 3, none⟩ = some (.int .i64 i9) ∧ u.cell? ⟨bF, (fs.length - 1) * 3 + 1, none⟩ = some (.int .i64 x9) ∧ u.cell? ⟨bF, (fs.length - 1) * 3 + 2, none⟩ = some (.slice am9 m9.length cm9)) := fun u hu => by
            obtain ⟨r3, r4, r5, _⟩ := HLF.out.2.2 u (hAd.trans (hu.agree (.inr (by omega))))
            exact ⟨hu.cell tBd.c0 (by omega), hu.cell tBd.c1 (by omega), hu.cell tBd.c2 (by omega), r3, r4, r5⟩
          obtain ⟨i0, i1, i2, f0, f1, f2⟩ := id (tOX.keep hbd)
          obtain ⟨j0, j1, j2, g0, g1, g2⟩ := id (tPX.keep hbd)
          have Sx := HSS.out _ (Span.refl _ _ _)
          have hkm : ((fs.length : Int) - 1) = ((fs.length - 1 : Nat) : Int) := by omega
          have k3 : (0 : Int) ≤ ((fs.length - 1 : Nat) : Int) := by omega
          have k4 : ((fs.length - 1 : Nat) : Int) < (fs.length : Int) := by omega
          refine wp_region_held_drew (S := fun u => u.cell? ⟨bH, 0, none⟩ = some (.slice b0 gg.ins.length k0) ∧ u.cell? ⟨bH, 1, none⟩ = some (.slice b1 gg.wins.length k1) ∧ u.cell? ⟨bH, 2, none⟩ = some (.slice b2 gg.shown.length k2) ∧ u.cell? ⟨bF, (fs.length - 1) * 3, none⟩ = some (.int .i64 i9) ∧ u.cell? ⟨bF, (fs.length - 1) * 3 + 1, none⟩ = some (.int .i64 x9) ∧ u.cell? ⟨bF, (fs.length - 1) * 3 + 2, none⟩ = some (.slice am9 m9.length cm9)) (by kernel_rfl) Sx (fun _ => ?_)
          generalize X.drew = D at *
          refine wpAnyH_take (i := 0) (v := .agg #[.slice b0 gg.ins.length k0, .slice b1 gg.wins.length k1, .slice b2 gg.shown.length k2]) rfl (by kernel_rfl) (by kernel_rfl) (by kernel_rfl) (fun _ _ _ h => h) (Or.inl ⟨by rfl, ?_⟩) Sx ?_
          · rintro u ⟨q0, q1, q2, q3, q4, q5⟩
            go_simp
          simp only [Act.put, List.setIfInBounds_toArray]
          refine wpAnyH_take (i := 1) (v := .slice (some ⟨bF, 0, none⟩) fs.length fc) rfl (by kernel_rfl) (by kernel_rfl) (by kernel_rfl) (fun _ _ _ h => h) (Or.inl ⟨by rfl, ?_⟩) Sx ?_
          · rintro u ⟨q0, q1, q2, q3, q4, q5⟩
            go_simp
          simp only [Act.put]
          refine wpAnyH_take (i := 2) (v := .slice (some ⟨bF, 0, none⟩) fs.length fc) rfl (by kernel_rfl) (by kernel_rfl) (by kernel_rfl) (fun _ _ _ h => h) (Or.inl ⟨by rfl, ?_⟩) Sx ?_
          · rintro u ⟨q0, q1, q2, q3, q4, q5⟩
            go_simp
          simp only [Act.put]
          refine wpAnyH_take (i := 3) (v := .int .i64 (fs.length : Int)) rfl (by kernel_rfl) (by kernel_rfl) (by kernel_rfl) (fun _ _ _ h => h) (Or.inl ⟨by rfl, ?_⟩) Sx ?_
          · rintro u ⟨q0, q1, q2, q3, q4, q5⟩
            go_simp
          simp only [Act.put]
          refine wpAnyH_take (i := 4) (v := .int .i64 ((fs.length - 1 : Nat) : Int)) rfl (by kernel_rfl) (by kernel_rfl) (by kernel_rfl) (fun _ _ _ h => h) (Or.inl ⟨by rfl, ?_⟩) Sx ?_
          · rintro u ⟨q0, q1, q2, q3, q4, q5⟩
            go_simp
            (first | done | exact wrap_small (by omega) (by omega))
          simp only [Act.put]
          refine wpAnyH_take (i := 5) (v := .pointer (some ⟨bF, (fs.length - 1) * 3, none⟩)) rfl (by kernel_rfl) (by kernel_rfl) (by kernel_rfl) (fun _ _ _ h => h) (Or.inl ⟨by rfl, ?_⟩) Sx ?_
          · rintro u ⟨q0, q1, q2, q3, q4, q5⟩
            go_simp
          simp only [Act.put]
          refine wpAnyH_take (i := 6) (v := .agg #[.int .i64 i9, .int .i64 x9, .slice am9 m9.length cm9]) rfl (by kernel_rfl) (by kernel_rfl) (by kernel_rfl) (fun _ _ _ h => h) (Or.inl ⟨by rfl, ?_⟩) Sx ?_
          · rintro u ⟨q0, q1, q2, q3, q4, q5⟩
            go_simp
          simp only [Act.put]
          clear hkm k3 k4
          refine wpAnyH_ready (rs := [7]) (by kernel_rfl) (by simp) ?_
          refine AllReadyH.cons rfl (fun K hK => ?_) AllReadyH.nil
          rw [if_pos (by rfl)]
          go_simp
          have Sa := HSS.out _ (show Span 0 (w.heap.size + 2) D (((D.setCell ⟨w.heap.size, 0, none⟩ (.slice b0 gg.ins.length k0)).setCell ⟨w.heap.size, 1, none⟩ (.slice b1 gg.wins.length k1)).setCell ⟨w.heap.size, 2, none⟩ (.slice b2 gg.shown.length k2)) from ((((Span.refl 0 (w.heap.size + 2) D).setCell (Nat.zero_le _) (by omega) _ _).setCell (Nat.zero_le _) (by omega) _ _).setCell (Nat.zero_le _) (by omega) _ _))
          refine hK.out _ _ Sa (fun _ => ?_)
          clear hK K
          refine wpAnyH_ready (rs := [8]) (by kernel_rfl) (by simp) ?_
          refine AllReadyH.cons rfl (fun K hK => ?_) AllReadyH.nil
          rw [if_pos (by rfl)]
          go_simp
          have Sb := HSS.out _ (show Span 0 (w.heap.size + 2) D ((((((D.setCell ⟨w.heap.size, 0, none⟩ (.slice b0 gg.ins.length k0)).setCell ⟨w.heap.size, 1, none⟩ (.slice b1 gg.wins.length k1)).setCell ⟨w.heap.size, 2, none⟩ (.slice b2 gg.shown.length k2)).setCell ⟨w.heap.size + 1, 0, none⟩ (.int .i64 i9)).setCell ⟨w.heap.size + 1, 1, none⟩ (.int .i64 x9)).setCell ⟨w.heap.size + 1, 2, none⟩ (.slice am9 m9.length cm9)) from (((((((Span.refl 0 (w.heap.size + 2) D).setCell (Nat.zero_le _) (by omega) _ _).setCell (Nat.zero_le _) (by omega) _ _).setCell (Nat.zero_le _) (by omega) _ _).setCell (Nat.zero_le _) (by omega) _ _).setCell (Nat.zero_le _) (by omega) _ _).setCell (Nat.zero_le _) (by omega) _ _))
          refine hK.out _ _ Sb (fun _ => ?_)
          clear hK K
          refine wpAnyH_done (by kernel_rfl) ?_ _
          obtain ⟨w9', h9⟩ : ∃ w9', ((((((D.setCell ⟨w.heap.size, 0, none⟩ (.slice b0 gg.ins.length k0)).setCell ⟨w.heap.size, 1, none⟩ (.slice b1 gg.wins.length k1)).setCell ⟨w.heap.size, 2, none⟩ (.slice b2 gg.shown.length k2)).setCell ⟨w.heap.size + 1, 0, none⟩ (.int .i64 i9)).setCell ⟨w.heap.size + 1, 1, none⟩ (.int .i64 x9)).setCell ⟨w.heap.size + 1, 2, none⟩ (.slice am9 m9.length cm9)) = w9' := ⟨_, rfl⟩
          have B9 : Below w.heap.size w w9' := by rw [← h9]; exact (((((Bld.setCell (by simp only; omega) _).setCell (by simp only; omega) _).setCell (by simp only; omega) _).setCell (by simp only; omega) _).setCell (by simp only; omega) _).setCell (by simp only; omega) _
          have S9 : Span 0 (w.heap.size + 2) D w9' := by rw [← h9]; exact (((((((Span.refl 0 (w.heap.size + 2) D).setCell (Nat.zero_le _) (by omega) _ _).setCell (Nat.zero_le _) (by omega) _ _).setCell (Nat.zero_le _) (by omega) _ _).setCell (Nat.zero_le _) (by omega) _ _).setCell (Nat.zero_le _) (by omega) _ _).setCell (Nat.zero_le _) (by omega) _ _)
          have n0 : w9'.cell? ⟨w.heap.size, 0, none⟩ = some (.slice b0 gg.ins.length k0) := by rw [← h9]; simp [go_sem, i0]
          have n1 : w9'.cell? ⟨w.heap.size, 1, none⟩ = some (.slice b1 gg.wins.length k1) := by rw [← h9]; simp [go_sem, i1]
          have n2 : w9'.cell? ⟨w.heap.size, 2, none⟩ = some (.slice b2 gg.shown.length k2) := by rw [← h9]; simp [go_sem, i2]
          have n3 : w9'.cell? ⟨w.heap.size + 1, 0, none⟩ = some (.int .i64 i9) := by rw [← h9]; simp [go_sem, j0]
          have n4 : w9'.cell? ⟨w.heap.size + 1, 1, none⟩ = some (.int .i64 x9) := by rw [← h9]; simp [go_sem, j1]
          have n5 : w9'.cell? ⟨w.heap.size + 1, 2, none⟩ = some (.slice am9 m9.length cm9) := by rw [← h9]; simp [go_sem, j2]
          rw [h9]
          clear h9
          have hrr := HR.out.2.2.2 w9' S9
          have hff9 := (HLF.out.2.2 w9' (hAd.trans (S9.agree (.inr (by omega))))).2.2.2
          go_wp2_with fail
          exact bodyPost_ret (v := .tuple #[.agg #[.slice b0 gg.ins.length k0, .slice b1 gg.wins.length k1, .slice b2 gg.shown.length k2], .agg #[.int .i64 i9, .int .i64 x9, .slice am9 m9.length cm9]]) (by simp [results, Tryz.results20, go_sem, n0, n1, n2, n3, n4, n5]) rfl ⟨⟨gg, b0, k0, b1, k1, b2, k2, i9, x9, m9, am9, cm9, rfl, HR.out.1, HR.out.2.1, HR.out.2.2.1, hrr, HLF.out.1, HLF.out.2.1, hff9⟩, B9⟩
        · have HR : Hid (FitG ⟨nm, Lw.map (·.l), sh⟩ ∧ nm.length ≤ 100 ∧ (nm.length ≤ d0 ∧ d0 ≤ maxLen) ∧ RowsAt (w.heap.size + 2) w10.drew ⟨nm, Lw.map (·.l), sh⟩ p0 p1 p2') := ⟨⟨HF.out.1, HF.out.2.1, HF.out.2.2⟩, by omega, gw10.cap, (gw10.agree (below_agreeX (Below.refl _ _).drew)).rowsAt (by omega)⟩
          clear gw10 hr10
          go_wp2_with fail
          have hbd : Below w10.heap.size w10 w10.drew := (Below.refl _ _).drew
          have tBd := tG10.keep hbd
          have hAd : Agree w5.heap.size w6.heap.size w6 w10.drew := hA10.trans (below_agree hbd)
          have Bld : Below w.heap.size w w10.drew := Bl10.trans (hbd.mono Bl10.size)
          have zd : w10.drew.heap.size = w10.heap.size := rfl
          have HSS : Hid (∀ u : World, Span 0 (w.heap.size + 2) w10.drew u → u.cell? ⟨bG, 0, none⟩ = some (.slice p0 nm.length d0) ∧ u.cell? ⟨bG, 1, none⟩ = some (.slice p1 Lw.length d1) ∧ u.cell? ⟨bG, 2, none⟩ = some (.slice p2' sh.length d2) ∧ u.cell? ⟨bF, (fs.length - 1) * 3, none⟩ = some (.int .i64 i9) ∧ u.cell? ⟨bF, (fs.length - 1) * 3 + 1, none⟩ = some (.int .i64 x9) ∧ u.cell? ⟨bF, (fs.length - 1) * 3 + 2, none⟩ = some (.slice am9 m9.length cm9)) := fun u hu => by
            obtain ⟨r3, r4, r5, _⟩ := HLF.out.2.2 u (hAd.trans (hu.agree (.inr (by omega))))
            exact ⟨hu.cell tBd.c0 (by omega), hu.cell tBd.c1 (by omega), hu.cell tBd.c2 (by omega), r3, r4, r5⟩
          obtain ⟨i0, i1, i2, f0, f1, f2⟩ := id (tO10.keep hbd)
          obtain ⟨j0, j1, j2, g0, g1, g2⟩ := id (tP10.keep hbd)
          have Sx := HSS.out _ (Span.refl _ _ _)
          have hkm : ((fs.length : Int) - 1) = ((fs.length - 1 : Nat) : Int) := by omega
          have k3 : (0 : Int) ≤ ((fs.length - 1 : Nat) : Int) := by omega
          have k4 : ((fs.length - 1 : Nat) : Int) < (fs.length : Int) := by omega
          refine wp_region_held_drew (S := fun u => u.cell? ⟨bG, 0, none⟩ = some (.slice p0 nm.length d0) ∧ u.cell? ⟨bG, 1, none⟩ = some (.slice p1 Lw.length d1) ∧ u.cell? ⟨bG, 2, none⟩ = some (.slice p2' sh.length d2) ∧ u.cell? ⟨bF, (fs.length - 1) * 3, none⟩ = some (.int .i64 i9) ∧ u.cell? ⟨bF, (fs.length - 1) * 3 + 1, none⟩ = some (.int .i64 x9) ∧ u.cell? ⟨bF, (fs.length - 1) * 3 + 2, none⟩ = some (.slice am9 m9.length cm9)) (by kernel_rfl) Sx (fun _ => ?_)
          generalize w10.drew = D at *
          refine wpAnyH_take (i := 0) (v := .agg #[.slice p0 nm.length d0, .slice p1 Lw.length d1, .slice p2' sh.length d2]) rfl (by kernel_rfl) (by kernel_rfl) (by kernel_rfl) (fun _ _ _ h => h) (Or.inl ⟨by rfl, ?_⟩) Sx ?_
          · rintro u ⟨q0, q1, q2, q3, q4, q5⟩
            go_simp
          simp only [Act.put, List.setIfInBounds_toArray]
          refine wpAnyH_take (i := 1) (v := .slice (some ⟨bF, 0, none⟩) fs.length fc) rfl (by kernel_rfl) (by kernel_rfl) (by kernel_rfl) (fun _ _ _ h => h) (Or.inl ⟨by rfl, ?_⟩) Sx ?_
          · rintro u ⟨q0, q1, q2, q3, q4, q5⟩
            go_simp
          simp only [Act.put]
          refine wpAnyH_take (i := 2) (v := .slice (some ⟨bF, 0, none⟩) fs.length fc) rfl (by kernel_rfl) (by kernel_rfl) (by kernel_rfl) (fun _ _ _ h => h) (Or.inl ⟨by rfl, ?_⟩) Sx ?_
          · rintro u ⟨q0, q1, q2, q3, q4, q5⟩
            go_simp
          simp only [Act.put]
          refine wpAnyH_take (i := 3) (v := .int .i64 (fs.length : Int)) rfl (by kernel_rfl) (by kernel_rfl) (by kernel_rfl) (fun _ _ _ h => h) (Or.inl ⟨by rfl, ?_⟩) Sx ?_
          · rintro u ⟨q0, q1, q2, q3, q4, q5⟩
            go_simp
          simp only [Act.put]
          refine wpAnyH_take (i := 4) (v := .int .i64 ((fs.length - 1 : Nat) : Int)) rfl (by kernel_rfl) (by kernel_rfl) (by kernel_rfl) (fun _ _ _ h => h) (Or.inl ⟨by rfl, ?_⟩) Sx ?_
          · rintro u ⟨q0, q1, q2, q3, q4, q5⟩
            go_simp
            (first | done | exact wrap_small (by omega) (by omega))
          simp only [Act.put]
          refine wpAnyH_take (i := 5) (v := .pointer (some ⟨bF, (fs.length - 1) * 3, none⟩)) rfl (by kernel_rfl) (by kernel_rfl) (by kernel_rfl) (fun _ _ _ h => h) (Or.inl ⟨by rfl, ?_⟩) Sx ?_
          · rintro u ⟨q0, q1, q2, q3, q4, q5⟩
            go_simp
          simp only [Act.put]
          refine wpAnyH_take (i := 6) (v := .agg #[.int .i64 i9, .int .i64 x9, .slice am9 m9.length cm9]) rfl (by kernel_rfl) (by kernel_rfl) (by kernel_rfl) (fun _ _ _ h => h) (Or.inl ⟨by rfl, ?_⟩) Sx ?_
          · rintro u ⟨q0, q1, q2, q3, q4, q5⟩
            go_simp
          simp only [Act.put]
          clear hkm k3 k4
          refine wpAnyH_ready (rs := [7]) (by kernel_rfl) (by simp) ?_
          refine AllReadyH.cons rfl (fun K hK => ?_) AllReadyH.nil
          rw [if_pos (by rfl)]
          go_simp
          have Sa := HSS.out _ (show Span 0 (w.heap.size + 2) D (((D.setCell ⟨w.heap.size, 0, none⟩ (.slice p0 nm.length d0)).setCell ⟨w.heap.size, 1, none⟩ (.slice p1 Lw.length d1)).setCell ⟨w.heap.size, 2, none⟩ (.slice p2' sh.length d2)) from ((((Span.refl 0 (w.heap.size + 2) D).setCell (Nat.zero_le _) (by omega) _ _).setCell (Nat.zero_le _) (by omega) _ _).setCell (Nat.zero_le _) (by omega) _ _))
          refine hK.out _ _ Sa (fun _ => ?_)
          clear hK K
          refine wpAnyH_ready (rs := [8]) (by kernel_rfl) (by simp) ?_
          refine AllReadyH.cons rfl (fun K hK => ?_) AllReadyH.nil
          rw [if_pos (by rfl)]
          go_simp
          have Sb := HSS.out _ (show Span 0 (w.heap.size + 2) D ((((((D.setCell ⟨w.heap.size, 0, none⟩ (.slice p0 nm.length d0)).setCell ⟨w.heap.size, 1, none⟩ (.slice p1 Lw.length d1)).setCell ⟨w.heap.size, 2, none⟩ (.slice p2' sh.length d2)).setCell ⟨w.heap.size + 1, 0, none⟩ (.int .i64 i9)).setCell ⟨w.heap.size + 1, 1, none⟩ (.int .i64 x9)).setCell ⟨w.heap.size + 1, 2, none⟩ (.slice am9 m9.length cm9)) from (((((((Span.refl 0 (w.heap.size + 2) D).setCell (Nat.zero_le _) (by omega) _ _).setCell (Nat.zero_le _) (by omega) _ _).setCell (Nat.zero_le _) (by omega) _ _).setCell (Nat.zero_le _) (by omega) _ _).setCell (Nat.zero_le _) (by omega) _ _).setCell (Nat.zero_le _) (by omega) _ _))
          refine hK.out _ _ Sb (fun _ => ?_)
          clear hK K
          refine wpAnyH_done (by kernel_rfl) ?_ _
          obtain ⟨w9', h9⟩ : ∃ w9', ((((((D.setCell ⟨w.heap.size, 0, none⟩ (.slice p0 nm.length d0)).setCell ⟨w.heap.size, 1, none⟩ (.slice p1 Lw.length d1)).setCell ⟨w.heap.size, 2, none⟩ (.slice p2' sh.length d2)).setCell ⟨w.heap.size + 1, 0, none⟩ (.int .i64 i9)).setCell ⟨w.heap.size + 1, 1, none⟩ (.int .i64 x9)).setCell ⟨w.heap.size + 1, 2, none⟩ (.slice am9 m9.length cm9)) = w9' := ⟨_, rfl⟩
          have B9 : Below w.heap.size w w9' := by rw [← h9]; exact (((((Bld.setCell (by simp only; omega) _).setCell (by simp only; omega) _).setCell (by simp only; omega) _).setCell (by simp only; omega) _).setCell (by simp only; omega) _).setCell (by simp only; omega) _
          have S9 : Span 0 (w.heap.size + 2) D w9' := by rw [← h9]; exact (((((((Span.refl 0 (w.heap.size + 2) D).setCell (Nat.zero_le _) (by omega) _ _).setCell (Nat.zero_le _) (by omega) _ _).setCell (Nat.zero_le _) (by omega) _ _).setCell (Nat.zero_le _) (by omega) _ _).setCell (Nat.zero_le _) (by omega) _ _).setCell (Nat.zero_le _) (by omega) _ _)
          have n0 : w9'.cell? ⟨w.heap.size, 0, none⟩ = some (.slice p0 nm.length d0) := by rw [← h9]; simp [go_sem, i0]
          have n1 : w9'.cell? ⟨w.heap.size, 1, none⟩ = some (.slice p1 Lw.length d1) := by rw [← h9]; simp [go_sem, i1]
          have n2 : w9'.cell? ⟨w.heap.size, 2, none⟩ = some (.slice p2' sh.length d2) := by rw [← h9]; simp [go_sem, i2]
          have n3 : w9'.cell? ⟨w.heap.size + 1, 0, none⟩ = some (.int .i64 i9) := by rw [← h9]; simp [go_sem, j0]
          have n4 : w9'.cell? ⟨w.heap.size + 1, 1, none⟩ = some (.int .i64 x9) := by rw [← h9]; simp [go_sem, j1]
          have n5 : w9'.cell? ⟨w.heap.size + 1, 2, none⟩ = some (.slice am9 m9.length cm9) := by rw [← h9]; simp [go_sem, j2]
          rw [h9]
          clear h9
          have hrr := HR.out.2.2.2 w9' S9
          have hff9 := (HLF.out.2.2 w9' (hAd.trans (S9.agree (.inr (by omega))))).2.2.2
          go_wp2_with fail
          exact bodyPost_ret (v := .tuple #[.agg #[.slice p0 nm.length d0, .slice p1 Lw.length d1, .slice p2' sh.length d2], .agg #[.int .i64 i9, .int .i64 x9, .slice am9 m9.length cm9]]) (by simp [results, Tryz.results20, go_sem, n0, n1, n2, n3, n4, n5]) rfl ⟨⟨⟨nm, Lw.map (·.l), sh⟩, p0, d0, p1, d1, p2', d2, i9, x9, m9, am9, cm9, by simp, HR.out.1, HR.out.2.1, HR.out.2.2.1, hrr, HLF.out.1, HLF.out.2.1, hff9⟩, B9⟩

end Go.Proofs.YtpfhegengmlkmaaGreatDoor
