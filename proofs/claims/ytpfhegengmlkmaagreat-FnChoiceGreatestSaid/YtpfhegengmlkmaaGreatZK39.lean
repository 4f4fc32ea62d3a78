/- Texts of this claim, one behind the other. -/
import Derived.Test.YtpfhegengmlkmaaGreatZK38
namespace Go.Proofs.YtpfhegengmlkmaaGreat
open Go.RowKit Go.BigFrame
set_option maxRecDepth 100000

/-- Few windows of few items. -/
def FewW (ws : List (List ItemL)) : Prop := ∀ l ∈ ws, FewI 6 l
theorem FewW.fit {ws : List (List ItemL)} (h : FewW ws) (hl : ws.length ≤ 100) : FitW ws := ⟨by unfold maxLen; omega, fun _ hj => (h _ (List.getElem_mem hj)).fit (by omega)⟩
theorem FewW.snoc {ws : List (List ItemL)} {x : List ItemL} (h : FewW ws) (hx : FewI 6 x) : FewW (ws ++ [x]) := fun l hl => by
  rcases List.mem_append.1 hl with q | q
  · exact h l q
  · simp only [List.mem_singleton] at q
    rw [q]
    exact hx
/-- What the draw of windows answers. -/
def WiE (lo : Nat) (w' : World) (rB : Nat) (ab : Option Addr) (n c : Nat) (e : Ending) : Prop := ∃ (W : List WinY) (a : Option Addr) (cp p' : Nat), e = .returned (.slice a W.length cp) ∧ W.length ≤ 12 ∧ W.length ≤ cp ∧ FewW (W.map (·.l)) ∧ (∀ u, Span 0 lo w' u → RowW u a (W.map (·.l))) ∧ Rd w' rB ab n c p' ∧ p' ≤ 60000
theorem GW.cap1 {x lo : Nat} {w : World} {a1 : Option Addr} {n1 c1 : Nat} {v0 : Value} {nm : List ByteArray} {W : List WinY} {a2 : Option Addr} {m : List (ByteArray × Int)} (h : GW x lo w v0 (.slice a1 n1 c1) nm W a2 m) : n1 = W.length ∧ W.length ≤ c1 ∧ c1 ≤ maxLen := by
  rcases h.o1.2 with ⟨e, h0⟩ | ⟨g, cap, cur, e, _, _, hn, hc, _⟩
  · simp only [Value.slice.injEq] at e
    exact ⟨by omega, by omega, by unfold maxLen; omega⟩
  · simp only [Value.slice.injEq] at e
    obtain ⟨_, rfl, rfl⟩ := e
    exact ⟨rfl, hn, hc⟩
theorem GW.rowW {x lo : Nat} {w : World} {a1 : Option Addr} {n1 c1 : Nat} {v0 : Value} {nm : List ByteArray} {W : List WinY} {a2 : Option Addr} {m : List (ByteArray × Int)} (h : GW x lo w v0 (.slice a1 n1 c1) nm W a2 m) : RowW w a1 (W.map (·.l)) := by
  rcases h.o0.2 with ⟨e, _⟩ | ⟨g, cap, cur, e, _⟩
  · subst e
    exact h.rows.2.1
  · subst e
    exact h.rows.2.1

set_option maxHeartbeats 12800000 in
theorem l6Wins_any (rB n c p : Nat) (ab : Option Addr) (w : World) (hr : Rd w rB ab n c p) (hp : p ≤ 40000) :
    Calls Tryz.prog 20 #[.pointer (some ⟨rB, 0, none⟩)] w fun e w' => WiE w.heap.size w' rB ab n c e ∧ But rB w w' := by
  have hRl := hr.lt
  obtain ⟨i0, hi, hz0, hz1, hz2⟩ := info_parts Tryz.infoZZ
  go_enter Tryz.func20, Tryz.ntmps20
  go_wp2_with fail
  refine (l6Which_any rB n c p ab w hr (by omega)).mono ?_
  rintro e w2 ⟨⟨wv, wl, p2, rfl, hw2, hwl0, hwl1, hr2, hp2⟩, hb2⟩
  obtain ⟨gw, cw, rfl, hgw⟩ := hw2.some (by omega)
  have z2 := hb2.size
  clear hr
  go_wp2_with fail
  refine (pick_any rB n c p2 ab 20 w2 hr2 (by omega) (by omega) (by omega)).mono ?_
  rintro e wp ⟨⟨zp, rfl, hzp0, hzp1⟩, hrp, hbp⟩
  have zp' := hbp.size
  have hgwp : wp.ownsRow w.heap.size 3 1 (.slice (some ⟨gw, 0, none⟩) wl.length cw) wl.length (wl.map fun x => .int .i64 x) := own_agree (show w2.ownsRow _ _ _ _ _ _ from hw2) (hbp.agree (.inl hRl))
  have Bp : But rB w wp := hb2.trans hbp
  clear hr2 hw2 hb2 hbp
  go_upto_if 17 with fail
  go_cut [3] (fun wv wx => ∃ (gw cw nw p2 : Nat), wv = .slice (some ⟨gw, 0, none⟩) nw cw ∧ 1 ≤ nw ∧ nw ≤ 6 ∧ w.heap.size ≤ gw ∧ (∀ j, j < nw → ∃ x : Int, wx.cell? ⟨gw, j, none⟩ = some (.int .i64 x)) ∧ Rd wx rB ab n c p2 ∧ p2 ≤ p + 11 ∧ But rB w wx)
  case first =>
    by_cases e0 : zp = 0
    · subst e0
      have bI : Below wp.heap.size wp (wp.alloc (.cells #[.int .i64 3] 3)) := (Below.refl _ _).alloc (Nat.le_refl _) _
      have hown1 := own_keep hgwp bI
      have HI : Hid (Rd (wp.alloc (.cells #[.int .i64 3] 3)) rB ab n c (p2 + 1) ∧ But rB w (wp.alloc (.cells #[.int .i64 3] 3)) ∧ (wp.alloc (.cells #[.int .i64 3] 3)).heap.size = wp.heap.size + 1) := ⟨hrp.below bI, Bp.trans (But.of_below bI), by simp⟩
      clear bI hrp Bp hgwp
      go_wp2_with (at_builtin; refine wpList_append_lies _ rfl _ _ 25 rfl w.heap.size 3 i0 (.int .i64 0) 1 8 Tryz.underlying25 hi hz0 hz1 hz2 rfl (by decide) _ _ _ rfl hown1 ⟨wp.heap.size, 0, none⟩ 1 1 [.int .i64 3] rfl rfl (one_new wp _ _) (by simp [Value.oneCell']) (by decide) (by unfold maxLen; omega) (by omega) (by simp; omega) _ rfl ?_; intro g1 k1 x1 ho1 hg1 hl1 hlt1; refine hid_hold ?_)
      unfold Hid
      obtain ⟨rI, BI, zI⟩ := HI.out
      have hfrom := fun q e => own_from hown1 q e
      replace rI := rI.grown hg1 (fun q e => by have := hfrom q e; omega)
      replace BI := BI.grown hg1 (fun q e => hfrom q e)
      have zx := hg1.size
      clear HI hown1 hg1 hl1 hlt1 hfrom
      have bJ : Below x1.heap.size x1 (x1.alloc (.cells #[.int .i64 5] 3)) := (Below.refl _ _).alloc (Nat.le_refl _) _
      have hown2 := own_keep ho1 bJ
      have HI : Hid (Rd (x1.alloc (.cells #[.int .i64 5] 3)) rB ab n c (p2 + 1) ∧ But rB w (x1.alloc (.cells #[.int .i64 5] 3)) ∧ (x1.alloc (.cells #[.int .i64 5] 3)).heap.size = x1.heap.size + 1) := ⟨rI.below bJ, BI.trans (But.of_below bJ), by simp⟩
      clear bJ rI BI ho1
      go_wp2_with (at_builtin; refine wpList_append_lies _ rfl _ _ 25 rfl w.heap.size 3 i0 (.int .i64 0) 1 8 Tryz.underlying25 hi hz0 hz1 hz2 rfl (by decide) _ _ _ rfl hown2 ⟨x1.heap.size, 0, none⟩ 1 1 [.int .i64 5] rfl rfl (one_new x1 _ _) (by simp [Value.oneCell']) (by decide) (by unfold maxLen; omega) (by omega) (by simp; omega) _ rfl ?_; intro g2 k2 x2 ho2 hg2 hl2 hlt2; refine hid_hold ?_)
      unfold Hid
      obtain ⟨rI, BI, zI⟩ := HI.out
      have hfrom := fun q e => own_from hown2 q e
      replace rI := rI.grown hg2 (fun q e => by have := hfrom q e; omega)
      replace BI := BI.grown hg2 (fun q e => hfrom q e)
      have hB2 := own_from ho2 g2 rfl
      have hcl : ∀ j, j < wl.length + 1 + 1 → ∃ x : Int, x2.cell? ⟨g2, j, none⟩ = some (.int .i64 x) := fun j hj => by
        have hc := World.ownsRow.cellAt ho2 j (by omega)
        rw [hc]
        by_cases q1 : j < wl.length
        · exact ⟨wl[j], by simp [List.getElem?_append, q1]⟩
        · by_cases q2 : j = wl.length
          · exact ⟨3, by simp [q2]⟩
          · obtain rfl : j = wl.length + 1 := by omega
            exact ⟨5, by simp⟩
      clear HI hown2 hg2 hl2 hlt2 hfrom ho2
      go_wp2_with fail
      go_meet
      exact ⟨g2, k2, wl.length + 1 + 1, p2 + 1, rfl, by omega, by omega, hB2, hcl, rI, by omega, BI⟩
    · have e0' : (zp == 0) = false := by rw [beq_eq_false_iff_ne]; exact e0
      have hcl : ∀ j, j < wl.length → ∃ x : Int, wp.cell? ⟨gw, j, none⟩ = some (.int .i64 x) := fun j hj => ⟨wl[j], by rw [World.ownsRow.cellAt hgwp j (by omega)]; simp [hj]⟩
      clear hgwp
      go_wp2_with fail
      go_meet
      exact ⟨gw, cw, wl.length, p2 + 1, rfl, by omega, by omega, by omega, hcl, hrp, by omega, Bp⟩
  case rest =>
  obtain ⟨gw, cw, nw, p2, rfl, hwl0, hwl1, hgw, hwh2, hr2, hp2, B2⟩ := hcut
  clear hrp Bp hgwp
  have z2 := B2.size
  obtain ⟨w2, hw2e⟩ : ∃ w2, w2 = wc := ⟨_, rfl⟩
  subst hw2e
  go_wp2_with fail
  refine (l6Ins_any nw w2 (by omega)).mono ?_
  rintro e w3 ⟨⟨vi, li, rfl, hg3, hll, hs8⟩, b3⟩
  subst hll
  obtain ⟨ia, ic, rfl, hic1, hic2, hri⟩ := hg3.rows
  have hs8' : ∀ j, (h : j < li.length) → li[j].size ≤ maxLen := fun j hj => by have := hs8 _ (List.getElem_mem hj); unfold maxLen; omega
  have hr3 := hr2.below b3
  have hwh3 : ∀ j, j < li.length → ∃ x : Int, w3.cell? ⟨gw, j, none⟩ = some (.int .i64 x) := fun j hj => by
    obtain ⟨x, e⟩ := hwh2 j hj
    exact ⟨x, cell_on b3 (block_lt_of_cell e) e⟩
  have z3 := b3.size
  have B3 : But rB w w3 := B2.trans (But.of_below b3)
  clear b3 hr2 hwh2 B2 hg3 hs8
  go_wp2_with fail
  refine (specGN_any ia ic li w3 (by omega) hri hs8').mono ?_
  rintro e w4 ⟨hE, b4⟩
  have z4 := b4.size
  obtain ⟨gI, aI0, e0, aI1, e1, aI2, e2, LI, bb, rfl, hnice, hmap, hsg, hcap, hroom⟩ := hE.begin
  have hr4 := hr3.below b4
  have hwh4 : ∀ j, j < li.length → ∃ x : Int, w4.cell? ⟨gw, j, none⟩ = some (.int .i64 x) := fun j hj => by
    obtain ⟨x, e⟩ := hwh3 j hj
    exact ⟨x, cell_on b4 (block_lt_of_cell e) e⟩
  have B4 : But rB w w4 := B3.trans (But.of_below b4)
  clear b4 hr3 hwh3 B3 hE hri hic1 hic2 hs8'
  have bA : Below w4.heap.size w4 (w4.alloc (.cells #[.slice aI0 gI.ins.length e0, .slice aI1 LI.length e1, .slice aI2 gI.shown.length e2] 80)) := (Below.refl _ _).alloc (Nat.le_refl _) _
  have tA := tri_new w4 (.slice aI0 gI.ins.length e0) (.slice aI1 LI.length e1) (.slice aI2 gI.shown.length e2) 80
  have zA : (w4.alloc (.cells #[.slice aI0 gI.ins.length e0, .slice aI1 LI.length e1, .slice aI2 gI.shown.length e2] 80)).heap.size = w4.heap.size + 1 := by simp
  have hWG : PlyW (w4.heap.size + 1) (w4.alloc (.cells #[.slice aI0 gI.ins.length e0, .slice aI1 LI.length e1, .slice aI2 gI.shown.length e2] 80)) w4.heap.size w3.heap.size w4.heap.size gI LI aI0 aI1 aI2 e0 e1 e2 (.slice none 0 0) (.slice none 0 0) [] [] :=
    { tG := tA, map := hmap, nice := hnice, sg := hsg.below bA, glt := by omega, gbox := .inr (Nat.le_refl _), bB := Nat.lt_succ_self _, BU := by omega, osh := World.ownsRow_nil _ _ _ _, oco := World.ownsRow_nil _ _ _ _, at_ := (fun p hp => by simp at hp), dis := List.Pairwise.nil, sfar := (fun p hp => by simp at hp), cfar := (fun p hp => by simp at hp), sgf := (fun k e => by cases e), cgf := (fun k e => by cases e) }
  replace hroom := hroom.below bA
  replace hr4 := hr4.below bA
  replace hwh4 : ∀ j, j < li.length → ∃ x : Int, (w4.alloc (.cells #[.slice aI0 gI.ins.length e0, .slice aI1 LI.length e1, .slice aI2 gI.shown.length e2] 80)).cell? ⟨gw, j, none⟩ = some (.int .i64 x) := fun j hj => by
    obtain ⟨x, e⟩ := hwh4 j hj
    exact ⟨x, cell_on bA (block_lt_of_cell e) e⟩
  replace B4 := B4.trans (But.of_below bA)
  have HK : Hid _ := And.intro hWG (And.intro hroom (And.intro hr4 (And.intro hwh4 (And.intro B4 (And.intro zA (And.intro hcap z4))))))
  clear bA tA hmap hsg hnice hWG hroom hr4 hwh4 B4 zA hcap z4
  go_wp2_with fail
  obtain ⟨hWG, hroom, hr4, hwh4, B4, zA, hcap, z4⟩ := HK.out
  clear HK
  generalize w4.alloc (.cells #[.slice aI0 gI.ins.length e0, .slice aI1 LI.length e1, .slice aI2 gI.shown.length e2] 80) = W4 at *
  obtain ⟨bG, hbG⟩ : ∃ bG, bG = w4.heap.size := ⟨_, rfl⟩
  rw [← hbG] at hWG z4 zA hroom ⊢
  refine (pick_any rB n c p2 ab 16 W4 hr4 (by omega) (by omega) (by omega)).mono ?_
  rintro e w5 ⟨⟨y, rfl, hy0, hy1⟩, hr5, hb5⟩
  obtain ⟨y, rfl⟩ := Int.eq_ofNat_of_zero_le hy0
  have z5 := hb5.size
  replace hWG := hWG.but hb5 (by omega) (.inr (by omega))
  replace hroom := hroom.but hb5 (by omega)
  have hwh5 : ∀ j, j < li.length → ∃ x : Int, w5.cell? ⟨gw, j, none⟩ = some (.int .i64 x) := fun j hj => by
    obtain ⟨x, e⟩ := hwh4 j hj
    exact ⟨x, (hb5.cell (b := gw) j (block_lt_of_cell e) (by omega)).trans e⟩
  replace B4 := B4.trans hb5
  clear hr4 hwh4 hb5 hbG
  go_wp2_with fail
  have hcN : (4 : Int) + (y : Int) = ((4 + y : Nat) : Int) := by omega
  rw [hcN]
  clear hcN
  refine (l6Feeds_any rB n c (p2 + 1) ab gw cw li.length (4 + y) w5 hr5 (by omega) (by omega) (by omega) (by omega) (by omega) hwh5).mono ?_
  rintro e w6 ⟨⟨vf, Lf, p6, rfl, hg6, hfl, hr6, hp6⟩, hb6⟩
  have z6 := hb6.size
  obtain ⟨fa, fc, rfl, hfc, hrf⟩ := hg6.rows
  have hff := hg6.fit (by omega)
  replace hWG := hWG.but hb6 (by omega) (.inr (by omega))
  replace hroom := hroom.but hb6 (by omega)
  replace B4 := B4.trans hb6
  have HFS : Hid (∀ u, But bG w6 u → RowF u fa (Lf.map fvL)) := fun u hu => by
    obtain ⟨fa', fc', e, _, hrf'⟩ := (hg6.but hu (by omega)).rows
    simp only [Value.slice.injEq] at e
    obtain ⟨rfl, _, _⟩ := e
    exact hrf'
  have hl61 : (Lf.map fvL).length ≤ 61 := by rw [List.length_map]; omega
  generalize Lf.map fvL = fs at *
  clear hr5 hwh5 hb6 hg6 hrf hfl
  go_wp2_with fail
  go_loopw [7] (fun iv wr => ∃ (k glo ghi : Nat) (g : GatL) (Lw : List WinY) (a0 a1 a2 : Option Addr) (d0 d1 d2 : Nat), k ≤ fs.length ∧ iv = .int .i64 k ∧ PlyW (bG + 1) wr bG glo ghi g Lw a0 a1 a2 d0 d1 d2 (.slice none 0 0) (.slice none 0 0) [] [] ∧ (w.heap.size ≤ glo ∧ glo ≤ ghi) ∧ (g.ins.length ≤ d0 ∧ d0 ≤ maxLen) ∧ RoomS wr glo ghi a0 a1 d0 d1 g.ins.length Lw.length ∧ But bG w6 wr) (fun iv _ => fs.length - (intOf iv).toNat)
  case atStart => exact ⟨0, w3.heap.size, bG, gI, LI, aI0, aI1, aI2, e0, e1, e2, by omega, rfl, hWG, ⟨by omega, by omega⟩, hcap, hroom, But.refl _ _⟩
  case round =>
    clear hWG hroom hcap
    obtain ⟨k, glo, ghi, g, Lw, p0, p1, p2', d0, d1, d2, hk, rfl, hWG, hglo, hcap, hroom, hbut⟩ := hrel
    have hzr := hbut.size
    by_cases hlt : k < fs.length
    · obtain ⟨bf, of, rfl, hbf, q0', q1', vq, q2', ⟨fa', fc', rfl, hfc', hrow⟩⟩ := HFS.out wr hbut k hlt
      have k0' : (0 : Int) ≤ (k : Int) := by omega
      have k1' : (k : Int) < (fs.length : Int) := by omega
      have hfk := hff.2 k hlt
      go_wp2_with fail
      have hbl : bG < wr.heap.size := block_lt_of_cell hWG.tG.c0
      have HSS : Hid (∀ u : World, Below wr.heap.size wr u → u.cell? ⟨bG, 0, none⟩ = some (.slice p0 g.ins.length d0) ∧ u.cell? ⟨bG, 1, none⟩ = some (.slice p1 Lw.length d1) ∧ u.cell? ⟨bG, 2, none⟩ = some (.slice p2' g.shown.length d2) ∧ u.cell? ⟨bf, of + k * 3, none⟩ = some (.int .i64 fs[k].1) ∧ u.cell? ⟨bf, of + k * 3 + 1, none⟩ = some (.int .i64 fs[k].2.1) ∧ u.cell? ⟨bf, of + k * 3 + 2, none⟩ = some (.slice fa' fs[k].2.2.length fc')) := fun u hu => ⟨cell_on hu hbl hWG.tG.c0, cell_on hu hbl hWG.tG.c1, cell_on hu hbl hWG.tG.c2, cell_on hu hbf q0', cell_on hu hbf q1', cell_on hu hbf q2'⟩
      obtain ⟨hLl, s0', s1', s2'⟩ := hWG.rows
      have hil' : g.ins.length ≤ 1048576 := by have := hWG.nice.ins; omega
      have hfitG := hWG.nice.fit
      have HLL : Hid (Lw.length = g.wins.length) := hLl
      clear hLl q0' q1' q2'
      refine wp_region_inv (by kernel_rfl) (by kernel_rfl) (fun f a u => ∃ (R : ResG) (b10 b11 : Nat) (v11 v12 v13 v32 v33 v34 v35 v36 v37 v38 v39 v40 v41 : Value), a = { tmps := #[Value.pointer (some { block := rB, off := 0 }), undef, Value.slice none 0 0, Value.slice (some { block := gw, off := 0 }) li.length cw, Value.pointer (some { block := bG, off := 0 }), Value.bool bb, Value.slice (some { block := bf, off := of }) fs.length fc, Value.int IntKind.i64 (k : Int), v11, v12, v13, undef, undef, u13, u14, u15, u16, u17, u18, u19, u20, u21, u22, Value.tuple #[Value.agg #[Value.slice aI0 gI.ins.length e0, Value.slice aI1 LI.length e1, Value.slice aI2 gI.shown.length e2], Value.bool bb], Value.slice (some { block := gw, off := 0 }) li.length cw, Value.int IntKind.i64 (li.length : Int), Value.slice ia li.length ic, Value.tuple #[Value.agg #[Value.slice aI0 gI.ins.length e0, Value.slice aI1 LI.length e1, Value.slice aI2 gI.shown.length e2], Value.bool bb], Value.agg #[Value.slice aI0 gI.ins.length e0, Value.slice aI1 LI.length e1, Value.slice aI2 gI.shown.length e2], Value.bool bb, Value.pointer (some { block := rB, off := 0 }), Value.slice (some { block := gw, off := 0 }) li.length cw, Value.pointer (some { block := rB, off := 0 }), Value.int IntKind.i64 (y : Int), Value.int IntKind.i64 (4 + (y : Int)), Value.slice (some { block := bf, off := of }) fs.length fc, Value.int IntKind.i64 (k : Int), Value.slice (some { block := bf, off := of }) fs.length fc, Value.int IntKind.i64 (fs.length : Int), Value.bool true, u40, u41, v32, v33, v34, v35, v36, v37, v38, v39, v40, v41, u52, u53, u54, u55, u56, u57, u58, u59, u60, u61, u62, u63, u64, u65, u66, u67, u68, u69, u70, u71, u72, u73, u74, u75, u76, u77, u78, u79, u80, u81, u82, u83], defers := [] } ∧ Fy (CalS g fs[k].1 fs[k].2.1 fs[k].2.2) wr (.agg #[.slice p0 g.ins.length d0, .slice p1 Lw.length d1, .slice p2' g.shown.length d2]) (.slice (some ⟨bf, of, none⟩) fs.length fc) (.int .i64 (k : Int)) (.pointer (some ⟨bf, of + k * 3, none⟩)) (.agg #[.int .i64 fs[k].1, .int .i64 fs[k].2.1, .slice fa' fs[k].2.2.length fc']) f R b10 b11 v11 v12 v13 v32 v33 v34 v35 v36 v37 v38 v39 v40 v41 u) ?start ?step ?fin
      case start =>
        refine ⟨⟨⟨[], [], []⟩, [], [], [], 0, none, none, none, none, none, 0, 0, 0, 0, 0, 0, 0, 0, 0⟩, 0, 0, _, _, _, _, _, _, _, _, _, _, _, _, _, rfl, ?_⟩
        exact { bel := (Below.refl _ _).drew, k0 := (fun h => by cases h), k1 := (fun h => by cases h), k2 := (fun h => by cases h), k3 := (fun h => by cases h), k4 := (fun h => by cases h), k5 := (fun h => by cases h), k6 := (fun h => by cases h), k7 := (fun h => by cases h), k8 := (fun h => by cases h), k9 := (fun h => by cases h), k10 := (fun h => by cases h), k11 := (fun h => by cases h), k14 := (fun h => by cases h), ne := (fun h => by cases h), c6 := (fun h => by cases h), c7 := (fun h => by cases h), c8 := (fun h => by cases h), c9 := (fun h => by cases h), c12 := (fun h => by cases h), c13 := (fun h => by cases h), c14 := (fun h => by cases h) }
      case step =>
        rintro f a u j ⟨R, b10, b11, v11, v12, v13, v32, v33, v34, v35, v36, v37, v38, v39, v40, v41, rfl, hF⟩ hj hfj hw
        obtain ⟨z0, z1, z2, z3, z4, z5⟩ := HSS.out _ hF.bel
        have hj' : j < 15 := hj
        have hC : ∀ R u u', CalS g fs[k].1 fs[k].2.1 fs[k].2.2 R u → Below u.heap.size u u' → CalS g fs[k].1 fs[k].2.1 fs[k].2.2 R u' := fun R u u' h hb => h.below hb
        rcases (by omega : j = 0 ∨ j = 1 ∨ j = 2 ∨ j = 3 ∨ j = 4 ∨ j = 5 ∨ j = 6 ∨ j = 7 ∨ j = 8 ∨ j = 9 ∨ j = 10 ∨ j = 11 ∨ j = 12 ∨ j = 13 ∨ j = 14) with rfl | rfl | rfl | rfl | rfl | rfl | rfl | rfl | rfl | rfl | rfl | rfl | rfl | rfl | rfl
        · refine wpOp_wanted rfl (by kernel_rfl) ?_
          go_simp
          exact ⟨R, b10, b11, _, _, _, _, _, _, _, _, _, _, _, _, _, ⟨rfl, rfl, rfl, rfl, rfl, rfl, rfl, rfl, rfl, rfl, rfl, rfl, rfl⟩, { hF with k0 := fun _ => rfl }⟩
        · refine wpOp_wanted rfl (by kernel_rfl) ?_
          go_simp
          exact ⟨R, b10, b11, _, _, _, _, _, _, _, _, _, _, _, _, _, ⟨rfl, rfl, rfl, rfl, rfl, rfl, rfl, rfl, rfl, rfl, rfl, rfl, rfl⟩, { hF with k1 := fun _ => rfl }⟩
        · refine wpOp_wanted rfl (by kernel_rfl) ?_
          go_simp
          exact ⟨R, b10, b11, _, _, _, _, _, _, _, _, _, _, _, _, _, ⟨rfl, rfl, rfl, rfl, rfl, rfl, rfl, rfl, rfl, rfl, rfl, rfl, rfl⟩, { hF with k2 := fun _ => rfl }⟩
        · have h1 : f 1 = true := hw 1 (of_decide_eq_true (by kernel_rfl))
          have h2 : f 2 = true := hw 2 (of_decide_eq_true (by kernel_rfl))
          obtain rfl := hF.k1 h1
          obtain rfl := hF.k2 h2
          refine wpOp_wanted rfl (by kernel_rfl) ?_
          go_simp
          exact ⟨R, b10, b11, _, _, _, _, _, _, _, _, _, _, _, _, _, ⟨rfl, rfl, rfl, rfl, rfl, rfl, rfl, rfl, rfl, rfl, rfl, rfl, rfl⟩, { hF with k3 := fun _ => rfl }⟩
        · have h3 : f 3 = true := hw 3 (of_decide_eq_true (by kernel_rfl))
          obtain rfl := hF.k3 h3
          refine wpOp_wanted rfl (by kernel_rfl) ?_
          go_simp
          exact ⟨R, b10, b11, _, _, _, _, _, _, _, _, _, _, _, _, _, ⟨rfl, rfl, rfl, rfl, rfl, rfl, rfl, rfl, rfl, rfl, rfl, rfl, rfl⟩, { hF with k4 := fun _ => rfl }⟩
        · have h0 : f 0 = true := hw 0 (of_decide_eq_true (by kernel_rfl))
          have h4 : f 4 = true := hw 4 (of_decide_eq_true (by kernel_rfl))
          obtain rfl := hF.k0 h0
          obtain rfl := hF.k4 h4
          have hcall := specGP_any p0 p1 p2' fa' d0 d1 d2 fc' g fs[k].1 fs[k].2.1 fs[k].2.2 u hfitG hil' (s0'.below hF.bel) (s1'.below hF.bel) (s2'.below hF.bel) hfk (hrow.below hF.bel)
          rw [← HLL.out] at hcall
          refine wpOp_wanted rfl (by kernel_rfl) ?_
          go_simp
          refine Calls.mono hcall ?_
          rintro e n ⟨hE, bx⟩
          obtain ⟨R', rfl, e1, e2, hcal⟩ := hE.cal bx.size
          have hF' := hF.below hC bx
          have no6 : f 6 = true → False := fun h => by have := hF.c6 h; rw [hfj] at this; cases this
          have no7 : f 7 = true → False := fun h => by have := hF.c7 h; rw [hfj] at this; cases this
          have no8 : f 8 = true → False := fun h => by have := hF.c8 h; rw [hfj] at this; cases this
          have no9 : f 9 = true → False := fun h => by have := hF.c9 h; rw [hfj] at this; cases this
          have no12 : f 12 = true → False := fun h => by have := (hF.c12 h).1; rw [hfj] at this; cases this
          have no13 : f 13 = true → False := fun h => by have := (hF.c13 h).1; rw [hfj] at this; cases this
          have no14 : f 14 = true → False := fun h => by have := hF.c14 h; rw [hfj] at this; cases this
          have zW := hF.bel.size
          exact ⟨R', b10, b11, _, _, _, _, _, _, _, _, _, _, _, _, _, ⟨rfl, rfl, rfl, rfl, rfl, rfl, rfl, rfl, rfl, rfl, rfl, rfl, rfl⟩, { bel := hF'.bel, k0 := hF'.k0, k1 := hF'.k1, k2 := hF'.k2, k3 := hF'.k3, k4 := hF'.k4, k5 := fun _ => ⟨rfl, hcal, by rw [e1]; exact zW⟩, k6 := fun e => (no6 e).elim, k7 := fun e => (no7 e).elim, k8 := fun e => (no8 e).elim, k9 := fun e => (no9 e).elim, k10 := fun e => let ⟨q0, q1, q2, q3, q4, q5⟩ := hF'.k10 e; ⟨q0, q1, q2, fun _ => .inl (by rw [e1]; exact (hF.k10 e).2.2.1), q4, fun e' => (no12 e').elim⟩, k11 := fun e => let ⟨q0, q1, q2, q3, q4, q5⟩ := hF'.k11 e; ⟨q0, q1, q2, fun _ => .inl (by rw [e1]; exact (hF.k11 e).2.2.1), q4, fun e' => (no13 e').elim⟩, k14 := fun e => (no14 e).elim, ne := hF'.ne, c6 := fun _ => rfl, c7 := fun _ => rfl, c8 := fun _ => rfl, c9 := fun _ => rfl, c12 := fun e => (no12 e).elim, c13 := fun e => (no13 e).elim, c14 := fun e => (no14 e).elim }⟩
        · have h5 : f 5 = true := hw 5 (of_decide_eq_true (by kernel_rfl))
          obtain ⟨rfl, _, _⟩ := hF.k5 h5
          refine wpOp_wanted rfl (by kernel_rfl) ?_
          go_simp
          exact ⟨R, b10, b11, _, _, _, _, _, _, _, _, _, _, _, _, _, ⟨rfl, rfl, rfl, rfl, rfl, rfl, rfl, rfl, rfl, rfl, rfl, rfl, rfl⟩, { hF with k6 := fun _ => rfl, c6 := fun _ => h5 }⟩
        · have h6 : f 6 = true := hw 6 (of_decide_eq_true (by kernel_rfl))
          have h5 := hF.c6 h6
          obtain rfl := hF.k6 h6
          refine wpOp_wanted rfl (by kernel_rfl) ?_
          go_simp
          exact ⟨R, b10, b11, _, _, _, _, _, _, _, _, _, _, _, _, _, ⟨rfl, rfl, rfl, rfl, rfl, rfl, rfl, rfl, rfl, rfl, rfl, rfl, rfl⟩, { hF with k7 := fun _ => rfl, c7 := fun _ => h5 }⟩
        · have h6 : f 6 = true := hw 6 (of_decide_eq_true (by kernel_rfl))
          have h5 := hF.c6 h6
          obtain rfl := hF.k6 h6
          refine wpOp_wanted rfl (by kernel_rfl) ?_
          go_simp
          exact ⟨R, b10, b11, _, _, _, _, _, _, _, _, _, _, _, _, _, ⟨rfl, rfl, rfl, rfl, rfl, rfl, rfl, rfl, rfl, rfl, rfl, rfl, rfl⟩, { hF with k8 := fun _ => rfl, c8 := fun _ => h5 }⟩
        · have h6 : f 6 = true := hw 6 (of_decide_eq_true (by kernel_rfl))
          have h5 := hF.c6 h6
          obtain rfl := hF.k6 h6
          refine wpOp_wanted rfl (by kernel_rfl) ?_
          go_simp
          exact ⟨R, b10, b11, _, _, _, _, _, _, _, _, _, _, _, _, _, ⟨rfl, rfl, rfl, rfl, rfl, rfl, rfl, rfl, rfl, rfl, rfl, rfl, rfl⟩, { hF with k9 := fun _ => rfl, c9 := fun _ => h5 }⟩
        · refine wpOp_wanted rfl (by kernel_rfl) ?_
          go_simp
          have bx : Below u.heap.size u (u.alloc (.cells #[.slice none 0 0, .slice none 0 0, .slice none 0 0] 80)) := (Below.refl _ _).alloc (Nat.le_refl _) _
          have hF' := hF.below hC bx
          have no12 : f 12 = true → False := fun h => by have := (hF.c12 h).2; rw [hfj] at this; cases this
          have hnew := tri_new u (.slice none 0 0) (.slice none 0 0) (.slice none 0 0) 80
          have zW := hF.bel.size
          exact ⟨R, u.heap.size, b11, _, _, _, _, _, _, _, _, _, _, _, _, _, ⟨rfl, rfl, rfl, rfl, rfl, rfl, rfl, rfl, rfl, rfl, rfl, rfl, rfl⟩, { hF' with k10 := fun _ => ⟨rfl, zW, by simp, fun e => .inr (hF.k5 e).2.1.o4, fun _ => hnew, fun e => (no12 e).elim⟩, ne := fun _ e => Nat.ne_of_gt (hF.k11 e).2.2.1, c12 := fun e => (no12 e).elim }⟩
        · refine wpOp_wanted rfl (by kernel_rfl) ?_
          go_simp
          have bx : Below u.heap.size u (u.alloc (.cells #[.slice none 0 0, .slice none 0 0] 87)) := (Below.refl _ _).alloc (Nat.le_refl _) _
          have hF' := hF.below hC bx
          have no13 : f 13 = true → False := fun h => by have := (hF.c13 h).2; rw [hfj] at this; cases this
          have hnew := duo_new u (.slice none 0 0) (.slice none 0 0) 87
          have zW := hF.bel.size
          exact ⟨R, b10, u.heap.size, _, _, _, _, _, _, _, _, _, _, _, _, _, ⟨rfl, rfl, rfl, rfl, rfl, rfl, rfl, rfl, rfl, rfl, rfl, rfl, rfl⟩, { hF' with k11 := fun _ => ⟨rfl, zW, by simp, fun e => .inr (hF.k5 e).2.1.o4, fun _ => hnew, fun e => (no13 e).elim⟩, ne := fun e _ => Nat.ne_of_lt (hF.k10 e).2.2.1, c13 := fun e => (no13 e).elim }⟩
        · have h10 : f 10 = true := hw 10 (of_decide_eq_true (by kernel_rfl))
          have h7 : f 7 = true := hw 7 (of_decide_eq_true (by kernel_rfl))
          have h11 : f 11 = true := hw 11 (of_decide_eq_true (by kernel_rfl))
          have h5 := hF.c7 h7
          obtain rfl := hF.k7 h7
          obtain ⟨rfl, q1, q2, q3, q4, _⟩ := hF.k10 h10
          have tt := q4 hfj
          obtain ⟨i0, i1, i2, o0, o1, o2⟩ := id tt
          refine wpOp_wanted rfl (by kernel_rfl) ?_
          go_simp
          have sx : Span b10 (b10 + 1) u (((u.setCell ⟨b10, 0, none⟩ (.slice R.s0 R.g.ins.length R.d0)).setCell ⟨b10, 1, none⟩ (.slice R.s1 R.L.length R.d1)).setCell ⟨b10, 2, none⟩ (.slice R.s2 R.g.shown.length R.d2)) := (((Span.refl _ _ _).setCell (Nat.le_refl _) (Nat.lt_succ_self _) _ _).setCell (Nat.le_refl _) (Nat.lt_succ_self _) _ _).setCell (Nat.le_refl _) (Nat.lt_succ_self _) _ _
          have tn := ((tt.set0 (.slice R.s0 R.g.ins.length R.d0)).set1 (.slice R.s1 R.L.length R.d1)).set2c (.slice R.s2 R.g.shown.length R.d2)
          have zx : (((u.setCell ⟨b10, 0, none⟩ (.slice R.s0 R.g.ins.length R.d0)).setCell ⟨b10, 1, none⟩ (.slice R.s1 R.L.length R.d1)).setCell ⟨b10, 2, none⟩ (.slice R.s2 R.g.shown.length R.d2)).heap.size = u.heap.size := by simp
          have far := q3 h5
          have ne := hF.ne h10 h11
          have hb' := hF.bel.trans (sx.below q1 hF.bel.size)
          generalize (((u.setCell ⟨b10, 0, none⟩ (.slice R.s0 R.g.ins.length R.d0)).setCell ⟨b10, 1, none⟩ (.slice R.s1 R.L.length R.d1)).setCell ⟨b10, 2, none⟩ (.slice R.s2 R.g.shown.length R.d2)) = n at *
          exact ⟨R, b10, b11, _, _, _, _, _, _, _, _, _, _, _, _, _, ⟨rfl, rfl, rfl, rfl, rfl, rfl, rfl, rfl, rfl, rfl, rfl, rfl, rfl⟩, { bel := hb', k0 := hF.k0, k1 := hF.k1, k2 := hF.k2, k3 := hF.k3, k4 := hF.k4, k5 := fun e => let ⟨r0, r1, r2⟩ := hF.k5 e; ⟨r0, r1.span sx (by omega), r2⟩, k6 := hF.k6, k7 := hF.k7, k8 := hF.k8, k9 := hF.k9, k10 := fun _ => ⟨rfl, q1, by omega, fun _ => far, (fun e => by cases e), fun _ => tn⟩, k11 := fun e => let ⟨r0, r1, r2, r3, r4, r5⟩ := hF.k11 e; ⟨r0, r1, by omega, r3, fun e' => (r4 e').span sx (by omega), fun e' => (r5 e').span sx (by omega)⟩, k14 := hF.k14, ne := hF.ne, c6 := hF.c6, c7 := hF.c7, c8 := hF.c8, c9 := hF.c9, c12 := fun _ => ⟨h5, h10⟩, c13 := hF.c13, c14 := hF.c14 }⟩
        · have h11 : f 11 = true := hw 11 (of_decide_eq_true (by kernel_rfl))
          have h8 : f 8 = true := hw 8 (of_decide_eq_true (by kernel_rfl))
          have h10 : f 10 = true := hw 10 (of_decide_eq_true (by kernel_rfl))
          have h5 := hF.c8 h8
          obtain rfl := hF.k8 h8
          obtain ⟨rfl, q1, q2, q3, q4, _⟩ := hF.k11 h11
          have tt := q4 hfj
          obtain ⟨i0, i1, o0, o1⟩ := id tt
          refine wpOp_wanted rfl (by kernel_rfl) ?_
          go_simp
          have sx : Span b11 (b11 + 1) u ((u.setCell ⟨b11, 0, none⟩ (.slice R.s3 R.sv.length R.d3)).setCell ⟨b11, 1, none⟩ (.slice R.s4 R.ss.length R.d4)) := ((Span.refl _ _ _).setCell (Nat.le_refl _) (Nat.lt_succ_self _) _ _).setCell (Nat.le_refl _) (Nat.lt_succ_self _) _ _
          have tn := (tt.set0 (.slice R.s3 R.sv.length R.d3)).set1 (.slice R.s4 R.ss.length R.d4)
          have zx : ((u.setCell ⟨b11, 0, none⟩ (.slice R.s3 R.sv.length R.d3)).setCell ⟨b11, 1, none⟩ (.slice R.s4 R.ss.length R.d4)).heap.size = u.heap.size := by simp
          have far := q3 h5
          have ne := hF.ne h10 h11
          have hb' := hF.bel.trans (sx.below q1 hF.bel.size)
          generalize ((u.setCell ⟨b11, 0, none⟩ (.slice R.s3 R.sv.length R.d3)).setCell ⟨b11, 1, none⟩ (.slice R.s4 R.ss.length R.d4)) = n at *
          exact ⟨R, b10, b11, _, _, _, _, _, _, _, _, _, _, _, _, _, ⟨rfl, rfl, rfl, rfl, rfl, rfl, rfl, rfl, rfl, rfl, rfl, rfl, rfl⟩, { bel := hb', k0 := hF.k0, k1 := hF.k1, k2 := hF.k2, k3 := hF.k3, k4 := hF.k4, k5 := fun e => let ⟨r0, r1, r2⟩ := hF.k5 e; ⟨r0, r1.span sx (by omega), r2⟩, k6 := hF.k6, k7 := hF.k7, k8 := hF.k8, k9 := hF.k9, k11 := fun _ => ⟨rfl, q1, by omega, fun _ => far, (fun e => by cases e), fun _ => tn⟩, k10 := fun e => let ⟨r0, r1, r2, r3, r4, r5⟩ := hF.k10 e; ⟨r0, r1, by omega, r3, fun e' => (r4 e').span sx (by omega), fun e' => (r5 e').span sx (by omega)⟩, k14 := hF.k14, ne := hF.ne, c6 := hF.c6, c7 := hF.c7, c8 := hF.c8, c9 := hF.c9, c12 := hF.c12, c13 := fun _ => ⟨h5, h11⟩, c14 := hF.c14 }⟩
        · have h9 : f 9 = true := hw 9 (of_decide_eq_true (by kernel_rfl))
          have h5 := hF.c9 h9
          obtain rfl := hF.k9 h9
          refine wpOp_wanted rfl (by kernel_rfl) ?_
          go_simp
          exact ⟨R, b10, b11, _, _, _, _, _, _, _, _, _, _, _, _, _, ⟨rfl, rfl, rfl, rfl, rfl, rfl, rfl, rfl, rfl, rfl, rfl, rfl, rfl⟩, { hF with k14 := fun _ => rfl, c14 := fun _ => h5 }⟩
      case fin =>
        rintro f a u ⟨R, b10, b11, v11, v12, v13, v32, v33, v34, v35, v36, v37, v38, v39, v40, v41, rfl, hF⟩ hall
        have hm6 := hF.k6 (hall 6 (of_decide_eq_true (by kernel_rfl)))
        have hm7 := hF.k7 (hall 7 (of_decide_eq_true (by kernel_rfl)))
        have hm8 := hF.k8 (hall 8 (of_decide_eq_true (by kernel_rfl)))
        have hm9 := hF.k9 (hall 9 (of_decide_eq_true (by kernel_rfl)))
        have hm0 := hF.k0 (hall 0 (of_decide_eq_true (by kernel_rfl)))
        have hm1 := hF.k1 (hall 1 (of_decide_eq_true (by kernel_rfl)))
        have hm2 := hF.k2 (hall 2 (of_decide_eq_true (by kernel_rfl)))
        have hm3 := hF.k3 (hall 3 (of_decide_eq_true (by kernel_rfl)))
        have hm4 := hF.k4 (hall 4 (of_decide_eq_true (by kernel_rfl)))
        subst hm0 hm1 hm2 hm3 hm4 hm6 hm7 hm8 hm9
        obtain ⟨rfl, hI, wtl⟩ := hF.k5 (hall 5 (of_decide_eq_true (by kernel_rfl)))
        obtain ⟨rfl, w10, l10, far10, _, tT⟩ := hF.k10 (hall 10 (of_decide_eq_true (by kernel_rfl)))
        obtain ⟨rfl, w11, l11, far11, _, dS⟩ := hF.k11 (hall 11 (of_decide_eq_true (by kernel_rfl)))
        obtain rfl := hF.k14 (hall 14 (of_decide_eq_true (by kernel_rfl)))
        have ne := hF.ne (hall 10 (of_decide_eq_true (by kernel_rfl))) (hall 11 (of_decide_eq_true (by kernel_rfl)))
        replace tT := tT (hall 12 (of_decide_eq_true (by kernel_rfl)))
        replace dS := dS (hall 13 (of_decide_eq_true (by kernel_rfl)))
        replace far10 := far10 (hall 5 (of_decide_eq_true (by kernel_rfl)))
        replace far11 := far11 (hall 5 (of_decide_eq_true (by kernel_rfl)))
        have bU := hF.bel
        have zU := bU.size
        have hbutU : But bG w6 u := hbut.trans (But.of_below bU)
        have hWGu := hWG.keep bU
        have hroomU := hroom.below bU
        have hnice := hI.put.nice.1
        have o1 := hI.o1
        have o4 := hI.o4
        clear hF hall HSS hWG hroom s0' s1' s2' hrow
        by_cases h2 : R.code = 2
        · have HX : Hid _ := And.intro hWGu (And.intro hroomU hbutU)
          have h2' : (R.code != 2) = false := by rw [h2]; rfl
          clear hWGu hroomU hbutU hbut hI tT dS bU
          go_wp2_with fail
          exact ⟨⟨k + 1, glo, ghi, g, Lw, p0, p1, p2', d0, d1, d2, by omega, by go_num, HX.out.1, hglo, hcap, HX.out.2.1, HX.out.2.2⟩, by simp [intOf]; omega⟩
        · have h2' : (R.code != 2) = true := by rw [bne_iff_ne]; exact h2
          have hWG6 := hWGu.put (d0' := R.d0) (d1' := R.d1) (d2' := R.d2) hI.map hnice hI.sg (by omega) (.inl (by omega)) (fun j e => by cases e) (fun j e => by cases e)
          have hb6 : But bG u (((u.setCell ⟨bG, 0, none⟩ (.slice R.s0 R.g.ins.length R.d0)).setCell ⟨bG, 1, none⟩ (.slice R.s1 R.L.length R.d1)).setCell ⟨bG, 2, none⟩ (.slice R.s2 R.g.shown.length R.d2)) := (((But.refl _ _).setCell _ _).setCell _ _).setCell _ _
          have HG6 : Hid (∃ G6, (((u.setCell ⟨bG, 0, none⟩ (.slice R.s0 R.g.ins.length R.d0)).setCell ⟨bG, 1, none⟩ (.slice R.s1 R.L.length R.d1)).setCell ⟨bG, 2, none⟩ (.slice R.s2 R.g.shown.length R.d2)) = G6) := ⟨_, rfl⟩
          obtain ⟨G6, hG6⟩ := HG6.out
          clear HG6
          rw [hG6] at hWG6 hb6
          have HG6 : Hid ((((u.setCell ⟨bG, 0, none⟩ (.slice R.s0 R.g.ins.length R.d0)).setCell ⟨bG, 1, none⟩ (.slice R.s1 R.L.length R.d1)).setCell ⟨bG, 2, none⟩ (.slice R.s2 R.g.shown.length R.d2)) = G6) := hG6
          clear hG6
          have HFIN : Hid (PlyW (bG + 1) G6 bG R.tl R.th R.g R.L R.s0 R.s1 R.s2 R.d0 R.d1 R.d2 (.slice none 0 0) (.slice none 0 0) [] [] ∧ RoomS G6 R.tl R.th R.s0 R.s1 R.d0 R.d1 R.g.ins.length R.L.length ∧ But bG w6 G6 ∧ (R.g.ins.length ≤ R.d0 ∧ R.d0 ≤ maxLen) ∧ (w.heap.size ≤ R.tl ∧ R.tl ≤ R.th)) := ⟨hWG6, hI.room.but hb6 (by omega), hbutU.trans hb6, hI.cap, by omega, o1⟩
          obtain ⟨y0, y1, y2, y3, y4, y5⟩ := id hWGu.tG
          obtain ⟨m0, m1, m2, _, _, _⟩ := id tT
          clear hWG6 hb6 hWGu hroomU hbutU hbut hI tT dS bU
          go_wp2_with (first | rw [HG6.out])
          exact ⟨⟨k + 1, R.tl, R.th, R.g, R.L, R.s0, R.s1, R.s2, R.d0, R.d1, R.d2, by omega, by go_num, HFIN.out.1, HFIN.out.2.2.2.2, HFIN.out.2.2.2.1, HFIN.out.2.1, HFIN.out.2.2.1⟩, by simp [intOf]; omega⟩
    · have hlt' : decide ((k : Int) < (fs.length : Int)) = false := decide_eq_false (by omega)
      have hr7 := hr6.but hbut (by omega)
      have B7 : But rB w wr := B4.trans' hbut (by omega)
      obtain ⟨y0, y1, y2, _, _, _⟩ := id hWG.tG
      have hbl : bG < wr.heap.size := block_lt_of_cell hWG.tG.c0
      have hgw : GW bG glo wr (.slice p0 g.ins.length d0) (.slice p1 Lw.length d1) g.ins Lw p2' g.shown := hWG.sg.gw hroom hWG.glt hWG.gbox hbl
      have HFW : Hid (FewW (Lw.map (·.l))) := by rw [hWG.map]; exact fun l hl => (hWG.nice.items l hl).few.mono (by omega)
      have hw6 : Lw.length ≤ 6 := by have := hWG.nice.wins; rw [← hWG.map, List.length_map] at this; exact this
      have hgl7 : glo ≤ wr.heap.size := by have := hWG.glt; omega
      obtain ⟨iw, hiw, hw0, hw1, hw2⟩ := info_parts Tryz.infoW
      clear hWG hroom hbut HFS hcap hff
      generalize g.ins = nm at *
      generalize g.shown = sh at *
      go_wp2_with fail
      refine (pick_any rB n c p6 ab 20 wr hr7 (by omega) (by omega) (by omega)).mono ?_
      rintro e w8 ⟨⟨z, rfl, hz0', hz1'⟩, hr8, hb8⟩
      have z8 := hb8.size
      replace hgw := hgw.agree (hb8.agreeX (.inl (by omega)))
      have B8 : But rB w w8 := B7.trans hb8
      have hgl8 : glo ≤ w8.heap.size := by omega
      clear hr7 B7 hb8 y0 y1 y2 hbl
      go_upto_if 59 with fail
      go_cut [11] (fun ov wx => ∃ (W : List WinY) (a : Option Addr) (cp p' : Nat), ov = .slice a W.length cp ∧ W.length ≤ 7 ∧ Hid (FewW (W.map (·.l))) ∧ GW bG glo wx (.slice p0 nm.length d0) (.slice a W.length cp) nm W p2' sh ∧ Rd wx rB ab n c p' ∧ p' ≤ p6 + 400 ∧ But rB w wx ∧ glo ≤ wx.heap.size)
      case first =>
        by_cases e0 : z = 0
        · subst e0
          go_wp2_with fail
          refine (pick_any rB n c (p6 + 1) ab 15 w8 hr8 (by omega) (by omega) (by omega)).mono ?_
          rintro e wq ⟨⟨zq, rfl, hzq0, hzq1⟩, hrq, hbq⟩
          have zq' := hbq.size
          have gwq := hgw.agree (hbq.agreeX (.inl (by omega)))
          have Bq : But rB w wq := B8.trans hbq
          clear hbq hr8 B8 hgw
          go_wp2_with fail
          refine (l6Window_any rB n c (p6 + 1 + 1) ab (1 + zq) wq hrq (by omega)).mono ?_
          rintro e w7 ⟨⟨v7, L7, p7, rfl, hg7, hfew, hr7', hp7⟩, hb7⟩
          have z7 := hb7.size
          obtain ⟨wa, wc', rfl, hwc, hin⟩ := hg7.rowIn
          have b8 : Below w7.heap.size w7 (w7.alloc (.cells #[.slice wa L7.length wc'] 41)) := (Below.refl _ _).alloc (Nat.le_refl _) _
          have gw7 := (gwq.agree (hb7.agreeX (.inl (by omega)))).agree (below_agreeX b8)
          have z8' : (w7.alloc (.cells #[.slice wa L7.length wc'] 41)).heap.size = w7.heap.size + 1 := by simp
          have HI : Hid (Rd (w7.alloc (.cells #[.slice wa L7.length wc'] 41)) rB ab n c p7 ∧ But rB w (w7.alloc (.cells #[.slice wa L7.length wc'] 41)) ∧ (w7.alloc (.cells #[.slice wa L7.length wc'] 41)).heap.size = w7.heap.size + 1 ∧ RowIn wq.heap.size w7.heap.size (w7.alloc (.cells #[.slice wa L7.length wc'] 41)) wa (L7.map (·.1))) := ⟨hr7'.below b8, (Bq.trans hb7).trans (But.of_below b8), z8', hin.agree (below_agree b8)⟩
          have HQ : Hid (∀ k, ((Value.slice p0 nm.length d0).ownBlock = some k → k < wq.heap.size) ∧ ((Value.slice p1 Lw.length d1).ownBlock = some k → k < wq.heap.size)) := fun k => ⟨fun e => (World.ownsRow.lt gwq.o0 k e).2, fun e => (World.ownsRow.lt gwq.o1 k e).2⟩
          have hbw := gwq.lt
          clear b8 z8' hr7' hb7 Bq hg7 hin hrq gwq
          go_wp2_with (at_builtin; refine wpList_append_lies _ rfl _ _ 23 rfl glo 41 iw (.slice none 0 0) 1 24 Tryz.underlying23 hiw hw0 hw1 hw2 rfl (by decide) _ _ _ rfl gw7.o1 ⟨w7.heap.size, 0, none⟩ 1 1 [.slice wa L7.length wc'] rfl rfl (one_new w7 _ _) (by simp [Value.oneCell']) (by decide) (by unfold maxLen; omega) (by omega) (by simp; omega) _ rfl ?_; intro xa xc wX hown hgrow hloc hlt9; refine hid_hold ?_)
          unfold Hid
          obtain ⟨hrX, BX, zX, hinX⟩ := HI.out
          have gwX := gw7.snoc1 (q := WinY.mk (L7.map (·.1)) (.slice wa L7.length wc') wq.heap.size w7.heap.size) ⟨by simp only; omega, by simp only; omega, .inl (by simp only; omega), wa, wc', by simp, by simpa using hwc, hinX⟩ (fun k e => .inl ((HQ.out k).1 e)) (fun k e => .inl ((HQ.out k).2 e)) hown hgrow (by rcases hloc with q | q; exact .inl q.symm; exact .inr (congrArg some q))
          have hfrom := fun q e => own_from gw7.o1 q e
          replace hrX := hrX.grown hgrow (fun q e => by have := hfrom q e; omega)
          replace BX := BX.grown hgrow (fun q e => by have := hfrom q e; omega)
          have zX2 := hgrow.size
          have hglX : glo ≤ wX.heap.size := by omega
          obtain ⟨LX, hLX⟩ : ∃ LX, LX = Lw ++ [WinY.mk (L7.map (·.1)) (.slice wa L7.length wc') wq.heap.size w7.heap.size] := ⟨_, rfl⟩
          have HLX : Hid (FewW (LX.map (·.l)) ∧ LX.length = Lw.length + 1) := by
            rw [hLX]
            refine ⟨?_, by simp⟩
            rw [List.map_append]
            exact FewW.snoc HFW.out hfew
          rw [← hLX, ← HLX.out.2] at gwX
          clear hLX HI HQ gw7 hown hgrow hloc hlt9 hfrom hinX hfew hwc zX
          have HZ : Hid _ := And.intro gwX (And.intro hrX BX)
          clear gwX hrX BX
          go_wp2_with fail
          go_meet
          exact ⟨LX, some ⟨xa, 0, none⟩, xc, p7, by rw [HLX.out.2], by have := HLX.out.2; omega, HLX.out.1, HZ.out.1, HZ.out.2.1, by omega, HZ.out.2.2, hglX⟩
        · have e0' : (z == 0) = false := by rw [beq_eq_false_iff_ne]; exact e0
          have HZ : Hid _ := And.intro hgw (And.intro hr8 B8)
          clear hgw hr8 B8
          go_wp2_with fail
          go_meet
          exact ⟨Lw, p1, d1, p6 + 1, rfl, by omega, HFW, HZ.out.1, HZ.out.2.1, by omega, HZ.out.2.2, hgl8⟩
      case rest =>
        obtain ⟨W, a, cp, p', rfl, hW7, HFW', hgw', hr9, hp9, B9, hgl9⟩ := hcut
        clear hgw hr8 B8 HFW
        obtain ⟨w9, hw9e⟩ : ∃ w9, w9 = wc := ⟨_, rfl⟩
        subst hw9e
        go_wp2_with fail
        refine (pick_any rB n c p' ab 40 w9 hr9 (by omega) (by omega) (by omega)).mono ?_
        rintro e w10 ⟨⟨z2', rfl, hz2', hz3'⟩, hr10, hb10⟩
        have z10 := hb10.size
        have gw10 := hgw'.agree (hb10.agreeX (.inl (by omega)))
        have B10 : But rB w w10 := B9.trans hb10
        clear hr9 B9 hb10 hgw'
        by_cases e1 : z2' = 0
        · subst e1
          go_wp2_with fail
          go_loopw [11, 12] (fun ov iv wr => ∃ (k : Nat) (W : List WinY) (a : Option Addr) (cp p'' : Nat), k ≤ 5 ∧ iv = .int .i64 k ∧ ov = .slice a W.length cp ∧ W.length ≤ 7 + k ∧ Hid (FewW (W.map (·.l))) ∧ GW bG glo wr (.slice p0 nm.length d0) (.slice a W.length cp) nm W p2' sh ∧ Rd wr rB ab n c p'' ∧ p'' ≤ p' + 1 + 400 * k ∧ But rB w wr ∧ glo ≤ wr.heap.size) (fun _ iv _ => 5 - (intOf iv).toNat)
          case atStart => exact ⟨0, W, a, cp, p' + 1, by omega, rfl, rfl, by omega, HFW', gw10, hr10, by omega, B10, by omega⟩
          case round =>
            clear gw10 hr10 B10
            obtain ⟨k5, V, b5, c5, p5, hk5, rfl, rfl, hV, HFV, gwr, hrr, hp5, Br, hglr⟩ := hrel
            by_cases hlt5 : k5 < 5
            · have hlt5' : decide ((k5 : Int) < 5) = true := decide_eq_true (by omega)
              go_wp2_with fail
              refine (pick_any rB n c (p5) ab 15 wr hrr (by omega) (by omega) (by omega)).mono ?_
              rintro e wq ⟨⟨zq, rfl, hzq0, hzq1⟩, hrq, hbq⟩
              have zq' := hbq.size
              have gwq := gwr.agree (hbq.agreeX (.inl (by omega)))
              have Bq : But rB w wq := Br.trans hbq
              clear hbq hrr Br gwr
              go_wp2_with fail
              refine (l6Window_any rB n c (p5 + 1) ab (1 + zq) wq hrq (by omega)).mono ?_
              rintro e w7 ⟨⟨v7, L7, p7, rfl, hg7, hfew, hr7', hp7⟩, hb7⟩
              have z7 := hb7.size
              obtain ⟨wa, wc', rfl, hwc, hin⟩ := hg7.rowIn
              have b8 : Below w7.heap.size w7 (w7.alloc (.cells #[.slice wa L7.length wc'] 41)) := (Below.refl _ _).alloc (Nat.le_refl _) _
              have gw7 := (gwq.agree (hb7.agreeX (.inl (by omega)))).agree (below_agreeX b8)
              have z8' : (w7.alloc (.cells #[.slice wa L7.length wc'] 41)).heap.size = w7.heap.size + 1 := by simp
              have HI : Hid (Rd (w7.alloc (.cells #[.slice wa L7.length wc'] 41)) rB ab n c p7 ∧ But rB w (w7.alloc (.cells #[.slice wa L7.length wc'] 41)) ∧ (w7.alloc (.cells #[.slice wa L7.length wc'] 41)).heap.size = w7.heap.size + 1 ∧ RowIn wq.heap.size w7.heap.size (w7.alloc (.cells #[.slice wa L7.length wc'] 41)) wa (L7.map (·.1))) := ⟨hr7'.below b8, (Bq.trans hb7).trans (But.of_below b8), z8', hin.agree (below_agree b8)⟩
              have HQ : Hid (∀ k, ((Value.slice p0 nm.length d0).ownBlock = some k → k < wq.heap.size) ∧ ((Value.slice b5 V.length c5).ownBlock = some k → k < wq.heap.size)) := fun k => ⟨fun e => (World.ownsRow.lt gwq.o0 k e).2, fun e => (World.ownsRow.lt gwq.o1 k e).2⟩
              have hbw := gwq.lt
              clear b8 z8' hr7' hb7 Bq hg7 hin hrq gwq
              go_wp2_with (at_builtin; refine wpList_append_lies _ rfl _ _ 23 rfl glo 41 iw (.slice none 0 0) 1 24 Tryz.underlying23 hiw hw0 hw1 hw2 rfl (by decide) _ _ _ rfl gw7.o1 ⟨w7.heap.size, 0, none⟩ 1 1 [.slice wa L7.length wc'] rfl rfl (one_new w7 _ _) (by simp [Value.oneCell']) (by decide) (by unfold maxLen; omega) (by omega) (by simp; omega) _ rfl ?_; intro xa xc wX hown hgrow hloc hlt9; refine hid_hold ?_)
              unfold Hid
              obtain ⟨hrX, BX, zX, hinX⟩ := HI.out
              have gwX := gw7.snoc1 (q := WinY.mk (L7.map (·.1)) (.slice wa L7.length wc') wq.heap.size w7.heap.size) ⟨by simp only; omega, by simp only; omega, .inl (by simp only; omega), wa, wc', by simp, by simpa using hwc, hinX⟩ (fun k e => .inl ((HQ.out k).1 e)) (fun k e => .inl ((HQ.out k).2 e)) hown hgrow (by rcases hloc with q | q; exact .inl q.symm; exact .inr (congrArg some q))
              have hfrom := fun q e => own_from gw7.o1 q e
              replace hrX := hrX.grown hgrow (fun q e => by have := hfrom q e; omega)
              replace BX := BX.grown hgrow (fun q e => by have := hfrom q e; omega)
              have zX2 := hgrow.size
              have hglX : glo ≤ wX.heap.size := by omega
              obtain ⟨LX, hLX⟩ : ∃ LX, LX = V ++ [WinY.mk (L7.map (·.1)) (.slice wa L7.length wc') wq.heap.size w7.heap.size] := ⟨_, rfl⟩
              have HLX : Hid (FewW (LX.map (·.l)) ∧ LX.length = V.length + 1) := by
                rw [hLX]
                refine ⟨?_, by simp⟩
                rw [List.map_append]
                exact FewW.snoc HFV.out hfew
              rw [← hLX, ← HLX.out.2] at gwX
              clear hLX HI HQ gw7 hown hgrow hloc hlt9 hfrom hinX hfew hwc zX
              have HZ : Hid _ := And.intro gwX (And.intro hrX BX)
              clear gwX hrX BX
              go_wp2_with fail
              exact ⟨⟨k5 + 1, LX, some ⟨xa, 0, none⟩, xc, p7, by omega, by go_num, by rw [HLX.out.2], by have := HLX.out.2; omega, HLX.out.1, HZ.out.1, HZ.out.2.1, by omega, HZ.out.2.2, hglX⟩, by simp [intOf]; omega⟩
            · have hlt5' : decide ((k5 : Int) < 5) = false := decide_eq_false (by omega)
              have HX : Hid (WiE w.heap.size wr rB ab n c (.returned (.slice b5 V.length c5)) ∧ But rB w wr) := ⟨⟨V, b5, c5, p5, rfl, by omega, gwr.cap1.2.1, HFV.out, fun u hu => (gwr.agree (hu.agreeX (by omega))).rowW, hrr, by omega⟩, Br⟩
              clear gwr hrr Br
              go_wp2_with fail
              go_ret
              exact HX.out
        · have e1' : (z2' == 0) = false := by rw [beq_eq_false_iff_ne]; exact e1
          have HX : Hid (WiE w.heap.size w10 rB ab n c (.returned (.slice a W.length cp)) ∧ But rB w w10) := ⟨⟨W, a, cp, (p' + 1), rfl, by omega, gw10.cap1.2.1, HFW'.out, fun u hu => (gw10.agree (hu.agreeX (by omega))).rowW, hr10, by omega⟩, B10⟩
          clear gw10 hr10 B10
          go_wp2_with fail
          go_ret
          exact HX.out

end Go.Proofs.YtpfhegengmlkmaaGreat
