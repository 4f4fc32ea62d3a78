/- Texts of this claim, one behind the other. -/
import Derived.Test.YtpfhegengmlkmacItG
import Derived.Test.YtpfhegengmlkmacCCs
import Derived.Test.YtpfhegengmlkmacZCCOwn1
/- Walk: readChoices. -/
namespace Go.Proofs.Ytpfhegengmlkmac
open Go.RowKit Go.BigFrame
set_option maxRecDepth 100000

theorem Try.infoV : (Try.prog.info? 80).map (fun i => (i.zero, i.size, i.bytes)) = some (some (.agg zero10), 10, 144) := by kernel_rfl
theorem block_new (w : World) (cs : Array Value) (t : TypeId) : ∀ j u, cs.toList[j]? = some u → (w.alloc (.cells cs t)).cell? ((⟨w.heap.size, 0, none⟩ : Addr).add j) = some u := by
  intro j u hj
  have e : (⟨w.heap.size, 0, none⟩ : Addr).add j = ⟨w.heap.size, j, none⟩ := by unfold Addr.add; split <;> simp_all
  rw [e, World.cell?_alloc_new]
  simpa using hj

/-- What readChoices answers. -/
def ChoE (w w' : World) (ws : List (List ItemL)) (e : Ending) : Prop := (∃ a1 c1 a2 c2 sh, e = .returned (.tuple #[.agg #[.slice a1 ws.length c1, .slice a2 sh.length c2], .bool true]) ∧ OkW ws ∧ ws.length ≤ c1 ∧ sh.length ≤ c2 ∧ RowV w w' a1 ws ∧ RowG w' a2 sh ∧ ShW ws sh) ∨ (e = .returned (.tuple #[.agg #[.slice none 0 0, .slice none 0 0], .bool false]) ∧ ¬ OkW ws)
/-- Two cells of a block of the call's own. -/
def Two (w : World) (b : Nat) (x y : Value) : Prop := w.cell? ⟨b, 0, none⟩ = some x ∧ w.cell? ⟨b, 1, none⟩ = some y ∧ w.frozen? ⟨b, 0, none⟩ = false ∧ w.frozen? ⟨b, 1, none⟩ = false
theorem Two.keep {w w' : World} {b : Nat} {x y : Value} (h : Two w b x y) (hb : Below w.heap.size w w') : Two w' b x y := by
  have hlt := block_lt_of_cell h.1
  exact ⟨cell_on hb hlt h.1, cell_on hb hlt h.2.1, (hb.frozen (p := ⟨b, 0, none⟩) hlt).trans h.2.2.1, (hb.frozen (p := ⟨b, 1, none⟩) hlt).trans h.2.2.2⟩

theorem Two.grown {w w' : World} {b : Nat} {x y : Value} {r : Option Nat} (h : Two w b x y) (hg : w.grownBy w' r) (hne : some b ≠ r) : Two w' b x y := by
  have hlt := block_lt_of_cell h.1
  exact ⟨grown_cell hg hne h.1, grown_cell hg hne h.2.1, (hg.frozen_far ⟨b, 0, none⟩ hlt hne).trans h.2.2.1, (hg.frozen_far ⟨b, 1, none⟩ hlt hne).trans h.2.2.2⟩
theorem Two.set0 {w : World} {b : Nat} {x y : Value} (h : Two w b x y) (z : Value) : Two (w.setCell ⟨b, 0, none⟩ z) b z y := by
  obtain ⟨h0, h1, h2, h3⟩ := h
  exact ⟨by simp [go_sem, h0], by simp [go_sem, h1], by simp [go_sem, h2], by simp [go_sem, h3]⟩
theorem Two.far {w : World} {b q : Nat} {x y : Value} (h : Two w b x y) (hq : b ≠ q) (i : Nat) (z : Value) : Two (w.setCell ⟨q, i, none⟩ z) b x y := by
  obtain ⟨h0, h1, h2, h3⟩ := h
  exact ⟨by rw [set_far _ _ _ _ hq]; exact h0, by rw [set_far _ _ _ _ hq]; exact h1, by simp [go_sem, h2], by simp [go_sem, h3]⟩

theorem own_far {w : World} {B e size n q : Nat} {v : Value} {xs : List Value} (h : w.ownsRow B e size v n xs) (hq : q < B) (i : Nat) (z : Value) : (w.setCell ⟨q, i, none⟩ z).ownsRow B e size v n xs := by
  obtain ⟨hl, h | ⟨g, cap, cur, hv, hgB, hh, r⟩⟩ := h
  · exact ⟨hl, .inl h⟩
  · exact ⟨hl, .inr ⟨g, cap, cur, hv, hgB, (Below.heap_setCell _ _ _ _ (by simp only; omega)).trans hh, r⟩⟩

theorem GathW.far {W0 w : World} {B q : Nat} {v : Value} {L : List (List ItemL × List Value)} (h : GathW W0 w B v L) (hq : q < B) (i : Nat) (z : Value) : GathW W0 (w.setCell ⟨q, i, none⟩ z) B v L := ⟨own_far h.1 hq i z, h.2⟩
theorem GathG.far {w : World} {B q : Nat} {v : Value} {L : List (List Spot × Value)} (h : GathG w B v L) (hq : q < B) (i : Nat) (z : Value) : GathG (w.setCell ⟨q, i, none⟩ z) B v L := ⟨own_far h.1 hq i z, fun p hp => own_far (h.2 p hp) hq i z⟩

set_option maxHeartbeats 3200000 in
theorem readChoices_any (a : Option Addr) (cap : Nat) (ws : List (List ItemL)) (w : World) (hf : FitW ws) (hr : RowW w a ws) :
    Calls Try.prog 58 #[.slice a ws.length cap] w fun e w' => ChoE w w' ws e ∧ Below w.heap.size w w' := by
  have hl := hf.1
  unfold maxLen at hl
  obtain ⟨i0, hi, hy0, hy1, hy2⟩ := info_parts Try.infoV
  by_cases h1 : ws.length < 1
  · go_enter Try.func58, Try.ntmps58
    go_wp2_with fail
    exact bodyPost_ret (v := .tuple #[.agg #[.slice none 0 0, .slice none 0 0], .bool false]) (by simp [results, Try.results58, go_sem]) rfl ⟨.inr ⟨rfl, fun h => by have := h.1; omega⟩, ((Below.refl _ _).alloc (Nat.le_refl _) _).alloc (by simp) _⟩
  by_cases h6 : 6 < ws.length
  · go_enter Try.func58, Try.ntmps58
    go_wp2_with fail
    exact bodyPost_ret (v := .tuple #[.agg #[.slice none 0 0, .slice none 0 0], .bool false]) (by simp [results, Try.results58, go_sem]) rfl ⟨.inr ⟨rfl, fun h => by have := h.2.1; omega⟩, ((Below.refl _ _).alloc (Nat.le_refl _) _).alloc (by simp) _⟩
  have B0 : Below w.heap.size w ((w.alloc (.cells #[.slice none 0 0, .slice none 0 0] 90)).alloc (.cells #[.slice none 0 0, .slice none 0 0] 90)) := ((Below.refl _ _).alloc (Nat.le_refl _) _).alloc (by simp) _
  have T0 : Two ((w.alloc (.cells #[.slice none 0 0, .slice none 0 0] 90)).alloc (.cells #[.slice none 0 0, .slice none 0 0] 90)) w.heap.size (.slice none 0 0) (.slice none 0 0) := ⟨by simp [go_sem], by simp [go_sem], by simp [go_sem], by simp [go_sem]⟩
  have T1 : Two ((w.alloc (.cells #[.slice none 0 0, .slice none 0 0] 90)).alloc (.cells #[.slice none 0 0, .slice none 0 0] 90)) (w.heap.size + 1) (.slice none 0 0) (.slice none 0 0) := ⟨by simp [go_sem], by simp [go_sem], by simp [go_sem], by simp [go_sem]⟩
  have hsz : w.heap.size + 2 ≤ ((w.alloc (.cells #[.slice none 0 0, .slice none 0 0] 90)).alloc (.cells #[.slice none 0 0, .slice none 0 0] 90)).heap.size := by simp
  go_enter Try.func58, Try.ntmps58
  go_wp2_with fail
  go_loopw [20] (fun i wr => ∃ (k : Nat) (L : List (List ItemL × List Value)) (v : Value), k ≤ ws.length ∧ i = .int .i64 k ∧ L.length = k ∧ Hid (L.map (·.1) = ws.take k) ∧ GathW w wr (w.heap.size + 2) v L ∧ Two wr w.heap.size (.slice none 0 0) (.slice none 0 0) ∧ Two wr (w.heap.size + 1) v (.slice none 0 0) ∧ Hid (∀ j, (h : j < ws.length) → j < k → WinP ws[j]) ∧ w.heap.size + 2 ≤ wr.heap.size ∧ Below w.heap.size w wr) (fun i _ => ws.length - (intOf i).toNat)
  case atStart => exact ⟨0, [], _, Nat.zero_le _, rfl, rfl, by simp [Hid], ⟨World.ownsRow_nil _ _ _ _, by simp⟩, T0, T1, fun _ _ h => absurd h (Nat.not_lt_zero _), hsz, B0⟩
  case round =>
    clear B0 T0 T1 hsz
    obtain ⟨k, L, v, hk, rfl, hLk, HLT, hL, T0, T1, HI, hsz, hbl⟩ := hrel
    by_cases hlt : k < ws.length
    · obtain ⟨b1, o1, rfl, g1, s1, t1, f1, hc1, q1⟩ := hr k hlt
      have f1' := cell_on hbl g1 f1
      have k0 : (0 : Int) ≤ (k : Int) := by omega
      have k1 : (k : Int) < (ws.length : Int) := by omega
      obtain ⟨fy0, fy1, fy2, fy3⟩ := id T1
      go_wp2_with fail
      refine (readWindow_from w s1 t1 ws[k] _ (hf.2 k hlt) q1 hbl).mono ?_
      rintro e w1 ⟨hE, b1'⟩
      have B1 : Below w.heap.size w w1 := hbl.trans (b1'.mono hbl.size)
      replace T0 := T0.keep b1'
      replace T1 := T1.keep b1'
      replace hL := hL.keep b1'
      have z1 := b1'.size
      rcases hE with ⟨vv, rfl, hp, hv⟩ | ⟨vv, rfl, hp, hv⟩
      · have HP : Hid (WinP ws[k]) := hp
        clear hp
        obtain ⟨x0, x1, x2, x3, a0, a1, a2, a3, n0, n1, n2, n3, c0, c1, c2, c3, rfl, hwc⟩ := hv.cells
        have hbw : Below w1.heap.size w1 (w1.alloc (.cells #[.int .i64 x0, .slice a0 n0 c0, .int .i64 x1, .slice a1 n1 c1, .int .i64 x2, .slice a2 n2 c2, .int .i64 x3, .slice a3 n3 c3, .int .i64 0, .int .i64 ws[k].length] 80)) := (Below.refl _ _).alloc (Nat.le_refl _) _
        have T1w := T1.keep hbw
        obtain ⟨u0, u1, u2, u3⟩ := T1w
        have hbx : Below w1.heap.size w1 ((w1.alloc (.cells #[.int .i64 x0, .slice a0 n0 c0, .int .i64 x1, .slice a1 n1 c1, .int .i64 x2, .slice a2 n2 c2, .int .i64 x3, .slice a3 n3 c3, .int .i64 0, .int .i64 ws[k].length] 80)).alloc (.cells #[.int .i64 x0, .slice a0 n0 c0, .int .i64 x1, .slice a1 n1 c1, .int .i64 x2, .slice a2 n2 c2, .int .i64 x3, .slice a3 n3 c3, .int .i64 0, .int .i64 ws[k].length] 80)) := hbw.alloc hbw.size _
        have hL2 := hL.keep hbx
        have T02 := T0.keep hbx
        have T12 := T1.keep hbx
        have hfar0 : some w.heap.size ≠ v.ownBlock := fun e => by have := own_from hL.1 _ e.symm; omega
        have hfar1 : some (w.heap.size + 1) ≠ v.ownBlock := fun e => by have := own_from hL.1 _ e.symm; omega
        have hzz : w.heap.size + 2 ≤ ((w1.alloc (.cells #[.int .i64 x0, .slice a0 n0 c0, .int .i64 x1, .slice a1 n1 c1, .int .i64 x2, .slice a2 n2 c2, .int .i64 x3, .slice a3 n3 c3, .int .i64 0, .int .i64 ws[k].length] 80)).alloc (.cells #[.int .i64 x0, .slice a0 n0 c0, .int .i64 x1, .slice a1 n1 c1, .int .i64 x2, .slice a2 n2 c2, .int .i64 x3, .slice a3 n3 c3, .int .i64 0, .int .i64 ws[k].length] 80)).heap.size := by simp; omega
        clear hv
        go_wp2_with (first | (at_builtin; refine Hid.out ?_))
        unfold Hid
        refine wpList_append_lies _ rfl _ _ 87 rfl (w.heap.size + 2) 80 i0 (.agg zero10) 10 144 Try.underlying87 hi hy0 hy1 hy2 rfl (by decide) _ L.length (vcells L) rfl hL2.1 ⟨w1.heap.size + 1, 0, none⟩ 1 1 #[.int .i64 x0, .slice a0 n0 c0, .int .i64 x1, .slice a1 n1 c1, .int .i64 x2, .slice a2 n2 c2, .int .i64 x3, .slice a3 n3 c3, .int .i64 0, .int .i64 ws[k].length].toList rfl rfl (by have h := block_new (w1.alloc (.cells #[.int .i64 x0, .slice a0 n0 c0, .int .i64 x1, .slice a1 n1 c1, .int .i64 x2, .slice a2 n2 c2, .int .i64 x3, .slice a3 n3 c3, .int .i64 0, .int .i64 ws[k].length] 80)) #[.int .i64 x0, .slice a0 n0 c0, .int .i64 x1, .slice a1 n1 c1, .int .i64 x2, .slice a2 n2 c2, .int .i64 x3, .slice a3 n3 c3, .int .i64 0, .int .i64 ws[k].length] 80; rw [World.size_alloc] at h; exact h) (by simp [Value.oneCell']) (by decide) (by unfold maxLen; omega) (by omega) hzz _ rfl ?_
        intro g' cap' w5 hown' hgrow _ hloc
        have T15 := T12.grown hgrow hfar1
        have T05 := T02.grown hgrow hfar0
        have p0 := T15.1
        have p1 := T15.2.2.1
        go_wp2_with fail
        have BX : Below w.heap.size w ((w1.alloc (.cells #[.int .i64 x0, .slice a0 n0 c0, .int .i64 x1, .slice a1 n1 c1, .int .i64 x2, .slice a2 n2 c2, .int .i64 x3, .slice a3 n3 c3, .int .i64 0, .int .i64 ws[k].length] 80)).alloc (.cells #[.int .i64 x0, .slice a0 n0 c0, .int .i64 x1, .slice a1 n1 c1, .int .i64 x2, .slice a2 n2 c2, .int .i64 x3, .slice a3 n3 c3, .int .i64 0, .int .i64 ws[k].length] 80)) := B1.trans (hbx.mono B1.size)
        have B5 := BX.grown hgrow BX.size (fun q hq => by have := own_from hL.1 q hq; omega)
        rw [hLk] at hown'
        have HT : Hid (ws.take (k + 1) = ws.take k ++ [ws[k]]) := List.take_succ_eq_append_getElem hlt
        have HST : Hid (∀ j, (h : j < ws.length) → j < k + 1 → WinP ws[j]) := win_step HI.out hlt HP.out
        have hG5 := hL2.snoc hwc (by rw [hLk]; exact hown')
        have z5 := hgrow.size
        exact ⟨⟨k + 1, _, _, by omega, by go_num, by simp [hLk], by rw [HT.out, List.map_append, HLT.out]; rfl, ⟨own_far hG5.1 (by omega) _ _, hG5.2⟩, T05.far (by omega) _ _, T15.set0 _, HST, by simp only [World.size_setCell]; omega, B5.setCell (by simp only; omega) _⟩, by simp [intOf]; omega⟩
      · have HN : Hid (¬ OkW ws) := fun h => hp (h.2.2 k hlt)
        clear hp
        obtain ⟨x0, x1, x2, x3, a0, a1, a2, a3, n0, n1, n2, n3, c0, c1, c2, c3, rfl, _⟩ := hv.laid
        have hbw : Below w1.heap.size w1 (w1.alloc (.cells #[.int .i64 x0, .slice a0 n0 c0, .int .i64 x1, .slice a1 n1 c1, .int .i64 x2, .slice a2 n2 c2, .int .i64 x3, .slice a3 n3 c3, .int .i64 0, .int .i64 0] 80)) := (Below.refl _ _).alloc (Nat.le_refl _) _
        have T0w := T0.keep hbw
        obtain ⟨u0, u1, u2, u3⟩ := T0w
        have BW := B1.trans (hbw.mono B1.size)
        go_wp2_with fail
        generalize w1.alloc (.cells #[.int .i64 x0, .slice a0 n0 c0, .int .i64 x1, .slice a1 n1 c1, .int .i64 x2, .slice a2 n2 c2, .int .i64 x3, .slice a3 n3 c3, .int .i64 0, .int .i64 0] 80) = WX at *
        have e0 : ((WX.setCell ⟨w.heap.size, 0, none⟩ (.slice none 0 0)).setCell ⟨w.heap.size, 1, none⟩ (.slice none 0 0)).cell? ⟨w.heap.size, 0, none⟩ = some (.slice none 0 0) := by simp [go_sem, u0]
        have e1 : ((WX.setCell ⟨w.heap.size, 0, none⟩ (.slice none 0 0)).setCell ⟨w.heap.size, 1, none⟩ (.slice none 0 0)).cell? ⟨w.heap.size, 1, none⟩ = some (.slice none 0 0) := by simp [go_sem, u1]
        exact bodyPost_ret (v := .tuple #[.agg #[.slice none 0 0, .slice none 0 0], .bool false]) (by simp [results, Try.results58, go_sem, e0, e1]) rfl ⟨.inr ⟨rfl, HN.out⟩, (BW.setCell (Nat.le_refl _) _).setCell (Nat.le_refl _) _⟩
    · obtain ⟨va, vc, rfl, hvc, hrow⟩ := hL.row
      have HOK : Hid (OkW ws) := ⟨by omega, by omega, fun j hj => HI.out j hj (by omega)⟩
      have hLw : L.length = ws.length := by omega
      replace HLT : Hid (L.map (·.1) = ws) := by unfold Hid; rw [HLT.out, List.take_of_length_le (by omega)]
      rw [HLT.out] at hrow
      rw [hLw] at hvc T1 hL
      obtain ⟨u0, u1, u2, u3⟩ := id T1
      clear HI
      go_wp2_with fail
      refine (sharedSpots_any w wr va vc ws hrow hbl HOK.out).mono ?_
      rintro e w1 ⟨⟨vs, M, rfl, hM, hsw⟩, b1⟩
      obtain ⟨sa, sc, rfl, hsc, _⟩ := hM.row
      have HSW : Hid (ShW ws (M.map (·.1))) := hsw
      clear hsw
      have B1 : Below w.heap.size w w1 := hbl.trans (b1.mono hbl.size)
      have hL1 := hL.keep b1
      have T01 := T0.keep b1
      have T11 := T1.keep b1
      have z1 := b1.size
      clear u0 u1 u2 u3 hrow T0 T1
      obtain ⟨u0, u1, u2, u3⟩ := id T11
      obtain ⟨y0, y1, y2, y3⟩ := id T01
      go_wp2_with fail
      have hLf := ((hL1.far (q := w.heap.size + 1) (by omega) 1 (.slice sa M.length sc)).far (q := w.heap.size) (by omega) 0 (.slice va ws.length vc)).far (q := w.heap.size) (by omega) 1 (.slice sa M.length sc)
      have hMf := ((hM.far (q := w.heap.size + 1) (by omega) 1 (.slice sa M.length sc)).far (q := w.heap.size) (by omega) 0 (.slice va ws.length vc)).far (q := w.heap.size) (by omega) 1 (.slice sa M.length sc)
      have BF := ((B1.setCell (p := ⟨w.heap.size + 1, 1, none⟩) (by simp only; omega) (.slice sa M.length sc)).setCell (p := ⟨w.heap.size, 0, none⟩) (Nat.le_refl _) (.slice va ws.length vc)).setCell (p := ⟨w.heap.size, 1, none⟩) (Nat.le_refl _) (.slice sa M.length sc)
      have e0 : (((w1.setCell ⟨w.heap.size + 1, 1, none⟩ (.slice sa M.length sc)).setCell ⟨w.heap.size, 0, none⟩ (.slice va ws.length vc)).setCell ⟨w.heap.size, 1, none⟩ (.slice sa M.length sc)).cell? ⟨w.heap.size, 0, none⟩ = some (.slice va ws.length vc) := by simp [go_sem, y0]
      have e1 : (((w1.setCell ⟨w.heap.size + 1, 1, none⟩ (.slice sa M.length sc)).setCell ⟨w.heap.size, 0, none⟩ (.slice va ws.length vc)).setCell ⟨w.heap.size, 1, none⟩ (.slice sa M.length sc)).cell? ⟨w.heap.size, 1, none⟩ = some (.slice sa M.length sc) := by simp [go_sem, y1]
      generalize ((w1.setCell ⟨w.heap.size + 1, 1, none⟩ (.slice sa M.length sc)).setCell ⟨w.heap.size, 0, none⟩ (.slice va ws.length vc)).setCell ⟨w.heap.size, 1, none⟩ (.slice sa M.length sc) = WF at *
      obtain ⟨a8, c8, q8, _, r8⟩ := hLf.row
      obtain ⟨a9, c9, q9, _, r9⟩ := hMf.row
      rw [hLw] at q8
      cases q8
      cases q9
      rw [HLT.out] at r8
      exact bodyPost_ret (v := .tuple #[.agg #[.slice va ws.length vc, .slice sa M.length sc], .bool true]) (by simp [results, Try.results58, go_sem, e0, e1]) rfl ⟨.inl ⟨va, vc, sa, sc, M.map (·.1), by simp, HOK.out, hvc, by rw [List.length_map]; exact hsc, r8, r9, HSW.out⟩, BF⟩

end Go.Proofs.Ytpfhegengmlkmac
/- Walk: impl.ChoiceAgrees. -/
namespace Go.Proofs.Ytpfhegengmlkmac
open Go.RowKit Go.BigFrame
set_option maxRecDepth 100000

theorem chB_new {W0 w : World} {a1 a2 : Option Addr} {c1 c2 : Nat} {ws : List (List ItemL)} {sh : List (List Spot)} (hv : RowV W0 w a1 ws) (hg : RowG w a2 sh) (h1 : ws.length ≤ c1) (h2 : sh.length ≤ c2) : ChB W0 (w.alloc (.cells #[.slice a1 ws.length c1, .slice a2 sh.length c2] 90)) w.heap.size ws sh :=
  have hb : Below w.heap.size w (w.alloc (.cells #[.slice a1 ws.length c1, .slice a2 sh.length c2] 90)) := (Below.refl _ _).alloc (Nat.le_refl _) _
  ⟨box_lt _ _, a1, c1, a2, c2, box0 _ _ _ _, h1, box1 _ _ _ _, h2, hv.below hb, hg.below hb⟩

set_option maxHeartbeats 800000 in
theorem implChA_any (a a' : Option Addr) (cap cap' : Nat) (ws : List (List ItemL)) (ps : List Int) (w : World) (hf : FitW ws) (hr : RowW w a ws) (hp : ps.length ≤ maxLen) (hr' : RowZ w a' ps) :
    Calls Try.prog 19 #[.slice a ws.length cap, .slice a' ps.length cap'] w fun e w' => IsB (ChP ws ps) e ∧ Below w.heap.size w w' := by
  go_enter Try.func19, Try.ntmps19
  go_wp2_with fail
  refine (readChoices_any a cap ws _ hf hr).mono ?_
  rintro e w1 ⟨hE, b1⟩
  have hr1 := hr'.below b1
  rcases hE with ⟨a1, c1, a2, c2, sh, rfl, hok, hc1, hc2, hrv, hrg, hsw⟩ | ⟨rfl, hno⟩
  · have HOK : Hid (OkW ws) := hok
    have HSW : Hid (ShW ws sh) := hsw
    clear hok hsw
    have hcb := chB_new hrv hrg hc1 hc2
    have hbx : Below w1.heap.size w1 (w1.alloc (.cells #[.slice a1 ws.length c1, .slice a2 sh.length c2] 90)) := (Below.refl _ _).alloc (Nat.le_refl _) _
    have BX : Below w.heap.size w (w1.alloc (.cells #[.slice a1 ws.length c1, .slice a2 sh.length c2] 90)) := b1.trans (hbx.mono b1.size)
    have hrx := hr1.below hbx
    go_wp2_with fail
    generalize w1.alloc (.cells #[.slice a1 ws.length c1, .slice a2 sh.length c2] 90) = W at *
    refine (has_any w W w1.heap.size ws sh a' cap' ps hcb HOK.out.2.1 hp hrx).mono ?_
    rintro e w2 ⟨⟨r, rfl, hr2⟩, b2⟩
    have HR : Hid (r = true ↔ ps.length = ws.length ∧ InW ws ps) := hr2
    clear hr2
    have B2 : Below w.heap.size w w2 := BX.trans (b2.mono BX.size)
    cases r with
    | false =>
      have HN : Hid (¬ ChP ws ps) := fun h => by have := HR.out.2 ⟨h.2.1, h.2.2.1⟩; simp at this
      go_wp2_with fail
      go_ret
      exact ⟨isB_false HN.out, B2⟩
    | true =>
      have hh := HR.out.1 rfl
      have HIN : Hid (InW ws ps) := hh.2
      have HLEN : Hid (ps.length = ws.length) := hh.1
      clear HR hh
      go_wp2_with fail
      refine (agrees_any w w2 w1.heap.size ws sh a' cap' ps (hcb.below b2) B2 HOK.out HLEN.out HIN.out (hrx.below b2) HSW.out).mono ?_
      rintro e w3 ⟨⟨r, rfl, hr3⟩, b3⟩
      have HR : Hid (r = true ↔ ChP ws ps) := hr3.trans ⟨fun h => ⟨HOK.out, HLEN.out, HIN.out, h⟩, fun h => h.2.2.2⟩
      clear hr3
      go_wp2_with fail
      go_ret
      exact ⟨⟨r, rfl, HR.out⟩, B2.trans (b3.mono B2.size)⟩
  · have HN : Hid (¬ ChP ws ps) := fun h => hno h.1
    clear hno
    go_wp2_with fail
    go_ret
    exact ⟨isB_false HN.out, b1.alloc b1.size _⟩

end Go.Proofs.Ytpfhegengmlkmac
/- Walk: impl.ChoiceCount. -/
namespace Go.Proofs.Ytpfhegengmlkmac
open Go.RowKit Go.Shelf Go.BigFrame
set_option maxRecDepth 100000
attribute [local go_sem] Oper.semAt_some

open Classical in
/-- How many of some choices agree. -/
noncomputable def cntL (ws : List (List ItemL)) (s : List (List Int)) : Nat := (s.filter fun q => decide (AgW ws q)).length
theorem cntL_nil (ws : List (List ItemL)) : cntL ws [] = 0 := rfl
theorem cntL_yes {ws : List (List ItemL)} (s : List (List Int)) {q : List Int} (h : AgW ws q) : cntL ws (s ++ [q]) = cntL ws s + 1 := by
  unfold cntL
  rw [List.filter_append]
  simp [h]
theorem cntL_no {ws : List (List ItemL)} (s : List (List Int)) {q : List Int} (h : ¬ AgW ws q) : cntL ws (s ++ [q]) = cntL ws s := by
  unfold cntL
  rw [List.filter_append]
  simp [h]
theorem cntL_le (ws : List (List ItemL)) (s : List (List Int)) : cntL ws s ≤ s.length := List.length_filter_le _ _
theorem cntL_all (ws : List (List ItemL)) : cntL ws (allL ws ws.length []) = (foundL ws ws.length []).length := rfl

theorem numB_putObj {w : World} {g : Nat} {l : List Int} (h : NumB w g l) {r : Nat} {o : Obj} (o' : Obj) (hr : w.heap[r]? = some o) (ho : o.isCells = false) : NumB (w.putObj r o') g l := by
  obtain ⟨m, f, h, hf⟩ := h
  refine ⟨m, f, h.of_block (World.putObj_heap_other fun e => ?_), hf⟩
  subst e
  obtain ⟨cur, hc, _⟩ := h
  rw [hc] at hr
  cases hr
  cases ho

set_option maxHeartbeats 4000000 in
theorem implCC_any (a : Option Addr) (cap : Nat) (ws : List (List ItemL)) (w : World) (hf : FitW ws) (hr : RowW w a ws) :
    Calls Try.prog 23 #[.slice a ws.length cap] w fun e w' => (∃ n : Nat, e = .returned (.int .i64 (n : Int)) ∧ CntP ws n) ∧ Below w.heap.size w w' := by
  refine (callsIn_wide (n := 5)).1 ?_
  refine callsIn_of_wp_marks Try.func23 rfl trivial ?_ rfl
  simp only [Try.ntmps23, List.size_toArray, List.length_cons, List.length_nil, Nat.reduceAdd, Nat.reduceSub, Array.replicate_succ, Array.replicate_zero, List.push_toArray, List.append_toArray, List.nil_append, List.cons_append]
  gi_wp2_with fail
  refine ⟨trivial, (callsIn_wide.2 (readChoices_any a cap ws _ hf hr)).mono ?_⟩
  rintro e w1 ⟨hE, b1⟩
  rcases hE with ⟨a1, c1, a2, c2, sh, rfl, hok, hc1, hc2, hrv, hrg, hsw⟩ | ⟨rfl, hno⟩
  · have HOK : Hid (OkW ws) := hok
    have HSW : Hid (ShW ws sh) := hsw
    clear hok hsw
    gi_wp2_with fail
    refine ⟨trivial, (callsIn_wide.2 (all_any w1.heap.size _)).mono ?_⟩
    rintro e w3 ⟨rfl, rfl⟩
    have hcb := chB_new hrv hrg hc1 hc2
    obtain ⟨w0, hw0⟩ : ∃ w0, w1.alloc (.cells #[.slice a1 ws.length c1, .slice a2 sh.length c2] 90) = w0 := ⟨_, rfl⟩
    have hz0 : w0.heap.size = w1.heap.size + 1 := by rw [← hw0]; simp
    have hB0 : Below w.heap.size w w0 := by rw [← hw0]; exact b1.alloc b1.size _
    rw [hw0] at hcb ⊢
    obtain ⟨W3, hW3⟩ : ∃ W3, (w0.alloc (.cells #[.int .i64 0] 3)).alloc (.cells #[.pointer (some ⟨w1.heap.size, 0, none⟩)] 116) = W3 := ⟨_, rfl⟩
    have hz3 : W3.heap.size = w1.heap.size + 3 := by rw [← hW3]; simp [hz0]
    have hB3 : Below w0.heap.size w0 W3 := by rw [← hW3]; exact ((Below.refl _ _).alloc (Nat.le_refl _) _).alloc (by simp) _
    have c0 : W3.cell? ⟨w1.heap.size + 1, 0, none⟩ = some (.int .i64 0) := by rw [← hW3, ← hz0]; simp [go_sem]
    have f0 : W3.frozen? ⟨w1.heap.size + 1, 0, none⟩ = false := by rw [← hW3, ← hz0]; simp [go_sem]
    have c2' : W3.cell? ⟨w1.heap.size + 2, 0, none⟩ = some (.pointer (some ⟨w1.heap.size, 0, none⟩)) := by rw [← hW3, show w1.heap.size + 2 = w0.heap.size + 1 by omega]; simp [go_sem]
    have ez : (w0.alloc (.cells #[.int .i64 0] 3)).heap.size = w1.heap.size + 2 := by simp [hz0]
    rw [hW3]
    clear hw0 hW3 hrv hrg
    gi_wp2_with fail
    refine wpIn_rangeFunc_mem (n := 5) rfl (by omega) (gf := 87) (lb := #[.pointer (some ⟨w1.heap.size + 2, 0, none⟩)]) rfl trivial (enters_of Try.func87 (by kernel_rfl) rfl)
      (encs := fun _ : List Int => #[.slice (some ⟨W3.heap.size + 2, 0, none⟩) ws.length ws.length]) (M := fun x A => NumB A (W3.heap.size + 2) x ∧ x.length = ws.length ∧ InW ws x) (S := fun xs => xs = allL ws ws.length []) (N := 4096) (fun _ => rfl)
      (fun s A => A.cell? ⟨w1.heap.size + 1, 0, none⟩ = some (.int .i64 (cntL ws s : Int)) ∧ A.frozen? ⟨w1.heap.size + 1, 0, none⟩ = false ∧ A.cell? ⟨w1.heap.size + 2, 0, none⟩ = some (.pointer (some ⟨w1.heap.size, 0, none⟩)) ∧ Below w0.heap.size w0 A)
      (fun s A A' h hb => ⟨(hb.cell (p := ⟨w1.heap.size + 1, 0, none⟩) (by simp; omega)).trans h.1, (hb.frozen (p := ⟨w1.heap.size + 1, 0, none⟩) (by simp; omega)).trans h.2.1, (hb.cell (p := ⟨w1.heap.size + 2, 0, none⟩) (by simp; omega)).trans h.2.2.1, h.2.2.2.trans (hb.mono (by omega))⟩)
      (fun x A l o o' h hl ho => ⟨numB_putObj h.1 o' hl ho, h.2⟩)
      (fun l J W hsz hJI hJb hY h0 => all1_in 4 l (W3.heap.size + 2) w w0 w1.heap.size (w1.heap.size + 2) ws sh hcb (by omega) HOK.out J W hsz (fun s A h => ⟨(hJI s A h).2.2.1, (hJI s A h).2.2.2⟩) hJb hY h0)
      ⟨c0, f0, c2', hB3⟩
      (fun _ => { tmps := #[.slice a ws.length cap, undef, .int .i64 0, .pointer (some ⟨w1.heap.size, 0, none⟩), .bool true, .pointer (some ⟨w1.heap.size + 1, 0, none⟩), .slice (some ⟨W3.heap.size + 2, 0, none⟩) ws.length ws.length, .tuple #[.agg #[.slice a1 ws.length c1, .slice a2 sh.length c2], .bool true], .slice a ws.length cap, .tuple #[.agg #[.slice a1 ws.length c1, .slice a2 sh.length c2], .bool true], .agg #[.slice a1 ws.length c1, .slice a2 sh.length c2], .bool true, .bool true, .bool false, .func (.func 87) #[] #[.pointer (some ⟨w1.heap.size + 2, 0, none⟩)], .slice (some ⟨W3.heap.size + 2, 0, none⟩) ws.length ws.length, undef, undef, undef, undef, undef], defers := [] }) ?assign ?body ?done
    case assign =>
      rintro l x W K hK
      clear hz3
      gi_wp2
      exact hK
    case body =>
      rintro l pre x W hle ⟨r, hr⟩ ⟨hc, hfz, hcp, hB⟩ ⟨hnum, hxl, hxi⟩ hlt
      have HZ3 : Hid (W3.heap.size = w1.heap.size + 3) := hz3
      clear hz3
      have hWl := block_lt_of_cell hc
      have hWl' := block_lt_of_cell hcp
      have HAG := agrees_any w W w1.heap.size ws sh (some ⟨W3.heap.size + 2, 0, none⟩) ws.length x (hcb.below hB) (hB0.trans (hB.mono hB0.size)) HOK.out hxl hxi hnum.row HSW.out
      rw [hxl] at HAG
      have HI : Hid (∀ (X : World) (v : Value), Below W.heap.size W X → X.cell? ⟨w1.heap.size + 1, 0, none⟩ = some v → KeepsFrom W3.heap.size W X ∧ Over (W3.heap.size + 2) W X ∧ X.frozen? ⟨w1.heap.size + 1, 0, none⟩ = false ∧ X.cell? ⟨w1.heap.size + 2, 0, none⟩ = some (.pointer (some ⟨w1.heap.size, 0, none⟩)) ∧ Below w0.heap.size w0 X) :=
        fun X v hX _ => ⟨keepsFrom_below _ hX, Over.of_below hX, (hX.frozen (p := ⟨w1.heap.size + 1, 0, none⟩) hWl).trans hfz, cell_on hX hWl' hcp, hB.trans (hX.mono hB.size)⟩
      gi_wp2_with fail
      refine ⟨trivial, (CallsIn.inRound l (callsIn_wide.2 HAG)).mono ?_⟩
      rintro e w4 ⟨⟨r, rfl, hr4⟩, hb4⟩
      have HR : Hid (r = true ↔ AgW ws x) := hr4
      have hc4 := cell_on hb4 hWl hc
      obtain ⟨k1, k2, hf4, hp4, hB4⟩ := HI.out w4 _ hb4 hc4
      clear hr4 HAG HI hc hfz hcp hB
      cases r with
      | false =>
        have HN : Hid (cntL ws (pre ++ [x]) = cntL ws pre) := cntL_no _ fun h => by have := HR.out.2 h; simp at this
        gi_wp2_with fail
        exact ⟨k1, k2, by rw [HN.out]; exact hc4, hf4, hp4, hB4⟩
      | true =>
        have HN : Hid (cntL ws (pre ++ [x]) = cntL ws pre + 1) := cntL_yes _ (HR.out.1 rfl)
        have hle' := cntL_le ws pre
        have q0 : (0 : Int) ≤ (cntL ws pre : Int) := by omega
        have q1 : (cntL ws pre : Int) < 4096 := by omega
        gi_wp2_with fail
        have hw4l := block_lt_of_cell hc4
        refine ⟨k1.trans ((KeepsOthers.setCell _ _ _).from _), k2.trans (Over.setCell _ _ (by have := HZ3.out; simp; omega) _), ?_, ?_, ?_, ?_⟩
        · rw [HN.out]
          exact World.cell?_setCell_same' _ _ _ (by rw [hc4]; rfl)
        · exact (World.frozen?_setCell _ _ _ _).trans hf4
        · exact (far_set _ _ (by omega)).trans hp4
        · exact hB4.setCell (p := ⟨w1.heap.size + 1, 0, none⟩) (by simp; omega) _
    case done =>
      rintro D xs W hD hS ⟨hc, hfz, hcp, hB⟩ hK
      subst hS
      gi_wp2
      refine ⟨by simp, .inl ⟨_, _, rfl, run_takeDeferred hK, ?_⟩⟩
      refine ⟨.int .i64 (cntL ws (allL ws ws.length []) : Int), ?_, ⟨_, rfl, .inl ⟨HOK.out, cntL_all ws⟩⟩, (hB0.trans (hB.mono hB0.size)).trans (below_putObj _ _ (by have := hB0.size; omega) _)⟩
      simp [results, Try.f23, go_sem]
  · have HN : Hid (CntP ws 0) := .inr ⟨hno, rfl⟩
    clear hno
    gi_wp2_with fail
    refine ⟨.int .i64 0, ?_, ⟨0, rfl, HN.out⟩, b1.alloc b1.size _⟩
    simp [results, Try.f23, go_sem]

end Go.Proofs.Ytpfhegengmlkmac
/- Windows in blocks of the call's own. Walk: toItemSS. -/
namespace Go.Proofs.Ytpfhegengmlkmac
open Go.RowKit Go.BigFrame

theorem PartI.setBelow {w : World} {lo T g k q : Nat} {l : List ItemL} (h : PartI w lo T g l k) (hq : q < lo) (hg : q < g) (i : Nat) (v : Value) : PartI (w.setCell ⟨q, i, none⟩ v) lo T g l k := by
  obtain ⟨G, C, m, f, h, hm, hf, hd⟩ := h
  refine ⟨G, C, m, f, h.of_block (Below.heap_setCell _ _ _ _ (by simp only; omega)), hm, fun j hj hk => ?_, hd⟩
  obtain ⟨h1, h2, h3, h4, h5, h6, h7⟩ := hf j hj hk
  exact ⟨h1, h2, h3, h4.setOther (by omega) _ _, h5, h6, h7⟩
/-- The first 'k' windows of 'ws' lie in block 'g', which has room for all; each window's items lie in blocks of their own, from 'lo' on, one window behind the other, ahead of 'T'. -/
def PartW (w : World) (lo T g : Nat) (ws : List (List ItemL)) (k : Nat) : Prop :=
  ∃ (L U G : Nat → Nat) (f : Nat → Value), w.rowIs g 25 ws.length f ∧
    (∀ j, (h : j < ws.length) → j < k → f j = .slice (some ⟨G j, 0, none⟩) ws[j].length ws[j].length ∧ PartI w (L j) (U j) (G j) ws[j] ws[j].length ∧ lo ≤ L j ∧ L j ≤ G j ∧ G j < U j ∧ U j ≤ T) ∧ ∀ i j, i < j → j < k → U i ≤ L j
theorem PartW.lt {w : World} {lo T g k : Nat} {ws : List (List ItemL)} (h : PartW w lo T g ws k) : g < w.heap.size := by
  obtain ⟨_, _, _, _, h, _⟩ := h
  exact h.lt
theorem PartW.below {w w' : World} {lo T g k : Nat} {ws : List (List ItemL)} (h : PartW w lo T g ws k) (hb : Below w.heap.size w w') : PartW w' lo T g ws k := by
  have hlt := h.lt
  obtain ⟨L, U, G, f, h, hf, hd⟩ := h
  refine ⟨L, U, G, f, h.of_block (hb.block g hlt), fun j hj hk => ?_, hd⟩
  obtain ⟨h1, h2, h3⟩ := hf j hj hk
  exact ⟨h1, h2.below hb, h3⟩
theorem PartW.grow {w : World} {lo T T' g k : Nat} {ws : List (List ItemL)} (h : PartW w lo T g ws k) (hT : T ≤ T') : PartW w lo T' g ws k := by
  obtain ⟨L, U, G, f, h, hf, hd⟩ := h
  refine ⟨L, U, G, f, h, fun j hj hk => ?_, hd⟩
  obtain ⟨h1, h2, h3, h4, h5, h6⟩ := hf j hj hk
  exact ⟨h1, h2, h3, h4, h5, by omega⟩
theorem PartW.made (w : World) (lo : Nat) (ws : List (List ItemL)) (z : Value) : PartW (w.alloc (.cells (madeCells #[z] ws.length) 25)) lo (w.heap.size + 1) w.heap.size ws 0 := by
  refine ⟨fun _ => 0, fun _ => 0, fun _ => 0, fun i => #[z][i % 1]!, ?_, fun j _ h => by omega, fun i j _ h => by omega⟩
  have h := World.rowIs_alloc w (madeCells #[z] ws.length) 25 (fun i => #[z][i % 1]!) (fun i hi => by
    rw [size_madeCells] at hi
    simp [madeCells, hi])
  rwa [size_madeCells] at h
theorem PartW.cell {w : World} {lo T g k : Nat} {ws : List (List ItemL)} (h : PartW w lo T g ws k) {i : Nat} (hi : i < ws.length) : ∃ v, w.cell? ⟨g, i, none⟩ = some v := by
  obtain ⟨_, _, _, f, h, _⟩ := h
  exact ⟨_, h.cell hi⟩
theorem PartW.frozen {w : World} {lo T g k : Nat} {ws : List (List ItemL)} (h : PartW w lo T g ws k) (i : Nat) : w.frozen? ⟨g, i, none⟩ = false := by
  obtain ⟨_, _, _, f, h, _⟩ := h
  exact h.frozen i
theorem PartW.step {w : World} {lo T g k b U' : Nat} {ws : List (List ItemL)} (h : PartW w lo T g ws k) (hk : k < ws.length) (hgl : g < lo) (hT : T ≤ b) (hlo : lo ≤ b) (hU : b < U') (hp : PartI w b U' b ws[k] ws[k].length) :
    PartW (w.setCell ⟨g, k, none⟩ (.slice (some ⟨b, 0, none⟩) ws[k].length ws[k].length)) lo U' g ws (k + 1) := by
  obtain ⟨L, U, G, f, h, hf, hd⟩ := h
  refine ⟨fun j => if j = k then b else L j, fun j => if j = k then U' else U j, fun j => if j = k then b else G j, _, h.set _ _, fun j hj hlt => ?_, fun i j hij hj => ?_⟩
  · by_cases e : j = k
    · subst e
      simp only [if_true]
      exact ⟨by simp, hp.setBelow (by omega) (by omega) _ _, hlo, Nat.le_refl _, hU, Nat.le_refl _⟩
    · obtain ⟨h1, h2, h3, h4, h5, h6⟩ := hf j hj (by omega)
      simp only [if_neg e]
      exact ⟨h1, h2.setBelow (by omega) (by omega) _ _, h3, h4, h5, by omega⟩
  · by_cases e' : j = k
    · subst e'
      have := (hf i (by omega) hij).2.2.2.2.2
      simp only [if_true, if_neg (by omega : ¬ i = j)]
      omega
    · simp only [if_neg e', if_neg (by omega : ¬ i = k)]
      exact hd i j hij (by omega)
theorem PartW.row {w : World} {lo T g : Nat} {ws : List (List ItemL)} (h : PartW w lo T g ws ws.length) : RowW w (some ⟨g, 0, none⟩) ws := fun k hk => by
  obtain ⟨L, U, G, f, h, hf, _⟩ := h
  obtain ⟨h1, h2, _⟩ := hf k hk hk
  exact ⟨g, 0, rfl, h.lt, _, _, by rw [Nat.zero_add, h.cell hk, h1], Nat.le_refl _, h2.row⟩
theorem Try.infoW : (Try.prog.info? 25).map (fun i => (i.zero, i.size, i.bytes)) = some (some (.slice none 0 0), 1, 24) := by kernel_rfl

set_option maxHeartbeats 800000 in
theorem toItemSS_any (a : Option Addr) (cap : Nat) (ws : List (List ItemL)) (w : World) (hl : ws.length ≤ 1048576) (hs : ∀ j, (h : j < ws.length) → ws[j].length ≤ 1048576 ∧ ∀ i, (h' : i < ws[j].length) → ws[j][i].2.length ≤ 1048576) (hr : RowW w a ws) :
    Calls Try.prog 17 #[.slice a ws.length cap] w fun e w' => e = .returned (.slice (some ⟨w.heap.size, 0, none⟩) ws.length ws.length) ∧ PartW w' (w.heap.size + 1) w'.heap.size w.heap.size ws ws.length ∧ Below w.heap.size w w' := by
  obtain ⟨i0, hi, hz0, hz1, hz2⟩ := info_parts Try.infoW
  have hmk : ∀ u : World, (Instr.makeSlice 33 (.int .i64 (ws.length : Int)) (.int .i64 (ws.length : Int))).run Try.prog u =
      .ok (.slice (some ⟨u.heap.size, 0, none⟩) ws.length ws.length) (u.alloc (.cells (madeCells #[.slice none 0 0] ws.length) 25)) := fun u => by
    have h := run_make (P := Try.prog) u 33 25 i0 (.slice none 0 0) Try.underlying33 hi hz0 .i64 .i64 (ws.length : Int) (ws.length : Int) (by omega) (Int.le_refl _) (by rw [hz2]; omega) (by omega)
    simpa [hz1, Value.cells] using h
  go_enter Try.func17, Try.ntmps17
  go_wp2_with fail
  go_loopw [4] (fun i wr => ∃ k : Nat, k ≤ ws.length ∧ i = .int .i64 k ∧ PartW wr (w.heap.size + 1) wr.heap.size w.heap.size ws k ∧ Below w.heap.size w wr) (fun i _ => ws.length - (intOf i).toNat)
  case atStart => exact ⟨0, Nat.zero_le _, rfl, (PartW.made w _ ws _).grow (by simp), (Below.refl _ _).alloc (Nat.le_refl _) _⟩
  case round =>
    obtain ⟨k, hk, rfl, hp, hb⟩ := hrel
    have hzr := hb.size
    have hpl := hp.lt
    by_cases hlt : k < ws.length
    · obtain ⟨b, o, rfl, hblt, s1, t1, c1, _, hrow⟩ := hr.below hb k hlt
      have k0 : (0 : Int) ≤ (k : Int) := by omega
      have k1 : (k : Int) < (ws.length : Int) := by omega
      have hsk := hs k hlt
      go_wp2_with fail
      refine (toItemS_any s1 t1 ws[k] _ hsk.1 hsk.2 hrow).mono ?_
      rintro e w1 ⟨rfl, hpi, b1⟩
      have hp1 := hp.below b1
      have hlt2 := hpi.lt
      obtain ⟨v0, hv0⟩ := hp1.cell (i := k) hlt
      have hf0 := hp1.frozen k
      have B1 : Below w.heap.size w w1 := hb.trans (b1.mono hzr)
      have hstep := hp1.step hlt (by omega) (Nat.le_refl _) (by omega) hlt2 hpi
      go_wp2_with fail
      exact ⟨⟨k + 1, by omega, by go_num, hstep.grow (by simp), B1.setCell (Nat.le_refl _) _⟩, by simp [intOf]; omega⟩
    · obtain rfl : k = ws.length := by omega
      go_wp2_with fail
      go_ret
      exact ⟨rfl, hp, hb⟩

end Go.Proofs.Ytpfhegengmlkmac
/- The walk of the law FnExactChoiceCount. -/
namespace Go.Proofs.Ytpfhegengmlkmac
open Go.RowKit Go.BigFrame
set_option maxRecDepth 100000

theorem small_winsC {ws : List (List ItemL)} (h : SmallW 1048576 ws) : ws.length ≤ 1048576 ∧ ∀ j, (h : j < ws.length) → ws[j].length ≤ 1048576 ∧ ∀ i, (h' : i < ws[j].length) → ws[j][i].2.length ≤ 1048576 :=
  ⟨by have := h.1; omega, fun j hj => ⟨by have := (h.2 j hj).1; omega, fun i hi => by have := ((h.2 j hj).2 i hi).1; omega⟩⟩

set_option maxHeartbeats 1600000 in
theorem lawCC_any (a : Option Addr) (cap : Nat) (ws : List (List ItemL)) (w : World) (hf : FitW ws) (hr : RowW w a ws) :
    Calls Try.prog 5 #[.slice a ws.length cap] w fun e w' => e = .returned (.bool true) ∧ Below w.heap.size w w' := by
  go_enter Try.func5, Try.ntmps5
  go_wp2_with fail
  refine (szItemSS_any a cap ws 1048576 _ hr hf (by omega) (by omega)).mono ?_
  rintro e w1 ⟨r, rfl, hr0, hr1, hr2, hb1⟩
  have HR2 : Hid (0 ≤ r → SmallW 1048576 ws) := hr2
  clear hr2
  by_cases hneg : r < 0
  · go_wp2_with fail
    go_ret
    exact ⟨rfl, hb1⟩
  obtain ⟨hL, hS⟩ := small_winsC (HR2.out (by omega))
  clear HR2
  go_wp2_with fail
  refine (toItemSS_any a cap ws _ hL hS (hr.below hb1)).mono ?_
  rintro e w2 ⟨rfl, hp2, hb2⟩
  have B2 : Below w.heap.size w w2 := hb1.trans (hb2.mono hb1.size)
  clear hb2 hb1
  go_wp2_with fail
  refine (specCC_any _ _ ws _ hf hp2.row).mono ?_
  rintro e w4 ⟨⟨r4, rfl, hr4⟩, hb4⟩
  have HR : Hid (CntP ws r4) := hr4
  have B4 : Below w.heap.size w w4 := B2.trans (hb4.mono B2.size)
  clear hr4 hb4 hp2 B2
  go_wp2_with fail
  refine (toItemSS_any a cap ws _ hL hS (hr.below B4)).mono ?_
  rintro e w5 ⟨rfl, hp5, hb5⟩
  have B5 : Below w.heap.size w w5 := B4.trans (hb5.mono B4.size)
  clear hb5 B4
  go_wp2_with fail
  refine (implCC_any _ _ ws _ hf hp5.row).mono ?_
  rintro e w7 ⟨⟨r7, rfl, hr7⟩, hb7⟩
  obtain rfl : r4 = r7 := HR.out.one hr7
  clear hr7 HR
  have B7 : Below w.heap.size w w7 := B5.trans (hb7.mono B5.size)
  replace hp5 := hp5.below hb7
  clear hb7 B5
  go_wp2_with fail
  refine (toItemSS_any a cap ws _ hL hS (hr.below B7)).mono ?_
  rintro e w8 ⟨rfl, hp8, hb8⟩
  have B8 : Below w.heap.size w w8 := B7.trans (hb8.mono B7.size)
  replace hp5 := hp5.below hb8
  clear hb8 B7
  go_wp2_with fail
  refine (eqItemSS_same _ _ _ _ ws _ hf hp5.row hp8.row).mono ?_
  rintro e w9 ⟨rfl, hb9⟩
  go_wp2_with fail
  go_ret
  exact ⟨rfl, B8.trans (hb9.mono B8.size)⟩

end Go.Proofs.Ytpfhegengmlkmac
