/- Texts of this claim, one behind the other. -/
import Derived.Test.YtpfhegengmlkmaaGreatZJ5
import Derived.Test.YtpfhegengmlkmaaGreatZJ7
import Derived.Test.YtpfhegengmlkmaaGreatZJ10
import Derived.Test.YtpfhegengmlkmaaGreatZJ22
import Derived.Test.YtpfhegengmlkmaaGreatZJ28
namespace Go.Proofs.YtpfhegengmlkmaaGreat
open Go.RowKit Go.BigFrame
set_option maxRecDepth 100000

theorem Tryz.infoV : (Tryz.prog.info? 69).map (fun i => (i.zero, i.size, i.bytes)) = some (some (.agg zero10), 10, 144) := by kernel_rfl
theorem block_new (w : World) (cs : Array Value) (t : TypeId) : ∀ j u, cs.toList[j]? = some u → (w.alloc (.cells cs t)).cell? ((⟨w.heap.size, 0, none⟩ : Addr).add j) = some u := by
  intro j u hj
  have e : (⟨w.heap.size, 0, none⟩ : Addr).add j = ⟨w.heap.size, j, none⟩ := by unfold Addr.add; split <;> simp_all
  rw [e, World.cell?_alloc_new]
  simpa using hj

/-- What readChoices answers. -/
def ChoE (w w' : World) (ws : List (List ItemL)) (e : Ending) : Prop := (∃ a1 c1 a2 c2 sh, e = .returned (.tuple #[.agg #[.slice a1 ws.length c1, .slice a2 sh.length c2], .bool true]) ∧ OkW ws ∧ ws.length ≤ c1 ∧ sh.length ≤ c2 ∧ RowV w w' a1 ws ∧ RowG w' a2 sh ∧ ShW ws sh) ∨ (e = .returned (.tuple #[.agg #[.slice none 0 0, .slice none 0 0], .bool false]) ∧ ¬ OkW ws)
/-- Two cells of a block of the call's own. -/
def Two (w : World) (b : Nat) (x y : Value) : Prop := w.cell? ⟨b, 0, none⟩ = some x ∧ w.cell? ⟨b, 1, none⟩ = some y ∧ w.frozen? ⟨b, 0, none⟩ = false ∧ w.frozen? ⟨b, 1, none⟩ = false
theorem Two.keep {w w' : World} {b : Nat} {x y : Value} (h : Two w b x y) (hb : Below w.heap.size w w') : Two w' b x y := by
  have hlt := block_lt_of_cell h.1
  exact ⟨cell_on hb hlt h.1, cell_on hb hlt h.2.1, (hb.frozen (p := ⟨b, 0, none⟩) hlt).trans h.2.2.1, (hb.frozen (p := ⟨b, 1, none⟩) hlt).trans h.2.2.2⟩

theorem Two.grown {w w' : World} {b : Nat} {x y : Value} {r : Option Nat} (h : Two w b x y) (hg : w.grownBy w' r) (hne : some b ≠ r) : Two w' b x y := by
  have hlt := block_lt_of_cell h.1
  exact ⟨grown_cell hg hne h.1, grown_cell hg hne h.2.1, (hg.frozen_far ⟨b, 0, none⟩ hlt hne).trans h.2.2.1, (hg.frozen_far ⟨b, 1, none⟩ hlt hne).trans h.2.2.2⟩
theorem Two.set0 {w : World} {b : Nat} {x y : Value} (h : Two w b x y) (z : Value) : Two (w.setCell ⟨b, 0, none⟩ z) b z y := by
  obtain ⟨h0, h1, h2, h3⟩ := h
  exact ⟨by simp [go_sem, h0], by simp [go_sem, h1], by simp [go_sem, h2], by simp [go_sem, h3]⟩
theorem Two.far {w : World} {b q : Nat} {x y : Value} (h : Two w b x y) (hq : b ≠ q) (i : Nat) (z : Value) : Two (w.setCell ⟨q, i, none⟩ z) b x y := by
  obtain ⟨h0, h1, h2, h3⟩ := h
  exact ⟨by rw [set_far _ _ _ _ hq]; exact h0, by rw [set_far _ _ _ _ hq]; exact h1, by simp [go_sem, h2], by simp [go_sem, h3]⟩

theorem own_far {w : World} {B e size n q : Nat} {v : Value} {xs : List Value} (h : w.ownsRow B e size v n xs) (hq : q < B) (i : Nat) (z : Value) : (w.setCell ⟨q, i, none⟩ z).ownsRow B e size v n xs := by
  obtain ⟨hl, h | ⟨g, cap, cur, hv, hgB, hh, r⟩⟩ := h
  · exact ⟨hl, .inl h⟩
  · exact ⟨hl, .inr ⟨g, cap, cur, hv, hgB, (Below.heap_setCell _ _ _ _ (by simp only; omega)).trans hh, r⟩⟩

theorem GathW.far {W0 w : World} {B q : Nat} {v : Value} {L : List (List ItemL × List Value)} (h : GathW W0 w B v L) (hq : q < B) (i : Nat) (z : Value) : GathW W0 (w.setCell ⟨q, i, none⟩ z) B v L := ⟨own_far h.1 hq i z, h.2⟩
theorem GathG.far {w : World} {B q : Nat} {v : Value} {L : List (List Spot × Value)} (h : GathG w B v L) (hq : q < B) (i : Nat) (z : Value) : GathG (w.setCell ⟨q, i, none⟩ z) B v L := ⟨own_far h.1 hq i z, fun p hp => own_far (h.2 p hp) hq i z⟩

set_option maxHeartbeats 3200000 in
theorem readChoices_any (a : Option Addr) (cap : Nat) (ws : List (List ItemL)) (w : World) (hf : FitW ws) (hr : RowW w a ws) :
    Calls Tryz.prog 21 #[.slice a ws.length cap] w fun e w' => ChoE w w' ws e ∧ Below w.heap.size w w' := by
  have hl := hf.1
  unfold maxLen at hl
  obtain ⟨i0, hi, hy0, hy1, hy2⟩ := info_parts Tryz.infoV
  by_cases h1 : ws.length < 1
  · go_enter Tryz.func21, Tryz.ntmps21
    go_wp2_with fail
    exact bodyPost_ret (v := .tuple #[.agg #[.slice none 0 0, .slice none 0 0], .bool false]) (by simp [results, Tryz.results21, go_sem]) rfl ⟨.inr ⟨rfl, fun h => by have := h.1; omega⟩, ((Below.refl _ _).alloc (Nat.le_refl _) _).alloc (by simp) _⟩
  by_cases h6 : 6 < ws.length
  · go_enter Tryz.func21, Tryz.ntmps21
    go_wp2_with fail
    exact bodyPost_ret (v := .tuple #[.agg #[.slice none 0 0, .slice none 0 0], .bool false]) (by simp [results, Tryz.results21, go_sem]) rfl ⟨.inr ⟨rfl, fun h => by have := h.2.1; omega⟩, ((Below.refl _ _).alloc (Nat.le_refl _) _).alloc (by simp) _⟩
  have B0 : Below w.heap.size w ((w.alloc (.cells #[.slice none 0 0, .slice none 0 0] 52)).alloc (.cells #[.slice none 0 0, .slice none 0 0] 52)) := ((Below.refl _ _).alloc (Nat.le_refl _) _).alloc (by simp) _
  have T0 : Two ((w.alloc (.cells #[.slice none 0 0, .slice none 0 0] 52)).alloc (.cells #[.slice none 0 0, .slice none 0 0] 52)) w.heap.size (.slice none 0 0) (.slice none 0 0) := ⟨by simp [go_sem], by simp [go_sem], by simp [go_sem], by simp [go_sem]⟩
  have T1 : Two ((w.alloc (.cells #[.slice none 0 0, .slice none 0 0] 52)).alloc (.cells #[.slice none 0 0, .slice none 0 0] 52)) (w.heap.size + 1) (.slice none 0 0) (.slice none 0 0) := ⟨by simp [go_sem], by simp [go_sem], by simp [go_sem], by simp [go_sem]⟩
  have hsz : w.heap.size + 2 ≤ ((w.alloc (.cells #[.slice none 0 0, .slice none 0 0] 52)).alloc (.cells #[.slice none 0 0, .slice none 0 0] 52)).heap.size := by simp
  go_enter Tryz.func21, Tryz.ntmps21
  go_wp2_with fail
  go_loopw [20] (fun i wr => ∃ (k : Nat) (L : List (List ItemL × List Value)) (v : Value), k ≤ ws.length ∧ i = .int .i64 k ∧ L.length = k ∧ Hid (L.map (·.1) = ws.take k) ∧ GathW w wr (w.heap.size + 2) v L ∧ Two wr w.heap.size (.slice none 0 0) (.slice none 0 0) ∧ Two wr (w.heap.size + 1) v (.slice none 0 0) ∧ Hid (∀ j, (h : j < ws.length) → j < k → WinP ws[j]) ∧ w.heap.size + 2 ≤ wr.heap.size ∧ Below w.heap.size w wr) (fun i _ => ws.length - (intOf i).toNat)
  case atStart => exact ⟨0, [], _, Nat.zero_le _, rfl, rfl, by simp [Hid], ⟨World.ownsRow_nil _ _ _ _, by simp⟩, T0, T1, fun _ _ h => absurd h (Nat.not_lt_zero _), hsz, B0⟩
  case round =>
    clear B0 T0 T1 hsz
    obtain ⟨k, L, v, hk, rfl, hLk, HLT, hL, T0, T1, HI, hsz, hbl⟩ := hrel
    by_cases hlt : k < ws.length
    · obtain ⟨b1, o1, rfl, g1, s1, t1, f1, hc1, q1⟩ := hr k hlt
      have f1' := cell_on hbl g1 f1
      have k0 : (0 : Int) ≤ (k : Int) := by omega
      have k1 : (k : Int) < (ws.length : Int) := by omega
      obtain ⟨fy0, fy1, fy2, fy3⟩ := id T1
      go_wp2_with fail
      refine (readWindow_from w s1 t1 ws[k] _ (hf.2 k hlt) q1 hbl).mono ?_
      rintro e w1 ⟨hE, b1'⟩
      have B1 : Below w.heap.size w w1 := hbl.trans (b1'.mono hbl.size)
      replace T0 := T0.keep b1'
      replace T1 := T1.keep b1'
      replace hL := hL.keep b1'
      have z1 := b1'.size
      rcases hE with ⟨vv, rfl, hp, hv⟩ | ⟨vv, rfl, hp, hv⟩
      · have HP : Hid (WinP ws[k]) := hp
        clear hp
        obtain ⟨x0, x1, x2, x3, a0, a1, a2, a3, n0, n1, n2, n3, c0, c1, c2, c3, rfl, hwc⟩ := hv.cells
        have hbw : Below w1.heap.size w1 (w1.alloc (.cells #[.int .i64 x0, .slice a0 n0 c0, .int .i64 x1, .slice a1 n1 c1, .int .i64 x2, .slice a2 n2 c2, .int .i64 x3, .slice a3 n3 c3, .int .i64 0, .int .i64 ws[k].length] 69)) := (Below.refl _ _).alloc (Nat.le_refl _) _
        have T1w := T1.keep hbw
        obtain ⟨u0, u1, u2, u3⟩ := T1w
        have hbx : Below w1.heap.size w1 ((w1.alloc (.cells #[.int .i64 x0, .slice a0 n0 c0, .int .i64 x1, .slice a1 n1 c1, .int .i64 x2, .slice a2 n2 c2, .int .i64 x3, .slice a3 n3 c3, .int .i64 0, .int .i64 ws[k].length] 69)).alloc (.cells #[.int .i64 x0, .slice a0 n0 c0, .int .i64 x1, .slice a1 n1 c1, .int .i64 x2, .slice a2 n2 c2, .int .i64 x3, .slice a3 n3 c3, .int .i64 0, .int .i64 ws[k].length] 69)) := hbw.alloc hbw.size _
        have hL2 := hL.keep hbx
        have T02 := T0.keep hbx
        have T12 := T1.keep hbx
        have hfar0 : some w.heap.size ≠ v.ownBlock := fun e => by have := own_from hL.1 _ e.symm; omega
        have hfar1 : some (w.heap.size + 1) ≠ v.ownBlock := fun e => by have := own_from hL.1 _ e.symm; omega
        have hzz : w.heap.size + 2 ≤ ((w1.alloc (.cells #[.int .i64 x0, .slice a0 n0 c0, .int .i64 x1, .slice a1 n1 c1, .int .i64 x2, .slice a2 n2 c2, .int .i64 x3, .slice a3 n3 c3, .int .i64 0, .int .i64 ws[k].length] 69)).alloc (.cells #[.int .i64 x0, .slice a0 n0 c0, .int .i64 x1, .slice a1 n1 c1, .int .i64 x2, .slice a2 n2 c2, .int .i64 x3, .slice a3 n3 c3, .int .i64 0, .int .i64 ws[k].length] 69)).heap.size := by simp; omega
        clear hv
        go_wp2_with (first | (at_builtin; refine Hid.out ?_))
        unfold Hid
        refine wpList_append_lies _ rfl _ _ 49 rfl (w.heap.size + 2) 69 i0 (.agg zero10) 10 144 Tryz.underlying49 hi hy0 hy1 hy2 rfl (by decide) _ L.length (vcells L) rfl hL2.1 ⟨w1.heap.size + 1, 0, none⟩ 1 1 #[.int .i64 x0, .slice a0 n0 c0, .int .i64 x1, .slice a1 n1 c1, .int .i64 x2, .slice a2 n2 c2, .int .i64 x3, .slice a3 n3 c3, .int .i64 0, .int .i64 ws[k].length].toList rfl rfl (by have h := block_new (w1.alloc (.cells #[.int .i64 x0, .slice a0 n0 c0, .int .i64 x1, .slice a1 n1 c1, .int .i64 x2, .slice a2 n2 c2, .int .i64 x3, .slice a3 n3 c3, .int .i64 0, .int .i64 ws[k].length] 69)) #[.int .i64 x0, .slice a0 n0 c0, .int .i64 x1, .slice a1 n1 c1, .int .i64 x2, .slice a2 n2 c2, .int .i64 x3, .slice a3 n3 c3, .int .i64 0, .int .i64 ws[k].length] 69; rw [World.size_alloc] at h; exact h) (by simp [Value.oneCell']) (by decide) (by unfold maxLen; omega) (by omega) hzz _ rfl ?_
        intro g' cap' w5 hown' hgrow _ hloc
        have T15 := T12.grown hgrow hfar1
        have T05 := T02.grown hgrow hfar0
        have p0 := T15.1
        have p1 := T15.2.2.1
        go_wp2_with fail
        have BX : Below w.heap.size w ((w1.alloc (.cells #[.int .i64 x0, .slice a0 n0 c0, .int .i64 x1, .slice a1 n1 c1, .int .i64 x2, .slice a2 n2 c2, .int .i64 x3, .slice a3 n3 c3, .int .i64 0, .int .i64 ws[k].length] 69)).alloc (.cells #[.int .i64 x0, .slice a0 n0 c0, .int .i64 x1, .slice a1 n1 c1, .int .i64 x2, .slice a2 n2 c2, .int .i64 x3, .slice a3 n3 c3, .int .i64 0, .int .i64 ws[k].length] 69)) := B1.trans (hbx.mono B1.size)
        have B5 := BX.grown hgrow BX.size (fun q hq => by have := own_from hL.1 q hq; omega)
        rw [hLk] at hown'
        have HT : Hid (ws.take (k + 1) = ws.take k ++ [ws[k]]) := List.take_succ_eq_append_getElem hlt
        have HST : Hid (∀ j, (h : j < ws.length) → j < k + 1 → WinP ws[j]) := win_step HI.out hlt HP.out
        have hG5 := hL2.snoc hwc (by rw [hLk]; exact hown')
        have z5 := hgrow.size
        exact ⟨⟨k + 1, _, _, by omega, by go_num, by simp [hLk], by rw [HT.out, List.map_append, HLT.out]; rfl, ⟨own_far hG5.1 (by omega) _ _, hG5.2⟩, T05.far (by omega) _ _, T15.set0 _, HST, by simp only [World.size_setCell]; omega, B5.setCell (by simp only; omega) _⟩, by simp [intOf]; omega⟩
      · have HN : Hid (¬ OkW ws) := fun h => hp (h.2.2 k hlt)
        clear hp
        obtain ⟨x0, x1, x2, x3, a0, a1, a2, a3, n0, n1, n2, n3, c0, c1, c2, c3, rfl, _⟩ := hv.laid
        have hbw : Below w1.heap.size w1 (w1.alloc (.cells #[.int .i64 x0, .slice a0 n0 c0, .int .i64 x1, .slice a1 n1 c1, .int .i64 x2, .slice a2 n2 c2, .int .i64 x3, .slice a3 n3 c3, .int .i64 0, .int .i64 0] 69)) := (Below.refl _ _).alloc (Nat.le_refl _) _
        have T0w := T0.keep hbw
        obtain ⟨u0, u1, u2, u3⟩ := T0w
        have BW := B1.trans (hbw.mono B1.size)
        go_wp2_with fail
        generalize w1.alloc (.cells #[.int .i64 x0, .slice a0 n0 c0, .int .i64 x1, .slice a1 n1 c1, .int .i64 x2, .slice a2 n2 c2, .int .i64 x3, .slice a3 n3 c3, .int .i64 0, .int .i64 0] 69) = WX at *
        have e0 : ((WX.setCell ⟨w.heap.size, 0, none⟩ (.slice none 0 0)).setCell ⟨w.heap.size, 1, none⟩ (.slice none 0 0)).cell? ⟨w.heap.size, 0, none⟩ = some (.slice none 0 0) := by simp [go_sem, u0]
        have e1 : ((WX.setCell ⟨w.heap.size, 0, none⟩ (.slice none 0 0)).setCell ⟨w.heap.size, 1, none⟩ (.slice none 0 0)).cell? ⟨w.heap.size, 1, none⟩ = some (.slice none 0 0) := by simp [go_sem, u1]
        exact bodyPost_ret (v := .tuple #[.agg #[.slice none 0 0, .slice none 0 0], .bool false]) (by simp [results, Tryz.results21, go_sem, e0, e1]) rfl ⟨.inr ⟨rfl, HN.out⟩, (BW.setCell (Nat.le_refl _) _).setCell (Nat.le_refl _) _⟩
    · obtain ⟨va, vc, rfl, hvc, hrow⟩ := hL.row
      have HOK : Hid (OkW ws) := ⟨by omega, by omega, fun j hj => HI.out j hj (by omega)⟩
      have hLw : L.length = ws.length := by omega
      replace HLT : Hid (L.map (·.1) = ws) := by unfold Hid; rw [HLT.out, List.take_of_length_le (by omega)]
      rw [HLT.out] at hrow
      rw [hLw] at hvc T1 hL
      obtain ⟨u0, u1, u2, u3⟩ := id T1
      clear HI
      go_wp2_with fail
      refine (sharedSpots_any w wr va vc ws hrow hbl HOK.out).mono ?_
      rintro e w1 ⟨⟨vs, M, rfl, hM, hsw⟩, b1⟩
      obtain ⟨sa, sc, rfl, hsc, _⟩ := hM.row
      have HSW : Hid (ShW ws (M.map (·.1))) := hsw
      clear hsw
      have B1 : Below w.heap.size w w1 := hbl.trans (b1.mono hbl.size)
      have hL1 := hL.keep b1
      have T01 := T0.keep b1
      have T11 := T1.keep b1
      have z1 := b1.size
      clear u0 u1 u2 u3 hrow T0 T1
      obtain ⟨u0, u1, u2, u3⟩ := id T11
      obtain ⟨y0, y1, y2, y3⟩ := id T01
      go_wp2_with fail
      have hLf := ((hL1.far (q := w.heap.size + 1) (by omega) 1 (.slice sa M.length sc)).far (q := w.heap.size) (by omega) 0 (.slice va ws.length vc)).far (q := w.heap.size) (by omega) 1 (.slice sa M.length sc)
      have hMf := ((hM.far (q := w.heap.size + 1) (by omega) 1 (.slice sa M.length sc)).far (q := w.heap.size) (by omega) 0 (.slice va ws.length vc)).far (q := w.heap.size) (by omega) 1 (.slice sa M.length sc)
      have BF := ((B1.setCell (p := ⟨w.heap.size + 1, 1, none⟩) (by simp only; omega) (.slice sa M.length sc)).setCell (p := ⟨w.heap.size, 0, none⟩) (Nat.le_refl _) (.slice va ws.length vc)).setCell (p := ⟨w.heap.size, 1, none⟩) (Nat.le_refl _) (.slice sa M.length sc)
      have e0 : (((w1.setCell ⟨w.heap.size + 1, 1, none⟩ (.slice sa M.length sc)).setCell ⟨w.heap.size, 0, none⟩ (.slice va ws.length vc)).setCell ⟨w.heap.size, 1, none⟩ (.slice sa M.length sc)).cell? ⟨w.heap.size, 0, none⟩ = some (.slice va ws.length vc) := by simp [go_sem, y0]
      have e1 : (((w1.setCell ⟨w.heap.size + 1, 1, none⟩ (.slice sa M.length sc)).setCell ⟨w.heap.size, 0, none⟩ (.slice va ws.length vc)).setCell ⟨w.heap.size, 1, none⟩ (.slice sa M.length sc)).cell? ⟨w.heap.size, 1, none⟩ = some (.slice sa M.length sc) := by simp [go_sem, y1]
      generalize ((w1.setCell ⟨w.heap.size + 1, 1, none⟩ (.slice sa M.length sc)).setCell ⟨w.heap.size, 0, none⟩ (.slice va ws.length vc)).setCell ⟨w.heap.size, 1, none⟩ (.slice sa M.length sc) = WF at *
      obtain ⟨a8, c8, q8, _, r8⟩ := hLf.row
      obtain ⟨a9, c9, q9, _, r9⟩ := hMf.row
      rw [hLw] at q8
      cases q8
      cases q9
      rw [HLT.out] at r8
      exact bodyPost_ret (v := .tuple #[.agg #[.slice va ws.length vc, .slice sa M.length sc], .bool true]) (by simp [results, Tryz.results21, go_sem, e0, e1]) rfl ⟨.inl ⟨va, vc, sa, sc, M.map (·.1), by simp, HOK.out, hvc, by rw [List.length_map]; exact hsc, r8, r9, HSW.out⟩, BF⟩

end Go.Proofs.YtpfhegengmlkmaaGreat

namespace Go.Proofs.YtpfhegengmlkmaaGreat
open Go.RowKit Go.BigFrame
set_option maxRecDepth 100000

theorem chB_new {W0 w : World} {a1 a2 : Option Addr} {c1 c2 : Nat} {ws : List (List ItemL)} {sh : List (List Spot)} (hv : RowV W0 w a1 ws) (hg : RowG w a2 sh) (h1 : ws.length ≤ c1) (h2 : sh.length ≤ c2) : ChB W0 (w.alloc (.cells #[.slice a1 ws.length c1, .slice a2 sh.length c2] 52)) w.heap.size ws sh :=
  have hb : Below w.heap.size w (w.alloc (.cells #[.slice a1 ws.length c1, .slice a2 sh.length c2] 52)) := (Below.refl _ _).alloc (Nat.le_refl _) _
  ⟨box_lt _ _, a1, c1, a2, c2, box0 _ _ _ _, h1, box1 _ _ _ _, h2, hv.below hb, hg.below hb⟩

end Go.Proofs.YtpfhegengmlkmaaGreat

namespace Go.Proofs.YtpfhegengmlkmaaGreat
open Go.RowKit Go.BigFrame
set_option maxRecDepth 100000

theorem GathN.snoc {w : World} {B : Nat} {v : Value} {l : List Int} {x : Int} (h : w.ownsRow B 3 1 v (l.length + 1) ((l.map fun y => .int .i64 y) ++ [.int .i64 x])) : GathN w B v (l ++ [x]) := by
  unfold GathN
  rw [List.length_append, List.map_append]
  exact h

end Go.Proofs.YtpfhegengmlkmaaGreat

namespace Go.Proofs.YtpfhegengmlkmaaGreat
open Go.RowKit Go.BigFrame

set_option maxHeartbeats 1600000 in
theorem specJoin_any (aa ab : Option Addr) (ca cb : Nat) (la lb : List (ByteArray × Int)) (w : World) (hla : la.length ≤ maxLen) (hlb : lb.length ≤ maxLen) (ha : Row w aa la) (hb : Row w ab lb)
    (hsa : ∀ j, (h : j < la.length) → la[j].1.size ≤ maxLen) (hsb : ∀ j, (h : j < lb.length) → lb[j].1.size ≤ maxLen) :
    Calls Tryz.prog 32 #[.slice aa la.length ca, .slice ab lb.length cb] w fun e w' => (∃ v m ok, e = .returned (.tuple #[v, .bool ok]) ∧ Gath w' w.heap.size v m ∧ IsJ la lb m ok) ∧ Below w.heap.size w w' := by
  go_enter Tryz.func32, Tryz.ntmps32
  go_wp2_with fail
  refine (specOk_b aa ca la _ hla ha hsa).mono ?_
  rintro e w1 ⟨⟨r, rfl, hr1⟩, hb1⟩
  cases r
  · have hn : ¬ StampP la := fun h => by simpa using hr1.2 h
    clear hr1
    go_wp2_with fail
    exact bodyPost_ret (v := .tuple #[.slice none 0 0, .bool false]) (by simp [results, Tryz.results32, go_sem]) rfl ⟨⟨_, [], false, rfl, Gath.none _ _, .inl ⟨fun h => hn h.1, rfl, rfl⟩⟩, hb1⟩
  have hya : StampP la := hr1.1 rfl
  clear hr1
  go_wp2_with fail
  refine (specOk_b ab cb lb _ hlb (hb.below hb1) hsb).mono ?_
  rintro e w2 ⟨⟨r, rfl, hr2⟩, hb2⟩
  have hb12 : Below w.heap.size w w2 := hb1.trans (hb2.mono hb1.size)
  cases r
  · have hn : ¬ StampP lb := fun h => by simpa using hr2.2 h
    clear hr2
    go_wp2_with fail
    exact bodyPost_ret (v := .tuple #[.slice none 0 0, .bool false]) (by simp [results, Tryz.results32, go_sem]) rfl ⟨⟨_, [], false, rfl, Gath.none _ _, .inl ⟨fun h => hn h.2, rfl, rfl⟩⟩, hb12⟩
  have hyb : StampP lb := hr2.1 rfl
  clear hr2
  have sa := stamp_sorted hya
  have sb := stamp_sorted hyb
  have la12 := hya.1
  have lb12 := hyb.1
  go_wp2_with fail
  go_loopw [6, 7] (fun out i wr => ∃ k : Nat, k ≤ la.length ∧ i = .int .i64 k ∧ Gath wr w.heap.size out (la.take k) ∧ Below w.heap.size w wr) (fun _ i _ => la.length - (intOf i).toNat)
  case atStart => exact ⟨0, Nat.zero_le _, rfl, Gath.none _ _, hb12⟩
  case round =>
    obtain ⟨k, hk, rfl, hg, hbl⟩ := hrel
    by_cases hlt : k < la.length
    · obtain ⟨b, ob, rfl, hblt, c0, c1⟩ := ha k hlt
      have e0 := cell_on hbl hblt c0
      have e1 := cell_on hbl hblt c1
      obtain ⟨ag, capg, rfl, hrow⟩ := hg.shape
      have hk1 : (la.take k).length ≤ 1048576 := by rw [List.length_take]; omega
      have HS := setR_snoc (take_low sa hlt)
      rw [← List.take_succ_eq_append_getElem hlt] at HS
      have HS' : Hid _ := HS
      clear HS
      generalize la.take k = o at *
      go_wp2_with (go_at_call 56; refine (l1Set_any _ _ o la[k] _ hk1 hrow).mono ?_; rintro e w3 ⟨⟨v, rfl, hg3⟩, hb3⟩)
      exact ⟨⟨k + 1, by omega, by go_num, by rw [← HS'.out]; exact hg3.lower hbl.size, hbl.trans (hb3.mono hbl.size)⟩, by simp [intOf]; omega⟩
    · have hg' : Gath wr w.heap.size u6 la := by rw [List.take_of_length_le (by omega)] at hg; exact hg
      clear hg
      go_wp2_with fail
      go_loopw [6, 8] (fun out i wr => ∃ (k : Nat) (o : List (ByteArray × Int)), k ≤ lb.length ∧ i = .int .i64 k ∧ Gath wr w.heap.size out o ∧ o.length ≤ la.length + k ∧ JoinOf la (lb.take k) o ∧ Below w.heap.size w wr) (fun _ i _ => lb.length - (intOf i).toNat)
      case atStart => exact ⟨0, la, Nat.zero_le _, rfl, hg', by omega, joinOf_start sa, hbl⟩
      case round =>
        obtain ⟨k, o, hk, rfl, hg, hol, hj, hbl⟩ := hrel
        by_cases hlt : k < lb.length
        · obtain ⟨b, ob, rfl, hblt, c0, c1⟩ := hb k hlt
          have e0 := cell_on hbl hblt c0
          have e1 := cell_on hbl hblt c1
          have g1 : b < wr.heap.size := Nat.lt_of_lt_of_le hblt hbl.size
          obtain ⟨ag, capg, rfl, hrow⟩ := hg.shape
          have HRB : Hid (∀ n : Lat wr, Row n.w ag o) := fun n => hrow.below n.h
          by_cases hc : getM o lb[k].1 < lb[k].2
          · have HJ : Hid _ := joinOf_set sb hlt hj hc
            have HL := setR_length (m := lb[k]) (l := o)
            go_wp2_with fail
            refine wp_region_lat (by kernel_rfl) (by kernel_rfl) ?_
            have hne := Lat.some wr
            have q0 : ∀ n : Lat wr, n.w.cell? ⟨b, ob + k * 2, none⟩ = some (.string lb[k].1) := fun n => n.cell g1 e0
            have q1 : ∀ n : Lat wr, n.w.cell? ⟨b, ob + k * 2 + 1, none⟩ = some (.int .i64 lb[k].2) := fun n => n.cell g1 e1
            repeat (go_big_quiet_step ((go_at_call 57; exact Calls.lat_same (l1Get_any _ _ o _ _ (by unfold maxLen; omega) (HRB.out _)))))
            refine wpQuiet_nil ?_
            rintro _ ⟨nq, rfl⟩
            have e0 := q0 nq
            have e1 := q1 nq
            have B3 := hbl.trans (nq.h.mono hbl.size)
            go_wp2_with (go_at_call 56; refine (l1Set_any _ _ o lb[k] _ (by omega) (HRB.out nq)).mono ?_; rintro e w3 ⟨⟨v, rfl, hg3⟩, hb3⟩)
            exact ⟨⟨k + 1, _, by omega, by go_num, hg3.lower B3.size, by omega, HJ.out, B3.trans (hb3.mono B3.size)⟩, by simp [intOf]; omega⟩
          · have HJ : Hid _ := joinOf_keep sb hlt hj hc
            go_wp2_with fail
            refine wp_region_lat (by kernel_rfl) (by kernel_rfl) ?_
            have hne := Lat.some wr
            have q0 : ∀ n : Lat wr, n.w.cell? ⟨b, ob + k * 2, none⟩ = some (.string lb[k].1) := fun n => n.cell g1 e0
            have q1 : ∀ n : Lat wr, n.w.cell? ⟨b, ob + k * 2 + 1, none⟩ = some (.int .i64 lb[k].2) := fun n => n.cell g1 e1
            repeat (go_big_quiet_step ((go_at_call 57; exact Calls.lat_same (l1Get_any _ _ o _ _ (by unfold maxLen; omega) (HRB.out _)))))
            refine wpQuiet_nil ?_
            rintro _ ⟨nq, rfl⟩
            go_wp2_with fail
            exact ⟨⟨k + 1, o, by omega, by go_num, hg.keep nq.h, by omega, HJ.out, hbl.trans (nq.h.mono hbl.size)⟩, by simp [intOf]; omega⟩
        · have hj' : JoinOf la lb o := by rw [List.take_of_length_le (by omega)] at hj; exact hj
          have HJ : Hid (JoinOf la lb o) := hj'
          clear hj hj'
          obtain ⟨ag, capg, rfl, hrow⟩ := hg.shape
          by_cases h12 : 12 < o.length
          · go_wp2_with fail
            exact bodyPost_ret (v := .tuple #[.slice none 0 0, .bool false]) (by simp [results, Tryz.results32, go_sem]) rfl ⟨⟨_, [], false, rfl, Gath.none _ _, .inr ⟨hya, hyb, o, HJ.out, .inr ⟨h12, rfl, rfl⟩⟩⟩, hbl⟩
          · go_wp2_with fail
            exact bodyPost_ret (v := .tuple #[.slice ag o.length capg, .bool true]) (by simp [results, Tryz.results32, go_sem]) rfl ⟨⟨_, o, true, rfl, hg, .inr ⟨hya, hyb, o, HJ.out, .inl ⟨by omega, rfl, rfl⟩⟩⟩, hbl⟩

end Go.Proofs.YtpfhegengmlkmaaGreat
