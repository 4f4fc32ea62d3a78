/- Texts of this claim, one behind the other. -/
import Derived.Test.YtpfhegengmlkmacChK
import Derived.Test.YtpfhegengmlkmacWinR
import Derived.Test.YtpfhegengmlkmacGath
import Derived.ArgAppend
import Derived.Laws.OwnMore
import Derived.Test.YtpfhegengmlkmacSide
import Derived.Test.YtpfhegengmlkmacAgreeI
import Derived.Test.YtpfhegengmlkmacJoinM
import Derived.Test.YtpfhegengmlkmacClone
import Derived.Test.YtpfhegengmlkmacCJs
import Derived.Test.YtpfhegengmlkmacWa
import Derived.Test.YtpfhegengmlkmacItB
import Derived.Test.YtpfhegengmlkmacLat
import Derived.Test.YtpfhegengmlkmacChS
/- Walk: readChoices. -/
namespace Go.Proofs.Ytpfhegengmlkmac
open Go.RowKit Go.BigFrame
set_option maxRecDepth 100000

theorem Try.infoV : (Try.prog.info? 80).map (fun i => (i.zero, i.size, i.bytes)) = some (some (.agg zero10), 10, 144) := by kernel_rfl
theorem block_new (w : World) (cs : Array Value) (t : TypeId) : ∀ j u, cs.toList[j]? = some u → (w.alloc (.cells cs t)).cell? ((⟨w.heap.size, 0, none⟩ : Addr).add j) = some u := by
  intro j u hj
  have e : (⟨w.heap.size, 0, none⟩ : Addr).add j = ⟨w.heap.size, j, none⟩ := by unfold Addr.add; split <;> simp_all
  rw [e, World.cell?_alloc_new]
  simpa using hj

/-- What readChoices answers. -/
def ChoE (w w' : World) (ws : List (List ItemL)) (e : Ending) : Prop := (∃ a1 c1 a2 c2 sh, e = .returned (.tuple #[.agg #[.slice a1 ws.length c1, .slice a2 sh.length c2], .bool true]) ∧ OkW ws ∧ ws.length ≤ c1 ∧ sh.length ≤ c2 ∧ RowV w w' a1 ws ∧ RowG w' a2 sh ∧ ShW ws sh) ∨ (e = .returned (.tuple #[.agg #[.slice none 0 0, .slice none 0 0], .bool false]) ∧ ¬ OkW ws)
/-- Two cells of a block of the call's own. -/
def Two (w : World) (b : Nat) (x y : Value) : Prop := w.cell? ⟨b, 0, none⟩ = some x ∧ w.cell? ⟨b, 1, none⟩ = some y ∧ w.frozen? ⟨b, 0, none⟩ = false ∧ w.frozen? ⟨b, 1, none⟩ = false
theorem Two.keep {w w' : World} {b : Nat} {x y : Value} (h : Two w b x y) (hb : Below w.heap.size w w') : Two w' b x y := by
  have hlt := block_lt_of_cell h.1
  exact ⟨cell_on hb hlt h.1, cell_on hb hlt h.2.1, (hb.frozen (p := ⟨b, 0, none⟩) hlt).trans h.2.2.1, (hb.frozen (p := ⟨b, 1, none⟩) hlt).trans h.2.2.2⟩

theorem Two.grown {w w' : World} {b : Nat} {x y : Value} {r : Option Nat} (h : Two w b x y) (hg : w.grownBy w' r) (hne : some b ≠ r) : Two w' b x y := by
  have hlt := block_lt_of_cell h.1
  exact ⟨grown_cell hg hne h.1, grown_cell hg hne h.2.1, (hg.frozen_far ⟨b, 0, none⟩ hlt hne).trans h.2.2.1, (hg.frozen_far ⟨b, 1, none⟩ hlt hne).trans h.2.2.2⟩
theorem Two.set0 {w : World} {b : Nat} {x y : Value} (h : Two w b x y) (z : Value) : Two (w.setCell ⟨b, 0, none⟩ z) b z y := by
  obtain ⟨h0, h1, h2, h3⟩ := h
  exact ⟨by simp [go_sem, h0], by simp [go_sem, h1], by simp [go_sem, h2], by simp [go_sem, h3]⟩
theorem Two.far {w : World} {b q : Nat} {x y : Value} (h : Two w b x y) (hq : b ≠ q) (i : Nat) (z : Value) : Two (w.setCell ⟨q, i, none⟩ z) b x y := by
  obtain ⟨h0, h1, h2, h3⟩ := h
  exact ⟨by rw [set_far _ _ _ _ hq]; exact h0, by rw [set_far _ _ _ _ hq]; exact h1, by simp [go_sem, h2], by simp [go_sem, h3]⟩

theorem own_far {w : World} {B e size n q : Nat} {v : Value} {xs : List Value} (h : w.ownsRow B e size v n xs) (hq : q < B) (i : Nat) (z : Value) : (w.setCell ⟨q, i, none⟩ z).ownsRow B e size v n xs := by
  obtain ⟨hl, h | ⟨g, cap, cur, hv, hgB, hh, r⟩⟩ := h
  · exact ⟨hl, .inl h⟩
  · exact ⟨hl, .inr ⟨g, cap, cur, hv, hgB, (Below.heap_setCell _ _ _ _ (by simp only; omega)).trans hh, r⟩⟩

theorem GathW.far {W0 w : World} {B q : Nat} {v : Value} {L : List (List ItemL × List Value)} (h : GathW W0 w B v L) (hq : q < B) (i : Nat) (z : Value) : GathW W0 (w.setCell ⟨q, i, none⟩ z) B v L := ⟨own_far h.1 hq i z, h.2⟩
theorem GathG.far {w : World} {B q : Nat} {v : Value} {L : List (List Spot × Value)} (h : GathG w B v L) (hq : q < B) (i : Nat) (z : Value) : GathG (w.setCell ⟨q, i, none⟩ z) B v L := ⟨own_far h.1 hq i z, fun p hp => own_far (h.2 p hp) hq i z⟩

set_option maxHeartbeats 3200000 in
theorem readChoices_any (a : Option Addr) (cap : Nat) (ws : List (List ItemL)) (w : World) (hf : FitW ws) (hr : RowW w a ws) :
    Calls Try.prog 58 #[.slice a ws.length cap] w fun e w' => ChoE w w' ws e ∧ Below w.heap.size w w' := by
  have hl := hf.1
  unfold maxLen at hl
  obtain ⟨i0, hi, hy0, hy1, hy2⟩ := info_parts Try.infoV
  by_cases h1 : ws.length < 1
  · go_enter Try.func58, Try.ntmps58
    go_wp2_with fail
    exact bodyPost_ret (v := .tuple #[.agg #[.slice none 0 0, .slice none 0 0], .bool false]) (by simp [results, Try.results58, go_sem]) rfl ⟨.inr ⟨rfl, fun h => by have := h.1; omega⟩, ((Below.refl _ _).alloc (Nat.le_refl _) _).alloc (by simp) _⟩
  by_cases h6 : 6 < ws.length
  · go_enter Try.func58, Try.ntmps58
    go_wp2_with fail
    exact bodyPost_ret (v := .tuple #[.agg #[.slice none 0 0, .slice none 0 0], .bool false]) (by simp [results, Try.results58, go_sem]) rfl ⟨.inr ⟨rfl, fun h => by have := h.2.1; omega⟩, ((Below.refl _ _).alloc (Nat.le_refl _) _).alloc (by simp) _⟩
  have B0 : Below w.heap.size w ((w.alloc (.cells #[.slice none 0 0, .slice none 0 0] 90)).alloc (.cells #[.slice none 0 0, .slice none 0 0] 90)) := ((Below.refl _ _).alloc (Nat.le_refl _) _).alloc (by simp) _
  have T0 : Two ((w.alloc (.cells #[.slice none 0 0, .slice none 0 0] 90)).alloc (.cells #[.slice none 0 0, .slice none 0 0] 90)) w.heap.size (.slice none 0 0) (.slice none 0 0) := ⟨by simp [go_sem], by simp [go_sem], by simp [go_sem], by simp [go_sem]⟩
  have T1 : Two ((w.alloc (.cells #[.slice none 0 0, .slice none 0 0] 90)).alloc (.cells #[.slice none 0 0, .slice none 0 0] 90)) (w.heap.size + 1) (.slice none 0 0) (.slice none 0 0) := ⟨by simp [go_sem], by simp [go_sem], by simp [go_sem], by simp [go_sem]⟩
  have hsz : w.heap.size + 2 ≤ ((w.alloc (.cells #[.slice none 0 0, .slice none 0 0] 90)).alloc (.cells #[.slice none 0 0, .slice none 0 0] 90)).heap.size := by simp
  go_enter Try.func58, Try.ntmps58
  go_wp2_with fail
  go_loopw [20] (fun i wr => ∃ (k : Nat) (L : List (List ItemL × List Value)) (v : Value), k ≤ ws.length ∧ i = .int .i64 k ∧ L.length = k ∧ Hid (L.map (·.1) = ws.take k) ∧ GathW w wr (w.heap.size + 2) v L ∧ Two wr w.heap.size (.slice none 0 0) (.slice none 0 0) ∧ Two wr (w.heap.size + 1) v (.slice none 0 0) ∧ Hid (∀ j, (h : j < ws.length) → j < k → WinP ws[j]) ∧ w.heap.size + 2 ≤ wr.heap.size ∧ Below w.heap.size w wr) (fun i _ => ws.length - (intOf i).toNat)
  case atStart => exact ⟨0, [], _, Nat.zero_le _, rfl, rfl, by simp [Hid], ⟨World.ownsRow_nil _ _ _ _, by simp⟩, T0, T1, fun _ _ h => absurd h (Nat.not_lt_zero _), hsz, B0⟩
  case round =>
    clear B0 T0 T1 hsz
    obtain ⟨k, L, v, hk, rfl, hLk, HLT, hL, T0, T1, HI, hsz, hbl⟩ := hrel
    by_cases hlt : k < ws.length
    · obtain ⟨b1, o1, rfl, g1, s1, t1, f1, hc1, q1⟩ := hr k hlt
      have f1' := cell_on hbl g1 f1
      have k0 : (0 : Int) ≤ (k : Int) := by omega
      have k1 : (k : Int) < (ws.length : Int) := by omega
      obtain ⟨fy0, fy1, fy2, fy3⟩ := id T1
      go_wp2_with fail
      refine (readWindow_from w s1 t1 ws[k] _ (hf.2 k hlt) q1 hbl).mono ?_
      rintro e w1 ⟨hE, b1'⟩
      have B1 : Below w.heap.size w w1 := hbl.trans (b1'.mono hbl.size)
      replace T0 := T0.keep b1'
      replace T1 := T1.keep b1'
      replace hL := hL.keep b1'
      have z1 := b1'.size
      rcases hE with ⟨vv, rfl, hp, hv⟩ | ⟨vv, rfl, hp, hv⟩
      · have HP : Hid (WinP ws[k]) := hp
        clear hp
        obtain ⟨x0, x1, x2, x3, a0, a1, a2, a3, n0, n1, n2, n3, c0, c1, c2, c3, rfl, hwc⟩ := hv.cells
        have hbw : Below w1.heap.size w1 (w1.alloc (.cells #[.int .i64 x0, .slice a0 n0 c0, .int .i64 x1, .slice a1 n1 c1, .int .i64 x2, .slice a2 n2 c2, .int .i64 x3, .slice a3 n3 c3, .int .i64 0, .int .i64 ws[k].length] 80)) := (Below.refl _ _).alloc (Nat.le_refl _) _
        have T1w := T1.keep hbw
        obtain ⟨u0, u1, u2, u3⟩ := T1w
        have hbx : Below w1.heap.size w1 ((w1.alloc (.cells #[.int .i64 x0, .slice a0 n0 c0, .int .i64 x1, .slice a1 n1 c1, .int .i64 x2, .slice a2 n2 c2, .int .i64 x3, .slice a3 n3 c3, .int .i64 0, .int .i64 ws[k].length] 80)).alloc (.cells #[.int .i64 x0, .slice a0 n0 c0, .int .i64 x1, .slice a1 n1 c1, .int .i64 x2, .slice a2 n2 c2, .int .i64 x3, .slice a3 n3 c3, .int .i64 0, .int .i64 ws[k].length] 80)) := hbw.alloc hbw.size _
        have hL2 := hL.keep hbx
        have T02 := T0.keep hbx
        have T12 := T1.keep hbx
        have hfar0 : some w.heap.size ≠ v.ownBlock := fun e => by have := own_from hL.1 _ e.symm; omega
        have hfar1 : some (w.heap.size + 1) ≠ v.ownBlock := fun e => by have := own_from hL.1 _ e.symm; omega
        have hzz : w.heap.size + 2 ≤ ((w1.alloc (.cells #[.int .i64 x0, .slice a0 n0 c0, .int .i64 x1, .slice a1 n1 c1, .int .i64 x2, .slice a2 n2 c2, .int .i64 x3, .slice a3 n3 c3, .int .i64 0, .int .i64 ws[k].length] 80)).alloc (.cells #[.int .i64 x0, .slice a0 n0 c0, .int .i64 x1, .slice a1 n1 c1, .int .i64 x2, .slice a2 n2 c2, .int .i64 x3, .slice a3 n3 c3, .int .i64 0, .int .i64 ws[k].length] 80)).heap.size := by simp; omega
        clear hv
        go_wp2_with (first | (at_builtin; refine Hid.out ?_))
        unfold Hid
        refine wpList_append_lies _ rfl _ _ 87 rfl (w.heap.size + 2) 80 i0 (.agg zero10) 10 144 Try.underlying87 hi hy0 hy1 hy2 rfl (by decide) _ L.length (vcells L) rfl hL2.1 ⟨w1.heap.size + 1, 0, none⟩ 1 1 #[.int .i64 x0, .slice a0 n0 c0, .int .i64 x1, .slice a1 n1 c1, .int .i64 x2, .slice a2 n2 c2, .int .i64 x3, .slice a3 n3 c3, .int .i64 0, .int .i64 ws[k].length].toList rfl rfl (by have h := block_new (w1.alloc (.cells #[.int .i64 x0, .slice a0 n0 c0, .int .i64 x1, .slice a1 n1 c1, .int .i64 x2, .slice a2 n2 c2, .int .i64 x3, .slice a3 n3 c3, .int .i64 0, .int .i64 ws[k].length] 80)) #[.int .i64 x0, .slice a0 n0 c0, .int .i64 x1, .slice a1 n1 c1, .int .i64 x2, .slice a2 n2 c2, .int .i64 x3, .slice a3 n3 c3, .int .i64 0, .int .i64 ws[k].length] 80; rw [World.size_alloc] at h; exact h) (by simp [Value.oneCell']) (by decide) (by unfold maxLen; omega) (by omega) hzz _ rfl ?_
        intro g' cap' w5 hown' hgrow _ hloc
        have T15 := T12.grown hgrow hfar1
        have T05 := T02.grown hgrow hfar0
        have p0 := T15.1
        have p1 := T15.2.2.1
        go_wp2_with fail
        have BX : Below w.heap.size w ((w1.alloc (.cells #[.int .i64 x0, .slice a0 n0 c0, .int .i64 x1, .slice a1 n1 c1, .int .i64 x2, .slice a2 n2 c2, .int .i64 x3, .slice a3 n3 c3, .int .i64 0, .int .i64 ws[k].length] 80)).alloc (.cells #[.int .i64 x0, .slice a0 n0 c0, .int .i64 x1, .slice a1 n1 c1, .int .i64 x2, .slice a2 n2 c2, .int .i64 x3, .slice a3 n3 c3, .int .i64 0, .int .i64 ws[k].length] 80)) := B1.trans (hbx.mono B1.size)
        have B5 := BX.grown hgrow BX.size (fun q hq => by have := own_from hL.1 q hq; omega)
        rw [hLk] at hown'
        have HT : Hid (ws.take (k + 1) = ws.take k ++ [ws[k]]) := List.take_succ_eq_append_getElem hlt
        have HST : Hid (∀ j, (h : j < ws.length) → j < k + 1 → WinP ws[j]) := win_step HI.out hlt HP.out
        have hG5 := hL2.snoc hwc (by rw [hLk]; exact hown')
        have z5 := hgrow.size
        exact ⟨⟨k + 1, _, _, by omega, by go_num, by simp [hLk], by rw [HT.out, List.map_append, HLT.out]; rfl, ⟨own_far hG5.1 (by omega) _ _, hG5.2⟩, T05.far (by omega) _ _, T15.set0 _, HST, by simp only [World.size_setCell]; omega, B5.setCell (by simp only; omega) _⟩, by simp [intOf]; omega⟩
      · have HN : Hid (¬ OkW ws) := fun h => hp (h.2.2 k hlt)
        clear hp
        obtain ⟨x0, x1, x2, x3, a0, a1, a2, a3, n0, n1, n2, n3, c0, c1, c2, c3, rfl, _⟩ := hv.laid
        have hbw : Below w1.heap.size w1 (w1.alloc (.cells #[.int .i64 x0, .slice a0 n0 c0, .int .i64 x1, .slice a1 n1 c1, .int .i64 x2, .slice a2 n2 c2, .int .i64 x3, .slice a3 n3 c3, .int .i64 0, .int .i64 0] 80)) := (Below.refl _ _).alloc (Nat.le_refl _) _
        have T0w := T0.keep hbw
        obtain ⟨u0, u1, u2, u3⟩ := T0w
        have BW := B1.trans (hbw.mono B1.size)
        go_wp2_with fail
        generalize w1.alloc (.cells #[.int .i64 x0, .slice a0 n0 c0, .int .i64 x1, .slice a1 n1 c1, .int .i64 x2, .slice a2 n2 c2, .int .i64 x3, .slice a3 n3 c3, .int .i64 0, .int .i64 0] 80) = WX at *
        have e0 : ((WX.setCell ⟨w.heap.size, 0, none⟩ (.slice none 0 0)).setCell ⟨w.heap.size, 1, none⟩ (.slice none 0 0)).cell? ⟨w.heap.size, 0, none⟩ = some (.slice none 0 0) := by simp [go_sem, u0]
        have e1 : ((WX.setCell ⟨w.heap.size, 0, none⟩ (.slice none 0 0)).setCell ⟨w.heap.size, 1, none⟩ (.slice none 0 0)).cell? ⟨w.heap.size, 1, none⟩ = some (.slice none 0 0) := by simp [go_sem, u1]
        exact bodyPost_ret (v := .tuple #[.agg #[.slice none 0 0, .slice none 0 0], .bool false]) (by simp [results, Try.results58, go_sem, e0, e1]) rfl ⟨.inr ⟨rfl, HN.out⟩, (BW.setCell (Nat.le_refl _) _).setCell (Nat.le_refl _) _⟩
    · obtain ⟨va, vc, rfl, hvc, hrow⟩ := hL.row
      have HOK : Hid (OkW ws) := ⟨by omega, by omega, fun j hj => HI.out j hj (by omega)⟩
      have hLw : L.length = ws.length := by omega
      replace HLT : Hid (L.map (·.1) = ws) := by unfold Hid; rw [HLT.out, List.take_of_length_le (by omega)]
      rw [HLT.out] at hrow
      rw [hLw] at hvc T1 hL
      obtain ⟨u0, u1, u2, u3⟩ := id T1
      clear HI
      go_wp2_with fail
      refine (sharedSpots_any w wr va vc ws hrow hbl HOK.out).mono ?_
      rintro e w1 ⟨⟨vs, M, rfl, hM, hsw⟩, b1⟩
      obtain ⟨sa, sc, rfl, hsc, _⟩ := hM.row
      have HSW : Hid (ShW ws (M.map (·.1))) := hsw
      clear hsw
      have B1 : Below w.heap.size w w1 := hbl.trans (b1.mono hbl.size)
      have hL1 := hL.keep b1
      have T01 := T0.keep b1
      have T11 := T1.keep b1
      have z1 := b1.size
      clear u0 u1 u2 u3 hrow T0 T1
      obtain ⟨u0, u1, u2, u3⟩ := id T11
      obtain ⟨y0, y1, y2, y3⟩ := id T01
      go_wp2_with fail
      have hLf := ((hL1.far (q := w.heap.size + 1) (by omega) 1 (.slice sa M.length sc)).far (q := w.heap.size) (by omega) 0 (.slice va ws.length vc)).far (q := w.heap.size) (by omega) 1 (.slice sa M.length sc)
      have hMf := ((hM.far (q := w.heap.size + 1) (by omega) 1 (.slice sa M.length sc)).far (q := w.heap.size) (by omega) 0 (.slice va ws.length vc)).far (q := w.heap.size) (by omega) 1 (.slice sa M.length sc)
      have BF := ((B1.setCell (p := ⟨w.heap.size + 1, 1, none⟩) (by simp only; omega) (.slice sa M.length sc)).setCell (p := ⟨w.heap.size, 0, none⟩) (Nat.le_refl _) (.slice va ws.length vc)).setCell (p := ⟨w.heap.size, 1, none⟩) (Nat.le_refl _) (.slice sa M.length sc)
      have e0 : (((w1.setCell ⟨w.heap.size + 1, 1, none⟩ (.slice sa M.length sc)).setCell ⟨w.heap.size, 0, none⟩ (.slice va ws.length vc)).setCell ⟨w.heap.size, 1, none⟩ (.slice sa M.length sc)).cell? ⟨w.heap.size, 0, none⟩ = some (.slice va ws.length vc) := by simp [go_sem, y0]
      have e1 : (((w1.setCell ⟨w.heap.size + 1, 1, none⟩ (.slice sa M.length sc)).setCell ⟨w.heap.size, 0, none⟩ (.slice va ws.length vc)).setCell ⟨w.heap.size, 1, none⟩ (.slice sa M.length sc)).cell? ⟨w.heap.size, 1, none⟩ = some (.slice sa M.length sc) := by simp [go_sem, y1]
      generalize ((w1.setCell ⟨w.heap.size + 1, 1, none⟩ (.slice sa M.length sc)).setCell ⟨w.heap.size, 0, none⟩ (.slice va ws.length vc)).setCell ⟨w.heap.size, 1, none⟩ (.slice sa M.length sc) = WF at *
      obtain ⟨a8, c8, q8, _, r8⟩ := hLf.row
      obtain ⟨a9, c9, q9, _, r9⟩ := hMf.row
      rw [hLw] at q8
      cases q8
      cases q9
      rw [HLT.out] at r8
      exact bodyPost_ret (v := .tuple #[.agg #[.slice va ws.length vc, .slice sa M.length sc], .bool true]) (by simp [results, Try.results58, go_sem, e0, e1]) rfl ⟨.inl ⟨va, vc, sa, sc, M.map (·.1), by simp, HOK.out, hvc, by rw [List.length_map]; exact hsc, r8, r9, HSW.out⟩, BF⟩

end Go.Proofs.Ytpfhegengmlkmac
/- Walk: impl.ChoiceAgrees. -/
namespace Go.Proofs.Ytpfhegengmlkmac
open Go.RowKit Go.BigFrame
set_option maxRecDepth 100000

theorem chB_new {W0 w : World} {a1 a2 : Option Addr} {c1 c2 : Nat} {ws : List (List ItemL)} {sh : List (List Spot)} (hv : RowV W0 w a1 ws) (hg : RowG w a2 sh) (h1 : ws.length ≤ c1) (h2 : sh.length ≤ c2) : ChB W0 (w.alloc (.cells #[.slice a1 ws.length c1, .slice a2 sh.length c2] 90)) w.heap.size ws sh :=
  have hb : Below w.heap.size w (w.alloc (.cells #[.slice a1 ws.length c1, .slice a2 sh.length c2] 90)) := (Below.refl _ _).alloc (Nat.le_refl _) _
  ⟨box_lt _ _, a1, c1, a2, c2, box0 _ _ _ _, h1, box1 _ _ _ _, h2, hv.below hb, hg.below hb⟩

set_option maxHeartbeats 800000 in
theorem implChA_any (a a' : Option Addr) (cap cap' : Nat) (ws : List (List ItemL)) (ps : List Int) (w : World) (hf : FitW ws) (hr : RowW w a ws) (hp : ps.length ≤ maxLen) (hr' : RowZ w a' ps) :
    Calls Try.prog 19 #[.slice a ws.length cap, .slice a' ps.length cap'] w fun e w' => IsB (ChP ws ps) e ∧ Below w.heap.size w w' := by
  go_enter Try.func19, Try.ntmps19
  go_wp2_with fail
  refine (readChoices_any a cap ws _ hf hr).mono ?_
  rintro e w1 ⟨hE, b1⟩
  have hr1 := hr'.below b1
  rcases hE with ⟨a1, c1, a2, c2, sh, rfl, hok, hc1, hc2, hrv, hrg, hsw⟩ | ⟨rfl, hno⟩
  · have HOK : Hid (OkW ws) := hok
    have HSW : Hid (ShW ws sh) := hsw
    clear hok hsw
    have hcb := chB_new hrv hrg hc1 hc2
    have hbx : Below w1.heap.size w1 (w1.alloc (.cells #[.slice a1 ws.length c1, .slice a2 sh.length c2] 90)) := (Below.refl _ _).alloc (Nat.le_refl _) _
    have BX : Below w.heap.size w (w1.alloc (.cells #[.slice a1 ws.length c1, .slice a2 sh.length c2] 90)) := b1.trans (hbx.mono b1.size)
    have hrx := hr1.below hbx
    go_wp2_with fail
    generalize w1.alloc (.cells #[.slice a1 ws.length c1, .slice a2 sh.length c2] 90) = W at *
    refine (has_any w W w1.heap.size ws sh a' cap' ps hcb HOK.out.2.1 hp hrx).mono ?_
    rintro e w2 ⟨⟨r, rfl, hr2⟩, b2⟩
    have HR : Hid (r = true ↔ ps.length = ws.length ∧ InW ws ps) := hr2
    clear hr2
    have B2 : Below w.heap.size w w2 := BX.trans (b2.mono BX.size)
    cases r with
    | false =>
      have HN : Hid (¬ ChP ws ps) := fun h => by have := HR.out.2 ⟨h.2.1, h.2.2.1⟩; simp at this
      go_wp2_with fail
      go_ret
      exact ⟨isB_false HN.out, B2⟩
    | true =>
      have hh := HR.out.1 rfl
      have HIN : Hid (InW ws ps) := hh.2
      have HLEN : Hid (ps.length = ws.length) := hh.1
      clear HR hh
      go_wp2_with fail
      refine (agrees_any w w2 w1.heap.size ws sh a' cap' ps (hcb.below b2) B2 HOK.out HLEN.out HIN.out (hrx.below b2) HSW.out).mono ?_
      rintro e w3 ⟨⟨r, rfl, hr3⟩, b3⟩
      have HR : Hid (r = true ↔ ChP ws ps) := hr3.trans ⟨fun h => ⟨HOK.out, HLEN.out, HIN.out, h⟩, fun h => h.2.2.2⟩
      clear hr3
      go_wp2_with fail
      go_ret
      exact ⟨⟨r, rfl, HR.out⟩, B2.trans (b3.mono B2.size)⟩
  · have HN : Hid (¬ ChP ws ps) := fun h => hno h.1
    clear hno
    go_wp2_with fail
    go_ret
    exact ⟨isB_false HN.out, b1.alloc b1.size _⟩

end Go.Proofs.Ytpfhegengmlkmac
/- append of one mark onto marks that the call gathers: which blocks turn. -/
namespace Go.Proofs.Ytpfhegengmlkmac
open Go.RowKit Go.BigFrame

/-- Behind an append: new blocks alone, or the row itself, which has room for two marks. -/
def Appended (base : Nat) (w w' : World) : Prop := w.grownBy w' none ∨ ∃ g, base ≤ g ∧ (∃ u, w.cell? ⟨g, 3, none⟩ = some u) ∧ w.grownBy w' (some g)

theorem run_append_mark (ty : TypeId) (base : Nat) (v : Value) (l : List (ByteArray × Int)) (w : World) (hg : Gath w base v l) (hv : l = [] → v = .slice none 0 0) (ad : Addr) (m : ByteArray × Int)
    (c0 : w.cell? ad = some (.string m.1)) (c1 : w.cell? (ad.add 1) = some (.int .i64 m.2)) (hl : l.length ≤ 1048576) (hbase : base ≤ w.heap.size) :
    ∃ v' w', (Builtin.append_ #[45, 45] ty #[v, .slice (some ad) 1 1]).run Try.prog w = .ok v' w' ∧ Gath w' base v' (l ++ [m]) ∧ Appended base w w' := by
  obtain ⟨i0, hi, hz0, hz1, hz2⟩ := info_parts Try.infoM
  have hnews : ∀ j u, ([.string m.1, .int .i64 m.2] : List Value)[j]? = some u → w.cell? (ad.add j) = some u := by
    intro j u hj
    match j, hj with
    | 0, hj => simp at hj; subst hj; rw [show ad.add 0 = ad from by cases ad with | mk b o s => cases s <;> simp [Addr.add]]; exact c0
    | 1, hj => simp at hj; subst hj; exact c1
  have h1 : ∀ u ∈ ([.string m.1, .int .i64 m.2] : List Value), u.oneCell' = true := by simp [Value.oneCell']
  have hmc : mcells (l ++ [m]) = mcells l ++ [.string m.1, .int .i64 m.2] := by rw [mcells_append]; rfl
  by_cases hnil : l = []
  · obtain rfl := hv hnil
    obtain ⟨g, cap, w', hr, h2, h3, _, _⟩ := run_append_lies (P := Try.prog) w 45 ty base 104 i0 (.agg #[.string .empty, .int .i64 0]) 2 24 Try.underlying45 hi hz0 hz1 hz2 rfl (by decide) _ _ _ hg ad 1 1 [.string m.1, .int .i64 m.2] rfl hnews h1 (by decide) (by unfold maxLen; omega) (by omega) hbase _ rfl
    refine ⟨_, w', hr, ?_, .inl h3⟩
    unfold Gath
    rw [hmc, List.length_append]
    exact h2
  · have hpos : 0 < l.length := List.length_pos_iff.2 hnil
    obtain ⟨hlen, h | ⟨g, cap, cur, rfl, hbg, hh, hnc, hcm, hcs, htk⟩⟩ := id hg
    · exact absurd (List.length_eq_zero_iff.1 h.2) hnil
    by_cases hroom : l.length + 1 ≤ cap
    · obtain ⟨w', hr, h2, h3⟩ := run_append_fits (P := Try.prog) w base 45 ty 104 i0 2 Try.underlying45 hi hz1 g l.length cap (mcells l) hg ad 1 1 [.string m.1, .int .i64 m.2] rfl hnews h1 hroom
      refine ⟨_, w', hr, ?_, .inr ⟨g, hbg, ?_, h3⟩⟩
      · unfold Gath
        rw [hmc, List.length_append]
        exact h2
      · have h3 : 3 < cur.size := by omega
        refine ⟨cur[3], ?_⟩
        unfold World.cell?
        simp [hh, h3]
    · have holds : ∀ j u, (mcells l)[j]? = some u → w.cell? ((⟨g, 0, none⟩ : Addr).add j) = some u := by
        intro j u hj
        have hjl : j < (mcells l).length := (List.getElem?_eq_some_iff.1 hj).1
        rw [← htk, List.getElem?_take_of_lt (by rw [mcells_length] at hjl; exact hjl)] at hj
        have e : (⟨g, 0, none⟩ : Addr).add j = ⟨g, j, none⟩ := by unfold Addr.add; by_cases h : j = 0 <;> simp [h]
        rw [e]
        unfold World.cell?
        simp only [hh]
        simpa using hj
      obtain ⟨v', w', hr, h2, h3⟩ := run_append_arg_grows (P := Try.prog) w 45 ty 104 i0 (.agg #[.string .empty, .int .i64 0]) 2 24 Try.underlying45 hi hz0 hz1 hz2 rfl (by decide) ⟨g, 0, none⟩ l.length cap (mcells l) (mcells_length l) holds ad 1 1 [.string m.1, .int .i64 m.2] rfl hnews (by omega) (by unfold maxLen; omega) (by omega)
      refine ⟨v', w', hr, ?_, .inl h3⟩
      refine Gath.lower (B := w.heap.size) ?_ hbase
      unfold Gath
      rw [hmc, List.length_append]
      exact h2

theorem wp_append_mark {o : Oper} {a : Act} {w : World} {K : Act → World → Prop} {Q : Exit → Act → World → Prop} (s x : Operand)
    (ho : o.op = .call { callee := .builtin .append, args := #[s, x], argTypes := #[45, 45] }) (base : Nat) (v : Value) (l : List (ByteArray × Int)) (hs : a.eval s = v) (hg : Gath w base v l) (hv : l = [] → v = .slice none 0 0) (ad : Addr) (m : ByteArray × Int)
    (hx : a.eval x = .slice (some ad) 1 1) (c0 : w.cell? ad = some (.string m.1)) (c1 : w.cell? (ad.add 1) = some (.int .i64 m.2)) (hl : l.length ≤ 1048576) (hbase : base ≤ w.heap.size)
    (h : ∀ v' w', Gath w' base v' (l ++ [m]) → Appended base w w' → K (a.put o.dst v') w') : o.wp Try.prog a w K Q := by
  obtain ⟨v', w', hr, h2, h3⟩ := run_append_mark o.type base v l w hg hv ad m c0 c1 hl hbase
  unfold Oper.wp execOp
  simp only [ho, resolve, invoke, builtin, Sem.run_bind, Sem.run_pure, Result.andThen_ok, List.map_toArray, List.map_cons, List.map_nil, hs, hx, hr]
  exact h v' w' h2 h3

theorem Appended.size {base : Nat} {w w' : World} (h : Appended base w w') : w.heap.size ≤ w'.heap.size := by
  rcases h with h | ⟨g, _, _, h⟩
  · exact h.size
  · exact h.size
theorem Appended.below {base B : Nat} {W w w' : World} (h : Appended base w w') (hb : Below B W w) (hB : B ≤ base) (hw : B ≤ w.heap.size) : Below B W w' := by
  rcases h with h | ⟨g, hg, _, h⟩
  · exact hb.grown h hw (fun k e => by cases e)
  · exact hb.grown h hw (fun k e => by simp at e; omega)
/-- What lies ahead of the gathered rows is as it was. -/
theorem Appended.far {base : Nat} {w w' : World} (h : Appended base w w') (hw : base ≤ w.heap.size) : Below base w w' := h.below (Below.refl _ _) (Nat.le_refl _) hw

end Go.Proofs.Ytpfhegengmlkmac
/- append of one mark onto marks that the call gathers: which blocks turn, as the iterator's rounds ask it. -/
namespace Go.Proofs.Ytpfhegengmlkmac
open Go.RowKit Go.BigFrame

theorem Appended.ks {base lo hi : Nat} {w w' : World} (h : Appended base w w') (hb : lo ≤ base) : KS lo hi w w' := by
  rcases h with h | ⟨g, hg, ⟨u, hu⟩, h⟩
  · exact ⟨h.size, fun k o _ hk _ => (h.block k (Array.getElem?_eq_some_iff.1 hk).1 (by simp)).trans hk⟩
  · refine ⟨h.size, fun k o hn hk _ => (h.block k (Array.getElem?_eq_some_iff.1 hk).1 ?_).trans hk⟩
    intro e
    obtain rfl : k = g := by simpa using e
    rcases hn with hn | ⟨_, hn⟩
    · omega
    · rw [hu] at hn; cases hn
theorem Appended.keeps {base : Nat} {w w' : World} (h : Appended base w w') : KeepsOthers w w' := by
  rcases h with h | ⟨g, hg, ⟨u, hu⟩, h⟩
  · exact KeepsOthers.of_grownBy h (fun j o e => by cases e)
  · refine KeepsOthers.of_grownBy h (fun j o e hj => ?_)
    obtain rfl : g = j := by simpa using e
    obtain ⟨ob, h1, h2⟩ := cell_obj hu
    rw [h1] at hj
    cases hj
    exact h2

end Go.Proofs.Ytpfhegengmlkmac
/- The walk of impl.StampJoin. -/
namespace Go.Proofs.Ytpfhegengmlkmac
open Go.RowKit Go.Shelf Go.BigFrame
attribute [local go_sem] Oper.semAt_some

/-- The two results in their boxes, as they were laid. -/
structure Res2 (b : Nat) (w : World) : Prop where
  c0 : w.cell? ⟨b, 0, none⟩ = some (.slice none 0 0)
  f0 : w.frozen? ⟨b, 0, none⟩ = false
  c1 : w.cell? ⟨b + 1, 0, none⟩ = some (.bool false)
  f1 : w.frozen? ⟨b + 1, 0, none⟩ = false
theorem Res2.lt {b : Nat} {w : World} (h : Res2 b w) : b + 1 < w.heap.size := block_lt_of_cell h.c1
theorem Res2.below {b : Nat} {w w' : World} (h : Res2 b w) (hb : Below w.heap.size w w') : Res2 b w' := by
  have h1 := h.lt
  exact ⟨cell_on hb (by omega) h.c0, (hb.frozen (p := ⟨b, 0, none⟩) (by simp only; omega)).trans h.f0, cell_on hb h1 h.c1, (hb.frozen (p := ⟨b + 1, 0, none⟩) h1).trans h.f1⟩
theorem Res2.kept {b : Nat} {w w' : World} {row : Option Nat} (h : Res2 b w) (hg : w.grownBy w' row) (hr : ∀ r, row = some r → ∃ o : Obj, w.heap[r]? = some o ∧ o.isCells = false) : Res2 b w' :=
  ⟨cell_kept h.c0 hg hr, (frozen_kept h.c0 hg hr).trans h.f0, cell_kept h.c1 hg hr, (frozen_kept h.c1 hg hr).trans h.f1⟩

theorem Res2.upto {b B : Nat} {w w' : World} (h : Res2 b w) (hb : Below B w w') (hB : b + 1 < B) : Res2 b w' :=
  ⟨(hb.cell (p := ⟨b, 0, none⟩) (by simp only; omega)).trans h.c0, (hb.frozen (p := ⟨b, 0, none⟩) (by simp only; omega)).trans h.f0, (hb.cell (p := ⟨b + 1, 0, none⟩) hB).trans h.c1, (hb.frozen (p := ⟨b + 1, 0, none⟩) hB).trans h.f1⟩
theorem Res2.set {b J : Nat} {w : World} (h : Res2 b w) (h0 : b ≠ J) (h1 : b + 1 ≠ J) (v : Value) : Res2 b (w.setCell ⟨J, 0, none⟩ v) :=
  ⟨(far_set _ _ h0).trans h.c0, (World.frozen?_of_block (Below.heap_setCell _ _ _ _ h0)).trans h.f0, (far_set _ _ h1).trans h.c1, (World.frozen?_of_block (Below.heap_setCell _ _ _ _ h1)).trans h.f1⟩
theorem Gath.kept {w w' : World} {B : Nat} {v : Value} {l : List (ByteArray × Int)} {row : Option Nat} (h : Gath w B v l) (hg : w.grownBy w' row) (hr : ∀ r, row = some r → ∃ o : Obj, w.heap[r]? = some o ∧ o.isCells = false) : Gath w' B v l := by
  obtain ⟨hl, h | ⟨g, cap, cur, hv, hgB, hh, r⟩⟩ := h
  · exact ⟨hl, .inl h⟩
  · exact ⟨hl, .inr ⟨g, cap, cur, hv, hgB, (grownBy_keeps_cells hg hr hh rfl).trans hh, r⟩⟩
theorem Gath.far {w w' : World} {B : Nat} {v : Value} {l : List (ByteArray × Int)} (h : Gath w B v l) (hk : ∀ k, B ≤ k → k < w.heap.size → w'.heap[k]? = w.heap[k]?) : Gath w' B v l := by
  obtain ⟨hl, h | ⟨g, cap, cur, hv, hgB, hh, r⟩⟩ := h
  · exact ⟨hl, .inl h⟩
  · exact ⟨hl, .inr ⟨g, cap, cur, hv, hgB, (hk g hgB (Array.getElem?_eq_some_iff.1 hh).1).trans hh, r⟩⟩
/-- What holds between two rounds: the results' boxes at r and r + 1; the join so far in the box J, its marks from block B on. -/
def JInv (r J B : Nat) (pre : List PM) (W : World) : Prop :=
  Res2 r W ∧ (∃ jv, W.cell? ⟨J, 0, none⟩ = some jv ∧ W.frozen? ⟨J, 0, none⟩ = false ∧ Gath W B jv (joinP (pre.map PM.p)) ∧ (pre = [] → jv = .slice none 0 0)) ∧ pre.length ≤ 12 ∧ B ≤ W.heap.size
theorem JInv.kept {r J B : Nat} {pre : List PM} {w w' : World} {row : Option Nat} (h : JInv r J B pre w) (hg : w.grownBy w' row) (hr : ∀ r, row = some r → ∃ o : Obj, w.heap[r]? = some o ∧ o.isCells = false) : JInv r J B pre w' := by
  obtain ⟨h1, ⟨jv, c, f, g, e⟩, h3, h4⟩ := h
  exact ⟨h1.kept hg hr, ⟨jv, cell_kept c hg hr, (frozen_kept c hg hr).trans f, g.kept hg hr, e⟩, h3, Nat.le_trans h4 hg.size⟩
theorem JInv.below {r J B : Nat} {pre : List PM} {w w' : World} (h : JInv r J B pre w) (hb : Below w.heap.size w w') : JInv r J B pre w' := by
  obtain ⟨h1, ⟨jv, c, f, g, e⟩, h3, h4⟩ := h
  have hl := block_lt_of_cell c
  exact ⟨h1.below hb, ⟨jv, cell_on hb hl c, (hb.frozen (p := ⟨J, 0, none⟩) hl).trans f, g.keep hb, e⟩, h3, Nat.le_trans h4 hb.size⟩
theorem none_kept {W W' : World} {row : Option Nat} {b : Nat} {v : Value} (h : W.cell? ⟨b, 0, none⟩ = some v) (hn : W.cell? ⟨b, 3, none⟩ = none) (hg : W.grownBy W' row) (hrow : ∀ r, row = some r → ∃ o : Obj, W.heap[r]? = some o ∧ o.isCells = false) : W'.cell? ⟨b, 3, none⟩ = none := by
  obtain ⟨o, ho, hc⟩ := cells_of_cell h
  rw [World.cell?_of_block (w := W) (w' := W') (a := ⟨b, 3, none⟩) (grownBy_keeps_cells hg hrow ho hc)]; exact hn
theorem join_len (pre : List PM) : (joinP (pre.map PM.p)).length = pre.length := by simp [joinP]
theorem join_snoc (pre : List PM) (x : PM) : joinP ((pre ++ [x]).map PM.p) = joinP (pre.map PM.p) ++ [laterM x.p.1 x.p.2] := by simp [joinP]
theorem later_size (x : PM) : (laterM x.p.1 x.p.2).1.size ≤ 1048576 := by
  unfold laterM
  split
  · exact x.h.2
  · exact x.h.1

set_option maxRecDepth 100000 in
set_option maxHeartbeats 4000000 in
theorem implJoin_any (aa ab : Option Addr) (ca cb : Nat) (la lb : List (ByteArray × Int)) (w : World) (hla : la.length ≤ maxLen) (hlb : lb.length ≤ maxLen) (hca : la.length ≤ ca) (hcb : lb.length ≤ cb) (ha : Row w aa la) (hb : Row w ab lb)
    (hsa : ∀ j, (h : j < la.length) → la[j].1.size ≤ maxLen) (hsb : ∀ j, (h : j < lb.length) → lb[j].1.size ≤ maxLen) :
    Calls Try.prog 66 #[.slice aa la.length ca, .slice ab lb.length cb] w fun e w' => (∃ v m ok, e = .returned (.tuple #[v, .bool ok]) ∧ Gath w' w.heap.size v m ∧ IsJ la lb m ok) ∧ Below w.heap.size w w' := by
  refine (callsIn_wide (n := 5)).1 ?_
  refine callsIn_of_wp_marks Try.func66 rfl trivial ?_ rfl
  simp only [Try.ntmps66, List.size_toArray, List.length_cons, List.length_nil, Nat.reduceAdd, Nat.reduceSub, Array.replicate_succ, Array.replicate_zero, List.push_toArray, List.append_toArray, List.nil_append, List.cons_append]
  gi_wp2_with fail
  have hba : Below w.heap.size w ((w.alloc (.cells #[.slice none 0 0] 45)).alloc (.cells #[.bool false] 4)) := ((Below.refl _ _).alloc (Nat.le_refl _) _).alloc (by simp) _
  have R0 : Res2 w.heap.size ((w.alloc (.cells #[.slice none 0 0] 45)).alloc (.cells #[.bool false] 4)) := ⟨by simp [go_sem], by simp [go_sem], by simp [go_sem], by simp [go_sem]⟩
  generalize (w.alloc (.cells #[.slice none 0 0] 45)).alloc (.cells #[.bool false] 4) = w0 at *
  refine ⟨trivial, (callsIn_wide.2 (implStampOk_any aa ca la _ hla (ha.below hba) hsa)).mono ?_⟩
  rintro e w1 ⟨⟨r, rfl, hr1⟩, hb1⟩
  have B1 : Below w.heap.size w w1 := hba.trans (hb1.mono hba.size)
  have R1 := R0.below hb1
  have z1 := R1.lt
  obtain ⟨c0, f0, c1, f1⟩ := R1
  cases r
  · have hn : ¬ StampP la := fun h => by simpa using hr1.2 h
    clear hr1
    gi_wp2_with fail
    refine ⟨trivial, ?_⟩
    gi_wp2_with fail
    refine ⟨.tuple #[.slice none 0 0, .bool false], ?_, ⟨_, [], false, rfl, Gath.none _ _, .inl ⟨fun h => hn h.1, rfl, rfl⟩⟩, (B1.setCell (p := ⟨w.heap.size, 0, none⟩) (Nat.le_refl _) _).setCell (p := ⟨w.heap.size + 1, 0, none⟩) (Nat.le_succ _) _⟩
    simp [results, Try.f66, go_sem, c0, c1]
  have hya : StampP la := hr1.1 rfl
  clear hr1
  gi_wp2_with fail
  refine ⟨trivial, (callsIn_wide.2 (implStampOk_any ab cb lb _ hlb (hb.below B1) hsb)).mono ?_⟩
  rintro e w2 ⟨⟨r, rfl, hr2⟩, hb2⟩
  have B2 : Below w.heap.size w w2 := B1.trans (hb2.mono B1.size)
  have R2 := (R0.below hb1).below hb2
  have z2 := R2.lt
  clear hb2 z1 B1 c0 f0 c1 f1 hb1 R0
  cases r
  · have hn : ¬ StampP lb := fun h => by simpa using hr2.2 h
    clear hr2
    obtain ⟨c0, f0, c1, f1⟩ := R2
    gi_wp2_with fail
    refine ⟨.tuple #[.slice none 0 0, .bool false], ?_, ⟨_, [], false, rfl, Gath.none _ _, .inl ⟨fun h => hn h.2, rfl, rfl⟩⟩, (B2.setCell (p := ⟨w.heap.size, 0, none⟩) (Nat.le_refl _) _).setCell (p := ⟨w.heap.size + 1, 0, none⟩) (Nat.le_succ _) _⟩
    simp [results, Try.f66, go_sem, c0, c1]
  have hyb : StampP lb := hr2.1 rfl
  clear hr2
  gi_wp2_with fail
  refine ⟨trivial, (callsIn_wide.2 (sideBySide_any aa ab _ _ ca cb _)).mono ?_⟩
  rintro e w3 ⟨rfl, rfl⟩
  simp only [World.size_alloc]
  obtain ⟨W0, hW0⟩ : ∃ W0, ((w2.alloc (.cells #[.slice none 0 0] 45)).alloc (.cells #[.slice aa la.length ca] 45)).alloc (.cells #[.slice ab lb.length cb] 45) = W0 := ⟨_, rfl⟩
  have cO : W0.cell? ⟨w2.heap.size, 0, none⟩ = some (.slice none 0 0) := by rw [← hW0]; simp [go_sem]
  have fO : W0.frozen? ⟨w2.heap.size, 0, none⟩ = false := by rw [← hW0]; simp [go_sem]
  have cA : W0.cell? ⟨w2.heap.size + 1, 0, none⟩ = some (.slice aa la.length ca) := by rw [← hW0]; simp [go_sem]
  have cB : W0.cell? ⟨w2.heap.size + 1 + 1, 0, none⟩ = some (.slice ab lb.length cb) := by rw [← hW0]; simp [go_sem]
  have nA3 : W0.cell? ⟨w2.heap.size + 1, 3, none⟩ = none := by rw [← hW0]; simp [go_sem]
  have nB3 : W0.cell? ⟨w2.heap.size + 1 + 1, 3, none⟩ = none := by rw [← hW0]; simp [go_sem]
  have hsz : W0.heap.size = w2.heap.size + 3 := by rw [← hW0]; simp
  have b20 : Below w2.heap.size w2 W0 := by rw [← hW0]; exact (((Below.refl _ _).alloc (Nat.le_refl _) _).alloc (by simp) _).alloc (by simp; omega) _
  have B0 : Below w.heap.size w W0 := B2.trans (b20.mono B2.size)
  have R0 := R2.below b20
  rw [hW0]
  clear hW0 b20 R2
  gi_wp2_with fail
  refine wpIn_rangeFunc_ownH (n := 5) rfl (by omega) (gf := 112) (lb := #[.pointer (some ⟨w2.heap.size + 1, 0, none⟩), .pointer (some ⟨w2.heap.size + 1 + 1, 0, none⟩)]) rfl trivial (enters_of Try.func112 (by kernel_rfl) rfl)
    (side_stops 4 w.heap.size (w2.heap.size + 1) (w2.heap.size + 1) (w2.heap.size + 1 + 1) aa ab ca cb la lb hca hcb hya hyb (Nat.le_refl _) (by omega) W0 (by omega) cA cB nA3 nB3 (ha.low.below B0) (hb.low.below B0)) KS.trans (fun W l o o' _ h1 h2 _ => KS.put W l o o' h1 h2) (Below.refl _ _) (fun _ => rfl)
    (fun pre W => JInv w.heap.size w2.heap.size W0.heap.size pre W ∧ Below w.heap.size w W)
    (fun c pre W => (c = .ret ∧ 12 < pre.length ∧ Res2 w.heap.size W) ∧ Below w.heap.size w W)
    (OwnFrom.and (Go.Own.from (I := JInv w.heap.size w2.heap.size W0.heap.size) (fun s A B row hs hg hr => JInv.kept hs hg hr) _) (ownFrom_below (Nat.le_refl _) (by omega)))
    (fun c => OwnFrom.and (Go.Own.from (fun s A B row hs hg hr => ⟨hs.1, hs.2.1, hs.2.2.kept hg hr⟩) _) (ownFrom_below (Nat.le_refl _) (by omega)))
    ⟨⟨R0, ⟨_, cO, fO, Gath.none _ _, fun _ => rfl⟩, by simp, Nat.le_refl _⟩, B0⟩
    (fun x a' W => ∃ bx bz, W0.heap.size ≤ bx ∧ W0.heap.size ≤ bz ∧ (W.cell? ⟨bx, 0, none⟩ = some (.string x.p.1.1) ∧ W.cell? ⟨bx, 1, none⟩ = some (.int .i64 x.p.1.2) ∧ W.cell? ⟨bz, 0, none⟩ = some (.string x.p.2.1) ∧ W.cell? ⟨bz, 1, none⟩ = some (.int .i64 x.p.2.2) ∧ W.cell? ⟨bx, 3, none⟩ = none ∧ W.cell? ⟨bz, 3, none⟩ = none) ∧ a' = { tmps := #[.slice aa la.length ca, .slice ab lb.length cb, undef, undef, .pointer (some ⟨w.heap.size, 0, none⟩), .pointer (some ⟨w.heap.size + 1, 0, none⟩), .pointer (some ⟨w2.heap.size, 0, none⟩), .pointer (some ⟨bx, 0, none⟩), .pointer (some ⟨bz, 0, none⟩), .slice aa la.length ca, .bool true, .bool false, .bool false, .slice ab lb.length cb, .bool true, .bool false, .bool false, .slice aa la.length ca, .slice ab lb.length cb, .func (.func 112) #[] #[.pointer (some ⟨w2.heap.size + 1, 0, none⟩), .pointer (some ⟨w2.heap.size + 1 + 1, 0, none⟩)], .agg #[.string x.p.1.1, .int .i64 x.p.1.2], .agg #[.string x.p.2.1, .int .i64 x.p.2.2], undef, undef, undef, undef, undef, undef, undef, undef, undef, undef, undef], defers := [] })
    (fun x a' s A B row hs hg hr => by
      obtain ⟨bx, bz, h1, h2, h3, h4⟩ := hs
      exact ⟨bx, bz, h1, h2, ⟨cell_kept h3.1 hg (fun r e => (hr r e).2), cell_kept h3.2.1 hg (fun r e => (hr r e).2), cell_kept h3.2.2.1 hg (fun r e => (hr r e).2), cell_kept h3.2.2.2.1 hg (fun r e => (hr r e).2), none_kept h3.1 h3.2.2.2.2.1 hg (fun r e => (hr r e).2), none_kept h3.2.2.1 h3.2.2.2.2.2 hg (fun r e => (hr r e).2)⟩, h4⟩) ?assign ?body ?done ?stop
  case assign =>
    rintro l pre x W K ⟨hI, hB⟩ hK
    simp only [encP]
    gi_wp2
    have hb2 : Below W.heap.size W ((W.alloc (.cells #[.string x.p.1.1, .int .i64 x.p.1.2] 104)).alloc (.cells #[.string x.p.2.1, .int .i64 x.p.2.2] 104)) := ((Below.refl _ _).alloc (Nat.le_refl _) _).alloc (by simp) _
    exact hK _ _ (keepsFrom_below _ hb2) (KS.of_below hb2) ⟨hI.below hb2, hB.trans (hb2.mono hB.size)⟩ ⟨W.heap.size, W.heap.size + 1, hI.2.2.2, Nat.le_succ_of_le hI.2.2.2, ⟨by simp [go_sem], by simp [go_sem], by simp [go_sem], by simp [go_sem], by simp [go_sem], by simp [go_sem]⟩, rfl⟩
  case body =>
    rintro l pre x a' W hle ⟨r, hr⟩ ⟨⟨hR, ⟨jv, hc, hf, hg, hnil⟩, hlen, hW0⟩, hB⟩ ⟨bx, bz, h1, h2, ⟨x0, x1, z0, z1, x3, z3⟩, rfl⟩ hlt
    have HIL := join_len pre
    obtain ⟨ag, capg, rfl, hrow⟩ := hg.shape
    rw [HIL] at hc hnil hg
    by_cases h12 : pre.length = 12
    · have h12' : ((pre.length : Int) == 12) = true := by simp [h12]
      obtain ⟨c0, f0, c1, f1⟩ := id hR
      have HR : Hid (∀ W', W' = (W.setCell ⟨w.heap.size, 0, none⟩ (.slice none 0 0)).setCell ⟨w.heap.size + 1, 0, none⟩ (.bool false) → KeepsFrom W0.heap.size W W' ∧ (12 < (pre ++ [x]).length ∧ Res2 w.heap.size W') ∧ Below w.heap.size w W') := by
        rintro W' rfl
        refine ⟨((KeepsOthers.setCell _ _ _).trans (KeepsOthers.setCell _ _ _)).from _, ⟨by simp; omega, ⟨by simp [go_sem, c0], by simp [go_sem, f0], by simp [go_sem, c1], by simp [go_sem, f1]⟩⟩, (hB.setCell (p := ⟨w.heap.size, 0, none⟩) (Nat.le_refl _) _).setCell (p := ⟨w.heap.size + 1, 0, none⟩) (Nat.le_succ _) _⟩
      gi_wp2_with fail
      have q := HR.out _ rfl
      exact ⟨q.1, ⟨rfl, q.2.1⟩, q.2.2⟩
    have h12' : ((pre.length : Int) == 12) = false := by simp; omega
    have HFIN : Hid (∀ (w6 w7 : World) (v7 : Value), Below W.heap.size W w6 → Gath w7 W0.heap.size v7 (joinP (pre.map PM.p) ++ [laterM x.p.1 x.p.2]) → Appended W0.heap.size w6 w7 →
        KeepsFrom W0.heap.size W (w7.setCell ⟨w2.heap.size, 0, none⟩ v7) ∧ KS w.heap.size (w2.heap.size + 1) W (w7.setCell ⟨w2.heap.size, 0, none⟩ v7) ∧ JInv w.heap.size w2.heap.size W0.heap.size (pre ++ [x]) (w7.setCell ⟨w2.heap.size, 0, none⟩ v7) ∧ Below w.heap.size w (w7.setCell ⟨w2.heap.size, 0, none⟩ v7)) := by
      intro w6 w7 v7 b6 hg7 ha7
      have hW6 : W0.heap.size ≤ w6.heap.size := Nat.le_trans hW0 b6.size
      have far7 := ha7.far hW6
      have cJ7 : w7.cell? ⟨w2.heap.size, 0, none⟩ = some (.slice ag pre.length capg) := (far7.cell (p := ⟨w2.heap.size, 0, none⟩) (by simp only; omega)).trans (cell_on b6 (block_lt_of_cell hc) hc)
      have fJ7 : w7.frozen? ⟨w2.heap.size, 0, none⟩ = false := (far7.frozen (p := ⟨w2.heap.size, 0, none⟩) (by simp only; omega)).trans ((b6.frozen (p := ⟨w2.heap.size, 0, none⟩) (by simp only; omega)).trans hf)
      have hz7 := (KeepsOthers.setCell w7 ⟨w2.heap.size, 0, none⟩ v7).size
      refine ⟨(keepsFrom_below _ b6).trans ((ha7.keeps.trans (KeepsOthers.setCell _ _ _)).from _), ((KS.of_below b6).trans (ha7.ks B0.size)).trans ⟨hz7, fun k o hk h _ => ?_⟩, ⟨((hR.below b6).upto far7 (by omega)).set (by omega) (by omega) v7, ⟨v7, World.cell?_setCell_same' _ _ _ (by rw [cJ7]; rfl), by simp [go_sem, fJ7], ?_, fun e => by simp at e⟩, by simp; omega, by have := ha7.size; omega⟩, ?_⟩
      · rw [Below.heap_setCell _ _ _ _ (by simp only; omega)]; exact h
      · rw [join_snoc]
        exact hg7.far fun k h1 h2 => Below.heap_setCell _ _ _ _ (by simp only; omega)
      · exact (ha7.below (hB.trans (b6.mono hB.size)) B0.size (Nat.le_trans B0.size hW6)).setCell (p := ⟨w2.heap.size, 0, none⟩) (by simp only; omega) _
    clear h12
    gi_wp2_with fail
    have HLX : Hid (bx < W.heap.size) := block_lt_of_cell x0
    have HLZ : Hid (bz < W.heap.size) := block_lt_of_cell z0
    have hdr : Below W.heap.size W W.drew := (Below.refl _ _).drew
    have hS4 : ∀ u, Below W.heap.size W u → u.cell? ⟨bx, 0, none⟩ = some (.string x.p.1.1) ∧ u.cell? ⟨bx, 1, none⟩ = some (.int .i64 x.p.1.2) ∧ u.cell? ⟨bz, 0, none⟩ = some (.string x.p.2.1) ∧ u.cell? ⟨bz, 1, none⟩ = some (.int .i64 x.p.2.2) := fun u hu =>
      ⟨cell_on hu (block_lt_of_cell x0) x0, cell_on hu (block_lt_of_cell x1) x1, cell_on hu (block_lt_of_cell z0) z0, cell_on hu (block_lt_of_cell z1) z1⟩
    have HS4 : Hid _ := hS4
    have hSJ : ∀ u, Below W.heap.size W u → u.cell? ⟨w2.heap.size, 0, none⟩ = some (.slice ag pre.length capg) := fun u hu => cell_on hu (block_lt_of_cell hc) hc
    have HSJ : Hid _ := hSJ
    clear hS4 hSJ
    refine wpIn_region_heldR (S := fun u => u.cell? ⟨bx, 0, none⟩ = some (.string x.p.1.1) ∧ u.cell? ⟨bx, 1, none⟩ = some (.int .i64 x.p.1.2) ∧ u.cell? ⟨bz, 0, none⟩ = some (.string x.p.2.1) ∧ u.cell? ⟨bz, 1, none⟩ = some (.int .i64 x.p.2.2)) (by kernel_rfl) (by kernel_rfl) (fun ⟨_, _, h⟩ => h) ?_
    refine wpAnyH_take (i := 1) (v := .agg #[.string x.p.1.1, .int .i64 x.p.1.2]) rfl (by kernel_rfl) (by kernel_rfl) (by kernel_rfl) (fun _ _ _ h => h) (Or.inl ⟨by rfl, ?_⟩) ⟨x0, x1, z0, z1⟩ ?_
    · rintro u ⟨q1, q2, q3, q4⟩
      go_simp
    simp only [Act.put, List.setIfInBounds_toArray]
    refine wpAnyH_take (i := 2) (v := .agg #[.string x.p.2.1, .int .i64 x.p.2.2]) rfl (by kernel_rfl) (by kernel_rfl) (by kernel_rfl) (fun _ _ _ h => h) (Or.inl ⟨by rfl, ?_⟩) ⟨x0, x1, z0, z1⟩ ?_
    · rintro u ⟨q1, q2, q3, q4⟩
      go_simp
    simp only [Act.put]
    refine wpAnyH_ready (rs := [0, 3]) (by kernel_rfl) (by simp) ?_
    refine AllReadyH.cons rfl (fun K hK => ?_) (AllReadyH.cons rfl (fun K hK => ?_) AllReadyH.nil)
    · rw [if_pos (by rfl)]
      have hcJ := HSJ.out _ hdr
      go_simp
      refine hK.out _ _ (HS4.out _ hdr) (fun _ => ?_)
      clear hK K hcJ
      refine wpAnyH_ready (rs := [3]) (by kernel_rfl) (by simp) ?_
      refine AllReadyH.cons rfl (fun K hK => ?_) AllReadyH.nil
      rw [if_pos (by rfl)]
      go_simp
      refine (later_any _ _ _).mono ?_
      rintro e w4 ⟨rfl, hb4⟩
      have b4 := hdr.trans (hb4.mono hdr.size)
      refine hK.out _ _ (HS4.out _ b4) (fun _ => ?_)
      clear hK K
      refine wpAnyH_ready (rs := [4]) (by kernel_rfl) (by simp) ?_
      refine AllReadyH.cons rfl (fun K hK => ?_) AllReadyH.nil
      rw [if_pos (by rfl)]
      go_simp
      refine (fresh_any _ _ _ (by have := later_size x; omega)).mono ?_
      rintro e w5 ⟨rfl, hb5⟩
      have b5 := b4.trans (hb5.mono b4.size)
      refine hK.out _ _ (HS4.out _ b5) (fun _ => ?_)
      clear hK K
      refine wpAnyH_ready (rs := [5]) (by kernel_rfl) (by simp) ?_
      refine AllReadyH.cons rfl (fun K hK => ?_) AllReadyH.nil
      rw [if_pos (by rfl)]
      go_simp
      have b6 := b5.alloc b5.size (.cells #[.string (laterM x.p.1 x.p.2).1, .int .i64 (laterM x.p.1 x.p.2).2] 104)
      refine hK.out _ _ (HS4.out _ b6) (fun _ => ?_)
      clear hK K
      refine wpAnyH_ready (rs := [6]) (by kernel_rfl) (by simp) ?_
      refine AllReadyH.cons rfl (fun K hK => ?_) AllReadyH.nil
      rw [if_pos (by rfl)]
      have m0 := box0 w5 (.string (laterM x.p.1 x.p.2).1) (.int .i64 (laterM x.p.1 x.p.2).2) 104
      have m1 := box1 w5 (.string (laterM x.p.1 x.p.2).1) (.int .i64 (laterM x.p.1 x.p.2).2) 104
      generalize hw6 : w5.alloc (.cells #[.string (laterM x.p.1 x.p.2).1, .int .i64 (laterM x.p.1 x.p.2).2] 104) = w6 at *
      clear hw6
      refine wp_append_mark _ _ rfl W0.heap.size _ (joinP (pre.map PM.p)) rfl (hg.keep b6) (fun h => hnil (by simpa [joinP] using h)) ⟨w5.heap.size, 0, none⟩ (laterM x.p.1 x.p.2) rfl m0 (by simpa [Addr.add] using m1) (by omega) (Nat.le_trans hW0 b6.size) ?_
      intro v7 w7 hg7 ha7
      have hW6 : W0.heap.size ≤ w6.heap.size := Nat.le_trans hW0 b6.size
      have far7 := ha7.far hW6
      have cJ7 : w7.cell? ⟨w2.heap.size, 0, none⟩ = some (.slice ag pre.length capg) := (far7.cell (p := ⟨w2.heap.size, 0, none⟩) (by simp only; omega)).trans (HSJ.out _ b6)
      have fJ7 : w7.frozen? ⟨w2.heap.size, 0, none⟩ = false := (far7.frozen (p := ⟨w2.heap.size, 0, none⟩) (by simp only; omega)).trans ((b6.frozen (p := ⟨w2.heap.size, 0, none⟩) (by simp only; omega)).trans hf)
      have ks6 : KS w.heap.size (w2.heap.size + 1) W w7 := (KS.of_below b6).trans (ha7.ks B0.size)
      have nx : bx < W.heap.size := HLX.out
      have nz : bz < W.heap.size := HLZ.out
      refine hK.out _ _ ⟨ks6.cell (.inr ⟨by omega, x3⟩) x0, ks6.cell (.inr ⟨by omega, x3⟩) x1, ks6.cell (.inr ⟨by omega, z3⟩) z0, ks6.cell (.inr ⟨by omega, z3⟩) z1⟩ (fun hS7 => ?_)
      clear hK K
      refine wpAnyH_ready (rs := [7]) (by kernel_rfl) (by simp) ?_
      refine AllReadyH.cons rfl (fun K hK => ?_) AllReadyH.nil
      rw [if_pos (by rfl)]
      obtain ⟨a7, n7, rfl, hrow7⟩ := hg7.shape
      go_simp
      refine hK.out _ _ ⟨(far_set _ _ (by omega)).trans hS7.1, (far_set _ _ (by omega)).trans hS7.2.1, (far_set _ _ (by omega)).trans hS7.2.2.1, (far_set _ _ (by omega)).trans hS7.2.2.2⟩ (fun _ => ?_)
      refine wpAnyH_done (by kernel_rfl) ?_ _
      refine HFIN.out w6 w7 _ b6 ?_ ha7
      simp only [List.length_append, List.length_cons, List.length_nil, Nat.zero_add, HIL] at hg7
      exact hg7
    · rw [if_pos (by rfl)]
      go_simp
      refine (later_any _ _ _).mono ?_
      rintro e w4 ⟨rfl, hb4⟩
      have b4 := hdr.trans (hb4.mono hdr.size)
      refine hK.out _ _ (HS4.out _ b4) (fun _ => ?_)
      clear hK K
      refine wpAnyH_ready (rs := [0, 4]) (by kernel_rfl) (by simp) ?_
      refine AllReadyH.cons rfl (fun K hK => ?_) (AllReadyH.cons rfl (fun K hK => ?_) AllReadyH.nil)
      · rw [if_pos (by rfl)]
        have hcJ := HSJ.out _ b4
        go_simp
        refine hK.out _ _ (HS4.out _ b4) (fun _ => ?_)
        clear hK K hcJ
        refine wpAnyH_ready (rs := [4]) (by kernel_rfl) (by simp) ?_
        refine AllReadyH.cons rfl (fun K hK => ?_) AllReadyH.nil
        rw [if_pos (by rfl)]
        go_simp
        refine (fresh_any _ _ _ (by have := later_size x; omega)).mono ?_
        rintro e w5 ⟨rfl, hb5⟩
        have b5 := b4.trans (hb5.mono b4.size)
        refine hK.out _ _ (HS4.out _ b5) (fun _ => ?_)
        clear hK K
        refine wpAnyH_ready (rs := [5]) (by kernel_rfl) (by simp) ?_
        refine AllReadyH.cons rfl (fun K hK => ?_) AllReadyH.nil
        rw [if_pos (by rfl)]
        go_simp
        have b6 := b5.alloc b5.size (.cells #[.string (laterM x.p.1 x.p.2).1, .int .i64 (laterM x.p.1 x.p.2).2] 104)
        refine hK.out _ _ (HS4.out _ b6) (fun _ => ?_)
        clear hK K
        refine wpAnyH_ready (rs := [6]) (by kernel_rfl) (by simp) ?_
        refine AllReadyH.cons rfl (fun K hK => ?_) AllReadyH.nil
        rw [if_pos (by rfl)]
        have m0 := box0 w5 (.string (laterM x.p.1 x.p.2).1) (.int .i64 (laterM x.p.1 x.p.2).2) 104
        have m1 := box1 w5 (.string (laterM x.p.1 x.p.2).1) (.int .i64 (laterM x.p.1 x.p.2).2) 104
        generalize hw6 : w5.alloc (.cells #[.string (laterM x.p.1 x.p.2).1, .int .i64 (laterM x.p.1 x.p.2).2] 104) = w6 at *
        clear hw6
        refine wp_append_mark _ _ rfl W0.heap.size _ (joinP (pre.map PM.p)) rfl (hg.keep b6) (fun h => hnil (by simpa [joinP] using h)) ⟨w5.heap.size, 0, none⟩ (laterM x.p.1 x.p.2) rfl m0 (by simpa [Addr.add] using m1) (by omega) (Nat.le_trans hW0 b6.size) ?_
        intro v7 w7 hg7 ha7
        have hW6 : W0.heap.size ≤ w6.heap.size := Nat.le_trans hW0 b6.size
        have far7 := ha7.far hW6
        have cJ7 : w7.cell? ⟨w2.heap.size, 0, none⟩ = some (.slice ag pre.length capg) := (far7.cell (p := ⟨w2.heap.size, 0, none⟩) (by simp only; omega)).trans (HSJ.out _ b6)
        have fJ7 : w7.frozen? ⟨w2.heap.size, 0, none⟩ = false := (far7.frozen (p := ⟨w2.heap.size, 0, none⟩) (by simp only; omega)).trans ((b6.frozen (p := ⟨w2.heap.size, 0, none⟩) (by simp only; omega)).trans hf)
        have ks6 : KS w.heap.size (w2.heap.size + 1) W w7 := (KS.of_below b6).trans (ha7.ks B0.size)
        have nx : bx < W.heap.size := HLX.out
        have nz : bz < W.heap.size := HLZ.out
        refine hK.out _ _ ⟨ks6.cell (.inr ⟨by omega, x3⟩) x0, ks6.cell (.inr ⟨by omega, x3⟩) x1, ks6.cell (.inr ⟨by omega, z3⟩) z0, ks6.cell (.inr ⟨by omega, z3⟩) z1⟩ (fun hS7 => ?_)
        clear hK K
        refine wpAnyH_ready (rs := [7]) (by kernel_rfl) (by simp) ?_
        refine AllReadyH.cons rfl (fun K hK => ?_) AllReadyH.nil
        rw [if_pos (by rfl)]
        obtain ⟨a7, n7, rfl, hrow7⟩ := hg7.shape
        go_simp
        refine hK.out _ _ ⟨(far_set _ _ (by omega)).trans hS7.1, (far_set _ _ (by omega)).trans hS7.2.1, (far_set _ _ (by omega)).trans hS7.2.2.1, (far_set _ _ (by omega)).trans hS7.2.2.2⟩ (fun _ => ?_)
        refine wpAnyH_done (by kernel_rfl) ?_ _
        refine HFIN.out w6 w7 _ b6 ?_ ha7
        simp only [List.length_append, List.length_cons, List.length_nil, Nat.zero_add, HIL] at hg7
        exact hg7
      · rw [if_pos (by rfl)]
        go_simp
        refine (fresh_any _ _ _ (by have := later_size x; omega)).mono ?_
        rintro e w5 ⟨rfl, hb5⟩
        have b5 := b4.trans (hb5.mono b4.size)
        refine hK.out _ _ (HS4.out _ b5) (fun _ => ?_)
        clear hK K
        refine wpAnyH_ready (rs := [0, 5]) (by kernel_rfl) (by simp) ?_
        refine AllReadyH.cons rfl (fun K hK => ?_) (AllReadyH.cons rfl (fun K hK => ?_) AllReadyH.nil)
        · rw [if_pos (by rfl)]
          have hcJ := HSJ.out _ b5
          go_simp
          refine hK.out _ _ (HS4.out _ b5) (fun _ => ?_)
          clear hK K hcJ
          refine wpAnyH_ready (rs := [5]) (by kernel_rfl) (by simp) ?_
          refine AllReadyH.cons rfl (fun K hK => ?_) AllReadyH.nil
          rw [if_pos (by rfl)]
          go_simp
          have b6 := b5.alloc b5.size (.cells #[.string (laterM x.p.1 x.p.2).1, .int .i64 (laterM x.p.1 x.p.2).2] 104)
          refine hK.out _ _ (HS4.out _ b6) (fun _ => ?_)
          clear hK K
          refine wpAnyH_ready (rs := [6]) (by kernel_rfl) (by simp) ?_
          refine AllReadyH.cons rfl (fun K hK => ?_) AllReadyH.nil
          rw [if_pos (by rfl)]
          have m0 := box0 w5 (.string (laterM x.p.1 x.p.2).1) (.int .i64 (laterM x.p.1 x.p.2).2) 104
          have m1 := box1 w5 (.string (laterM x.p.1 x.p.2).1) (.int .i64 (laterM x.p.1 x.p.2).2) 104
          generalize hw6 : w5.alloc (.cells #[.string (laterM x.p.1 x.p.2).1, .int .i64 (laterM x.p.1 x.p.2).2] 104) = w6 at *
          clear hw6
          refine wp_append_mark _ _ rfl W0.heap.size _ (joinP (pre.map PM.p)) rfl (hg.keep b6) (fun h => hnil (by simpa [joinP] using h)) ⟨w5.heap.size, 0, none⟩ (laterM x.p.1 x.p.2) rfl m0 (by simpa [Addr.add] using m1) (by omega) (Nat.le_trans hW0 b6.size) ?_
          intro v7 w7 hg7 ha7
          have hW6 : W0.heap.size ≤ w6.heap.size := Nat.le_trans hW0 b6.size
          have far7 := ha7.far hW6
          have cJ7 : w7.cell? ⟨w2.heap.size, 0, none⟩ = some (.slice ag pre.length capg) := (far7.cell (p := ⟨w2.heap.size, 0, none⟩) (by simp only; omega)).trans (HSJ.out _ b6)
          have fJ7 : w7.frozen? ⟨w2.heap.size, 0, none⟩ = false := (far7.frozen (p := ⟨w2.heap.size, 0, none⟩) (by simp only; omega)).trans ((b6.frozen (p := ⟨w2.heap.size, 0, none⟩) (by simp only; omega)).trans hf)
          have ks6 : KS w.heap.size (w2.heap.size + 1) W w7 := (KS.of_below b6).trans (ha7.ks B0.size)
          have nx : bx < W.heap.size := HLX.out
          have nz : bz < W.heap.size := HLZ.out
          refine hK.out _ _ ⟨ks6.cell (.inr ⟨by omega, x3⟩) x0, ks6.cell (.inr ⟨by omega, x3⟩) x1, ks6.cell (.inr ⟨by omega, z3⟩) z0, ks6.cell (.inr ⟨by omega, z3⟩) z1⟩ (fun hS7 => ?_)
          clear hK K
          refine wpAnyH_ready (rs := [7]) (by kernel_rfl) (by simp) ?_
          refine AllReadyH.cons rfl (fun K hK => ?_) AllReadyH.nil
          rw [if_pos (by rfl)]
          obtain ⟨a7, n7, rfl, hrow7⟩ := hg7.shape
          go_simp
          refine hK.out _ _ ⟨(far_set _ _ (by omega)).trans hS7.1, (far_set _ _ (by omega)).trans hS7.2.1, (far_set _ _ (by omega)).trans hS7.2.2.1, (far_set _ _ (by omega)).trans hS7.2.2.2⟩ (fun _ => ?_)
          refine wpAnyH_done (by kernel_rfl) ?_ _
          refine HFIN.out w6 w7 _ b6 ?_ ha7
          simp only [List.length_append, List.length_cons, List.length_nil, Nat.zero_add, HIL] at hg7
          exact hg7
        · rw [if_pos (by rfl)]
          go_simp
          have b6 := b5.alloc b5.size (.cells #[.string (laterM x.p.1 x.p.2).1, .int .i64 (laterM x.p.1 x.p.2).2] 104)
          refine hK.out _ _ (HS4.out _ b6) (fun _ => ?_)
          clear hK K
          refine wpAnyH_ready (rs := [0]) (by kernel_rfl) (by simp) ?_
          refine AllReadyH.cons rfl (fun K hK => ?_) AllReadyH.nil
          rw [if_pos (by rfl)]
          have hcJ := HSJ.out _ b6
          go_simp
          refine hK.out _ _ (HS4.out _ b6) (fun _ => ?_)
          clear hK K hcJ
          refine wpAnyH_ready (rs := [6]) (by kernel_rfl) (by simp) ?_
          refine AllReadyH.cons rfl (fun K hK => ?_) AllReadyH.nil
          rw [if_pos (by rfl)]
          have m0 := box0 w5 (.string (laterM x.p.1 x.p.2).1) (.int .i64 (laterM x.p.1 x.p.2).2) 104
          have m1 := box1 w5 (.string (laterM x.p.1 x.p.2).1) (.int .i64 (laterM x.p.1 x.p.2).2) 104
          generalize hw6 : w5.alloc (.cells #[.string (laterM x.p.1 x.p.2).1, .int .i64 (laterM x.p.1 x.p.2).2] 104) = w6 at *
          clear hw6
          refine wp_append_mark _ _ rfl W0.heap.size _ (joinP (pre.map PM.p)) rfl (hg.keep b6) (fun h => hnil (by simpa [joinP] using h)) ⟨w5.heap.size, 0, none⟩ (laterM x.p.1 x.p.2) rfl m0 (by simpa [Addr.add] using m1) (by omega) (Nat.le_trans hW0 b6.size) ?_
          intro v7 w7 hg7 ha7
          have hW6 : W0.heap.size ≤ w6.heap.size := Nat.le_trans hW0 b6.size
          have far7 := ha7.far hW6
          have cJ7 : w7.cell? ⟨w2.heap.size, 0, none⟩ = some (.slice ag pre.length capg) := (far7.cell (p := ⟨w2.heap.size, 0, none⟩) (by simp only; omega)).trans (HSJ.out _ b6)
          have fJ7 : w7.frozen? ⟨w2.heap.size, 0, none⟩ = false := (far7.frozen (p := ⟨w2.heap.size, 0, none⟩) (by simp only; omega)).trans ((b6.frozen (p := ⟨w2.heap.size, 0, none⟩) (by simp only; omega)).trans hf)
          have ks6 : KS w.heap.size (w2.heap.size + 1) W w7 := (KS.of_below b6).trans (ha7.ks B0.size)
          have nx : bx < W.heap.size := HLX.out
          have nz : bz < W.heap.size := HLZ.out
          refine hK.out _ _ ⟨ks6.cell (.inr ⟨by omega, x3⟩) x0, ks6.cell (.inr ⟨by omega, x3⟩) x1, ks6.cell (.inr ⟨by omega, z3⟩) z0, ks6.cell (.inr ⟨by omega, z3⟩) z1⟩ (fun hS7 => ?_)
          clear hK K
          refine wpAnyH_ready (rs := [7]) (by kernel_rfl) (by simp) ?_
          refine AllReadyH.cons rfl (fun K hK => ?_) AllReadyH.nil
          rw [if_pos (by rfl)]
          obtain ⟨a7, n7, rfl, hrow7⟩ := hg7.shape
          go_simp
          refine hK.out _ _ ⟨(far_set _ _ (by omega)).trans hS7.1, (far_set _ _ (by omega)).trans hS7.2.1, (far_set _ _ (by omega)).trans hS7.2.2.1, (far_set _ _ (by omega)).trans hS7.2.2.2⟩ (fun _ => ?_)
          refine wpAnyH_done (by kernel_rfl) ?_ _
          refine HFIN.out w6 w7 _ b6 ?_ ha7
          simp only [List.length_append, List.length_cons, List.length_nil, Nat.zero_add, HIL] at hg7
          exact hg7
  case done =>
    rintro D ys W hD hS ⟨⟨hR, ⟨jv, hc, hf, hg, hnil⟩, hlen, hW0⟩, hB⟩ hK
    have hJ := joinP_of (stamp_sorted hya) (stamp_sorted hyb) (pairs_spec _ la lb (stamp_sorted hya) (stamp_sorted hyb) (Nat.le_refl _))
    rw [← hS] at hJ
    have HIL := join_len ys
    obtain ⟨ag, capg, rfl, hrow⟩ := hg.shape
    obtain ⟨c0, f0, c1, f1⟩ := id hR
    have HJ : Hid (JoinOf la lb (joinP (ys.map PM.p))) := hJ
    clear hJ
    generalize joinP (ys.map PM.p) = jl at *
    have hz := hR.lt
    rw [HIL] at hc hg
    gi_wp2
    have hg' : Gath ((W.setCell ⟨w.heap.size, 0, none⟩ (.slice ag ys.length capg)).setCell ⟨w.heap.size + 1, 0, none⟩ (.bool true)) W0.heap.size (.slice ag ys.length capg) jl :=
      hg.far fun k h1 h2 => (Below.heap_setCell _ _ _ _ (by simp only; omega)).trans (Below.heap_setCell _ _ _ _ (by simp only; omega))
    have hK' := ((KeepsOthers.setCell W ⟨w.heap.size, 0, none⟩ (.slice ag ys.length capg)).trans (KeepsOthers.setCell _ ⟨w.heap.size + 1, 0, none⟩ (.bool true))).same D _ hK rfl
    refine ⟨by simp, .inl ⟨_, _, rfl, run_takeDeferred hK', ?_⟩⟩
    have d0 : ((W.setCell ⟨w.heap.size, 0, none⟩ (.slice ag ys.length capg)).setCell ⟨w.heap.size + 1, 0, none⟩ (.bool true)).cell? ⟨w.heap.size, 0, none⟩ = some (.slice ag ys.length capg) := by simp [go_sem, c0]
    have d1 : ((W.setCell ⟨w.heap.size, 0, none⟩ (.slice ag ys.length capg)).setCell ⟨w.heap.size + 1, 0, none⟩ (.bool true)).cell? ⟨w.heap.size + 1, 0, none⟩ = some (.bool true) := by simp [go_sem, c1]
    have hr' : ∀ r, some D = some r → ∃ o : Obj, ((W.setCell ⟨w.heap.size, 0, none⟩ (.slice ag ys.length capg)).setCell ⟨w.heap.size + 1, 0, none⟩ (.bool true)).heap[r]? = some o ∧ o.isCells = false := fun r e => by cases e; exact ⟨_, hK', rfl⟩
    have e0 := cell_kept d0 (grownBy_putObj' _ D (.deferred none)) hr'
    have e1 := cell_kept d1 (grownBy_putObj' _ D (.deferred none)) hr'
    have hg5 := hg'.kept (grownBy_putObj' _ D (.deferred none)) hr'
    have hB2 := ((hB.setCell (p := ⟨w.heap.size, 0, none⟩) (Nat.le_refl _) (.slice ag ys.length capg)).setCell (p := ⟨w.heap.size + 1, 0, none⟩) (Nat.le_succ _) (.bool true)).trans (belowK_b (w := w) (Nat.le_refl _) _ D _ (.deferred none) (by omega) hK' rfl rfl)
    refine ⟨.tuple #[.slice ag ys.length capg, .bool true], ?_, ⟨_, jl, true, rfl, hg5.lower B0.size, .inr ⟨hya, hyb, jl, HJ.out, .inl ⟨by omega, rfl, rfl⟩⟩⟩, hB2⟩
    simp [results, Try.f66, go_sem, e0, e1]
  case stop =>
    rintro D c pre W hD hpre ⟨⟨rfl, h12, hR⟩, hB⟩ hK
    have hJ := joinP_of (stamp_sorted hya) (stamp_sorted hyb) (pairs_spec _ la lb (stamp_sorted hya) (stamp_sorted hyb) (Nat.le_refl _))
    have hlen : 12 < (joinP (pairsF (la.length + lb.length) la lb)).length := by
      have := hpre.length_le
      simp only [joinP, List.length_map] at this ⊢
      omega
    gi_wp2
    refine ⟨by simp, .inl ⟨_, _, rfl, run_takeDeferred hK, ?_⟩⟩
    have hR5 := hR.kept (grownBy_putObj' _ D (.deferred none)) (fun r e => by cases e; exact ⟨_, hK, rfl⟩)
    refine ⟨.tuple #[.slice none 0 0, .bool false], ?_, ⟨_, [], false, rfl, Gath.none _ _, .inr ⟨hya, hyb, _, hJ, .inr ⟨hlen, rfl, rfl⟩⟩⟩, hB.trans (belowK_b (w := w) (Nat.le_refl _) W D _ _ (by omega) hK rfl rfl)⟩
    simp [results, Try.f66, go_sem, hR5.c0, hR5.c1]

end Go.Proofs.Ytpfhegengmlkmac
/- Walk: impl.ChoiceJoin. -/
namespace Go.Proofs.Ytpfhegengmlkmac
open Go.RowKit Go.BigFrame
set_option maxRecDepth 100000

set_option maxHeartbeats 1600000 in
theorem implCJ_any (a a' : Option Addr) (cap cap' : Nat) (ws : List (List ItemL)) (ps : List Int) (w : World) (hf : FitW ws) (hr : RowW w a ws) (hp : ps.length ≤ maxLen) (hr' : RowZ w a' ps) :
    Calls Try.prog 30 #[.slice a ws.length cap, .slice a' ps.length cap'] w fun e w' => (∃ v m ok, e = .returned (.tuple #[v, .bool ok]) ∧ Gath w' w.heap.size v m ∧ IsCJ ws ps m ok) ∧ Below w.heap.size w w' := by
  go_enter Try.func30, Try.ntmps30
  go_wp2_with fail
  refine (readChoices_any a cap ws _ hf hr).mono ?_
  rintro e w1 ⟨hE, b1⟩
  have hr1 := hr'.below b1
  rcases hE with ⟨a1, c1, a2, c2, sh, rfl, hok, hc1, hc2, hrv, hrg, hsw⟩ | ⟨rfl, hno⟩
  · have HOK : Hid (OkW ws) := hok
    have HSW : Hid (ShW ws sh) := hsw
    clear hok hsw
    have hcb := chB_new hrv hrg hc1 hc2
    have hbx : Below w1.heap.size w1 (w1.alloc (.cells #[.slice a1 ws.length c1, .slice a2 sh.length c2] 90)) := (Below.refl _ _).alloc (Nat.le_refl _) _
    have BX : Below w.heap.size w (w1.alloc (.cells #[.slice a1 ws.length c1, .slice a2 sh.length c2] 90)) := b1.trans (hbx.mono b1.size)
    have hrx := hr1.below hbx
    go_wp2_with fail
    generalize w1.alloc (.cells #[.slice a1 ws.length c1, .slice a2 sh.length c2] 90) = W at *
    refine (has_any w W w1.heap.size ws sh a' cap' ps hcb HOK.out.2.1 hp hrx).mono ?_
    rintro e w2 ⟨⟨r, rfl, hr2⟩, b2⟩
    have HR : Hid (r = true ↔ ps.length = ws.length ∧ InW ws ps) := hr2
    clear hr2
    have B2 : Below w.heap.size w w2 := BX.trans (b2.mono BX.size)
    cases r with
    | false =>
      have HN : Hid (¬ ChP ws ps) := fun h => by have := HR.out.2 ⟨h.2.1, h.2.2.1⟩; simp at this
      go_wp2_with fail
      exact bodyPost_ret (v := .tuple #[.slice none 0 0, .bool false]) (by simp [results, Try.results30, go_sem]) rfl ⟨⟨_, [], false, rfl, Gath.none _ _, .inr ⟨rfl, rfl, .inl HN.out⟩⟩, B2⟩
    | true =>
      have hh := HR.out.1 rfl
      have HIN : Hid (InW ws ps) := hh.2
      have HLEN : Hid (ps.length = ws.length) := hh.1
      clear HR hh
      go_wp2_with fail
      refine (agrees_any w w2 w1.heap.size ws sh a' cap' ps (hcb.below b2) B2 HOK.out HLEN.out HIN.out (hrx.below b2) HSW.out).mono ?_
      rintro e w3 ⟨⟨r, rfl, hr3⟩, b3⟩
      have HR : Hid (r = true ↔ ChP ws ps) := hr3.trans ⟨fun h => ⟨HOK.out, HLEN.out, HIN.out, h⟩, fun h => h.2.2.2⟩
      clear hr3
      have B3 : Below w.heap.size w w3 := B2.trans (b3.mono B2.size)
      cases r with
      | false =>
        have HN : Hid (¬ ChP ws ps) := fun h => by have := HR.out.2 h; simp at this
        go_wp2_with fail
        exact bodyPost_ret (v := .tuple #[.slice none 0 0, .bool false]) (by simp [results, Try.results30, go_sem]) rfl ⟨⟨_, [], false, rfl, Gath.none _ _, .inr ⟨rfl, rfl, .inl HN.out⟩⟩, B3⟩
      | true =>
        have HC : Hid (ChP ws ps) := HR.out.1 rfl
        have hpl : ps.length ≤ 6 := by have := HLEN.out; have := HOK.out.2.1; omega
        clear HR
        replace hcb := (hcb.below b2).below b3
        replace hrx := (hrx.below b2).below b3
        go_wp2_with fail
        go_loopw [7, 8, 30] (fun okv jv i wr => ∃ (k : Nat) (m : List (ByteArray × Int)), k ≤ ps.length ∧ i = .int .i64 k ∧ Gath wr w.heap.size jv m ∧ Hid (JoinsTo ws ps k m) ∧ Below w3.heap.size w3 wr) (fun _ _ i _ => ps.length - (intOf i).toNat)
        case atStart => exact ⟨0, [], Nat.zero_le _, rfl, Gath.none _ _, rfl, Below.refl _ _⟩
        case round =>
          obtain ⟨k, m, hk, rfl, hg, HJ, hbl⟩ := hrel
          have B4 : Below w.heap.size w wr := B3.trans (hbl.mono B3.size)
          by_cases hlt : k < ps.length
          · obtain ⟨hkw, q, hqe, hq, hpk⟩ := in_nat HC.out.2.2.1 hlt
            obtain ⟨hcl, va, vc, va', vc', e0, hvc, e1, hvc', hv, hgg⟩ := hcb.below hbl
            obtain ⟨g, o, rfl, hwo⟩ := hv k hkw
            obtain ⟨b2, o2, rfl, g2, f2⟩ := hrx.below hbl k hlt
            rw [hqe] at f2
            have hfm := (hf.2 k hkw).2 q hq
            have k0 : (0 : Int) ≤ (k : Int) := by omega
            have k1 : (k : Int) < (ps.length : Int) := by omega
            have k2 : (k : Int) < (ws.length : Int) := by omega
            have HPK : Hid (pkM ws ps k = (ws[k][q]).2) := hpk
            have hst := HJ.out.stamp
            have hm12 := hst.1
            have HMS : Hid (∀ j, (h : j < m.length) → m[j].1.size ≤ maxLen) := fun j hj => by have := (hst.2.1 j hj).1.2.1; unfold maxLen; omega
            obtain ⟨oa, oc, rfl, hoc, horow⟩ := gath_row hg
            clear hqe hpk hst hgg hv
            go_wp2_with fail
            refine (at_off w wr g (o + k * 10) ws[k] q hwo hq).mono ?_
            rintro e w4 ⟨⟨vv, rfl, ⟨sa, sc, rfl, hsc, hrow⟩⟩, b4⟩
            have B5 : Below w.heap.size w w4 := B4.trans (b4.mono B4.size)
            have hfd := field_stamp (ws[k][q]).1 sa (ws[k][q]).2.length sc
            go_wp2_with fail
            refine (implJoin_any oa sa oc sc m (ws[k][q]).2 _ (by unfold maxLen; omega) hfm.1 hoc hsc (horow.below b4) (hrow.below B5) HMS.out hfm.2).mono ?_
            rintro e w5 ⟨⟨v2, m2, ok2, rfl, hg2, hj2⟩, b5⟩
            obtain ⟨va2, vc2, rfl, _, _⟩ := gath_row hg2
            rw [← HPK.out] at hj2
            have HJ2 : Hid (IsJ m (pkM ws ps k) m2 ok2) := hj2
            clear hj2
            have b45 : Below wr.heap.size wr w5 := b4.trans (b5.mono b4.size)
            cases ok2 with
            | false =>
              have HF : Hid (IsCJ ws ps [] false) := .inr ⟨rfl, rfl, .inr ⟨k, m, m2, hlt, HJ.out, HJ2.out⟩⟩
              go_wp2_with fail
              exact bodyPost_ret (v := .tuple #[.slice none 0 0, .bool false]) (by simp [results, Try.results30, go_sem]) rfl ⟨⟨_, [], false, rfl, Gath.none _ _, HF.out⟩, B4.trans (b45.mono B4.size)⟩
            | true =>
              have HST : Hid (JoinsTo ws ps (k + 1) m2) := ⟨m, HJ.out, HJ2.out⟩
              go_wp2_with fail
              exact ⟨⟨k + 1, m2, by omega, by go_num, hg2.lower B5.size, HST, hbl.trans (b45.mono hbl.size)⟩, by simp [intOf]; omega⟩
          · have HF : Hid (IsCJ ws ps m true) := .inl ⟨rfl, HC.out, by
              have e : k = ps.length := by omega
              rw [← e]; exact HJ.out⟩
            go_wp2_with fail
            exact bodyPost_ret (by simp [results, Try.results30, go_sem]) rfl ⟨⟨_, m, true, rfl, hg, HF.out⟩, B4⟩
  · have HN : Hid (¬ ChP ws ps) := fun h => hno h.1
    clear hno
    go_wp2_with fail
    exact bodyPost_ret (v := .tuple #[.slice none 0 0, .bool false]) (by simp [results, Try.results30, go_sem]) rfl ⟨⟨_, [], false, rfl, Gath.none _ _, .inr ⟨rfl, rfl, .inl HN.out⟩⟩, b1.alloc b1.size _⟩

end Go.Proofs.Ytpfhegengmlkmac
/- Walks: toMark, toMarkS. -/
namespace Go.Proofs.Ytpfhegengmlkmac
open Go.RowKit

theorem Try.info104 : (Try.prog.info? 104).map (fun i => (i.zero, i.size, i.bytes)) = some (some (.agg #[.string .empty, .int .i64 0]), 2, 24) := by kernel_rfl

set_option maxHeartbeats 400000 in
theorem toMark_any (s : ByteArray) (v : Int) (w : World) :
    Calls Try.prog 103 #[.agg #[.string s, .int .i64 v]] w fun e w' => e = .returned (.agg #[.string s, .int .i64 v]) ∧ Below w.heap.size w w' := by
  go_enter Try.func103, Try.ntmps103
  go_wp2
  exact bodyPost_ret (v := .agg #[.string s, .int .i64 v]) (by simp [results, Try.results103, go_sem]) rfl ⟨rfl, (((Below.refl _ _).alloc (Nat.le_refl _) _).alloc (by simp) _).alloc (by simp; omega) _⟩

set_option maxHeartbeats 400000 in
theorem toMarkS_any (a : Option Addr) (cap : Nat) (l : List (ByteArray × Int)) (w : World) (hl : l.length ≤ 1048576) (hr : Row w a l) :
    Calls Try.prog 76 #[.slice a l.length cap] w fun e w' => e = .returned (.slice (some ⟨w.heap.size, 0, none⟩) l.length l.length) ∧ Own w' w.heap.size l ∧ Below w.heap.size w w' := by
  obtain ⟨i0, hi, hz0, hz1, hz2⟩ := info_parts Try.info104
  have hmk : ∀ u : World, (Instr.makeSlice 45 (.int .i64 (l.length : Int)) (.int .i64 (l.length : Int))).run Try.prog u =
      .ok (.slice (some ⟨u.heap.size, 0, none⟩) l.length l.length) (u.alloc (.cells (madeCells #[.string .empty, .int .i64 0] (l.length * 2)) 104)) := fun u => by
    have h := run_make (P := Try.prog) u 45 104 i0 (.agg #[.string .empty, .int .i64 0]) Try.underlying45 hi hz0 .i64 .i64 (l.length : Int) (l.length : Int) (by omega) (Int.le_refl _) (by rw [hz2]; omega) (by omega)
    simpa [hz1, Value.cells] using h
  go_enter Try.func76, Try.ntmps76
  go_wp2_with fail
  go_loopw [4] (fun i wr => ∃ k : Nat, k ≤ l.length ∧ i = .int .i64 k ∧ Part wr w.heap.size l k ∧ Below w.heap.size w wr) (fun i _ => l.length - (intOf i).toNat)
  case atStart => exact ⟨0, Nat.zero_le _, rfl, Part.made w l _, (Below.refl _ _).alloc (Nat.le_refl _) _⟩
  case round =>
    obtain ⟨k, hk, rfl, hp, hb⟩ := hrel
    by_cases hlt : k < l.length
    · obtain ⟨b, o, rfl, hblt, c0, c1⟩ := hr k hlt
      obtain ⟨hcc, hf⟩ := bcell hb
      have hpl := hp.lt
      go_wp2_with (first | (go_at_call 103; refine (toMark_any _ _ _).mono ?_; rintro e w1 ⟨rfl, hb1⟩; have hp1 := hp.below hpl hb1; obtain ⟨v0, hv0⟩ := hp1.cell (i := k * 2) (by omega); obtain ⟨v1, hv1⟩ := hp1.cell (i := k * 2 + 1) (by omega); have hz0 := hp1.frozen (k * 2); have hz1 := hp1.frozen (k * 2 + 1)))
      exact ⟨⟨k + 1, by omega, by go_num, hp1.step hlt, ((hb.trans (hb1.mono hb.size)).setCell (Nat.le_refl _) _).setCell (Nat.le_refl _) _⟩, by simp [intOf]; omega⟩
    · have e : k = l.length := by omega
      subst e
      go_wp2_with fail
      go_ret
      exact ⟨rfl, hp.own, hb⟩

end Go.Proofs.Ytpfhegengmlkmac
/- Walks: toItem, toItemS; items in blocks of the call's own. -/
namespace Go.Proofs.Ytpfhegengmlkmac
open Go.RowKit

theorem IsSl.of_own {w : World} {b : Nat} {l : List (ByteArray × Int)} (h : Own w b l) : IsSl w (.slice (some ⟨b, 0, none⟩) l.length l.length) l := ⟨_, _, rfl, Nat.le_refl _, h.row⟩

theorem Own.setOther {w : World} {b : Nat} {l : List (ByteArray × Int)} (h : Own w b l) {q : Nat} (hq : b ≠ q) (i : Nat) (v : Value) : Own (w.setCell ⟨q, i, none⟩ v) b l := by
  obtain ⟨m, f, h, hf⟩ := h
  exact ⟨m, f, h.of_block (Below.heap_setCell _ _ _ _ (by simp only; omega)), hf⟩

set_option maxHeartbeats 800000 in
theorem toItem_any (x : Int) (a : Option Addr) (c : Nat) (l : List (ByteArray × Int)) (w : World) (hr : Row w a l) (hl : l.length ≤ 1048576) :
    Calls Try.prog 50 #[.agg #[.int .i64 x, .slice a l.length c]] w fun e w' => (∃ b, w.heap.size ≤ b ∧ e = .returned (.agg #[.int .i64 x, .slice (some ⟨b, 0, none⟩) l.length l.length]) ∧ Own w' b l) ∧ Below w.heap.size w w' := by
  go_enter Try.func50, Try.ntmps50
  go_wp2_with fail
  have hsz : (((w.alloc (.cells #[.int .i64 x, .slice a l.length c] 70)).alloc (.cells #[.int .i64 0, .slice none 0 0] 74)).alloc (.cells #[.int .i64 x, .slice none 0 0] 74)).heap.size = w.heap.size + 3 := by simp
  have c0 : (((w.alloc (.cells #[.int .i64 x, .slice a l.length c] 70)).alloc (.cells #[.int .i64 0, .slice none 0 0] 74)).alloc (.cells #[.int .i64 x, .slice none 0 0] 74)).cell? ⟨w.heap.size + 1 + 1, 0, none⟩ = some (.int .i64 x) := by simp [go_sem]
  have c1 : (((w.alloc (.cells #[.int .i64 x, .slice a l.length c] 70)).alloc (.cells #[.int .i64 0, .slice none 0 0] 74)).alloc (.cells #[.int .i64 x, .slice none 0 0] 74)).cell? ⟨w.heap.size + 1 + 1, 1, none⟩ = some (.slice none 0 0) := by simp [go_sem]
  have d0 : (((w.alloc (.cells #[.int .i64 x, .slice a l.length c] 70)).alloc (.cells #[.int .i64 0, .slice none 0 0] 74)).alloc (.cells #[.int .i64 x, .slice none 0 0] 74)).cell? ⟨w.heap.size + 1, 0, none⟩ = some (.int .i64 0) := by simp [go_sem]
  have d1 : (((w.alloc (.cells #[.int .i64 x, .slice a l.length c] 70)).alloc (.cells #[.int .i64 0, .slice none 0 0] 74)).alloc (.cells #[.int .i64 x, .slice none 0 0] 74)).cell? ⟨w.heap.size + 1, 1, none⟩ = some (.slice none 0 0) := by simp [go_sem]
  have fc1 : (((w.alloc (.cells #[.int .i64 x, .slice a l.length c] 70)).alloc (.cells #[.int .i64 0, .slice none 0 0] 74)).alloc (.cells #[.int .i64 x, .slice none 0 0] 74)).frozen? ⟨w.heap.size + 1 + 1, 1, none⟩ = false := by simp [go_sem]
  have fd0 : (((w.alloc (.cells #[.int .i64 x, .slice a l.length c] 70)).alloc (.cells #[.int .i64 0, .slice none 0 0] 74)).alloc (.cells #[.int .i64 x, .slice none 0 0] 74)).frozen? ⟨w.heap.size + 1, 0, none⟩ = false := by simp [go_sem]
  have fd1 : (((w.alloc (.cells #[.int .i64 x, .slice a l.length c] 70)).alloc (.cells #[.int .i64 0, .slice none 0 0] 74)).alloc (.cells #[.int .i64 x, .slice none 0 0] 74)).frozen? ⟨w.heap.size + 1, 1, none⟩ = false := by simp [go_sem]
  have hb0 : Below w.heap.size w (((w.alloc (.cells #[.int .i64 x, .slice a l.length c] 70)).alloc (.cells #[.int .i64 0, .slice none 0 0] 74)).alloc (.cells #[.int .i64 x, .slice none 0 0] 74)) := (((Below.refl _ _).alloc (Nat.le_refl _) _).alloc (by simp) _).alloc (by simp; omega) _
  generalize ((w.alloc (.cells #[.int .i64 x, .slice a l.length c] 70)).alloc (.cells #[.int .i64 0, .slice none 0 0] 74)).alloc (.cells #[.int .i64 x, .slice none 0 0] 74) = W0 at *
  have g1 : w.heap.size + 1 < W0.heap.size := by omega
  have g2 : w.heap.size + 1 + 1 < W0.heap.size := by omega
  refine (toMarkS_any a c l _ hl (hr.below hb0)).mono ?_
  rintro e w1 ⟨rfl, ho, b1⟩
  replace c0 := cell_on b1 g2 c0
  replace c1 := cell_on b1 g2 c1
  replace d0 := cell_on b1 g1 d0
  replace d1 := cell_on b1 g1 d1
  replace fc1 := (b1.frozen (p := ⟨w.heap.size + 1 + 1, 1, none⟩) g2).trans fc1
  replace fd0 := (b1.frozen (p := ⟨w.heap.size + 1, 0, none⟩) g1).trans fd0
  replace fd1 := (b1.frozen (p := ⟨w.heap.size + 1, 1, none⟩) g1).trans fd1
  have B1 : Below w.heap.size w w1 := hb0.trans (b1.mono hb0.size)
  have hlt := ho.lt
  rw [hsz] at ho
  go_wp2_with fail
  have y0 : (((w1.setCell ⟨w.heap.size + 1 + 1, 1, none⟩ (.slice (some ⟨w.heap.size + 3, 0, none⟩) l.length l.length)).setCell ⟨w.heap.size + 1, 0, none⟩ (.int .i64 x)).setCell ⟨w.heap.size + 1, 1, none⟩ (.slice (some ⟨w.heap.size + 3, 0, none⟩) l.length l.length)).cell? ⟨w.heap.size + 1, 0, none⟩ = some (.int .i64 x) := by simp [go_sem, d0]
  have y1 : (((w1.setCell ⟨w.heap.size + 1 + 1, 1, none⟩ (.slice (some ⟨w.heap.size + 3, 0, none⟩) l.length l.length)).setCell ⟨w.heap.size + 1, 0, none⟩ (.int .i64 x)).setCell ⟨w.heap.size + 1, 1, none⟩ (.slice (some ⟨w.heap.size + 3, 0, none⟩) l.length l.length)).cell? ⟨w.heap.size + 1, 1, none⟩ = some (.slice (some ⟨w.heap.size + 3, 0, none⟩) l.length l.length) := by simp [go_sem, d1]
  exact bodyPost_ret (v := .agg #[.int .i64 x, .slice (some ⟨w.heap.size + 3, 0, none⟩) l.length l.length]) (by simp [results, Try.results50, go_sem, y0, y1]) rfl
    ⟨⟨w.heap.size + 3, by omega, rfl, ((ho.setOther (by omega) _ _).setOther (by omega) _ _).setOther (by omega) _ _⟩, ((B1.setCell (by simp only; omega) _).setCell (by simp only; omega) _).setCell (by simp only; omega) _⟩

end Go.Proofs.Ytpfhegengmlkmac
/- Items in blocks of the call's own. Walk: toItemS. -/
namespace Go.Proofs.Ytpfhegengmlkmac
open Go.RowKit

/-- The first 'k' items of 'l' lie in block 'g', which has room for all; their marks lie each in a block of its own, from 'lo' on and ahead of 'T'. -/
def PartI (w : World) (lo T g : Nat) (l : List ItemL) (k : Nat) : Prop :=
  ∃ (G C : Nat → Nat) (m : Nat) (f : Nat → Value), w.rowIs g 74 m f ∧ l.length * 2 ≤ m ∧
    (∀ j, (h : j < l.length) → j < k → f (j * 2) = .int .i64 l[j].1 ∧ f (j * 2 + 1) = .slice (some ⟨G j, 0, none⟩) l[j].2.length (C j) ∧ l[j].2.length ≤ C j ∧ Own w (G j) l[j].2 ∧ lo ≤ G j ∧ G j < T ∧ G j ≠ g) ∧ ∀ i j, i < k → j < k → i ≠ j → G i ≠ G j

theorem PartI.lt {w : World} {lo T g k : Nat} {l : List ItemL} (h : PartI w lo T g l k) : g < w.heap.size := by
  obtain ⟨_, _, _, _, h, _⟩ := h
  exact h.lt
theorem PartI.below {w w' : World} {lo T g k : Nat} {l : List ItemL} (h : PartI w lo T g l k) (hb : Below w.heap.size w w') : PartI w' lo T g l k := by
  have hlt := h.lt
  obtain ⟨G, C, m, f, h, hm, hf, hd⟩ := h
  refine ⟨G, C, m, f, h.of_block (hb.block g hlt), hm, fun j hj hk => ?_, hd⟩
  obtain ⟨h1, h2, h3, h4, h5⟩ := hf j hj hk
  exact ⟨h1, h2, h3, h4.below hb, h5⟩
theorem PartI.grow {w : World} {lo T T' g k : Nat} {l : List ItemL} (h : PartI w lo T g l k) (hT : T ≤ T') : PartI w lo T' g l k := by
  obtain ⟨G, C, m, f, h, hm, hf, hd⟩ := h
  refine ⟨G, C, m, f, h, hm, fun j hj hk => ?_, hd⟩
  obtain ⟨h1, h2, h3, h4, h5, h6, h7⟩ := hf j hj hk
  exact ⟨h1, h2, h3, h4, h5, by omega, h7⟩
theorem PartI.made (w : World) (lo : Nat) (l : List ItemL) (z : Array Value) : PartI (w.alloc (.cells (madeCells z (l.length * 2)) 74)) lo (w.heap.size + 1) w.heap.size l 0 := by
  refine ⟨fun _ => 0, fun _ => 0, l.length * 2, fun i => z[i % z.size]!, ?_, Nat.le_refl _, fun j _ h => by omega, fun i j h => by omega⟩
  have h := World.rowIs_alloc w (madeCells z (l.length * 2)) 74 (fun i => z[i % z.size]!) (fun i hi => by
    rw [size_madeCells] at hi
    simp [madeCells, hi])
  rwa [size_madeCells] at h
theorem PartI.cell {w : World} {lo T g k : Nat} {l : List ItemL} (h : PartI w lo T g l k) {i : Nat} (hi : i < l.length * 2) : ∃ v, w.cell? ⟨g, i, none⟩ = some v := by
  obtain ⟨_, _, m, f, h, hm, _⟩ := h
  exact ⟨_, h.cell (by omega)⟩
theorem PartI.frozen {w : World} {lo T g k : Nat} {l : List ItemL} (h : PartI w lo T g l k) (i : Nat) : w.frozen? ⟨g, i, none⟩ = false := by
  obtain ⟨_, _, m, f, h, _⟩ := h
  exact h.frozen i
theorem PartI.step {w : World} {lo T g k : Nat} {l : List ItemL} (h : PartI w lo T g l k) (hk : k < l.length) {b c : Nat} (hT : T ≤ b) (hlo : lo ≤ b) (hg : b ≠ g) (hc : l[k].2.length ≤ c) (ho : Own w b l[k].2) :
    PartI ((w.setCell ⟨g, k * 2, none⟩ (.int .i64 l[k].1)).setCell ⟨g, k * 2 + 1, none⟩ (.slice (some ⟨b, 0, none⟩) l[k].2.length c)) lo (b + 1) g l (k + 1) := by
  obtain ⟨G, C, m, f, h, hm, hf, hd⟩ := h
  refine ⟨fun j => if j = k then b else G j, fun j => if j = k then c else C j, m, _, (h.set _ _).set _ _, hm, fun j hj hlt => ?_, fun i j hi hj hne => ?_⟩
  · by_cases e : j = k
    · subst e
      simp only [if_true]
      refine ⟨by simp, by simp, hc, (ho.setOther hg _ _).setOther hg _ _, hlo, by omega, hg⟩
    · obtain ⟨h1, h2, h3, h4, h5, h6, h7⟩ := hf j hj (by omega)
      have e0 : j * 2 ≠ k * 2 + 1 := by omega
      have e1 : j * 2 ≠ k * 2 := by omega
      have e2 : j * 2 + 1 ≠ k * 2 + 1 := by omega
      have e3 : j * 2 + 1 ≠ k * 2 := by omega
      simp only [if_neg e, if_neg e0, if_neg e1, if_neg e2, if_neg e3]
      exact ⟨h1, h2, h3, (h4.setOther h7 _ _).setOther h7 _ _, h5, by omega, h7⟩
  · by_cases e : i = k
    · subst e
      have hj' : j < i := by omega
      have := (hf j (by omega) hj').2.2.2.2.2.1
      simp only [if_true, if_neg (by omega : ¬ j = i)]
      omega
    · by_cases e' : j = k
      · subst e'
        have hi' : i < j := by omega
        have := (hf i (by omega) hi').2.2.2.2.2.1
        simp only [if_true, if_neg e]
        omega
      · simp only [if_neg e, if_neg e']
        exact hd i j (by omega) (by omega) hne
theorem PartI.row {w : World} {lo T g : Nat} {l : List ItemL} (h : PartI w lo T g l l.length) : RowI w (some ⟨g, 0, none⟩) l := fun k hk => by
  obtain ⟨G, C, m, f, h, hm, hf, _⟩ := h
  obtain ⟨h1, h2, h3, h4, _⟩ := hf k hk hk
  refine ⟨g, 0, rfl, h.lt, by rw [Nat.zero_add, h.cell (by omega), h1], _, by rw [Nat.zero_add, h.cell (by omega), h2], _, _, rfl, h3, h4.row⟩
theorem Try.infoI : (Try.prog.info? 74).map (fun i => (i.zero, i.size, i.bytes)) = some (some (.agg #[.int .i64 0, .slice none 0 0]), 2, 32) := by kernel_rfl

set_option maxHeartbeats 800000 in
theorem toItemS_any (a : Option Addr) (cap : Nat) (l : List ItemL) (w : World) (hl : l.length ≤ 1048576) (hs : ∀ j, (h : j < l.length) → l[j].2.length ≤ 1048576) (hr : RowI w a l) :
    Calls Try.prog 12 #[.slice a l.length cap] w fun e w' => e = .returned (.slice (some ⟨w.heap.size, 0, none⟩) l.length l.length) ∧ PartI w' w.heap.size w'.heap.size w.heap.size l l.length ∧ Below w.heap.size w w' := by
  obtain ⟨i0, hi, hz0, hz1, hz2⟩ := info_parts Try.infoI
  have hmk : ∀ u : World, (Instr.makeSlice 25 (.int .i64 (l.length : Int)) (.int .i64 (l.length : Int))).run Try.prog u =
      .ok (.slice (some ⟨u.heap.size, 0, none⟩) l.length l.length) (u.alloc (.cells (madeCells #[.int .i64 0, .slice none 0 0] (l.length * 2)) 74)) := fun u => by
    have h := run_make (P := Try.prog) u 25 74 i0 (.agg #[.int .i64 0, .slice none 0 0]) Try.underlying25 hi hz0 .i64 .i64 (l.length : Int) (l.length : Int) (by omega) (Int.le_refl _) (by rw [hz2]; omega) (by omega)
    simpa [hz1, Value.cells] using h
  go_enter Try.func12, Try.ntmps12
  go_wp2_with fail
  go_loopw [4] (fun i wr => ∃ k : Nat, k ≤ l.length ∧ i = .int .i64 k ∧ PartI wr w.heap.size wr.heap.size w.heap.size l k ∧ Below w.heap.size w wr) (fun i _ => l.length - (intOf i).toNat)
  case atStart => exact ⟨0, Nat.zero_le _, rfl, (PartI.made w _ l _).grow (by simp), (Below.refl _ _).alloc (Nat.le_refl _) _⟩
  case round =>
    obtain ⟨k, hk, rfl, hp, hb⟩ := hrel
    have hzr := hb.size
    have hpl := hp.lt
    by_cases hlt : k < l.length
    · obtain ⟨b, o, rfl, hblt, c0, v, c1, hv⟩ := hr.below hb k hlt
      obtain ⟨sa, sc, rfl, hcap, hrow⟩ := hv
      have k0 : (0 : Int) ≤ (k : Int) := by omega
      have k1 : (k : Int) < (l.length : Int) := by omega
      have hsk := hs k hlt
      go_wp2_with fail
      refine (toItem_any l[k].1 sa sc l[k].2 _ hrow hsk).mono ?_
      rintro e w1 ⟨⟨b2, hb2, rfl, ho⟩, b1⟩
      have hp1 := hp.below b1
      obtain ⟨v0, hv0⟩ := hp1.cell (i := k * 2) (by omega)
      obtain ⟨v1, hv1⟩ := hp1.cell (i := k * 2 + 1) (by omega)
      have hf0 := hp1.frozen (k * 2)
      have hf1 := hp1.frozen (k * 2 + 1)
      have B1 : Below w.heap.size w w1 := hb.trans (b1.mono hzr)
      have hstep := hp1.step hlt hb2 (by omega) (by omega) (Nat.le_refl _) ho
      have hlt2 := ho.lt
      go_wp2_with fail
      exact ⟨⟨k + 1, by omega, by go_num, hstep.grow (by simp; omega), (B1.setCell (Nat.le_refl _) _).setCell (Nat.le_refl _) _⟩, by simp [intOf]; omega⟩
    · obtain rfl : k = l.length := by omega
      go_wp2_with fail
      go_ret
      exact ⟨rfl, hp, hb⟩

end Go.Proofs.Ytpfhegengmlkmac
/- Walks: eqMark, eqMarkS at two rows of the same marks. -/
namespace Go.Proofs.Ytpfhegengmlkmac
open Go.RowKit Go.BigFrame

set_option maxHeartbeats 400000 in
theorem eqMark_same (s : ByteArray) (u : Int) (w : World) :
    Calls Try.prog 67 #[.agg #[.string s, .int .i64 u], .agg #[.string s, .int .i64 u]] w fun e w' => e = .returned (.bool true) ∧ Below w.heap.size w w' := by
  go_enter Try.func67, Try.ntmps67
  go_wp2
  go_ret
  exact ⟨rfl, ((Below.refl _ _).alloc (Nat.le_refl _) _).alloc (by simp) _⟩

set_option maxHeartbeats 400000 in
theorem eqMarkS_same (a b : Option Addr) (ca cb : Nat) (l : List (ByteArray × Int)) (w : World) (hl : l.length ≤ maxLen) (ha : Row w a l) (hb : Row w b l) :
    Calls Try.prog 31 #[.slice a l.length ca, .slice b l.length cb] w fun e w' => e = .returned (.bool true) ∧ Below w.heap.size w w' := by
  unfold maxLen at hl
  go_enter Try.func31, Try.ntmps31
  go_wp2_with fail
  go_loopw [5] (fun i wr => ∃ k : Nat, k ≤ l.length ∧ i = .int .i64 k ∧ Below w.heap.size w wr) (fun i _ => l.length - (intOf i).toNat)
  case atStart => exact ⟨0, Nat.zero_le _, rfl, Below.refl _ _⟩
  case round =>
    obtain ⟨k, hk, rfl, hbl⟩ := hrel
    by_cases hlt : k < l.length
    · obtain ⟨b1, o1, rfl, hlt1, c0, c1⟩ := ha k hlt
      obtain ⟨b2, o2, rfl, hlt2, d0, d1⟩ := hb k hlt
      have e0 := cell_on hbl hlt1 c0
      have e1 := cell_on hbl hlt1 c1
      have f0 := cell_on hbl hlt2 d0
      have f1 := cell_on hbl hlt2 d1
      have g1 : b1 < wr.heap.size := Nat.lt_of_lt_of_le hlt1 hbl.size
      have g2 : b2 < wr.heap.size := Nat.lt_of_lt_of_le hlt2 hbl.size
      have k0 : (0 : Int) ≤ (k : Int) := by omega
      have k1 : (k : Int) < (l.length : Int) := by omega
      go_wp2_with fail
      refine wp_region_lat (by kernel_rfl) (by kernel_rfl) ?_
      have hne := Lat.some wr
      have q0 : ∀ n : Lat wr, n.w.cell? ⟨b1, o1 + k * 2, none⟩ = some (.string l[k].1) := fun n => n.cell g1 e0
      have q1 : ∀ n : Lat wr, n.w.cell? ⟨b1, o1 + k * 2 + 1, none⟩ = some (.int .i64 l[k].2) := fun n => n.cell g1 e1
      have q2 : ∀ n : Lat wr, n.w.cell? ⟨b2, o2 + k * 2, none⟩ = some (.string l[k].1) := fun n => n.cell g2 f0
      have q3 : ∀ n : Lat wr, n.w.cell? ⟨b2, o2 + k * 2 + 1, none⟩ = some (.int .i64 l[k].2) := fun n => n.cell g2 f1
      repeat (go_big_quiet_step ((go_at_call 67; exact Calls.lat_of (eqMark_same _ _ _))))
      refine wpQuiet_nil ?_
      rintro _ ⟨nq, rfl⟩
      go_wp2_with fail
      exact ⟨⟨k + 1, by omega, by go_num, hbl.trans (nq.h.mono hbl.size)⟩, by simp [intOf]; omega⟩
    · go_wp2_with fail
      go_ret
      exact ⟨rfl, hbl⟩

end Go.Proofs.Ytpfhegengmlkmac
/- Walks: eqItem, eqItemS at two rows of the same items. -/
namespace Go.Proofs.Ytpfhegengmlkmac
open Go.RowKit Go.BigFrame

set_option maxHeartbeats 800000 in
theorem eqItem_same (x : Int) (a1 a2 : Option Addr) (c1 c2 : Nat) (l : List (ByteArray × Int)) (w : World) (hl : l.length ≤ maxLen) (h1 : Row w a1 l) (h2 : Row w a2 l) :
    Calls Try.prog 55 #[.agg #[.int .i64 x, .slice a1 l.length c1], .agg #[.int .i64 x, .slice a2 l.length c2]] w fun e w' => e = .returned (.bool true) ∧ Below w.heap.size w w' := by
  go_enter Try.func55, Try.ntmps55
  go_wp2_with fail
  have hb0 : Below w.heap.size w ((w.alloc (.cells #[.int .i64 x, .slice a1 l.length c1] 74)).alloc (.cells #[.int .i64 x, .slice a2 l.length c2] 74)) := ((Below.refl _ _).alloc (Nat.le_refl _) _).alloc (by simp) _
  refine (eqMarkS_same a1 a2 c1 c2 l _ hl (h1.below hb0) (h2.below hb0)).mono ?_
  rintro e w1 ⟨rfl, b1⟩
  have B1 : Below w.heap.size w w1 := hb0.trans (b1.mono hb0.size)
  go_wp2_with fail
  go_ret
  exact ⟨rfl, B1⟩

set_option maxHeartbeats 800000 in
theorem eqItemS_same (a b : Option Addr) (ca cb : Nat) (l : List ItemL) (w : World) (hf : FitI l) (ha : RowI w a l) (hb : RowI w b l) :
    Calls Try.prog 14 #[.slice a l.length ca, .slice b l.length cb] w fun e w' => e = .returned (.bool true) ∧ Below w.heap.size w w' := by
  have hl := hf.1
  unfold maxLen at hl
  go_enter Try.func14, Try.ntmps14
  go_wp2_with fail
  go_loopw [5] (fun i wr => ∃ k : Nat, k ≤ l.length ∧ i = .int .i64 k ∧ Below w.heap.size w wr) (fun i _ => l.length - (intOf i).toNat)
  case atStart => exact ⟨0, Nat.zero_le _, rfl, Below.refl _ _⟩
  case round =>
    obtain ⟨k, hk, rfl, hbl⟩ := hrel
    by_cases hlt : k < l.length
    · obtain ⟨b1, o1, rfl, g1, e0, v1, e1, ⟨s1, t1, rfl, _, r1⟩⟩ := ha.below hbl k hlt
      obtain ⟨b2, o2, rfl, g2, f0, v2, f1, ⟨s2, t2, rfl, _, r2⟩⟩ := hb.below hbl k hlt
      have k0 : (0 : Int) ≤ (k : Int) := by omega
      have k1 : (k : Int) < (l.length : Int) := by omega
      have hlk := (hf.2 k hlt).1
      go_wp2_with fail
      refine wp_region_lat (by kernel_rfl) (by kernel_rfl) ?_
      have hne := Lat.some wr
      have q0 : ∀ n : Lat wr, n.w.cell? ⟨b1, o1 + k * 2, none⟩ = some (.int .i64 l[k].1) := fun n => n.cell g1 e0
      have q1 : ∀ n : Lat wr, n.w.cell? ⟨b1, o1 + k * 2 + 1, none⟩ = some (.slice s1 l[k].2.length t1) := fun n => n.cell g1 e1
      have q2 : ∀ n : Lat wr, n.w.cell? ⟨b2, o2 + k * 2, none⟩ = some (.int .i64 l[k].1) := fun n => n.cell g2 f0
      have q3 : ∀ n : Lat wr, n.w.cell? ⟨b2, o2 + k * 2 + 1, none⟩ = some (.slice s2 l[k].2.length t2) := fun n => n.cell g2 f1
      have ce : ∀ n : Lat wr, Calls Try.prog 55 #[.agg #[.int .i64 l[k].1, .slice s1 l[k].2.length t1], .agg #[.int .i64 l[k].1, .slice s2 l[k].2.length t2]] n.w fun e w'' => e = .returned (.bool true) ∧ Below n.w.heap.size n.w w'' := fun n => eqItem_same _ _ _ _ _ _ _ hlk (r1.below n.h) (r2.below n.h)
      repeat (go_big_quiet_step ((go_at_call 55; exact Calls.lat_of (ce _))))
      refine wpQuiet_nil ?_
      rintro _ ⟨nq, rfl⟩
      go_wp2_with fail
      exact ⟨⟨k + 1, by omega, by go_num, hbl.trans (nq.h.mono hbl.size)⟩, by simp [intOf]; omega⟩
    · go_wp2_with fail
      go_ret
      exact ⟨rfl, hbl⟩

end Go.Proofs.Ytpfhegengmlkmac
/- Walks: szItemSS, eqItemSS at two rows of the same windows, eqIntS at two rows of the same numbers. -/
namespace Go.Proofs.Ytpfhegengmlkmac
open Go.RowKit Go.BigFrame

def SmallW (n : Int) (ws : List (List ItemL)) : Prop := (ws.length : Int) ≤ n ∧ ∀ j, (h : j < ws.length) → SmallI n ws[j]
theorem SmallI.mono {n m : Int} {l : List ItemL} (h : SmallI n l) (hm : n ≤ m) : SmallI m l := ⟨by have := h.1; omega, fun j hj => (h.2 j hj).mono hm⟩
theorem szW_step {ws : List (List ItemL)} {left : Int} {k : Nat} (H : ∀ j, (h : j < ws.length) → j < k → SmallI left ws[j]) (hk : k < ws.length) (h : SmallI left ws[k]) : ∀ j, (h : j < ws.length) → j < k + 1 → SmallI left ws[j] := fun j hj hlt => by
  by_cases e : j = k
  · subst e; exact h
  · exact H j hj (by omega)

set_option maxHeartbeats 800000 in
theorem szItemSS_any (a : Option Addr) (cap : Nat) (ws : List (List ItemL)) (left : Int) (w : World) (hr : RowW w a ws) (hf : FitW ws) (h0 : 0 ≤ left) (h1 : left ≤ 1048576) :
    Calls Try.prog 15 #[.slice a ws.length cap, .int .i64 left] w fun e w' => ∃ r : Int, e = .returned (.int .i64 r) ∧ -1 ≤ r ∧ r ≤ left ∧ (0 ≤ r → SmallW left ws) ∧ Below w.heap.size w w' := by
  have hl := hf.1
  unfold maxLen at hl
  by_cases hc : left - (ws.length : Int) < 0
  · go_enter Try.func15, Try.ntmps15
    go_wp2_with fail
    go_ret
    exact ⟨-1, rfl, by omega, by omega, fun h => by omega, Below.refl _ _⟩
  · go_enter Try.func15, Try.ntmps15
    go_wp2_with fail
    go_loopw [1, 5] (fun lf i wr => ∃ (k : Nat) (q : Int), k ≤ ws.length ∧ i = .int .i64 k ∧ lf = .int .i64 q ∧ 0 ≤ q ∧ q ≤ left ∧ (∀ j, (h : j < ws.length) → j < k → SmallI left ws[j]) ∧ Below w.heap.size w wr) (fun _ i _ => ws.length - (intOf i).toNat)
    case atStart => exact ⟨0, _, Nat.zero_le _, rfl, rfl, by omega, by omega, fun j _ h => by omega, Below.refl _ _⟩
    case round =>
      obtain ⟨k, q, hk, rfl, rfl, hq0, hq1, hall, hb⟩ := hrel
      by_cases hlt : k < ws.length
      · obtain ⟨b, o, rfl, hblt, s1, t1, c1, _, hrow⟩ := hr.below hb k hlt
        have HST : Hid (SmallI left ws[k] → ∀ j, (h : j < ws.length) → j < k + 1 → SmallI left ws[j]) := szW_step hall hlt
        have k0 : (0 : Int) ≤ (k : Int) := by omega
        have k1 : (k : Int) < (ws.length : Int) := by omega
        clear hall
        go_wp2_with fail
        refine (szItemS_any s1 t1 ws[k] q _ hrow (hf.2 k hlt) hq0 (by omega)).mono ?_
        rintro e w1 ⟨r, rfl, hr0, hr1, hr2, hb1⟩
        have HR2 : Hid (0 ≤ r → SmallI q ws[k]) := hr2
        clear hr2
        by_cases hneg : r < 0
        · go_wp2_with fail
          go_ret
          exact ⟨-1, rfl, by omega, by omega, fun h => by omega, hb.trans (hb1.mono hb.size)⟩
        · go_wp2_with fail
          exact ⟨⟨k + 1, r, by omega, by go_num, rfl, by omega, by omega, HST.out ((HR2.out (by omega)).mono hq1), hb.trans (hb1.mono hb.size)⟩, by simp [intOf]; omega⟩
      · go_wp2_with fail
        go_ret
        exact ⟨q, rfl, by omega, hq1, fun _ => ⟨by omega, fun j hj => hall j hj (by omega)⟩, hb⟩

set_option maxHeartbeats 800000 in
theorem eqItemSS_same (a b : Option Addr) (ca cb : Nat) (ws : List (List ItemL)) (w : World) (hf : FitW ws) (ha : RowW w a ws) (hb : RowW w b ws) :
    Calls Try.prog 20 #[.slice a ws.length ca, .slice b ws.length cb] w fun e w' => e = .returned (.bool true) ∧ Below w.heap.size w w' := by
  have hl := hf.1
  unfold maxLen at hl
  go_enter Try.func20, Try.ntmps20
  go_wp2_with fail
  go_loopw [5] (fun i wr => ∃ k : Nat, k ≤ ws.length ∧ i = .int .i64 k ∧ Below w.heap.size w wr) (fun i _ => ws.length - (intOf i).toNat)
  case atStart => exact ⟨0, Nat.zero_le _, rfl, Below.refl _ _⟩
  case round =>
    obtain ⟨k, hk, rfl, hbl⟩ := hrel
    by_cases hlt : k < ws.length
    · obtain ⟨b1, o1, rfl, g1, s1, t1, e1, _, r1⟩ := ha.below hbl k hlt
      obtain ⟨b2, o2, rfl, g2, s2, t2, f1, _, r2⟩ := hb.below hbl k hlt
      have k0 : (0 : Int) ≤ (k : Int) := by omega
      have k1 : (k : Int) < (ws.length : Int) := by omega
      have hfk := hf.2 k hlt
      go_wp2_with fail
      refine wp_region_lat (by kernel_rfl) (by kernel_rfl) ?_
      have hne := Lat.some wr
      have q1 : ∀ n : Lat wr, n.w.cell? ⟨b1, o1 + k, none⟩ = some (.slice s1 ws[k].length t1) := fun n => n.cell g1 e1
      have q3 : ∀ n : Lat wr, n.w.cell? ⟨b2, o2 + k, none⟩ = some (.slice s2 ws[k].length t2) := fun n => n.cell g2 f1
      have ce : ∀ n : Lat wr, Calls Try.prog 14 #[.slice s1 ws[k].length t1, .slice s2 ws[k].length t2] n.w fun e w'' => e = .returned (.bool true) ∧ Below n.w.heap.size n.w w'' := fun n => eqItemS_same _ _ _ _ _ _ hfk (r1.below n.h) (r2.below n.h)
      repeat (go_big_quiet_step ((go_at_call 14; exact Calls.lat_of (ce _))))
      refine wpQuiet_nil ?_
      rintro _ ⟨nq, rfl⟩
      go_wp2_with fail
      exact ⟨⟨k + 1, by omega, by go_num, hbl.trans (nq.h.mono hbl.size)⟩, by simp [intOf]; omega⟩
    · go_wp2_with fail
      go_ret
      exact ⟨rfl, hbl⟩

set_option maxHeartbeats 800000 in
theorem eqIntS_same (a b : Option Addr) (ca cb : Nat) (ps : List Int) (w : World) (hp : ps.length ≤ maxLen) (ha : RowZ w a ps) (hb : RowZ w b ps) :
    Calls Try.prog 21 #[.slice a ps.length ca, .slice b ps.length cb] w fun e w' => e = .returned (.bool true) ∧ Below w.heap.size w w' := by
  unfold maxLen at hp
  go_enter Try.func21, Try.ntmps21
  go_wp2_with fail
  go_loopw [5] (fun i wr => ∃ k : Nat, k ≤ ps.length ∧ i = .int .i64 k ∧ Below w.heap.size w wr) (fun i _ => ps.length - (intOf i).toNat)
  case atStart => exact ⟨0, Nat.zero_le _, rfl, Below.refl _ _⟩
  case round =>
    obtain ⟨k, hk, rfl, hbl⟩ := hrel
    by_cases hlt : k < ps.length
    · obtain ⟨b1, o1, rfl, g1, e1⟩ := ha.below hbl k hlt
      obtain ⟨b2, o2, rfl, g2, f1⟩ := hb.below hbl k hlt
      have k0 : (0 : Int) ≤ (k : Int) := by omega
      have k1 : (k : Int) < (ps.length : Int) := by omega
      go_wp2_with fail
      go_quiet (fail)
      go_wp2_with fail
      exact ⟨⟨k + 1, by omega, by go_num, below_drewN hbl _⟩, by simp [intOf]; omega⟩
    · go_wp2_with fail
      go_ret
      exact ⟨rfl, hbl⟩

end Go.Proofs.Ytpfhegengmlkmac
