/- Texts of this claim, one behind the other. -/
import Derived.Test.YtpfhegengmlkmaaGreatDoorZW10
import Derived.Test.YtpfhegengmlkmaaGreatDoorZW11
import Derived.Test.YtpfhegengmlkmaaGreatDoorZW20
import Derived.Test.YtpfhegengmlkmaaGreatDoorZW21
namespace Go.Proofs.YtpfhegengmlkmaaGreatDoor
open Go.RowKit Go.BigFrame
set_option maxRecDepth 100000

/-- Block 't' begins with the windows of L, each in blocks of its own between lo and hi. -/
structure YW (w : World) (lo hi t : Nat) (L : List WinY) : Prop where
  lt : t < w.heap.size
  cell : ∀ k, (h : k < L.length) → w.cell? ⟨t, k, none⟩ = some L[k].v
  at_ : ∀ p ∈ L, ∃ a c, p.v = .slice a p.l.length c ∧ p.l.length ≤ c ∧ SafeI w p.lo p.hi a p.l
  far : ∀ p ∈ L, t < p.lo ∨ p.hi ≤ t
  in_ : ∀ p ∈ L, lo ≤ p.lo ∧ p.lo ≤ p.hi ∧ p.hi ≤ hi
  dis : L.Pairwise fun p q => p.hi ≤ q.lo ∨ q.hi ≤ p.lo
theorem YW.below {w w' : World} {lo hi t : Nat} {L : List WinY} (h : YW w lo hi t L) (hb : Below w.heap.size w w') : YW w' lo hi t L :=
  ⟨Nat.lt_of_lt_of_le h.lt hb.size, fun k hk => cell_on hb h.lt (h.cell k hk), fun p hp => by obtain ⟨a, c, h1, h2, h3⟩ := h.at_ p hp; exact ⟨a, c, h1, h2, h3.below hb⟩, h.far, h.in_, h.dis⟩
/-- All but the windows' own blocks lies as it lay. -/
structure KeepY (L : List WinY) (w w' : World) : Prop where
  os : w'.os = w.os
  tape : w'.tape = w.tape
  output : w'.output = w.output
  size : w.heap.size ≤ w'.heap.size
  block : ∀ k, k < w.heap.size → (∀ p ∈ L, k < p.lo ∨ p.hi ≤ k) → w'.heap[k]? = w.heap[k]?
theorem KeepY.refl (L : List WinY) (w : World) : KeepY L w w := ⟨rfl, rfl, rfl, Nat.le_refl _, fun _ _ _ => rfl⟩
theorem KeepY.trans {L : List WinY} {x y z : World} (h : KeepY L x y) (k : KeepY L y z) : KeepY L x z := ⟨k.os.trans h.os, k.tape.trans h.tape, k.output.trans h.output, Nat.le_trans h.size k.size, fun i hi hn => (k.block i (Nat.lt_of_lt_of_le hi h.size) hn).trans (h.block i hi hn)⟩
theorem KeepY.of_below {L : List WinY} {w w' : World} (h : Below w.heap.size w w') : KeepY L w w' := ⟨h.os, h.tape, h.output, h.size, fun k hk _ => h.block k hk⟩
theorem KeepY.span {L : List WinY} {w w' : World} {lo hi : Nat} (h : KeepY L w w') (hin : ∀ p ∈ L, lo ≤ p.lo ∧ p.lo ≤ p.hi ∧ p.hi ≤ hi) : Span lo hi w w' := ⟨h.os, h.tape, h.output, h.size, fun k hk hn => h.block k hk fun p hp => by have := hin p hp; omega⟩

/-- One window's contents turned. -/
theorem YW.turn {w w' : World} {lo hi t : Nat} {L : List WinY} (h : YW w lo hi t L) {j : Nat} (hj : j < L.length) {q : WinY} (hq : q.v = L[j].v ∧ q.lo = L[j].lo ∧ q.hi = L[j].hi) (hs : Span L[j].lo L[j].hi w w') (hn : ∃ a c, q.v = .slice a q.l.length c ∧ q.l.length ≤ c ∧ SafeI w' q.lo q.hi a q.l) : YW w' lo hi t (L.set j q) := by
  have hm := List.getElem_mem hj
  have hd := List.pairwise_iff_getElem.1 h.dis
  have hset : ∀ i, (hi : i < (L.set j q).length) → ∃ hi' : i < L.length, (L.set j q)[i].v = L[i].v ∧ (L.set j q)[i].lo = L[i].lo ∧ (L.set j q)[i].hi = L[i].hi := fun i hi => by
    have hi' : i < L.length := by simpa using hi
    refine ⟨hi', ?_⟩
    rw [List.getElem_set]
    split
    · rename_i e; subst e; exact hq
    · exact ⟨rfl, rfl, rfl⟩
  refine ⟨Nat.lt_of_lt_of_le h.lt hs.size, fun k hk => ?_, fun p hp => ?_, fun p hp => ?_, fun p hp => ?_, ?_⟩
  · obtain ⟨hk', e1, _, _⟩ := hset k hk
    rw [e1, World.cell?_of_block (hs.block t h.lt (h.far _ hm))]
    exact h.cell k hk'
  · obtain ⟨i, hi, rfl⟩ := List.mem_iff_getElem.1 hp
    have hi' : i < L.length := by simpa using hi
    rw [List.getElem_set]
    split
    · exact hn
    · rename_i e
      obtain ⟨a, c, h1, h2, h3⟩ := h.at_ L[i] (List.getElem_mem hi')
      refine ⟨a, c, h1, h2, h3.span hs ?_⟩
      rcases Nat.lt_or_gt_of_ne e with h4 | h4
      · exact (hd j i hj hi' h4).symm
      · exact hd i j hi' hj h4
  · obtain ⟨i, hi, rfl⟩ := List.mem_iff_getElem.1 hp
    obtain ⟨hi', _, e2, e3⟩ := hset i hi
    rw [e2, e3]
    exact h.far _ (List.getElem_mem hi')
  · obtain ⟨i, hi, rfl⟩ := List.mem_iff_getElem.1 hp
    obtain ⟨hi', _, e2, e3⟩ := hset i hi
    rw [e2, e3]
    exact h.in_ _ (List.getElem_mem hi')
  · rw [List.pairwise_iff_getElem]
    intro a b ha hb hab
    obtain ⟨ha', _, e2, e3⟩ := hset a ha
    obtain ⟨hb', _, f2, f3⟩ := hset b hb
    rw [e2, e3, f2, f3]
    exact hd a b ha' hb' hab
theorem YW.row {w : World} {lo hi t : Nat} {L : List WinY} (h : YW w lo hi t L) : RowW w (some ⟨t, 0, none⟩) (L.map (·.l)) := fun k hk => by
  have hk' : k < L.length := by simpa using hk
  obtain ⟨a, c, h1, h2, h3⟩ := h.at_ L[k] (List.getElem_mem hk')
  exact ⟨t, 0, rfl, h.lt, a, c, by rw [Nat.zero_add, h.cell k hk', h1]; simp, by simpa using h2, by simpa using h3.row⟩

end Go.Proofs.YtpfhegengmlkmaaGreatDoor

namespace Go.Proofs.YtpfhegengmlkmaaGreatDoor
open Go.RowKit Go.BigFrame
set_option maxRecDepth 100000

/-- A gather to which nothing has come. -/
def newG (ins : List ByteArray) : GatL := ⟨ins, List.replicate ins.length [], []⟩
/-- What GatherNew answers. -/
def NewE (w w' : World) (ins : List ByteArray) (e : Ending) : Prop := (∃ B v0 v1 L v2, w.heap.size ≤ B ∧ e = .returned (.tuple #[.agg #[v0, v1, v2], .bool true]) ∧ InsP ins ∧ GathS w' B v0 ins ∧ GathY w' B v1 L ∧ L.map (·.l) = List.replicate ins.length [] ∧ (∃ a c, v2 = .slice a 0 c)) ∨ (e = .returned (.tuple #[.agg #[.slice none 0 0, .slice none 0 0, .slice none 0 0], .bool false]) ∧ ¬ InsP ins)

end Go.Proofs.YtpfhegengmlkmaaGreatDoor

namespace Go.Proofs.YtpfhegengmlkmaaGreatDoor
open Go.RowKit Go.BigFrame
set_option maxRecDepth 100000

theorem own_ne {w : World} {B e size n q : Nat} {v : Value} {xs : List Value} (h : w.ownsRow B e size v n xs) (hq : v.ownBlock ≠ some q) (i : Nat) (z : Value) : (w.setCell ⟨q, i, none⟩ z).ownsRow B e size v n xs := by
  obtain ⟨hl, h | ⟨g, cap, cur, hv, hgB, hh, r⟩⟩ := h
  · exact ⟨hl, .inl h⟩
  · refine ⟨hl, .inr ⟨g, cap, cur, hv, hgB, (Below.heap_setCell _ _ _ _ ?_).trans hh, r⟩⟩
    intro e
    exact hq (by rw [hv]; simp only at e; rw [e]; rfl)
theorem GathY.lower {w : World} {B B' : Nat} {v : Value} {L : List WinY} (h : GathY w B v L) (hB : B' ≤ B) : GathY w B' v L := ⟨own_lower h.own hB, fun p hp => ⟨(h.at_ p hp).1, Nat.le_trans hB (h.at_ p hp).2.1, (h.at_ p hp).2.2⟩, h.far, h.dis⟩
theorem replicate_snoc (n : Nat) : List.replicate n ([] : List ItemL) ++ [[]] = List.replicate (n + 1) [] := by rw [List.replicate_succ']

set_option maxHeartbeats 3200000 in
theorem specGN_any (a : Option Addr) (cap : Nat) (ins : List ByteArray) (w : World) (hl : ins.length ≤ 1048576) (hr : RowS w a ins) (hs : ∀ j, (h : j < ins.length) → ins[j].size ≤ maxLen) :
    Calls Tryz.prog 8 #[.slice a ins.length cap] w fun e w' => NewE w w' ins e ∧ Below w.heap.size w w' := by
  have hb0 : Below w.heap.size w (w.alloc (.cells #[.slice none 0 0, .slice none 0 0, .slice none 0 0] 30)) := (Below.refl _ _).alloc (Nat.le_refl _) _
  have tR := tri_new w (.slice none 0 0) (.slice none 0 0) (.slice none 0 0) 30
  go_enter Tryz.func8, Tryz.ntmps8
  go_wp2_with fail
  generalize w.alloc (.cells #[.slice none 0 0, .slice none 0 0, .slice none 0 0] 30) = W0 at *
  refine (l4Ins_any a cap ins _ hl (hr.below hb0) hs).mono ?_
  rintro e w1 ⟨⟨r, rfl, hr1⟩, b1⟩
  have HR : Hid (r = true ↔ InsP ins) := hr1
  clear hr1
  have B1 : Below w.heap.size w w1 := hb0.trans (b1.mono hb0.size)
  replace tR := tR.keep b1
  cases r with
  | false =>
    have HN : Hid (¬ InsP ins) := fun h => by have := HR.out.2 h; simp at this
    obtain ⟨r0, r1, r2, f0, f1, f2⟩ := id tR
    go_wp2_with fail
    have e0 : (((w1.setCell ⟨w.heap.size, 0, none⟩ (.slice none 0 0)).setCell ⟨w.heap.size, 1, none⟩ (.slice none 0 0)).setCell ⟨w.heap.size, 2, none⟩ (.slice none 0 0)).cell? ⟨w.heap.size, 0, none⟩ = some (.slice none 0 0) := by simp [go_sem, r0]
    have e1 : (((w1.setCell ⟨w.heap.size, 0, none⟩ (.slice none 0 0)).setCell ⟨w.heap.size, 1, none⟩ (.slice none 0 0)).setCell ⟨w.heap.size, 2, none⟩ (.slice none 0 0)).cell? ⟨w.heap.size, 1, none⟩ = some (.slice none 0 0) := by simp [go_sem, r1]
    have e2 : (((w1.setCell ⟨w.heap.size, 0, none⟩ (.slice none 0 0)).setCell ⟨w.heap.size, 1, none⟩ (.slice none 0 0)).setCell ⟨w.heap.size, 2, none⟩ (.slice none 0 0)).cell? ⟨w.heap.size, 2, none⟩ = some (.slice none 0 0) := by simp [go_sem, r2]
    exact bodyPost_ret (v := .tuple #[.agg #[.slice none 0 0, .slice none 0 0, .slice none 0 0], .bool false]) (by simp [results, Tryz.results8, go_sem, e0, e1, e2]) rfl ⟨.inr ⟨rfl, HN.out⟩, ((B1.setCell (Nat.le_refl _) _).setCell (Nat.le_refl _) _).setCell (Nat.le_refl _) _⟩
  | true =>
    have HP : Hid (InsP ins) := HR.out.1 rfl
    clear HR
    have h1 := HP.out.1
    have h6 := HP.out.2.1
    obtain ⟨bn, on, rfl, hbn, _⟩ := hr 0 (by omega)
    obtain ⟨i0, hi, hz0, hz1, hz2⟩ := info_parts Tryz.infoS
    have bE : Below w1.heap.size w1 (w1.alloc (.cells #[] 9)) := (Below.refl _ _).alloc (Nat.le_refl _) _
    have BE : Below w.heap.size w (w1.alloc (.cells #[] 9)) := B1.trans (bE.mono B1.size)
    have hnews : ∀ j u, (ins.map Value.string)[j]? = some u → (w1.alloc (.cells #[] 9)).cell? ((⟨bn, on, none⟩ : Addr).add j) = some u := fun j u hj => by
      have hj' : j < ins.length := by
        rcases Nat.lt_or_ge j ins.length with h | h
        · exact h
        · rw [List.getElem?_eq_none (by simpa using h)] at hj; cases hj
      obtain ⟨b, o, e, _, hc⟩ := hr.below BE j hj'
      cases e
      have ea : (⟨bn, on, none⟩ : Addr).add j = ⟨bn, on + j, none⟩ := by unfold Addr.add; split <;> simp_all
      rw [ea, hc]
      simpa [hj'] using hj
    have hown0 : (w1.alloc (.cells #[] 9)).ownsRow w1.heap.size 9 1 (.slice (some ⟨w1.heap.size, 0, none⟩) 0 0) 0 [] := ⟨rfl, .inr ⟨w1.heap.size, 0, #[], rfl, Nat.le_refl _, heap_alloc_new w1 _, Nat.le_refl _, Nat.zero_le _, rfl, rfl⟩⟩
    go_wp2_with (first | (at_builtin; refine wpList_append_lies _ rfl _ _ 23 rfl w1.heap.size 9 i0 (.string .empty) 1 16 Tryz.underlying23 hi hz0 hz1 hz2 rfl (by decide) _ 0 [] rfl hown0 ⟨bn, on, none⟩ ins.length cap (ins.map Value.string) rfl (by simp) hnews (by simp [Value.oneCell']) (by omega) (by unfold maxLen; omega) (by omega) (by simp) _ rfl ?_; intro g3 c3 w3 hown3 hgr3 _ _))
    simp only [Nat.zero_add, List.nil_append] at hown3 ⊢
    have hgs3 : GathS w3 w1.heap.size (.slice (some ⟨g3, 0, none⟩) ins.length c3) ins := hown3
    have b3 : Below w1.heap.size w1 w3 := bE.grown hgr3 (by simp) (fun q hq => by cases hq; exact Nat.le_refl _)
    have hg3 : g3 < w3.heap.size := by have := World.ownsRow.lt hown3 g3 rfl; exact this.2
    have bT : Below w3.heap.size w3 (w3.alloc (.cells #[.slice (some ⟨g3, 0, none⟩) ins.length c3, .slice none 0 0, .slice none 0 0] 30)) := (Below.refl _ _).alloc (Nat.le_refl _) _
    have tT := tri_new w3 (.slice (some ⟨g3, 0, none⟩) ins.length c3) (.slice none 0 0) (.slice none 0 0) 30
    have tR3 := (tR.keep b3).keep bT
    have hgsT := hgs3.keep bT
    have B3 : Below w.heap.size w w3 := B1.trans (b3.mono B1.size)
    have BT : Below w.heap.size w (w3.alloc (.cells #[.slice (some ⟨g3, 0, none⟩) ins.length c3, .slice none 0 0, .slice none 0 0] 30)) := B3.trans (bT.mono B3.size)
    have zR : w.heap.size < w1.heap.size := block_lt_of_cell tR.c0
    have z13 := b3.size
    clear hown3 hgr3 hown0 hnews bE BE
    go_wp2_with fail
    generalize w3.alloc (.cells #[.slice (some ⟨g3, 0, none⟩) ins.length c3, .slice none 0 0, .slice none 0 0] 30) = WT at *
    have zT : w3.heap.size < WT.heap.size := block_lt_of_cell tT.c0
    go_loopw [5] (fun i wr => ∃ (k : Nat) (vw : Value) (L : List WinY), k ≤ ins.length ∧ i = .int .i64 k ∧ GathY wr (w3.heap.size + 1) vw L ∧ Hid (L.map (·.l) = List.replicate k []) ∧ GathS wr w1.heap.size (.slice (some ⟨g3, 0, none⟩) ins.length c3) ins ∧ Tri wr w.heap.size (.slice none 0 0) (.slice none 0 0) (.slice none 0 0) ∧ Tri wr w3.heap.size (.slice (some ⟨g3, 0, none⟩) ins.length c3) vw (.slice none 0 0) ∧ w3.heap.size + 1 ≤ wr.heap.size ∧ Below w.heap.size w wr) (fun i _ => ins.length - (intOf i).toNat)
    case atStart => exact ⟨0, _, [], Nat.zero_le _, rfl, gathY_none _ _, by simp [Hid], hgsT, tR3, tT, zT, BT⟩
    case round =>
      clear tT tR3 hgsT BT
      obtain ⟨k, vw, L, hk, rfl, hgy, HL, hgs, tR', tT, hsz, hbl⟩ := hrel
      have zz := hbl.size
      by_cases hlt : k < ins.length
      · have k0 : (0 : Int) ≤ (k : Int) := by omega
        have k1 : (k : Int) < (ins.length : Int) := by omega
        have q0 := tT.c1
        have hbx : Below wr.heap.size wr (wr.alloc (.cells #[.slice none 0 0] 66)) := (Below.refl _ _).alloc (Nat.le_refl _) _
        have hlL : L.length ≤ 1048576 := by have := congrArg List.length HL.out; rw [List.length_map, List.length_replicate] at this; omega
        have hin : (WinY.mk [] (.slice none 0 0) wr.heap.size wr.heap.size).In (wr.alloc (.cells #[.slice none 0 0] 66)) (w3.heap.size + 1) := ⟨⟨none, 0, rfl, Nat.le_refl _, .inl rfl⟩, hsz, Nat.le_refl _, hbx.size⟩
        have hfar : ∀ q, q < w3.heap.size + 1 → some q ≠ vw.ownBlock := fun q hq e => by have := own_from hgy.own q e.symm; omega
        go_wp2_with (first | (at_builtin; refine wpList_plain rfl (fun K hK => ?_); refine wp_append_win _ _ rfl (w3.heap.size + 1) vw L rfl (hgy.keep hbx) (by have := hbx.size; omega) wr.heap.size (WinY.mk [] (.slice none 0 0) wr.heap.size wr.heap.size) (fun q hq => (hgy.at_ q hq).2.2.2) hin (fun q hq => .inl (World.ownsRow.lt hgy.own q hq).2) rfl (by simp [go_sem]) hlL ?_; intro vw' w5 hgy5 hgr5 hloc5; obtain ⟨vwa, vwc, rfl, _, _⟩ := hgy5.row; have tT5 := (tT.keep hbx).grown hgr5 (hfar _ (by omega)); have q5 := tT5.c1; have q6 := tT5.f1; refine hK _ _ ?_))
        have tR5 := (tR'.keep hbx).grown hgr5 (hfar _ (by omega))
        have hgs5 : GathS w5 w1.heap.size (.slice (some ⟨g3, 0, none⟩) ins.length c3) ins := World.ownsRow.kept (hgs.keep hbx) hgr5 (own_types (show World.ownsRow _ _ _ _ _ _ _ from hgs) hgy.own str_unlike)
        have B5 : Below w.heap.size w w5 := (hbl.trans (hbx.mono hbl.size)).grown hgr5 (by have := hbx.size; omega) (fun q hq => by have := own_from hgy.own q hq; omega)
        have z5 := hgr5.size
        have z6 := hbx.size
        have HL5 : Hid ((L ++ [WinY.mk [] (.slice none 0 0) wr.heap.size wr.heap.size]).map (·.l) = List.replicate (k + 1) []) := by
          unfold Hid
          rw [List.map_append, HL.out]
          exact replicate_snoc k
        simp only [List.length_append, List.length_cons, List.length_nil, Nat.zero_add] at hgy5
        exact ⟨⟨k + 1, _, _, by omega, by go_num, hgy5.set (by omega) 1 _, HL5, own_ne hgs5 (by simp [Value.ownBlock]; omega) 1 _, tR5.far (by omega) 1 _, tT5.set1 _, by simp only [World.size_setCell]; omega, B5.setCell (by simp only; omega) _⟩, by simp [intOf]; omega⟩
      · obtain rfl : k = ins.length := by omega
        obtain ⟨d0, d1, d2, _, _, _⟩ := id tT
        obtain ⟨r0, r1, r2, f0, f1, f2⟩ := id tR'
        obtain ⟨swa, swc, rfl, _, _⟩ := hgy.row
        go_wp2_with fail
        have e0 : (((wr.setCell ⟨w.heap.size, 0, none⟩ (.slice (some ⟨g3, 0, none⟩) ins.length c3)).setCell ⟨w.heap.size, 1, none⟩ (.slice swa L.length swc)).setCell ⟨w.heap.size, 2, none⟩ (.slice none 0 0)).cell? ⟨w.heap.size, 0, none⟩ = some (.slice (some ⟨g3, 0, none⟩) ins.length c3) := by simp [go_sem, r0]
        have e1 : (((wr.setCell ⟨w.heap.size, 0, none⟩ (.slice (some ⟨g3, 0, none⟩) ins.length c3)).setCell ⟨w.heap.size, 1, none⟩ (.slice swa L.length swc)).setCell ⟨w.heap.size, 2, none⟩ (.slice none 0 0)).cell? ⟨w.heap.size, 1, none⟩ = some (.slice swa L.length swc) := by simp [go_sem, r1]
        have e2 : (((wr.setCell ⟨w.heap.size, 0, none⟩ (.slice (some ⟨g3, 0, none⟩) ins.length c3)).setCell ⟨w.heap.size, 1, none⟩ (.slice swa L.length swc)).setCell ⟨w.heap.size, 2, none⟩ (.slice none 0 0)).cell? ⟨w.heap.size, 2, none⟩ = some (.slice none 0 0) := by simp [go_sem, r2]
        have g1 : GathS (((wr.setCell ⟨w.heap.size, 0, none⟩ (.slice (some ⟨g3, 0, none⟩) ins.length c3)).setCell ⟨w.heap.size, 1, none⟩ (.slice swa L.length swc)).setCell ⟨w.heap.size, 2, none⟩ (.slice none 0 0)) w1.heap.size (.slice (some ⟨g3, 0, none⟩) ins.length c3) ins := own_farY (own_farY (own_farY (show World.ownsRow _ _ _ _ _ _ _ from hgs) zR 0 _) zR 1 _) zR 2 _
        have g2 := (((hgy.lower (show w1.heap.size ≤ w3.heap.size + 1 by omega)).set zR 0 (.slice (some ⟨g3, 0, none⟩) ins.length c3)).set zR 1 (.slice swa L.length swc)).set zR 2 (.slice none 0 0)
        exact bodyPost_ret (v := .tuple #[.agg #[.slice (some ⟨g3, 0, none⟩) ins.length c3, .slice swa L.length swc, .slice none 0 0], .bool true]) (by simp [results, Tryz.results8, go_sem, e0, e1, e2]) rfl ⟨.inl ⟨w1.heap.size, _, _, L, _, by omega, rfl, HP.out, g1, g2, HL.out, ⟨_, _, rfl⟩⟩, ((hbl.setCell (Nat.le_refl _) _).setCell (Nat.le_refl _) _).setCell (Nat.le_refl _) _⟩

end Go.Proofs.YtpfhegengmlkmaaGreatDoor

namespace Go.Proofs.YtpfhegengmlkmaaGreatDoor
open Go.RowKit Go.BigFrame
set_option maxRecDepth 100000

/-- Block 'g' begins with n empty windows. -/
def WinE (w : World) (g n : Nat) : Prop := ∃ m f, w.rowIs g 66 m f ∧ n ≤ m ∧ ∀ j, j < n → ∃ s c, f j = .slice s 0 c
theorem WinE.lt {w : World} {g n : Nat} (h : WinE w g n) : g < w.heap.size := by
  obtain ⟨m, f, h, _⟩ := h
  exact h.lt
theorem WinE.span {w w' : World} {g n lo hi : Nat} (h : WinE w g n) (hs : Span lo hi w w') (hd : g < lo ∨ hi ≤ g) : WinE w' g n := by
  have hlt := h.lt
  obtain ⟨m, f, h, hf⟩ := h
  exact ⟨m, f, h.of_block (hs.block g hlt hd), hf⟩
theorem WinE.below {w w' : World} {g n : Nat} (h : WinE w g n) (hb : Below w.heap.size w w') : WinE w' g n := by
  have hlt := h.lt
  obtain ⟨m, f, h, hf⟩ := h
  exact ⟨m, f, h.of_block (hb.block g hlt), hf⟩
theorem WinE.row {w : World} {g n : Nat} (h : WinE w g n) : RowW w (some ⟨g, 0, none⟩) (List.replicate n []) := fun k hk => by
  have hk' : k < n := by simpa using hk
  have hlt := h.lt
  obtain ⟨m, f, h, hm, hf⟩ := h
  obtain ⟨s, c, e⟩ := hf k hk'
  exact ⟨g, 0, rfl, hlt, s, c, by rw [Nat.zero_add, h.cell (by omega), e]; simp, by simp, fun j hj => by simp at hj⟩
theorem GathY.block {w : World} {B n : Nat} {v : Value} {L : List WinY} (h : GathY w B v L) (hL : L.map (·.l) = List.replicate n []) (h0 : 0 < n) : ∃ g c, v = .slice (some ⟨g, 0, none⟩) n c ∧ B ≤ g ∧ WinE w g n := by
  have hn : L.length = n := by have := congrArg List.length hL; simpa using this
  rcases h.own.2 with ⟨_, e⟩ | ⟨g, cap, cur, e, hB, hh, hnc, hc, hs, ht⟩
  · omega
  · refine ⟨g, cap, by rw [← hn]; exact e, hB, cap * 1, fun i => (cur[i]?).getD undef, ⟨cur, hh, hs, fun i hi => ?_⟩, by omega, fun k hk => ?_⟩
    · have hi' : i < cur.size := by omega
      simp [Array.getElem?_eq_getElem hi']
    · have hk' : k < L.length := by omega
      obtain ⟨⟨a, c, e2, _⟩, _⟩ := h.at_ L[k] (List.getElem_mem hk')
      have e3 : L[k].l = [] := by
        have h4 : (L.map (·.l))[k]? = some [] := by rw [hL]; simp [hk]
        simpa [hk'] using h4
      have h2 : (L.map (·.v))[k]? = some L[k].v := by simp [hk']
      rw [← ht, List.getElem?_take_of_lt (by simp; omega)] at h2
      simp only [Array.getElem?_toList] at h2
      refine ⟨a, c, ?_⟩
      simp only [h2, Option.getD_some]
      rw [e2, e3]
      rfl

/-- An answer of GatherNew: the names and as many empty windows, in blocks between two, or nothing. -/
def SafeN (w : World) (lo hi : Nat) (a0 a1 : Option Addr) (nm : List ByteArray) : Prop := nm = [] ∨ ∃ g t, a0 = some ⟨g, 0, none⟩ ∧ a1 = some ⟨t, 0, none⟩ ∧ lo ≤ g ∧ g < hi ∧ lo ≤ t ∧ t < hi ∧ g ≠ t ∧ StrB w g nm ∧ WinE w t nm.length
theorem SafeN.row {w : World} {lo hi : Nat} {a0 a1 : Option Addr} {nm : List ByteArray} (h : SafeN w lo hi a0 a1 nm) : RowS w a0 nm ∧ RowW w a1 (List.replicate nm.length []) := by
  rcases h with rfl | ⟨g, t, rfl, rfl, _, _, _, _, _, h1, h2⟩
  · exact ⟨fun k hk => absurd hk (Nat.not_lt_zero k), fun k hk => absurd hk (Nat.not_lt_zero k)⟩
  · exact ⟨h1.row, h2.row⟩
theorem SafeN.below {w w' : World} {lo hi : Nat} {a0 a1 : Option Addr} {nm : List ByteArray} (h : SafeN w lo hi a0 a1 nm) (hb : Below w.heap.size w w') : SafeN w' lo hi a0 a1 nm := by
  rcases h with rfl | ⟨g, t, rfl, rfl, h3, h4, h5, h6, h7, h1, h2⟩
  · exact .inl rfl
  · exact .inr ⟨g, t, rfl, rfl, h3, h4, h5, h6, h7, h1.below hb, h2.below hb⟩
theorem SafeN.span {w w' : World} {lo hi lo' hi' : Nat} {a0 a1 : Option Addr} {nm : List ByteArray} (h : SafeN w lo hi a0 a1 nm) (hs : Span lo' hi' w w') (hd : hi ≤ lo' ∨ hi' ≤ lo) : SafeN w' lo hi a0 a1 nm := by
  rcases h with rfl | ⟨g, t, rfl, rfl, h3, h4, h5, h6, h7, h1, h2⟩
  · exact .inl rfl
  · exact .inr ⟨g, t, rfl, rfl, h3, h4, h5, h6, h7, h1.span hs (by omega), h2.span hs (by omega)⟩
/-- Which names are answered. -/
def IsN (ins nm : List ByteArray) (ok : Bool) : Prop := (ok = true ∧ InsP ins ∧ nm = ins) ∨ (ok = false ∧ ¬ InsP ins ∧ nm = [])
theorem IsN.one {ins nm nm' : List ByteArray} {ok ok' : Bool} (h : IsN ins nm ok) (k : IsN ins nm' ok') : nm = nm' ∧ ok = ok' := by
  rcases h with ⟨rfl, h1, rfl⟩ | ⟨rfl, h1, rfl⟩
  · rcases k with ⟨rfl, _, rfl⟩ | ⟨rfl, k1, rfl⟩
    · exact ⟨rfl, rfl⟩
    · exact absurd h1 k1
  · rcases k with ⟨rfl, k1, rfl⟩ | ⟨rfl, _, rfl⟩
    · exact absurd k1 h1
    · exact ⟨rfl, rfl⟩
theorem NewE.safe {w w' : World} {ins : List ByteArray} {e : Ending} (h : NewE w w' ins e) : ∃ nm ok a0 c0 a1 c1 a2 c2, e = .returned (.tuple #[.agg #[.slice a0 nm.length c0, .slice a1 nm.length c1, .slice a2 0 c2], .bool ok]) ∧ IsN ins nm ok ∧ SafeN w' w.heap.size w'.heap.size a0 a1 nm := by
  rcases h with ⟨B, v0, v1, L, v2, hB, rfl, hp, h1, h2, h3, ⟨a2, c2, rfl⟩⟩ | ⟨rfl, hp⟩
  · have hpos : 0 < ins.length := hp.1
    obtain ⟨g, c, rfl, hg, hs⟩ := h1.block hpos
    obtain ⟨t, c', rfl, ht, hw⟩ := h2.block h3 hpos
    have hne : g ≠ t := fun e => by
      have hx := own_types (show World.ownsRow _ _ _ _ _ _ _ from h1) h2.own str_unlike
      rcases hx with hx | hx
      · simp [Value.ownBlock] at hx
      · exact hx (by rw [e]; rfl)
    exact ⟨ins, true, _, c, _, c', a2, c2, rfl, .inl ⟨rfl, hp, rfl⟩, .inr ⟨g, t, rfl, rfl, by omega, hs.lt, by omega, hw.lt, hne, hs, hw⟩⟩
  · exact ⟨[], false, none, 0, none, 0, none, 0, rfl, .inr ⟨rfl, hp, rfl⟩, .inl rfl⟩

end Go.Proofs.YtpfhegengmlkmaaGreatDoor

namespace Go.Proofs.YtpfhegengmlkmaaGreatDoor
open Go.RowKit Go.BigFrame
set_option maxRecDepth 100000

theorem YW.span {w w' : World} {lo hi t lo' hi' : Nat} {L : List WinY} (h : YW w lo hi t L) (hs : Span lo' hi' w w') (ht : t < lo' ∨ hi' ≤ t) (hd : hi ≤ lo' ∨ hi' ≤ lo) : YW w' lo hi t L :=
  ⟨Nat.lt_of_lt_of_le h.lt hs.size, fun k hk => by rw [World.cell?_of_block (hs.block t h.lt ht)]; exact h.cell k hk, fun p hp => by
    obtain ⟨a, c, h1, h2, h3⟩ := h.at_ p hp
    have := h.in_ p hp
    exact ⟨a, c, h1, h2, h3.span hs (by omega)⟩, h.far, h.in_, h.dis⟩
/-- A block that none of the windows has is turned. -/
theorem YW.but {w w' : World} {lo hi t b : Nat} {L : List WinY} (h : YW w lo hi t L) (hs : But b w w') (ht : t ≠ b) (hd : ∀ p ∈ L, b < p.lo ∨ p.hi ≤ b) : YW w' lo hi t L :=
  ⟨Nat.lt_of_lt_of_le h.lt hs.size, fun k hk => by rw [World.cell?_of_block (hs.block t h.lt ht)]; exact h.cell k hk, fun p hp => by
    obtain ⟨a, c, h1, h2, h3⟩ := h.at_ p hp
    exact ⟨a, c, h1, h2, h3.span (hs.span (Nat.le_refl b) (Nat.lt_succ_self b)) (by have := hd p hp; omega)⟩, h.far, h.in_, h.dis⟩

/-- The stamp of a gather that is an answer. -/
def StG (w : World) (lo hi b t : Nat) (a2 : Option Addr) (L : List WinY) (m : List (ByteArray × Int)) : Prop := m = [] ∨ ∃ s, a2 = some ⟨s, 0, none⟩ ∧ lo ≤ s ∧ s < hi ∧ s ≠ b ∧ s ≠ t ∧ Own w s m ∧ ∀ p ∈ L, s < p.lo ∨ p.hi ≤ s
structure FullG (w : World) (lo hi b t : Nat) (a2 : Option Addr) (nm : List ByteArray) (L : List WinY) (m : List (ByteArray × Int)) : Prop where
  names : StrB w b nm
  wins : YW w lo hi t L
  bt : b ≠ t
  bin : lo ≤ b ∧ b < hi
  tin : lo ≤ t ∧ t < hi
  bfar : ∀ p ∈ L, b < p.lo ∨ p.hi ≤ b
  stamp : StG w lo hi b t a2 L m
def SafeG (w : World) (lo hi : Nat) (a0 a1 a2 : Option Addr) (nm : List ByteArray) (L : List WinY) (m : List (ByteArray × Int)) : Prop :=
  (nm = [] ∧ L = [] ∧ m = []) ∨ ∃ b t, a0 = some ⟨b, 0, none⟩ ∧ a1 = some ⟨t, 0, none⟩ ∧ FullG w lo hi b t a2 nm L m
theorem StG.row {w : World} {lo hi b t : Nat} {a2 : Option Addr} {L : List WinY} {m : List (ByteArray × Int)} (h : StG w lo hi b t a2 L m) : Row w a2 m := by
  rcases h with rfl | ⟨s, rfl, _, _, _, _, ho, _⟩
  · exact fun k hk => absurd hk (Nat.not_lt_zero k)
  · exact ho.row
theorem SafeG.rows {w : World} {lo hi : Nat} {a0 a1 a2 : Option Addr} {nm : List ByteArray} {L : List WinY} {m : List (ByteArray × Int)} (h : SafeG w lo hi a0 a1 a2 nm L m) : RowS w a0 nm ∧ RowW w a1 (L.map (·.l)) ∧ Row w a2 m := by
  rcases h with ⟨rfl, rfl, rfl⟩ | ⟨b, t, rfl, rfl, h⟩
  · exact ⟨fun k hk => absurd hk (Nat.not_lt_zero k), fun k hk => absurd hk (Nat.not_lt_zero k), fun k hk => absurd hk (Nat.not_lt_zero k)⟩
  · exact ⟨h.names.row, h.wins.row, h.stamp.row⟩
theorem FullG.below {w w' : World} {lo hi b t : Nat} {a2 : Option Addr} {nm : List ByteArray} {L : List WinY} {m : List (ByteArray × Int)} (h : FullG w lo hi b t a2 nm L m) (hb : Below w.heap.size w w') : FullG w' lo hi b t a2 nm L m :=
  ⟨h.names.below hb, h.wins.below hb, h.bt, h.bin, h.tin, h.bfar, by
    rcases h.stamp with e | ⟨s, e, h1, h2, h3, h4, h5, h6⟩
    · exact .inl e
    · exact .inr ⟨s, e, h1, h2, h3, h4, h5.below hb, h6⟩⟩
theorem FullG.span {w w' : World} {lo hi b t lo' hi' : Nat} {a2 : Option Addr} {nm : List ByteArray} {L : List WinY} {m : List (ByteArray × Int)} (h : FullG w lo hi b t a2 nm L m) (hs : Span lo' hi' w w') (hd : hi ≤ lo' ∨ hi' ≤ lo) : FullG w' lo hi b t a2 nm L m :=
  ⟨h.names.span hs (by have := h.bin; omega), h.wins.span hs (by have := h.tin; omega) hd, h.bt, h.bin, h.tin, h.bfar, by
    rcases h.stamp with e | ⟨s, e, h1, h2, h3, h4, h5, h6⟩
    · exact .inl e
    · obtain ⟨mm, f, h7, hf⟩ := id h5
      exact .inr ⟨s, e, h1, h2, h3, h4, ⟨mm, f, h7.of_block (hs.block s h5.lt (by omega)), hf⟩, h6⟩⟩
theorem SafeG.below {w w' : World} {lo hi : Nat} {a0 a1 a2 : Option Addr} {nm : List ByteArray} {L : List WinY} {m : List (ByteArray × Int)} (h : SafeG w lo hi a0 a1 a2 nm L m) (hb : Below w.heap.size w w') : SafeG w' lo hi a0 a1 a2 nm L m := by
  rcases h with h | ⟨b, t, e1, e2, h⟩
  · exact .inl h
  · exact .inr ⟨b, t, e1, e2, h.below hb⟩
theorem SafeG.span {w w' : World} {lo hi lo' hi' : Nat} {a0 a1 a2 : Option Addr} {nm : List ByteArray} {L : List WinY} {m : List (ByteArray × Int)} (h : SafeG w lo hi a0 a1 a2 nm L m) (hs : Span lo' hi' w w') (hd : hi ≤ lo' ∨ hi' ≤ lo) : SafeG w' lo hi a0 a1 a2 nm L m := by
  rcases h with h | ⟨b, t, e1, e2, h⟩
  · exact .inl h
  · exact .inr ⟨b, t, e1, e2, h.span hs hd⟩

end Go.Proofs.YtpfhegengmlkmaaGreatDoor
