/- Texts of this claim, one behind the other. -/
import Derived.Deep.RegionHeld3
import Derived.Laws.IdiomStrings
import Derived.Test.YtpfhegengmlkmaaGreatZK1
import Derived.Test.YtpfhegengmlkmaaGreatZK2
namespace Go.Proofs.YtpfhegengmlkmaaGreat
open Go.RowKit Go.BigFrame
set_option maxRecDepth 100000

/-- string([]byte{d}) of a byte that was just laid. -/
theorem conv_byte (d : Int) (h0 : 0 ≤ d) (h1 : d ≤ 255) (u : World) :
    (convert 22 9 (.slice (some ⟨u.heap.size, 0, none⟩) 1 1)).run Tryz.prog (u.alloc (.cells #[.int .u8 d] 5)) = .ok (.string ⟨#[UInt8.ofNat d.toNat]⟩) (u.alloc (.cells #[.int .u8 d] 5)) := by
  have h := run_convert_bytes_back (P := Tryz.prog) (u.alloc (.cells #[.int .u8 d] 5)) 22 9 5 ⟨u.heap.size, 0, none⟩ 1 [UInt8.ofNat d.toNat] Tryz.underlying22 Tryz.underlying5 Tryz.underlying9 (fun j hj => by
    obtain rfl : j = 0 := by simpa using hj
    have e : ((UInt8.ofNat d.toNat).toNat : Int) = d := by
      rw [UInt8.toNat_ofNat']
      omega
    simp [Addr.add, go_sem]
    omega)
  simpa using h

set_option maxHeartbeats 400000 in
theorem l1Dec_any (k : Nat) (w : World) (h1 : k ≤ 1000) :
    Calls Tryz.prog 84 #[.int .i64 (k : Int)] w fun e w' => (∃ s : ByteArray, e = .returned (.string s) ∧ s.size ≤ 1000) ∧ Below w.heap.size w w' := by
  by_cases hk : k = 0
  · subst hk
    go_enter Tryz.func84, Tryz.ntmps84
    go_wp2_with fail
    go_ret
    exact ⟨⟨_, rfl, by decide⟩, Below.refl _ _⟩
  · have hk' : ((k : Int) == 0) = false := by simp; omega
    go_enter Tryz.func84, Tryz.ntmps84
    go_wp2_with fail
    go_loopw [0, 3] (fun kk out wr => ∃ (q : Nat) (s : ByteArray), kk = .int .i64 q ∧ s.size + q ≤ 1000 ∧ out = .string s ∧ Below w.heap.size w wr) (fun kk _ _ => (intOf kk).toNat)
    case atStart => exact ⟨k, _, rfl, by show 0 + k ≤ _; omega, rfl, Below.refl _ _⟩
    case round =>
      obtain ⟨q, s, rfl, hq, rfl, hb⟩ := hrel
      by_cases hlt : 0 < q
      · have hcv := conv_byte (48 + (q : Int) % 10) (by omega) (by omega) wr
        have hq' : ((q : Int) != 0) = true := by simp; omega
        go_wp2_with fail
        have hsz : ((⟨#[48 + UInt8.ofNat (q % 10)]⟩ : ByteArray) ++ s).size = 1 + s.size := by rw [ByteArray.size_append]; rfl
        exact ⟨⟨q / 10, _, by congr 1, by rw [hsz]; omega, rfl, hb.alloc hb.size _⟩, by simp [intOf]; omega⟩
      · have hq' : ((q : Int) != 0) = false := by simp; omega
        go_wp2_with fail
        go_ret
        exact ⟨⟨s, rfl, by omega⟩, hb⟩

/-- Of all that lay there ahead of block B, only block R may have turned. -/
structure ButU (R B : Nat) (w w' : World) : Prop where
  os : w'.os = w.os
  tape : w'.tape = w.tape
  output : w'.output = w.output
  size : w.heap.size ≤ w'.heap.size
  block : ∀ k, k < B → k ≠ R → w'.heap[k]? = w.heap[k]?
theorem ButU.refl (R B : Nat) (w : World) : ButU R B w w := ⟨rfl, rfl, rfl, Nat.le_refl _, fun _ _ _ => rfl⟩
theorem ButU.trans {R B : Nat} {x y z : World} (h : ButU R B x y) (k : ButU R B y z) : ButU R B x z :=
  ⟨k.os.trans h.os, k.tape.trans h.tape, k.output.trans h.output, Nat.le_trans h.size k.size, fun i hi hn => (k.block i hi hn).trans (h.block i hi hn)⟩
theorem But.upto {R B : Nat} {w w' : World} (h : But R w w') (hB : B ≤ w.heap.size) : ButU R B w w' := ⟨h.os, h.tape, h.output, h.size, fun k hk hn => h.block k (by omega) hn⟩
theorem ButU.but {R : Nat} {w w' : World} (h : ButU R w.heap.size w w') : But R w w' := ⟨h.os, h.tape, h.output, h.size, fun k hk hn => h.block k hk hn⟩
theorem ButU.lower {R B B' : Nat} {w w' : World} (h : ButU R B w w') (hB : B' ≤ B) : ButU R B' w w' := ⟨h.os, h.tape, h.output, h.size, fun k hk hn => h.block k (by omega) hn⟩
theorem butU_of {R B : Nat} {w w' : World} (h : Below B w w') : ButU R B w w' := ⟨h.os, h.tape, h.output, h.size, fun k hk _ => h.block k hk⟩
theorem Gath.but {w w' : World} {R B : Nat} {v : Value} {l : List (ByteArray × Int)} (h : Gath w B v l) (hb : But R w w') (hR : R < B) : Gath w' B v l := by
  obtain ⟨hl, h | ⟨g, cap, cur, hv, hgB, hh, r⟩⟩ := h
  · exact ⟨hl, .inl h⟩
  · exact ⟨hl, .inr ⟨g, cap, cur, hv, hgB, (hb.block g (Array.getElem?_eq_some_iff.1 hh).1 (by omega)).trans hh, r⟩⟩
theorem mcells_set : ∀ (l : List (ByteArray × Int)) (k : Nat) (m : ByteArray × Int), ((mcells l).set (k * 2) (.string m.1)).set (k * 2 + 1) (.int .i64 m.2) = mcells (l.set k m)
  | [], k, m => by simp [mcells]
  | x :: r, 0, m => by simp [mcells]
  | x :: r, k + 1, m => by
    have ih := mcells_set r k m
    have e0 : (k + 1) * 2 = k * 2 + 1 + 1 := by omega
    rw [e0]
    simp only [mcells, List.set_cons_succ, ih]
/-- A mark of what was gathered is set anew. -/
theorem gath_set {w : World} {B g cap k : Nat} {l : List (ByteArray × Int)} (h : Gath w B (.slice (some ⟨g, 0, none⟩) l.length cap) l) (m : ByteArray × Int) :
    Gath ((w.setCell ⟨g, k * 2, none⟩ (.string m.1)).setCell ⟨g, k * 2 + 1, none⟩ (.int .i64 m.2)) B (.slice (some ⟨g, 0, none⟩) l.length cap) (l.set k m) := by
  have h2 := (World.ownsRow.stored (World.ownsRow.stored h (k * 2) (.string m.1)).1 (k * 2 + 1) (.int .i64 m.2)).1
  unfold Gath
  rw [List.length_set, ← mcells_set]
  exact h2
theorem gath_cells {w : World} {B g cap k : Nat} {l : List (ByteArray × Int)} (h : Gath w B (.slice (some ⟨g, 0, none⟩) l.length cap) l) (hk : k < l.length) : w.cell? ⟨g, k * 2, none⟩ = some (.string l[k].1) ∧ w.cell? ⟨g, k * 2 + 1, none⟩ = some (.int .i64 l[k].2) := by
  rw [World.ownsRow.cellAt h (k * 2) (by omega), World.ownsRow.cellAt h (k * 2 + 1) (by omega)]
  exact mcells_at l k hk
theorem gath_free {w : World} {B g cap : Nat} {l : List (ByteArray × Int)} (h : Gath w B (.slice (some ⟨g, 0, none⟩) l.length cap) l) (j : Nat) : w.frozen? ⟨g, j, none⟩ = false := World.ownsRow.frozenAt h j

theorem mcells_one : ∀ (l : List (ByteArray × Int)), ∀ u ∈ mcells l, u.oneCell' = true
  | [], u, h => by simp [mcells] at h
  | m :: r, u, h => by
    simp only [mcells, List.mem_cons] at h
    rcases h with rfl | rfl | h
    · rfl
    · rfl
    · exact mcells_one r u h
/-- append of all the marks of one slice onto a literal of none. -/
theorem wp_append_all {o : Oper} {a : Act} {w : World} {K : Act → World → Prop} {Q : Exit → Act → World → Prop} (s x : Operand)
    (ho : o.op = .call { callee := .builtin .append, args := #[s, x], argTypes := #[35, 35] }) (base B e0 g cap : Nat) (l : List (ByteArray × Int)) (hs : a.eval s = .slice (some ⟨e0, 0, none⟩) 0 0) (he : w.heap[e0]? = some (.cells #[] 72 (0, 0))) (hb : base ≤ e0)
    (hx : a.eval x = .slice (some ⟨g, 0, none⟩) l.length cap) (hg : Gath w B (.slice (some ⟨g, 0, none⟩) l.length cap) l) (hl0 : 0 < l.length) (hl : l.length ≤ 1048576)
    (h : ∀ v' w', Gath w' base v' l → w.grownBy w' (some e0) → K (a.put o.dst v') w') : o.wp Tryz.prog a w K Q := by
  obtain ⟨i0, hi, hz0, hz1, hz2⟩ := info_parts Tryz.infoM
  have hlt : e0 < w.heap.size := (Array.getElem?_eq_some_iff.1 he).1
  have hown : w.ownsRow base 72 2 (.slice (some ⟨e0, 0, none⟩) 0 0) 0 [] := ⟨rfl, .inr ⟨e0, 0, #[], rfl, hb, he, Nat.le_refl _, Nat.zero_le _, rfl, rfl⟩⟩
  obtain ⟨g', cap', w', hr, h2, h3, _, _⟩ := run_append_lies (P := Tryz.prog) w 35 o.type base 72 i0 (.agg #[.string .empty, .int .i64 0]) 2 24 Tryz.underlying35 hi hz0 hz1 hz2 rfl (by decide) _ _ _ hown ⟨g, 0, none⟩ l.length cap (mcells l) (mcells_length l) (by
      intro j u hj
      have hjl : j < (mcells l).length := (List.getElem?_eq_some_iff.1 hj).1
      have e : (⟨g, 0, none⟩ : Addr).add j = ⟨g, j, none⟩ := by unfold Addr.add; by_cases h : j = 0 <;> simp [h]
      rw [e, World.ownsRow.cellAt hg j (by rw [mcells_length] at hjl; exact hjl)]
      exact hj) (mcells_one l) hl0 (by unfold maxLen; omega) (by omega) (Nat.le_trans hb (Nat.le_of_lt hlt)) _ rfl
  unfold Oper.wp execOp
  simp only [ho, resolve, invoke, builtin, Sem.run_bind, Sem.run_pure, Result.andThen_ok, List.map_toArray, List.map_cons, List.map_nil, hs, hx, hr]
  refine h _ w' ?_ h3
  unfold Gath
  simpa using h2

set_option maxHeartbeats 800000 in
theorem l6Spoil_any (R n c p B : Nat) (ab : Option Addr) (v : Value) (l : List (ByteArray × Int)) (w : World) (hr : Rd w R ab n c p) (hp : p ≤ 90000) (hg : Gath w B v l) (hR : R < B) (hB : B ≤ w.heap.size) (hl : l.length ≤ 1000) (hs : ∀ m ∈ l, m.1.size ≤ 2000) :
    Calls Tryz.prog 85 #[.pointer (some ⟨R, 0, none⟩), v] w fun e w' => (∃ v' l' p', e = .returned v' ∧ Gath w' B v' l' ∧ l'.length ≤ l.length + 1 ∧ (∀ m ∈ l', m.1.size ≤ 2000) ∧ Rd w' R ab n c p' ∧ p' ≤ p + 5) ∧ ButU R B w w' := by
  have hRl := hr.lt
  obtain ⟨a, cap, rfl, hrow⟩ := hg.shape
  go_enter Tryz.func85, Tryz.ntmps85
  go_wp2_with fail
  refine (pick_any R n c p ab _ _ hr (by omega) (by omega) (by omega)).mono ?_
  rintro e w1 ⟨⟨x, rfl, hx0, hx1⟩, hr1, hb1⟩
  by_cases h0 : x = 0
  · by_cases hl0 : l.length = 0
    · subst h0
      have hl0' : ((l.length : Int) == 0) = true := by simp [hl0]
      obtain rfl : l = [] := List.length_eq_zero_iff.1 hl0
      clear hl0 hl0'
      go_wp2_with fail
      go_ret
      exact ⟨⟨_, [], p + 1, rfl, hg.but hb1 hR, by simp, by simp, hr1, by omega⟩, hb1.upto hB⟩
    · subst h0
      have hl0' : ((l.length : Int) == 0) = false := by rw [beq_eq_false_iff_ne]; omega
      obtain ⟨g, rfl, hgB⟩ : ∃ g, a = some ⟨g, 0, none⟩ ∧ B ≤ g := by
        rcases hg.form with ⟨_, rfl⟩ | ⟨g, cap', hv, hgB, _⟩
        · simp at hl0
        · simp only [Value.slice.injEq] at hv
          exact ⟨g, hv.1, hgB⟩
      go_wp2_with fail
      refine (pick_any R n c (p + 1) ab _ _ hr1 (by omega) (by omega) (by omega)).mono ?_
      rintro e w2 ⟨⟨y, rfl, hy0, hy1⟩, hr2, hb2⟩
      obtain ⟨k, rfl⟩ := Int.eq_ofNat_of_zero_le hy0
      have hk : k < l.length := by omega
      have hg2 := (hg.but hb1 hR).but hb2 hR
      obtain ⟨c0, c1⟩ := gath_cells hg2 hk
      have f0 := gath_free hg2 (k * 2)
      have f1 := gath_free hg2 (k * 2 + 1)
      have HST : Hid (∀ (W : World) (m' : ByteArray × Int) (p' : Nat), Rd W R ab n c p' → p' ≤ p + 5 → Gath W B (.slice (some ⟨g, 0, none⟩) l.length cap) l → m'.1.size ≤ 2000 → ButU R B w W →
          (∃ v' l' p', Ending.returned (.slice (some ⟨g, 0, none⟩) l.length cap) = .returned v' ∧ Gath ((W.setCell ⟨g, k * 2, none⟩ (.string m'.1)).setCell ⟨g, k * 2 + 1, none⟩ (.int .i64 m'.2)) B v' l' ∧ l'.length ≤ l.length + 1 ∧ (∀ m ∈ l', m.1.size ≤ 2000) ∧ Rd ((W.setCell ⟨g, k * 2, none⟩ (.string m'.1)).setCell ⟨g, k * 2 + 1, none⟩ (.int .i64 m'.2)) R ab n c p' ∧ p' ≤ p + 5) ∧ ButU R B w ((W.setCell ⟨g, k * 2, none⟩ (.string m'.1)).setCell ⟨g, k * 2 + 1, none⟩ (.int .i64 m'.2))) := by
        intro W m' p' hW hp' hG hm hb
        refine ⟨⟨_, l.set k m', p', rfl, gath_set hG m', by simp, fun m hmem => ?_, hW.same fun q hq => (Below.heap_setCell _ _ _ _ (by simp only; omega)).trans (Below.heap_setCell _ _ _ _ (by simp only; omega)), hp'⟩, hb.trans ⟨rfl, rfl, rfl, by simp, fun q hq _ => (Below.heap_setCell _ _ _ _ (by simp only; omega)).trans (Below.heap_setCell _ _ _ _ (by simp only; omega))⟩⟩
        rcases List.mem_or_eq_of_mem_set hmem with h | h
        · exact hs m h
        · rw [h]; exact hm
      have hlk : l[k].1.size ≤ 2000 := hs _ (List.getElem_mem hk)
      have hB2 : ButU R B w w2 := (hb1.upto hB).trans (hb2.upto (Nat.le_trans hB hb1.size))
      have hz2 : B ≤ w2.heap.size := Nat.le_trans (Nat.le_trans hB hb1.size) hb2.size
      go_wp2_with fail
      have hbx : Below w2.heap.size w2 (w2.alloc (.cells #[.string l[k].1, .int .i64 l[k].2] 72)) := (Below.refl _ _).alloc (Nat.le_refl _) _
      have bx0 := box0 w2 (.string l[k].1) (.int .i64 l[k].2) 72
      have bx1 := box1 w2 (.string l[k].1) (.int .i64 l[k].2) 72
      have fx0 : (w2.alloc (.cells #[.string l[k].1, .int .i64 l[k].2] 72)).frozen? ⟨w2.heap.size, 0, none⟩ = false := by simp [go_sem]
      have fx1 : (w2.alloc (.cells #[.string l[k].1, .int .i64 l[k].2] 72)).frozen? ⟨w2.heap.size, 1, none⟩ = false := by simp [go_sem]
      have hlx := box_lt w2 (.cells #[.string l[k].1, .int .i64 l[k].2] 72)
      have hgx := hg2.keep hbx
      have hrx := hr2.below hbx
      have hBx : ButU R B w (w2.alloc (.cells #[.string l[k].1, .int .i64 l[k].2] 72)) := hB2.trans (butU_of (hbx.mono hz2))
      generalize w2.alloc (.cells #[.string l[k].1, .int .i64 l[k].2] 72) = wx at *
      refine (pick_any R n c (p + 1 + 1) ab _ _ hrx (by omega) (by omega) (by omega)).mono ?_
      rintro e w3 ⟨⟨z, rfl, hz0, hz1⟩, hr3, hb3⟩
      have bx0 := (hb3.cell 0 hlx (by omega)).trans bx0
      have bx1 := (hb3.cell 1 hlx (by omega)).trans bx1
      have fx0 : w3.frozen? ⟨w2.heap.size, 0, none⟩ = false := (World.frozen?_of_block (hb3.block w2.heap.size hlx (by omega))).trans fx0
      have fx1 : w3.frozen? ⟨w2.heap.size, 1, none⟩ = false := (World.frozen?_of_block (hb3.block w2.heap.size hlx (by omega))).trans fx1
      have hg3 := hgx.but hb3 hR
      have hB3 : ButU R B w w3 := hBx.trans (hb3.upto (by omega))
      have hlx3 : w2.heap.size < w3.heap.size := Nat.lt_of_lt_of_le hlx hb3.size
      obtain ⟨d0, d1⟩ := gath_cells hg3 hk
      have e0 := gath_free hg3 (k * 2)
      have e1 := gath_free hg3 (k * 2 + 1)
      have hgl : g < w2.heap.size := block_lt_of_cell c0
      have hgne : g ≠ w2.heap.size := by omega
      clear hgx hrx hBx hg2 hr2 hb2 hb1 hr1 c0 c1 f0 f1
      rcases (by omega : z = 0 ∨ z = 1 ∨ z = 2 ∨ z = 3) with rfl | rfl | rfl | rfl
      · go_wp2_with fail
        refine (l6Ver_any R n c _ ab _ hr3 (by omega)).mono ?_
        rintro e w4 ⟨⟨vv, rfl⟩, hr4, hb4⟩
        have hly := hlx3
        have hgy := hg3
        have hBy := hB3
        have by0 := (hb4.cell 0 hly (by omega)).trans bx0
        have by1 := (hb4.cell 1 hly (by omega)).trans bx1
        have fy0 : w4.frozen? ⟨w2.heap.size, 0, none⟩ = false := (World.frozen?_of_block (hb4.block w2.heap.size hly (by omega))).trans fx0
        have fy1 : w4.frozen? ⟨w2.heap.size, 1, none⟩ = false := (World.frozen?_of_block (hb4.block w2.heap.size hly (by omega))).trans fx1
        have hg4 := hgy.but hb4 hR
        have hB4 : ButU R B w w4 := hBy.trans (hb4.upto (by omega))
        have hg5 : Gath (w4.setCell ⟨w2.heap.size, 1, none⟩ (.int .i64 vv)) B (.slice (some ⟨g, 0, none⟩) l.length cap) l := by
          obtain ⟨hl, h | ⟨g', cap', cur, hv, hgB', hh, r⟩⟩ := hg4
          · exact ⟨hl, .inl h⟩
          · have hv' := hv
            simp only [Value.slice.injEq, Option.some.injEq, Addr.mk.injEq, and_true, true_and] at hv'
            exact ⟨hl, .inr ⟨g', cap', cur, hv, hgB', (Below.heap_setCell _ _ _ _ (by simp only; omega)).trans hh, r⟩⟩
        have hr5 : Rd (w4.setCell ⟨w2.heap.size, 1, none⟩ (.int .i64 vv)) R ab n c _ := hr4.same fun q hq => Below.heap_setCell _ _ _ _ (by simp only; omega)
        have hB5 : ButU R B w (w4.setCell ⟨w2.heap.size, 1, none⟩ (.int .i64 vv)) := hB4.trans ⟨rfl, rfl, rfl, by simp, fun q hq _ => Below.heap_setCell _ _ _ _ (by simp only; omega)⟩
        obtain ⟨d0', d1'⟩ := gath_cells hg5 hk
        have e0' := gath_free hg5 (k * 2)
        have e1' := gath_free hg5 (k * 2 + 1)
        clear d0 d1 e0 e1
        go_wp2_with fail
        go_ret
        exact HST.out _ (l[k].1, vv) _ hr5 (by omega) hg5 hlk hB5
      · go_wp2_with fail
        have hbt : Below w3.heap.size w3 (w3.alloc (.cells #[.string ⟨#[]⟩, .string ⟨#[65]⟩, .string ⟨#[97, 98, 99, 100, 101, 102, 103, 104, 105]⟩, .string ⟨#[120, 32, 121]⟩] 9)) := (Below.refl _ _).alloc (Nat.le_refl _) _
        refine (pick_any R n c _ ab _ _ (hr3.below hbt) (by omega) (by omega) (by omega)).mono ?_
        rintro e w4 ⟨⟨y, rfl, hy0, hy1⟩, hr4, hb4⟩
        obtain ⟨q, rfl⟩ := Int.eq_ofNat_of_zero_le hy0
        obtain ⟨t, ht, htz⟩ : ∃ t : ByteArray, w4.cell? ⟨w3.heap.size, q, none⟩ = some (.string t) ∧ t.size ≤ 2000 := by
          rw [table_at (by omega) hb4 q (by simp; omega)]
          rcases (by omega : q = 0 ∨ q = 1 ∨ q = 2 ∨ q = 3) with rfl | rfl | rfl | rfl <;> exact ⟨_, rfl, by decide⟩
        have hly := Nat.lt_of_lt_of_le hlx3 hbt.size
        have hgy := hg3.keep hbt
        have hBy : ButU R B w _ := hB3.trans (butU_of (hbt.mono (by omega)))
        have bx0 := cell_on hbt hlx3 bx0
        have bx1 := cell_on hbt hlx3 bx1
        have fx0 := (hbt.frozen (p := ⟨w2.heap.size, 0, none⟩) hlx3).trans fx0
        have fx1 := (hbt.frozen (p := ⟨w2.heap.size, 1, none⟩) hlx3).trans fx1
        generalize w3.alloc (.cells #[.string ⟨#[]⟩, .string ⟨#[65]⟩, .string ⟨#[97, 98, 99, 100, 101, 102, 103, 104, 105]⟩, .string ⟨#[120, 32, 121]⟩] 9) = wy at *
        have by0 := (hb4.cell 0 hly (by omega)).trans bx0
        have by1 := (hb4.cell 1 hly (by omega)).trans bx1
        have fy0 : w4.frozen? ⟨w2.heap.size, 0, none⟩ = false := (World.frozen?_of_block (hb4.block w2.heap.size hly (by omega))).trans fx0
        have fy1 : w4.frozen? ⟨w2.heap.size, 1, none⟩ = false := (World.frozen?_of_block (hb4.block w2.heap.size hly (by omega))).trans fx1
        have hg4 := hgy.but hb4 hR
        have hB4 : ButU R B w w4 := hBy.trans (hb4.upto (by omega))
        have hg5 : Gath (w4.setCell ⟨w2.heap.size, 0, none⟩ (.string t)) B (.slice (some ⟨g, 0, none⟩) l.length cap) l := by
          obtain ⟨hl, h | ⟨g', cap', cur, hv, hgB', hh, r⟩⟩ := hg4
          · exact ⟨hl, .inl h⟩
          · have hv' := hv
            simp only [Value.slice.injEq, Option.some.injEq, Addr.mk.injEq, and_true, true_and] at hv'
            exact ⟨hl, .inr ⟨g', cap', cur, hv, hgB', (Below.heap_setCell _ _ _ _ (by simp only; omega)).trans hh, r⟩⟩
        have hr5 : Rd (w4.setCell ⟨w2.heap.size, 0, none⟩ (.string t)) R ab n c _ := hr4.same fun q hq => Below.heap_setCell _ _ _ _ (by simp only; omega)
        have hB5 : ButU R B w (w4.setCell ⟨w2.heap.size, 0, none⟩ (.string t)) := hB4.trans ⟨rfl, rfl, rfl, by simp, fun q hq _ => Below.heap_setCell _ _ _ _ (by simp only; omega)⟩
        obtain ⟨d0', d1'⟩ := gath_cells hg5 hk
        have e0' := gath_free hg5 (k * 2)
        have e1' := gath_free hg5 (k * 2 + 1)
        clear d0 d1 e0 e1
        go_wp2_with fail
        go_ret
        exact HST.out _ (t, l[k].2) _ hr5 (by omega) hg5 htz hB5
      · have hkl := hk
        have HG : Hid (∀ u, Below w3.heap.size w3 u → Gath u B (.slice (some ⟨g, 0, none⟩) l.length cap) l) := fun u hu => hg3.keep hu
        have HS : Hid (∀ u, Below w3.heap.size w3 u → u.cell? ⟨w2.heap.size, 0, none⟩ = some (.string l[k].1) ∧ u.cell? ⟨w2.heap.size, 1, none⟩ = some (.int .i64 l[k].2)) := fun u hu => ⟨cell_on hu hlx3 bx0, cell_on hu hlx3 bx1⟩
        have HFIN : Hid (∀ v8 w8, Below w3.heap.size w3 w8 → Gath w8 w3.heap.size v8 (l ++ [(l[k].1, l[k].2)]) → (∃ v' l' p', Ending.returned v8 = .returned v' ∧ Gath w8 B v' l' ∧ l'.length ≤ l.length + 1 ∧ (∀ m ∈ l', m.1.size ≤ 2000) ∧ Rd w8 R ab n c p' ∧ p' ≤ p + 5) ∧ ButU R B w w8) := by
          intro v8 w8 b8 hg8
          refine ⟨⟨v8, _, p + 1 + 1 + 1, rfl, hg8.lower (by omega), by simp, fun m hm => ?_, hr3.below b8, by omega⟩, hB3.trans (butU_of (b8.mono (by omega)))⟩
          rcases List.mem_append.1 hm with h | h
          · exact hs m h
          · simp at h; subst h; exact hlk
        have b4 : Below w3.heap.size w3 w3.drew := (Below.refl _ _).drew
        go_wp2_with fail
        refine wp_region_held_drew (S := fun u => u.cell? ⟨w2.heap.size, 0, none⟩ = some (.string l[k].1) ∧ u.cell? ⟨w2.heap.size, 1, none⟩ = some (.int .i64 l[k].2)) (by kernel_rfl) ⟨bx0, bx1⟩ (fun _ => ?_)
        refine wpAnyH_take (i := 3) (v := .agg #[.string l[k].1, .int .i64 l[k].2]) rfl (by kernel_rfl) (by kernel_rfl) (by kernel_rfl) (fun _ _ _ h => h) (Or.inl ⟨by rfl, ?_⟩) ⟨bx0, bx1⟩ ?_
        · rintro u ⟨q1, q2⟩
          go_simp
        simp only [Act.put, List.setIfInBounds_toArray]
        refine wpAnyH_take (i := 1) (v := .slice (some ⟨g, 0, none⟩) l.length cap) rfl (by kernel_rfl) (by kernel_rfl) (by kernel_rfl) (fun _ _ _ h => h) (Or.inl ⟨by rfl, ?_⟩) ⟨bx0, bx1⟩ ?_
        · rintro u ⟨q1, q2⟩
          go_simp
        simp only [Act.put]
        refine wpAnyH_ready (rs := [0, 4]) (by kernel_rfl) (by simp) ?_
        refine AllReadyH.cons rfl (fun K hK => ?_) (AllReadyH.cons rfl (fun K hK => ?_) AllReadyH.nil)
        · rw [if_pos (by rfl)]
          go_simp
          have b5 := b4.alloc b4.size (.cells #[] 72)
          refine hK.out _ _ (HS.out _ b5) (fun _ => ?_)
          clear hK K
          refine wpAnyH_ready (rs := [2, 4]) (by kernel_rfl) (by simp) ?_
          refine AllReadyH.cons rfl (fun K hK => ?_) (AllReadyH.cons rfl (fun K hK => ?_) AllReadyH.nil)
          · rw [if_pos (by rfl)]
            refine wp_append_all _ _ rfl w3.heap.size B w3.heap.size g cap l rfl (heap_alloc_new w3.drew _) (by simp) rfl (HG.out _ b5) (by omega) (by omega) ?_
            intro v7 w7 hg7 hgr7
            have b6 := b5.grown hgr7 b5.size (fun q e => by simp at e; omega)
            refine hK.out _ _ (HS.out _ b6) (fun _ => ?_)
            clear hK K
            refine wpAnyH_ready (rs := [4]) (by kernel_rfl) (by simp) ?_
            refine AllReadyH.cons rfl (fun K hK => ?_) AllReadyH.nil
            rw [if_pos (by rfl)]
            go_simp
            have b7 := b6.alloc b6.size (.cells #[.string l[k].1, .int .i64 l[k].2] 72)
            refine hK.out _ _ (HS.out _ b7) (fun _ => ?_)
            clear hK K
            refine wpAnyH_ready (rs := [5]) (by kernel_rfl) (by simp) ?_
            refine AllReadyH.cons rfl (fun K hK => ?_) AllReadyH.nil
            rw [if_pos (by rfl)]
            refine wp_append_mark _ _ rfl w3.heap.size _ l rfl (hg7.keep ((Below.refl _ _).alloc (Nat.le_refl _) _)) (fun h => absurd (by rw [h]; rfl) hl0) ⟨w7.heap.size, 0, none⟩ (l[k].1, l[k].2) rfl (box0 w7 _ _ _) (by simp [Addr.add, go_sem]) (by omega) b7.size ?_
            intro v8 w8 hg8 ha8
            have b8 := ha8.below b7 (Nat.le_refl _) b7.size
            refine hK.out _ _ (HS.out _ b8) (fun _ => ?_)
            clear hK K
            refine wpAnyH_ready (rs := [6]) (by kernel_rfl) (by simp) ?_
            refine AllReadyH.cons rfl (fun K hK => ?_) AllReadyH.nil
            rw [if_pos (by rfl)]
            go_simp
            refine hK.out _ _ (HS.out _ b8) (fun _ => ?_)
            clear hK K
            refine wpAnyH_done (by kernel_rfl) ?_ _
            go_wp2_with fail
            go_ret
            exact HFIN.out v8 w8 b8 hg8
          · rw [if_pos (by rfl)]
            go_simp
            have b6 := b5.alloc b5.size (.cells #[.string l[k].1, .int .i64 l[k].2] 72)
            refine hK.out _ _ (HS.out _ b6) (fun _ => ?_)
            clear hK K
            refine wpAnyH_ready (rs := [2]) (by kernel_rfl) (by simp) ?_
            refine AllReadyH.cons rfl (fun K hK => ?_) AllReadyH.nil
            rw [if_pos (by rfl)]
            refine wp_append_all _ _ rfl w3.heap.size B w3.heap.size g cap l rfl ((Below.heap_alloc (w3.drew.alloc (.cells #[] 72)) _ w3.heap.size (by simp)).trans (heap_alloc_new w3.drew _)) (by simp) rfl (HG.out _ b6) (by omega) (by omega) ?_
            intro v7 w7 hg7 hgr7
            have b7 := b6.grown hgr7 b6.size (fun q e => by simp at e; omega)
            refine hK.out _ _ (HS.out _ b7) (fun _ => ?_)
            clear hK K
            refine wpAnyH_ready (rs := [5]) (by kernel_rfl) (by simp) ?_
            refine AllReadyH.cons rfl (fun K hK => ?_) AllReadyH.nil
            rw [if_pos (by rfl)]
            refine wp_append_mark _ _ rfl w3.heap.size _ l rfl hg7 (fun h => absurd (by rw [h]; rfl) hl0) ⟨w3.heap.size + 1, 0, none⟩ (l[k].1, l[k].2) rfl ((World.cell?_of_block (hgr7.block (w3.heap.size + 1) (by simp) (by simp))).trans (by simp [go_sem])) ((World.cell?_of_block (hgr7.block (w3.heap.size + 1) (by simp) (by simp))).trans (by simp [Addr.add, go_sem])) (by omega) b7.size ?_
            intro v8 w8 hg8 ha8
            have b8 := ha8.below b7 (Nat.le_refl _) b7.size
            refine hK.out _ _ (HS.out _ b8) (fun _ => ?_)
            clear hK K
            refine wpAnyH_ready (rs := [6]) (by kernel_rfl) (by simp) ?_
            refine AllReadyH.cons rfl (fun K hK => ?_) AllReadyH.nil
            rw [if_pos (by rfl)]
            go_simp
            refine hK.out _ _ (HS.out _ b8) (fun _ => ?_)
            clear hK K
            refine wpAnyH_done (by kernel_rfl) ?_ _
            go_wp2_with fail
            go_ret
            exact HFIN.out v8 w8 b8 hg8
        · rw [if_pos (by rfl)]
          go_simp
          have b5 := b4.alloc b4.size (.cells #[.string l[k].1, .int .i64 l[k].2] 72)
          refine hK.out _ _ (HS.out _ b5) (fun _ => ?_)
          clear hK K
          refine wpAnyH_ready (rs := [0]) (by kernel_rfl) (by simp) ?_
          refine AllReadyH.cons rfl (fun K hK => ?_) AllReadyH.nil
          rw [if_pos (by rfl)]
          go_simp
          have b6 := b5.alloc b5.size (.cells #[] 72)
          refine hK.out _ _ (HS.out _ b6) (fun _ => ?_)
          clear hK K
          refine wpAnyH_ready (rs := [2]) (by kernel_rfl) (by simp) ?_
          refine AllReadyH.cons rfl (fun K hK => ?_) AllReadyH.nil
          rw [if_pos (by rfl)]
          refine wp_append_all _ _ rfl w3.heap.size B (w3.heap.size + 1) g cap l rfl (by have h := heap_alloc_new (w3.alloc (.cells #[.string l[k].1, .int .i64 l[k].2] 72)) (.cells #[] 72); rw [World.size_alloc] at h; exact h) (by simp) rfl (HG.out _ b6) (by omega) (by omega) ?_
          intro v7 w7 hg7 hgr7
          have b7 := b6.grown hgr7 b6.size (fun q e => by simp at e; omega)
          refine hK.out _ _ (HS.out _ b7) (fun _ => ?_)
          clear hK K
          refine wpAnyH_ready (rs := [5]) (by kernel_rfl) (by simp) ?_
          refine AllReadyH.cons rfl (fun K hK => ?_) AllReadyH.nil
          rw [if_pos (by rfl)]
          refine wp_append_mark _ _ rfl w3.heap.size _ l rfl hg7 (fun h => absurd (by rw [h]; rfl) hl0) ⟨w3.heap.size, 0, none⟩ (l[k].1, l[k].2) rfl ((World.cell?_of_block (hgr7.block w3.heap.size (by simp; omega) (by simp))).trans ((World.cell?_of_block (Below.heap_alloc (w3.alloc (.cells #[.string l[k].1, .int .i64 l[k].2] 72)) (.cells #[] 72) w3.heap.size (by simp))).trans (box0 w3 _ _ _))) ((World.cell?_of_block (hgr7.block w3.heap.size (by simp; omega) (by simp))).trans ((World.cell?_of_block (Below.heap_alloc (w3.alloc (.cells #[.string l[k].1, .int .i64 l[k].2] 72)) (.cells #[] 72) w3.heap.size (by simp))).trans (box1 w3 _ _ _))) (by omega) b7.size ?_
          intro v8 w8 hg8 ha8
          have b8 := ha8.below b7 (Nat.le_refl _) b7.size
          refine hK.out _ _ (HS.out _ b8) (fun _ => ?_)
          clear hK K
          refine wpAnyH_ready (rs := [6]) (by kernel_rfl) (by simp) ?_
          refine AllReadyH.cons rfl (fun K hK => ?_) AllReadyH.nil
          rw [if_pos (by rfl)]
          go_simp
          refine hK.out _ _ (HS.out _ b8) (fun _ => ?_)
          clear hK K
          refine wpAnyH_done (by kernel_rfl) ?_ _
          go_wp2_with fail
          go_ret
          exact HFIN.out v8 w8 b8 hg8
      · go_wp2_with fail
        go_ret
        exact HST.out w3 (l[k].1, l[k].2) _ hr3 (by omega) hg3 hlk hB3
  · have h0' : (x != 0) = true := by simp [h0]
    go_wp2_with fail
    go_ret
    exact ⟨⟨_, l, p + 1, rfl, hg.but hb1 hR, by omega, hs, hr1, by omega⟩, hb1.upto hB⟩

end Go.Proofs.YtpfhegengmlkmaaGreat
