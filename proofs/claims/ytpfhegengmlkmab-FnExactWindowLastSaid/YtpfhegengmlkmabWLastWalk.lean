/- The walk of the law FnExactWindowLast. -/
import Derived.Test.YtpfhegengmlkmabWinX
import Derived.Test.YtpfhegengmlkmabItE
import Derived.Test.YtpfhegengmlkmabWc
namespace Go.Proofs.Ytpfhegengmlkmab
open Go.RowKit Go.BigFrame
set_option maxRecDepth 100000

theorem Span.of_below {lo hi : Nat} {w w' : World} (h : Below w.heap.size w w') : Span lo hi w w' := ⟨h.os, h.tape, h.output, h.size, fun k hk _ => h.block k hk⟩
theorem Span.cell {lo hi b o : Nat} {w w' : World} {v : Value} (h : Span lo hi w w') (hc : w.cell? ⟨b, o, none⟩ = some v) (hd : b < lo ∨ hi ≤ b) : w'.cell? ⟨b, o, none⟩ = some v :=
  (World.cell?_of_block (h.block b (block_lt_of_cell hc) hd)).trans hc

set_option maxHeartbeats 800000 in
theorem markItem_any (x : Int) (a : Option Addr) (cap lo hi : Nat) (m : List (ByteArray × Int)) (k : Int) (w : World) (hn : m.length ≤ 1048576) (hk0 : 0 ≤ k) (hk1 : k ≤ 10000000) (hs : Safe w lo hi a m) :
    Calls Try.prog 47 #[.agg #[.int .i64 x, .slice a m.length cap], .int .i64 k] w fun e w' => e = .returned (.int .i64 (k + 2 * (m.length : Int))) ∧ Safe w' lo hi a (marked k m.length) ∧ Span lo hi w w' := by
  have hb0 : Below w.heap.size w (w.alloc (.cells #[.int .i64 x, .slice a m.length cap] 57)) := (Below.refl _ _).alloc (Nat.le_refl _) _
  go_enter Try.func47, Try.ntmps47
  go_wp2_with fail
  refine (markSafe_any a cap lo hi m k _ hn hk0 hk1 (hs.below hb0)).mono ?_
  rintro e w1 ⟨rfl, hs1, sp1⟩
  have HS : Hid (Safe w1 lo hi a (marked k m.length) ∧ Span lo hi w w1) := ⟨hs1, (Span.of_below hb0).trans sp1⟩
  clear hs1 sp1
  go_wp2_with fail
  go_ret
  exact ⟨rfl, HS.out⟩

set_option maxHeartbeats 800000 in
theorem heldItem_any (x : Int) (a : Option Addr) (cap n : Nat) (k : Int) (w : World) (hn : n ≤ 1048576) (hk0 : 0 ≤ k) (hk1 : k ≤ 10000000) (hr : Row w a (marked k n)) :
    Calls Try.prog 51 #[.agg #[.int .i64 x, .slice a n cap], .int .i64 k] w fun e w' => e = .returned (.int .i64 (k + 2 * (n : Int))) ∧ Below w.heap.size w w' := by
  have hb0 : Below w.heap.size w (w.alloc (.cells #[.int .i64 x, .slice a n cap] 57)) := (Below.refl _ _).alloc (Nat.le_refl _) _
  go_enter Try.func51, Try.ntmps51
  go_wp2_with fail
  refine (heldMarkS_any a cap n k _ hn hk0 hk1 (hr.below hb0)).mono ?_
  rintro e w1 ⟨rfl, b1⟩
  have B1 : Below w.heap.size w w1 := hb0.trans (b1.mono hb0.size)
  go_wp2_with fail
  go_ret
  exact ⟨rfl, B1⟩

theorem isL_len {l : List ItemL} {x : Int} {m : List (ByteArray × Int)} {ok : Bool} (h : IsL l x m ok) : m.length ≤ 12 := by
  by_cases hp : WinP l ∧ 0 < l.length
  · have e := congrArg Prod.snd (h.1 hp).2
    simp only at e
    rw [e]
    exact (hp.1.2.1 (l.length - 1) (by omega)).1.1
  · rw [(h.2 hp).2.2]; simp

set_option maxHeartbeats 6400000 in
theorem lawWLast_any (a : Option Addr) (cap : Nat) (l : List ItemL) (w : World) (hf : FitI l) (hr : RowI w a l) :
    Calls Try.prog 12 #[.slice a l.length cap] w fun e w' => e = .returned (.bool true) ∧ Below w.heap.size w w' := by
  go_enter Try.func12, Try.ntmps12
  go_wp2_with fail
  refine (szItemS_w a cap l 1048576 _ hr hf (by omega) (by omega)).mono ?_
  rintro e w1 ⟨r, rfl, hr0, hr1, hr2, b1⟩
  have HR2 : Hid (0 ≤ r → r + (l.length : Int) + (lens l : Int) ≤ 1048576 ∧ SmallI 1048576 l) := hr2
  clear hr2
  by_cases hneg : r < 0
  · go_wp2_with fail
    go_ret
    exact ⟨rfl, b1⟩
  have hsum := (HR2.out (by omega)).1
  have hsml := (HR2.out (by omega)).2
  have hL : l.length ≤ 1048576 := by omega
  have hS : ∀ j, (h : j < l.length) → l[j].2.length ≤ 1048576 := fun j hj => by have := (hsml.2 j hj).1; omega
  clear HR2 hsml
  go_wp2_with fail
  refine (toItemS_any a cap l _ hL hS (hr.below b1)).mono ?_
  rintro e w2 ⟨rfl, hp2, b2⟩
  have B2 : Below w.heap.size w w2 := b1.trans (b2.mono b1.size)
  go_wp2_with fail
  refine (specLast_any _ _ l _ hf (Nat.le_refl _) hp2.row).mono ?_
  rintro e w3 ⟨⟨x, aw, cw, m, ok, rfl, hx, hcw, hsw⟩, b3⟩
  have B3 : Below w.heap.size w w3 := B2.trans (b3.mono B2.size)
  have hml := isL_len hx
  have HX : Hid (IsL l x m ok) := hx
  have z2 := B2.size
  have z3 := b3.size
  clear hx hp2
  go_wp2_with fail
  have u0 := box0 w3 (.int .i64 x) (.slice aw m.length cw) 57
  have u1 := box1 w3 (.int .i64 x) (.slice aw m.length cw) 57
  have zb := box_lt w3 (.cells #[.int .i64 x, .slice aw m.length cw] 57)
  have b4 : Below w3.heap.size w3 (w3.alloc (.cells #[.int .i64 x, .slice aw m.length cw] 57)) := (Below.refl _ _).alloc (Nat.le_refl _) _
  have B4 : Below w.heap.size w (w3.alloc (.cells #[.int .i64 x, .slice aw m.length cw] 57)) := B3.trans (b4.mono B3.size)
  replace hsw := hsw.below b4
  generalize w3.alloc (.cells #[.int .i64 x, .slice aw m.length cw] 57) = W4 at *
  generalize w3.heap.size = bw at *
  generalize w2.heap.size = lw at *
  clear b4 b3 B3 B2 b2 b1
  refine (toItemS_any a cap l _ hL hS (hr.below B4)).mono ?_
  rintro e w5 ⟨rfl, hp5, b5⟩
  have B5 : Below w.heap.size w w5 := B4.trans (b5.mono B4.size)
  replace u0 := cell_on b5 zb u0
  replace u1 := cell_on b5 zb u1
  replace hsw := hsw.below b5
  have z5 : W4.heap.size < w5.heap.size := hp5.lt
  clear b5
  go_wp2_with fail
  refine (implLast_any _ _ l _ hf hp5.row).mono ?_
  rintro e w6 ⟨⟨x', ag, cg, m', ok', rfl, hx, hcg, hsg⟩, b6⟩
  obtain ⟨rfl, rfl, rfl⟩ := HX.out.one hx
  have B6 : Below w.heap.size w w6 := B5.trans (b6.mono B5.size)
  replace u0 := cell_on b6 (by omega) u0
  replace u1 := cell_on b6 (by omega) u1
  replace hsw := hsw.below b6
  replace hp5 := hp5.below b6
  have z6 : w5.heap.size ≤ w6.heap.size := b6.size
  clear b6 hx
  have zbw : bw < w6.heap.size := by omega
  go_wp2_with fail
  have v0 := box0 w6 (.int .i64 x) (.slice ag m.length cg) 57
  have v1 := box1 w6 (.int .i64 x) (.slice ag m.length cg) 57
  have zg := box_lt w6 (.cells #[.int .i64 x, .slice ag m.length cg] 57)
  have b7 : Below w6.heap.size w6 (w6.alloc (.cells #[.int .i64 x, .slice ag m.length cg] 57)) := (Below.refl _ _).alloc (Nat.le_refl _) _
  have B7 : Below w.heap.size w (w6.alloc (.cells #[.int .i64 x, .slice ag m.length cg] 57)) := B6.trans (b7.mono B6.size)
  replace hsw := hsw.below b7
  replace hsg := hsg.below b7
  replace hp5 := hp5.below b7
  replace u0 := cell_on b7 (by omega) u0
  replace u1 := cell_on b7 (by omega) u1
  generalize w6.alloc (.cells #[.int .i64 x, .slice ag m.length cg] 57) = W7 at *
  generalize w6.heap.size = bg at *
  generalize w5.heap.size = lg at *
  clear b7 B6 B5 B4
  refine (eqItem_same x ag aw cg cw m _ (by unfold maxLen; omega) hsg.row hsw.row).mono ?_
  rintro e w8 ⟨rfl, b8⟩
  have B8 : Below w.heap.size w w8 := B7.trans (b8.mono B7.size)
  replace hsw := hsw.below b8
  replace hsg := hsg.below b8
  replace hp5 := hp5.below b8
  replace u0 := cell_on b8 (by omega) u0
  replace u1 := cell_on b8 (by omega) u1
  replace v0 := cell_on b8 (by omega) v0
  replace v1 := cell_on b8 (by omega) v1
  have z8 := b8.size
  clear b8 B7
  go_wp2_with fail
  refine (toItemS_any a cap l _ hL hS (hr.below B8)).mono ?_
  rintro e w9 ⟨rfl, hp9, b9⟩
  have B9 : Below w.heap.size w w9 := B8.trans (b9.mono B8.size)
  replace hsw := hsw.below b9
  replace hsg := hsg.below b9
  replace hp5 := hp5.below b9
  replace u0 := cell_on b9 (by omega) u0
  replace u1 := cell_on b9 (by omega) u1
  replace v0 := cell_on b9 (by omega) v0
  replace v1 := cell_on b9 (by omega) v1
  have z9 := b9.size
  clear b9 B8
  go_wp2_with fail
  refine (eqItemS_same _ _ _ _ l _ hf hp5.row hp9.row).mono ?_
  rintro e w10 ⟨rfl, b10⟩
  have B10 : Below w.heap.size w w10 := B9.trans (b10.mono B9.size)
  replace hsw := hsw.below b10
  replace hsg := hsg.below b10
  replace hp5 := hp5.below b10
  replace u0 := cell_on b10 (by omega) u0
  replace u1 := cell_on b10 (by omega) u1
  replace v0 := cell_on b10 (by omega) v0
  replace v1 := cell_on b10 (by omega) v1
  have z10 := b10.size
  clear b10 B9 hp9
  go_wp2_with fail
  refine (markItemS_any W4.heap.size l.length W4.heap.size lg l 1 _ hL (Nat.le_refl _) z5 (by omega) (by omega) hS hp5).mono ?_
  rintro e w11 ⟨rfl, _, s11⟩
  have B11 : Below w.heap.size w w11 := B10.trans (s11.below (by omega) B10.size)
  replace hsw := hsw.span s11 (by omega)
  replace hsg := hsg.span s11 (by omega)
  replace u0 := s11.cell u0 (by omega)
  replace u1 := s11.cell u1 (by omega)
  replace v0 := s11.cell v0 (by omega)
  replace v1 := s11.cell v1 (by omega)
  have z11 := s11.size
  clear s11 B10 hp5
  go_wp2_with fail
  refine (eqItem_same x ag aw cg cw m _ (by unfold maxLen; omega) hsg.row hsw.row).mono ?_
  rintro e w12 ⟨rfl, b12⟩
  have B12 : Below w.heap.size w w12 := B11.trans (b12.mono B11.size)
  replace hsw := hsw.below b12
  replace hsg := hsg.below b12
  replace u0 := cell_on b12 (by omega) u0
  replace u1 := cell_on b12 (by omega) u1
  replace v0 := cell_on b12 (by omega) v0
  replace v1 := cell_on b12 (by omega) v1
  have z12 := b12.size
  clear b12 B11
  go_wp2_with fail
  refine (markItem_any x ag cg lg bg m 1 _ (by omega) (by omega) (by omega) hsg).mono ?_
  rintro e w13 ⟨rfl, hsg', s13⟩
  have B13 : Below w.heap.size w w13 := B12.trans (s13.below (by omega) B12.size)
  replace hsw := hsw.span s13 (by omega)
  replace u0 := s13.cell u0 (by omega)
  replace u1 := s13.cell u1 (by omega)
  replace v0 := s13.cell v0 (by omega)
  replace v1 := s13.cell v1 (by omega)
  have z13 := s13.size
  clear s13 B12 hsg
  go_wp2_with fail
  refine (heldItem_any x ag cg m.length 1 _ (by omega) (by omega) (by omega) hsg'.row).mono ?_
  rintro e w14 ⟨rfl, b14⟩
  have B14 : Below w.heap.size w w14 := B13.trans (b14.mono B13.size)
  replace hsw := hsw.below b14
  replace hsg' := hsg'.below b14
  replace u0 := cell_on b14 (by omega) u0
  replace u1 := cell_on b14 (by omega) u1
  replace v0 := cell_on b14 (by omega) v0
  replace v1 := cell_on b14 (by omega) v1
  have z14 := b14.size
  clear b14 B13
  go_wp2_with fail
  refine (toItemS_any a cap l _ hL hS (hr.below B14)).mono ?_
  rintro e w15 ⟨rfl, hp15, b15⟩
  have B15 : Below w.heap.size w w15 := B14.trans (b15.mono B14.size)
  replace hsw := hsw.below b15
  replace hsg' := hsg'.below b15
  replace u0 := cell_on b15 (by omega) u0
  replace u1 := cell_on b15 (by omega) u1
  replace v0 := cell_on b15 (by omega) v0
  replace v1 := cell_on b15 (by omega) v1
  have z15 := b15.size
  clear b15 B14
  go_wp2_with fail
  refine (implLast_any _ _ l _ hf hp15.row).mono ?_
  rintro e w16 ⟨⟨x', ah, ch, m', ok', rfl, hx, hch, hsh⟩, b16⟩
  obtain ⟨rfl, rfl, rfl⟩ := HX.out.one hx
  have B16 : Below w.heap.size w w16 := B15.trans (b16.mono B15.size)
  replace hsw := hsw.below b16
  replace hsg' := hsg'.below b16
  replace u0 := cell_on b16 (by omega) u0
  replace u1 := cell_on b16 (by omega) u1
  replace v0 := cell_on b16 (by omega) v0
  replace v1 := cell_on b16 (by omega) v1
  have z16 := b16.size
  have zbw16 : bw < w16.heap.size := by omega
  have zbg16 : bg < w16.heap.size := by omega
  clear b16 B15 hx hp15
  go_wp2_with fail
  have b17 : Below w16.heap.size w16 (w16.alloc (.cells #[.int .i64 x, .slice ah m.length ch] 57)) := (Below.refl _ _).alloc (Nat.le_refl _) _
  have B17 : Below w.heap.size w (w16.alloc (.cells #[.int .i64 x, .slice ah m.length ch] 57)) := B16.trans (b17.mono B16.size)
  replace hsw := hsw.below b17
  replace hsg' := hsg'.below b17
  replace hsh := hsh.below b17
  replace u0 := cell_on b17 (by omega) u0
  replace u1 := cell_on b17 (by omega) u1
  replace v0 := cell_on b17 (by omega) v0
  replace v1 := cell_on b17 (by omega) v1
  have z17 := b17.size
  generalize w16.alloc (.cells #[.int .i64 x, .slice ah m.length ch] 57) = W17 at *
  clear b17 B16
  refine (eqItem_same x ah aw ch cw m _ (by unfold maxLen; omega) hsh.row hsw.row).mono ?_
  rintro e w18 ⟨rfl, b18⟩
  have B18 : Below w.heap.size w w18 := B17.trans (b18.mono B17.size)
  replace hsg' := hsg'.below b18
  replace v0 := cell_on b18 (by omega) v0
  replace v1 := cell_on b18 (by omega) v1
  clear b18 B17
  go_wp2_with fail
  refine (heldItem_any x ag cg m.length 1 _ (by omega) (by omega) (by omega) hsg'.row).mono ?_
  rintro e w19 ⟨rfl, b19⟩
  have B19 : Below w.heap.size w w19 := B18.trans (b19.mono B18.size)
  go_wp2_with fail
  go_ret
  exact ⟨rfl, B19⟩

end Go.Proofs.Ytpfhegengmlkmab
