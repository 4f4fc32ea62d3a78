/- Walks: DrawStampOnly, DrawStampOrder. -/
import Derived.Test.YtpfhegengmlkmaaDraw4
import Derived.Test.YtpfhegengmlkmaaGathS
namespace Go.Proofs.Ytpfhegengmlkmaa
open Go.RowKit Go.BigFrame
set_option maxRecDepth 100000

theorem But.grown {R : Nat} {x w w' : World} {row : Option Nat} (h : But R x w) (hg : w.grownBy w' row) (hr : ∀ k, row = some k → x.heap.size ≤ k) : But R x w' :=
  ⟨hg.os.trans h.os, hg.tape.trans h.tape, hg.output.trans h.output, Nat.le_trans h.size hg.size, fun k hk hn => (hg.block k (Nat.lt_of_lt_of_le hk h.size) (fun e => by have := hr k e.symm; omega)).trans (h.block k hk hn)⟩
theorem Rd.grown {w w' : World} {R n c p : Nat} {ab : Option Addr} {row : Option Nat} (h : Rd w R ab n c p) (hg : w.grownBy w' row) (hr : ∀ k, row = some k → R < k) : Rd w' R ab n c p := by
  have := h.lt
  exact h.same fun k hk => hg.block k (by omega) (fun e => by have := hr k e.symm; omega)

set_option maxHeartbeats 1600000 in
theorem drawOnly_any (ab : Option Addr) (n c : Nat) (w : World) (h : Bytes w ab n c) :
    Calls Try.prog 23 #[.slice ab n c] w fun e w' => (∃ va la vb lb, e = .returned (.tuple #[va, vb]) ∧ Mks w' w.heap.size va la ∧ GathS w' w.heap.size vb lb ∧ lb.length ≤ 10) ∧ Below w.heap.size w w' := by
  obtain ⟨i0, hi, hz0, hz1, hz2⟩ := info_parts Try.infoS
  go_enter Try.func23, Try.ntmps23
  go_wp2_with fail
  refine (l1Open_any ab n c _ h).mono ?_
  rintro e w1 ⟨⟨m, rfl, hr1⟩, hb1⟩
  have hR := hr1.lt
  go_wp2_with fail
  refine (l6Marks_mks _ m c 0 ab _ hr1 (by omega)).mono ?_
  rintro e w2 ⟨⟨va, la, p2, rfl, hm2, hl2, hr2, hp2⟩, hb2⟩
  go_wp2_with fail
  refine (pick_any _ m c p2 ab _ _ hr2 (by omega) (by omega) (by omega)).mono ?_
  rintro e w3 ⟨⟨x, rfl, hx0, hx1⟩, hr3, hb3⟩
  obtain ⟨nn, rfl⟩ := Int.eq_ofNat_of_zero_le hx0
  have z2 := hb2.size
  have hm3 := hm2.but hb3 hR
  have hb13 : But w.heap.size w1 w3 := hb2.trans hb3
  clear hr1 hr2 hm2 h hb2 hb3
  go_wp2_with fail
  go_loopw [6, 8] (fun out i wr => ∃ k : Nat, k ≤ nn ∧ i = .int .i64 k ∧ ∃ o p', GathS wr w3.heap.size out o ∧ o.length ≤ k ∧ Rd wr w.heap.size ab m c p' ∧ p' ≤ 101 + k ∧ But w.heap.size w3 wr) (fun _ i _ => nn - (intOf i).toNat)
  case atStart => exact ⟨0, Nat.zero_le _, rfl, [], p2 + 1, gathS_none _ _, by simp, hr3, by omega, But.refl _ _⟩
  case round =>
    obtain ⟨k, hk, rfl, o, p', hg, hol, hrr, hp', hbr⟩ := hrel
    have hzr := hbr.size
    have hz13 := hb13.size
    by_cases hlt : k < nn
    · have hlt' : decide ((k : Int) < (nn : Int)) = true := by simp; omega
      go_wp2_with fail
      refine (l6Src_any _ m c p' ab _ hrr (by omega)).mono ?_
      rintro e w4 ⟨⟨s, rfl, hsz⟩, hr4, hb4⟩
      have hg4 : w4.ownsRow w3.heap.size 9 1 _ o.length (o.map .string) := hg.but hb4 (by omega)
      have hB4 := hbr.trans hb4
      have hz4 := hb4.size
      have hba : Below w4.heap.size w4 (w4.alloc (.cells #[.string s] 9)) := (Below.refl _ _).alloc (Nat.le_refl _) _
      go_wp2_with (at_builtin; refine wpList_append_lies _ rfl _ _ 34 rfl w3.heap.size 9 i0 (.string .empty) 1 16 Try.underlying34 hi hz0 hz1 hz2 rfl (by decide) _ _ _ rfl (hg4.alloc _) ⟨w4.heap.size, 0, none⟩ 1 1 [.string s] rfl rfl (one_new w4 _ _) (by simp [Value.oneCell']) (by decide) (by unfold maxLen; omega) (by omega) (by simp; omega) _ rfl ?_; intro g' cap' w5 hown' hgrow _ _)
      have hob := ownsRow_block hg4
      refine ⟨⟨k + 1, by omega, by simp, o ++ [s], p' + 1, GathS.snoc hown', by simp; omega, (hr4.below hba).grown hgrow (fun q e => by have := hob q e; omega), by omega, (hB4.trans (But.of_below hba)).grown hgrow hob⟩, by simp [intOf]; omega⟩
    · have hlt' : decide ((k : Int) < (nn : Int)) = false := by simp; omega
      have HF : Hid (∀ v, GathS wr w3.heap.size v o → (∃ va' la' vb' lb', Ending.returned (.tuple #[va, v]) = .returned (.tuple #[va', vb']) ∧ Mks wr w.heap.size va' la' ∧ GathS wr w.heap.size vb' lb' ∧ lb'.length ≤ 10) ∧ Below w.heap.size w wr) :=
        fun v hv => ⟨⟨va, la, v, o, rfl, (hm3.but hbr (by omega)).lower (by omega), hv.lower (by omega), by omega⟩, hb1.trans ((hb13.trans hbr).below (Nat.le_refl _) (by omega))⟩
      clear hb1 hb13 hbr hrr hm3 hr3
      go_wp2_with fail
      exact bodyPost_ret (v := .tuple #[va, _]) (by simp [results, Try.results23, go_sem]) rfl (HF.out _ hg)

end Go.Proofs.Ytpfhegengmlkmaa
