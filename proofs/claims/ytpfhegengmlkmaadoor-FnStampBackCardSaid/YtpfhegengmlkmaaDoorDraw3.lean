/- Walks: l6Marks, a stamp of drawn sources. -/
import Derived.Test.YtpfhegengmlkmaaDoorDraw2
import Derived.Test.YtpfhegengmlkmaaDoorSpecJ
namespace Go.Proofs.YtpfhegengmlkmaaDoor
open Go.RowKit Go.BigFrame
set_option maxRecDepth 100000

theorem mcells_take : ∀ (l : List (ByteArray × Int)) (k : Nat), mcells (l.take k) = (mcells l).take (k * 2)
  | [], k => by simp [mcells]
  | m :: r, 0 => by simp [mcells]
  | m :: r, k + 1 => by
    have e : (k + 1) * 2 = k * 2 + 1 + 1 := by omega
    rw [e]
    simp only [List.take_succ_cons, mcells, mcells_take r k]
theorem Gath.cut {w : World} {B k cap : Nat} {a : Option Addr} {l : List (ByteArray × Int)} (h : Gath w B (.slice a l.length cap) l) (hk : k ≤ l.length) (h0 : 0 < k) : l.length ≤ cap ∧ Gath w B (.slice a k cap) (l.take k) := by
  obtain ⟨hl, h | ⟨g, cap', cur, hv, hg, hh, hn, hc, hs, ht⟩⟩ := h
  · omega
  · simp only [Value.slice.injEq, true_and] at hv
    obtain ⟨rfl, rfl⟩ := hv
    have ek : (l.take k).length = k := by simp; omega
    refine ⟨hn, by rw [mcells_length], .inr ⟨g, cap, cur, by rw [ek], hg, hh, by omega, by omega, hs, ?_⟩⟩
    rw [mcells_take, ← ht, List.take_take, ek]
    congr 1
    omega

set_option maxHeartbeats 1600000 in
theorem l6Marks_any (R n c p : Nat) (ab : Option Addr) (w : World) (hr : Rd w R ab n c p) (hp : p ≤ 80000) :
    Calls Tryd.prog 13 #[.pointer (some ⟨R, 0, none⟩)] w fun e w' => (∃ v l p', e = .returned v ∧ Gath w' w.heap.size v l ∧ l.length ≤ 30 ∧ (∀ m ∈ l, m.1.size ≤ 2000) ∧ Rd w' R ab n c p' ∧ p' ≤ p + 100) ∧ But R w w' := by
  have hRl := hr.lt
  go_enter Tryd.func13, Tryd.ntmps13
  go_wp2_with fail
  refine (pick_any R n c p ab _ _ hr (by omega) (by omega) (by omega)).mono ?_
  rintro e w1 ⟨⟨x, rfl, hx0, hx1⟩, hr1, hb1⟩
  obtain ⟨nn, rfl⟩ := Int.eq_ofNat_of_zero_le hx0
  go_wp2_with fail
  go_loopw [3, 5] (fun out i wr => ∃ k : Nat, k ≤ nn ∧ i = .int .i64 k ∧ ∃ o p', Gath wr w.heap.size out o ∧ o.length ≤ k ∧ (∀ m ∈ o, m.1.size ≤ 2000) ∧ Rd wr R ab n c p' ∧ p' ≤ p + 1 + 2 * k ∧ But R w wr) (fun _ i _ => nn - (intOf i).toNat)
  case atStart => exact ⟨0, Nat.zero_le _, rfl, [], p + 1, Gath.none _ _, by simp, by simp, hr1, by omega, hb1⟩
  case round =>
    obtain ⟨k, hk, rfl, o, p', hg, hol, hos, hrr, hp', hbr⟩ := hrel
    obtain ⟨ao, co, rfl, hrow⟩ := hg.shape
    by_cases hlt : k < nn
    · have hlt' : decide ((k : Int) < (nn : Int)) = true := by simp; omega
      go_wp2_with fail
      refine (l6Src_any R n c p' ab _ hrr (by omega)).mono ?_
      rintro e w2 ⟨⟨s, rfl, hsz⟩, hr2, hb2⟩
      go_wp2_with fail
      refine (pick_any R n c _ ab _ _ hr2 (by omega) (by omega) (by omega)).mono ?_
      rintro e w3 ⟨⟨y, rfl, hy0, hy1⟩, hr3, hb3⟩
      have hg3 := (hg.but hb2 hRl).but hb3 hRl
      have hB3 := (hbr.trans hb2).trans hb3
      go_wp2_with fail
      obtain ⟨_, _, e1, hrow3⟩ := hg3.shape
      cases e1
      refine (l1Set_any ao co o (s, 1 + y) _ (by omega) hrow3).mono ?_
      rintro e w4 ⟨⟨v, rfl, hg4⟩, hb4⟩
      have hsl := setR_length (m := (s, 1 + y)) (l := o)
      go_wp2_with fail
      refine ⟨⟨k + 1, by omega, by simp, _, p' + 1 + 1, hg4.lower hB3.size, by omega, fun m hm => ?_, hr3.below hb4, by omega, hB3.trans (But.of_below hb4)⟩, by simp [intOf]; omega⟩
      rcases setR_mem hm with h | h
      · subst h; show s.size ≤ _; omega
      · exact hos m h
    · have hlt' : decide ((k : Int) < (nn : Int)) = false := by simp; omega
      go_wp2_with fail
      refine (pick_any R n c _ ab _ _ hrr (by omega) (by omega) (by omega)).mono ?_
      rintro e w2 ⟨⟨y, rfl, hy0, hy1⟩, hr2, hb2⟩
      have hg2 := hg.but hb2 hRl
      have hB2 := hbr.trans hb2
      by_cases hy : y = 0
      · subst hy
        go_wp2_with fail
        go_loopw [3, 6] (fun out i wr => ∃ k : Nat, k ≤ 12 ∧ i = .int .i64 k ∧ ∃ o p', Gath wr w.heap.size out o ∧ o.length ≤ 4 + k ∧ (∀ m ∈ o, m.1.size ≤ 2000) ∧ Rd wr R ab n c p' ∧ p' ≤ p + 12 + k ∧ But R w wr) (fun _ i _ => 12 - (intOf i).toNat)
        case atStart => exact ⟨0, Nat.zero_le _, rfl, o, p' + 1, hg2, by omega, hos, hr2, by omega, hB2⟩
        case round =>
          obtain ⟨k, hk, rfl, o, p', hg, hol, hos, hrr, hp', hbr⟩ := hrel
          obtain ⟨ao, co, rfl, hrow⟩ := hg.shape
          by_cases hlt : k < 12
          · have hlt' : decide ((k : Int) < 12) = true := by simp; omega
            go_wp2_with fail
            refine (l1Dec_any k _ (by omega)).mono ?_
            rintro e w3 ⟨⟨s, rfl, hsz⟩, hb3⟩
            go_wp2_with fail
            refine (pick_any R n c _ ab _ _ (hrr.below hb3) (by omega) (by omega) (by omega)).mono ?_
            rintro e w4 ⟨⟨y, rfl, hy0, hy1⟩, hr4, hb4⟩
            have hg4 := (hg.keep hb3).but hb4 hRl
            have hB4 := (hbr.trans (But.of_below hb3)).trans hb4
            have hqs : ((⟨#[113]⟩ : ByteArray) ++ s).size = 1 + s.size := by rw [ByteArray.size_append]; rfl
            generalize (⟨#[113]⟩ : ByteArray) ++ s = qs at *
            go_wp2_with fail
            obtain ⟨_, _, e1, hrow4⟩ := hg4.shape
            cases e1
            refine (l1Set_any ao co o (qs, 1 + y) _ (by omega) hrow4).mono ?_
            rintro e w5 ⟨⟨v, rfl, hg5⟩, hb5⟩
            have hsl := setR_length (m := (qs, 1 + y)) (l := o)
            go_wp2_with fail
            refine ⟨⟨k + 1, by omega, by simp, _, p' + 1, hg5.lower hB4.size, by omega, fun m hm => ?_, hr4.below hb5, by omega, hB4.trans (But.of_below hb5)⟩, by simp [intOf]; omega⟩
            rcases setR_mem hm with h | h
            · subst h; show qs.size ≤ _; omega
            · exact hos m h
          · have hlt' : decide ((k : Int) < 12) = false := by simp; omega
            by_cases hbig : 12 < o.length
            · have hbig' : decide ((12 : Int) < (o.length : Int)) = true := by simp; omega
              go_wp2_with fail
              refine (pick_any R n c _ ab _ _ hrr (by omega) (by omega) (by omega)).mono ?_
              rintro e w3 ⟨⟨y, rfl, hy0, hy1⟩, hr3, hb3⟩
              have hg3 := hg.but hb3 hRl
              have hB3 := hbr.trans hb3
              by_cases hy : y = 0
              · subst hy
                obtain ⟨hcap, hg3'⟩ := hg3.cut (k := 12) (by omega) (by omega)
                have hl12 : (o.take 12).length = 12 := by simp; omega
                have hg3' : Gath w3 w.heap.size (.slice ao 12 co) (o.take 12) := hg3'
                go_wp2_with fail
                refine (l6Spoil_any R n c _ w.heap.size ab _ (o.take 12) _ hr3 (by omega) hg3' hRl hB3.size (by omega) (fun m hm => hos m (List.mem_of_mem_take hm))).mono ?_
                rintro e w8 ⟨⟨v, l', p8, rfl, hg8, hl8, hs8, hr8, hp8⟩, hb8⟩
                go_wp2_with fail
                go_ret
                exact ⟨⟨v, l', p8, rfl, hg8, by omega, hs8, hr8, by omega⟩, ((hB3.upto (Nat.le_refl _)).trans hb8).but⟩
              · have hy' : (y == 0) = false := by simp [hy]
                go_wp2_with fail
                refine (l6Spoil_any R n c _ w.heap.size ab _ o _ hr3 (by omega) hg3 hRl hB3.size (by omega) hos).mono ?_
                rintro e w8 ⟨⟨v, l', p8, rfl, hg8, hl8, hs8, hr8, hp8⟩, hb8⟩
                go_wp2_with fail
                go_ret
                exact ⟨⟨v, l', p8, rfl, hg8, by omega, hs8, hr8, by omega⟩, ((hB3.upto (Nat.le_refl _)).trans hb8).but⟩
            · have hbig' : decide ((12 : Int) < (o.length : Int)) = false := by simp; omega
              go_wp2_with fail
              refine (l6Spoil_any R n c _ w.heap.size ab _ o _ hrr (by omega) hg hRl hbr.size (by omega) hos).mono ?_
              rintro e w8 ⟨⟨v, l', p8, rfl, hg8, hl8, hs8, hr8, hp8⟩, hb8⟩
              go_wp2_with fail
              go_ret
              exact ⟨⟨v, l', p8, rfl, hg8, by omega, hs8, hr8, by omega⟩, ((hbr.upto (Nat.le_refl _)).trans hb8).but⟩
      · have hy' : (y == 0) = false := by simp [hy]
        go_wp2_with fail
        refine (l6Spoil_any R n c _ w.heap.size ab _ o _ hr2 (by omega) hg2 hRl hB2.size (by omega) hos).mono ?_
        rintro e w3 ⟨⟨v, l', p3, rfl, hg3, hl3, hs3, hr3, hp3⟩, hb3⟩
        go_wp2_with fail
        go_ret
        exact ⟨⟨v, l', p3, rfl, hg3, by omega, hs3, hr3, by omega⟩, ((hB2.upto (Nat.le_refl _)).trans hb3).but⟩

end Go.Proofs.YtpfhegengmlkmaaDoor
