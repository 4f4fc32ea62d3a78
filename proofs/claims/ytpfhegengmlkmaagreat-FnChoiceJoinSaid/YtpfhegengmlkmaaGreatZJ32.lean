/- Texts of this claim, one behind the other. -/
import Derived.WalkMore
import Derived.Deep.LoopGhost
import Derived.Test.YtpfhegengmlkmaaGreatZJ22
import Derived.Test.YtpfhegengmlkmaaGreatZJ24
import Derived.Test.YtpfhegengmlkmaaGreatZJ29
import Derived.Test.YtpfhegengmlkmaaGreatZJ30
import Derived.Test.YtpfhegengmlkmaaGreatZJ31
namespace Go.Proofs.YtpfhegengmlkmaaGreat
open Go.RowKit Go.BigFrame
set_option maxRecDepth 100000

set_option maxHeartbeats 1600000 in
theorem implCJ_any (a a' : Option Addr) (cap cap' : Nat) (ws : List (List ItemL)) (ps : List Int) (w : World) (hf : FitW ws) (hr : RowW w a ws) (hp : ps.length ≤ maxLen) (hr' : RowZ w a' ps) :
    Calls Tryz.prog 14 #[.slice a ws.length cap, .slice a' ps.length cap'] w fun e w' => (∃ v m ok, e = .returned (.tuple #[v, .bool ok]) ∧ Gath w' w.heap.size v m ∧ IsCJ ws ps m ok) ∧ Below w.heap.size w w' := by
  go_enter Tryz.func14, Tryz.ntmps14
  go_wp2_with fail
  refine (readChoices_any a cap ws _ hf hr).mono ?_
  rintro e w1 ⟨hE, b1⟩
  have hr1 := hr'.below b1
  rcases hE with ⟨a1, c1, a2, c2, sh, rfl, hok, hc1, hc2, hrv, hrg, hsw⟩ | ⟨rfl, hno⟩
  · have HOK : Hid (OkW ws) := hok
    have HSW : Hid (ShW ws sh) := hsw
    clear hok hsw
    have hcb := chB_new hrv hrg hc1 hc2
    have hbx : Below w1.heap.size w1 (w1.alloc (.cells #[.slice a1 ws.length c1, .slice a2 sh.length c2] 52)) := (Below.refl _ _).alloc (Nat.le_refl _) _
    have BX : Below w.heap.size w (w1.alloc (.cells #[.slice a1 ws.length c1, .slice a2 sh.length c2] 52)) := b1.trans (hbx.mono b1.size)
    have hrx := hr1.below hbx
    go_wp2_with fail
    generalize w1.alloc (.cells #[.slice a1 ws.length c1, .slice a2 sh.length c2] 52) = W at *
    refine (has_any w W w1.heap.size ws sh a' cap' ps hcb HOK.out.2.1 hp hrx).mono ?_
    rintro e w2 ⟨⟨r, rfl, hr2⟩, b2⟩
    have HR : Hid (r = true ↔ ps.length = ws.length ∧ InW ws ps) := hr2
    clear hr2
    have B2 : Below w.heap.size w w2 := BX.trans (b2.mono BX.size)
    cases r with
    | false =>
      have HN : Hid (¬ ChP ws ps) := fun h => by have := HR.out.2 ⟨h.2.1, h.2.2.1⟩; simp at this
      go_wp2_with fail
      exact bodyPost_ret (v := .tuple #[.slice none 0 0, .bool false]) (by simp [results, Tryz.results14, go_sem]) rfl ⟨⟨_, [], false, rfl, Gath.none _ _, .inr ⟨rfl, rfl, .inl HN.out⟩⟩, B2⟩
    | true =>
      have hh := HR.out.1 rfl
      have HIN : Hid (InW ws ps) := hh.2
      have HLEN : Hid (ps.length = ws.length) := hh.1
      clear HR hh
      go_wp2_with fail
      refine (agrees_any w w2 w1.heap.size ws sh a' cap' ps (hcb.below b2) B2 HOK.out HLEN.out HIN.out (hrx.below b2) HSW.out).mono ?_
      rintro e w3 ⟨⟨r, rfl, hr3⟩, b3⟩
      have HR : Hid (r = true ↔ ChP ws ps) := hr3.trans ⟨fun h => ⟨HOK.out, HLEN.out, HIN.out, h⟩, fun h => h.2.2.2⟩
      clear hr3
      have B3 : Below w.heap.size w w3 := B2.trans (b3.mono B2.size)
      cases r with
      | false =>
        have HN : Hid (¬ ChP ws ps) := fun h => by have := HR.out.2 h; simp at this
        go_wp2_with fail
        exact bodyPost_ret (v := .tuple #[.slice none 0 0, .bool false]) (by simp [results, Tryz.results14, go_sem]) rfl ⟨⟨_, [], false, rfl, Gath.none _ _, .inr ⟨rfl, rfl, .inl HN.out⟩⟩, B3⟩
      | true =>
        have HC : Hid (ChP ws ps) := HR.out.1 rfl
        have hpl : ps.length ≤ 6 := by have := HLEN.out; have := HOK.out.2.1; omega
        clear HR
        replace hcb := (hcb.below b2).below b3
        replace hrx := (hrx.below b2).below b3
        go_wp2_with fail
        go_loopw [7, 8, 30] (fun okv jv i wr => ∃ (k : Nat) (m : List (ByteArray × Int)), k ≤ ps.length ∧ i = .int .i64 k ∧ Gath wr w.heap.size jv m ∧ Hid (JoinsTo ws ps k m) ∧ Below w3.heap.size w3 wr) (fun _ _ i _ => ps.length - (intOf i).toNat)
        case atStart => exact ⟨0, [], Nat.zero_le _, rfl, Gath.none _ _, rfl, Below.refl _ _⟩
        case round =>
          obtain ⟨k, m, hk, rfl, hg, HJ, hbl⟩ := hrel
          have B4 : Below w.heap.size w wr := B3.trans (hbl.mono B3.size)
          by_cases hlt : k < ps.length
          · obtain ⟨hkw, q, hqe, hq, hpk⟩ := in_nat HC.out.2.2.1 hlt
            obtain ⟨hcl, va, vc, va', vc', e0, hvc, e1, hvc', hv, hgg⟩ := hcb.below hbl
            obtain ⟨g, o, rfl, hwo⟩ := hv k hkw
            obtain ⟨b2, o2, rfl, g2, f2⟩ := hrx.below hbl k hlt
            rw [hqe] at f2
            have hfm := (hf.2 k hkw).2 q hq
            have k0 : (0 : Int) ≤ (k : Int) := by omega
            have k1 : (k : Int) < (ps.length : Int) := by omega
            have k2 : (k : Int) < (ws.length : Int) := by omega
            have HPK : Hid (pkM ws ps k = (ws[k][q]).2) := hpk
            have hst := HJ.out.stamp
            have hm12 := hst.1
            have HMS : Hid (∀ j, (h : j < m.length) → m[j].1.size ≤ maxLen) := fun j hj => by have := (hst.2.1 j hj).1.2.1; unfold maxLen; omega
            obtain ⟨oa, oc, rfl, hoc, horow⟩ := gath_row hg
            clear hqe hpk hst hgg hv
            go_wp2_with fail
            refine (at_off w wr g (o + k * 10) ws[k] q hwo hq).mono ?_
            rintro e w4 ⟨⟨vv, rfl, ⟨sa, sc, rfl, hsc, hrow⟩⟩, b4⟩
            have B5 : Below w.heap.size w w4 := B4.trans (b4.mono B4.size)
            have hfd := field_stamp (ws[k][q]).1 sa (ws[k][q]).2.length sc
            go_wp2_with fail
            refine (implJoin_any oa sa oc sc m (ws[k][q]).2 _ (by unfold maxLen; omega) hfm.1 hoc hsc (horow.below b4) (hrow.below B5) HMS.out hfm.2).mono ?_
            rintro e w5 ⟨⟨v2, m2, ok2, rfl, hg2, hj2⟩, b5⟩
            obtain ⟨va2, vc2, rfl, _, _⟩ := gath_row hg2
            rw [← HPK.out] at hj2
            have HJ2 : Hid (IsJ m (pkM ws ps k) m2 ok2) := hj2
            clear hj2
            have b45 : Below wr.heap.size wr w5 := b4.trans (b5.mono b4.size)
            cases ok2 with
            | false =>
              have HF : Hid (IsCJ ws ps [] false) := .inr ⟨rfl, rfl, .inr ⟨k, m, m2, hlt, HJ.out, HJ2.out⟩⟩
              go_wp2_with fail
              exact bodyPost_ret (v := .tuple #[.slice none 0 0, .bool false]) (by simp [results, Tryz.results14, go_sem]) rfl ⟨⟨_, [], false, rfl, Gath.none _ _, HF.out⟩, B4.trans (b45.mono B4.size)⟩
            | true =>
              have HST : Hid (JoinsTo ws ps (k + 1) m2) := ⟨m, HJ.out, HJ2.out⟩
              go_wp2_with fail
              exact ⟨⟨k + 1, m2, by omega, by go_num, hg2.lower B5.size, HST, hbl.trans (b45.mono hbl.size)⟩, by simp [intOf]; omega⟩
          · have HF : Hid (IsCJ ws ps m true) := .inl ⟨rfl, HC.out, by
              have e : k = ps.length := by omega
              rw [← e]; exact HJ.out⟩
            go_wp2_with fail
            exact bodyPost_ret (by simp [results, Tryz.results14, go_sem]) rfl ⟨⟨_, m, true, rfl, hg, HF.out⟩, B4⟩
  · have HN : Hid (¬ ChP ws ps) := fun h => hno h.1
    clear hno
    go_wp2_with fail
    exact bodyPost_ret (v := .tuple #[.slice none 0 0, .bool false]) (by simp [results, Tryz.results14, go_sem]) rfl ⟨⟨_, [], false, rfl, Gath.none _ _, .inr ⟨rfl, rfl, .inl HN.out⟩⟩, b1.alloc b1.size _⟩

end Go.Proofs.YtpfhegengmlkmaaGreat

namespace Go.Proofs.YtpfhegengmlkmaaGreat
open Go.RowKit Go.BigFrame
set_option maxRecDepth 100000

theorem valsM_take {ws : List (List ItemL)} {ps : List Int} {k : Nat} (h : k < ps.length) : (valsM ws ps).take (k + 1) = (valsM ws ps).take k ++ [pkV ws ps k] := by
  rw [List.take_succ_eq_append_getElem (by rw [valsM_len]; exact h)]
  simp [valsM]

end Go.Proofs.YtpfhegengmlkmaaGreat
