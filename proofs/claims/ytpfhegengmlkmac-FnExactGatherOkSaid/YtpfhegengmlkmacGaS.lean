/- Walks: l4Ins. -/
import Derived.Test.YtpfhegengmlkmacGaI
namespace Go.Proofs.Ytpfhegengmlkmac
open Go.RowKit Go.BigFrame

set_option maxHeartbeats 800000 in
theorem l4Ins_any (a : Option Addr) (cap : Nat) (l : List ByteArray) (w : World) (hl : l.length ≤ 1048576) (hr : RowS w a l) (hs : ∀ j, (h : j < l.length) → l[j].size ≤ maxLen) :
    Calls Try.prog 69 #[.slice a l.length cap] w fun e w' => IsB (InsP l) e ∧ Below w.heap.size w w' := by
  by_cases h1 : l.length < 1
  · go_enter Try.func69, Try.ntmps69
    go_wp2_with fail
    go_ret
    exact ⟨isB_false (fun h => by have := h.1; omega), Below.refl _ _⟩
  by_cases h6 : 6 < l.length
  · go_enter Try.func69, Try.ntmps69
    go_wp2_with fail
    go_ret
    exact ⟨isB_false (fun h => by have := h.2.1; omega), Below.refl _ _⟩
  go_enter Try.func69, Try.ntmps69
  go_wp2_with fail
  go_loopw [3] (fun i wr => ∃ k : Nat, k ≤ l.length ∧ i = .int .i64 k ∧ Hid (InsTo l k) ∧ Below w.heap.size w wr) (fun i _ => l.length - (intOf i).toNat)
  case atStart => exact ⟨0, Nat.zero_le _, rfl, fun _ _ h => absurd h (Nat.not_lt_zero _), Below.refl _ _⟩
  case round =>
    obtain ⟨k, hk, rfl, HI, hbl⟩ := hrel
    by_cases hlt : k < l.length
    · obtain ⟨b, o, rfl, hblt, c0⟩ := hr.below hbl k hlt
      have k0 : (0 : Int) ≤ (k : Int) := by omega
      have k1 : (k : Int) < (l.length : Int) := by omega
      have HS := hs k hlt
      go_wp2_with fail
      refine (l1Name_any l[k] _ HS).mono ?_
      rintro e w1 ⟨⟨r, rfl, hr1⟩, rfl⟩
      have HR : Hid (r = true ↔ NameP l[k]) := hr1
      clear hr1
      cases r with
      | false =>
        have HN : Hid (¬ InsP l) := fun h => by have h3 := (h.2.2 k hlt).1; have := HR.out.2 h3; simp at this
        go_wp2_with fail
        go_ret
        exact ⟨isB_false HN.out, hbl⟩
      | true =>
        have HP : Hid (NameP l[k]) := HR.out.1 rfl
        clear HR
        go_wp2_with fail
        go_loopw [4] (fun i2 wr2 => ∃ j : Nat, j ≤ k ∧ i2 = .int .i64 j ∧ Hid (∀ q, (hq : q < j) → (hl : q < l.length) → l[q] ≠ l[k]) ∧ Below w.heap.size w wr2) (fun i2 _ => k - (intOf i2).toNat)
        case atStart => exact ⟨0, Nat.zero_le _, rfl, fun _ h => absurd h (Nat.not_lt_zero _), hbl⟩
        case round =>
          obtain ⟨j, hj, rfl, HJ, hbl2⟩ := hrel
          by_cases hjlt : j < k
          · have hjl : j < l.length := by omega
            obtain ⟨b1, o1, e1, hb1, c1⟩ := hr.below hbl2 j hjl
            obtain ⟨b2, o2, e2, hb2, c2⟩ := hr.below hbl2 k hlt
            cases e1
            cases e2
            have j0 : (0 : Int) ≤ (j : Int) := by omega
            have j1 : (j : Int) < (l.length : Int) := by omega
            by_cases he : l[j] = l[k]
            · have hb' : (l[j].toList == l[k].toList) = true := toList_beq.2 he
              have HN : Hid (¬ InsP l) := fun h => (h.2.2 k hlt).2 j hjlt he
              go_wp2_with fail
              go_quiet (fail)
              go_wp2_with fail
              go_ret
              exact ⟨isB_false HN.out, below_drewN hbl2 _⟩
            · have hb' : (l[j].toList == l[k].toList) = false := toList_bne.2 he
              have HJ2 : Hid (∀ q, (hq : q < j + 1) → (hl : q < l.length) → l[q] ≠ l[k]) := fun q hq hl => by
                by_cases e : q = j
                · subst e; exact he
                · exact HJ.out q (by omega) hl
              go_wp2_with fail
              go_quiet (fail)
              go_wp2_with fail
              exact ⟨⟨j + 1, by omega, by go_num, HJ2, below_drewN hbl2 _⟩, by simp [intOf]; omega⟩
          · have HST : Hid (InsTo l (k + 1)) := insTo_step HI.out hlt HP.out (fun q hq => HJ.out q (by omega) (by omega))
            go_wp2_with fail
            exact ⟨⟨k + 1, by omega, by go_num, HST, hbl2⟩, by simp [intOf]; omega⟩
    · have HF : Hid (InsP l) := ⟨by omega, by omega, fun i hi => HI.out i hi (by omega)⟩
      go_wp2_with fail
      go_ret
      exact ⟨isB_true HF.out, hbl⟩

end Go.Proofs.Ytpfhegengmlkmac
