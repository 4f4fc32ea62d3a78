/- Walks: spec.GatherOk, impl.GatherOk. -/
import Derived.Test.YtpfhegengmlkmacGaT
import Derived.Test.YtpfhegengmlkmacGaS
import Derived.Test.YtpfhegengmlkmacWOkWalk
namespace Go.Proofs.Ytpfhegengmlkmac
open Go.RowKit Go.BigFrame

/-- A gather that may be. -/
structure GatP (g : GatL) : Prop where
  ins : InsP g.ins
  len : g.wins.length = g.ins.length
  wins : OkW g.wins
  shown : StampP g.shown

set_option maxHeartbeats 800000 in
theorem specGOk_any (a0 a1 a2 : Option Addr) (c0 c1 c2 : Nat) (g : GatL) (w : World) (hf : FitG g) (hi : g.ins.length ≤ 1048576) (r0 : RowS w a0 g.ins) (r1 : RowW w a1 g.wins) (r2 : Row w a2 g.shown) :
    Calls Try.prog 44 #[.agg #[.slice a0 g.ins.length c0, .slice a1 g.wins.length c1, .slice a2 g.shown.length c2]] w fun e w' => IsB (GatP g) e ∧ Below w.heap.size w w' := by
  have hl := hf.wins.1
  unfold maxLen at hl
  have hb0 : Below w.heap.size w (w.alloc (.cells #[.slice a0 g.ins.length c0, .slice a1 g.wins.length c1, .slice a2 g.shown.length c2] 53)) := (Below.refl _ _).alloc (Nat.le_refl _) _
  have hlt := box_lt w (.cells #[.slice a0 g.ins.length c0, .slice a1 g.wins.length c1, .slice a2 g.shown.length c2] 53)
  have d0 : (w.alloc (.cells #[.slice a0 g.ins.length c0, .slice a1 g.wins.length c1, .slice a2 g.shown.length c2] 53)).cell? ⟨w.heap.size, 0, none⟩ = some (.slice a0 g.ins.length c0) := by simp [go_sem]
  have d1 : (w.alloc (.cells #[.slice a0 g.ins.length c0, .slice a1 g.wins.length c1, .slice a2 g.shown.length c2] 53)).cell? ⟨w.heap.size, 1, none⟩ = some (.slice a1 g.wins.length c1) := by simp [go_sem]
  have d2 : (w.alloc (.cells #[.slice a0 g.ins.length c0, .slice a1 g.wins.length c1, .slice a2 g.shown.length c2] 53)).cell? ⟨w.heap.size, 2, none⟩ = some (.slice a2 g.shown.length c2) := by simp [go_sem]
  go_enter Try.func44, Try.ntmps44
  go_wp2_with fail
  generalize w.alloc (.cells #[.slice a0 g.ins.length c0, .slice a1 g.wins.length c1, .slice a2 g.shown.length c2] 53) = W0 at *
  refine (l4Ins_any a0 c0 g.ins _ hi (r0.below hb0) hf.ins.2).mono ?_
  rintro e w1 ⟨⟨r, rfl, hr⟩, b1⟩
  have HR : Hid (r = true ↔ InsP g.ins) := hr
  clear hr
  have B1 : Below w.heap.size w w1 := hb0.trans (b1.mono hb0.size)
  replace d0 := cell_on b1 (by omega) d0
  replace d1 := cell_on b1 (by omega) d1
  replace d2 := cell_on b1 (by omega) d2
  have z1 := b1.size
  clear b1
  cases r with
  | false =>
    have HN : Hid (¬ GatP g) := fun h => by have := HR.out.2 h.ins; simp at this
    go_wp2_with fail
    go_ret
    exact ⟨isB_false HN.out, B1⟩
  | true =>
    have HP : Hid (InsP g.ins) := HR.out.1 rfl
    clear HR
    by_cases hlen : g.wins.length = g.ins.length
    · have HL : Hid (g.wins.length = g.ins.length) := hlen
      have hlen' : ((g.wins.length : Int) == (g.ins.length : Int)) = true := by rw [beq_iff_eq]; omega
      clear hlen
      go_wp2_with fail
      refine (l3Ok_any a1 c1 g.wins _ hf.wins (r1.below B1)).mono ?_
      rintro e w2 ⟨⟨r, rfl, hr⟩, b2⟩
      have HR : Hid (r = true ↔ OkW g.wins) := hr
      clear hr
      have B2 : Below w.heap.size w w2 := B1.trans (b2.mono B1.size)
      replace d2 := cell_on b2 (by omega) d2
      have z2 := b2.size
      clear b2
      cases r with
      | false =>
        have HN : Hid (¬ GatP g) := fun h => by have := HR.out.2 h.wins; simp at this
        go_wp2_with fail
        go_ret
        exact ⟨isB_false HN.out, B2⟩
      | true =>
        have HW : Hid (OkW g.wins) := HR.out.1 rfl
        clear HR
        go_wp2_with fail
        refine (specStampOk_any a2 c2 g.shown _ hf.shown.1 (r2.below B2) hf.shown.2).mono ?_
        rintro e w3 ⟨⟨r, rfl, hr⟩, n, rfl⟩
        have HR : Hid (r = true ↔ GatP g) := hr.trans ⟨fun h => ⟨HP.out, HL.out, HW.out, h⟩, fun h => h.shown⟩
        clear hr
        go_wp2_with fail
        go_ret
        exact ⟨⟨r, rfl, HR.out⟩, below_drewN B2 _⟩
    · have hlen' : ((g.wins.length : Int) == (g.ins.length : Int)) = false := by rw [beq_eq_false_iff_ne]; omega
      have HN : Hid (¬ GatP g) := fun h => hlen h.len
      go_wp2_with fail
      go_ret
      exact ⟨isB_false HN.out, B1⟩

set_option maxHeartbeats 800000 in
theorem implGOk_any (a0 a1 a2 : Option Addr) (c0 c1 c2 : Nat) (g : GatL) (w : World) (hf : FitG g) (hi : g.ins.length ≤ 1048576) (hc : g.ins.length ≤ c0) (hc2 : c0 ≤ maxLen) (r0 : RowS w a0 g.ins) (r1 : RowW w a1 g.wins) (r2 : Row w a2 g.shown) :
    Calls Try.prog 46 #[.agg #[.slice a0 g.ins.length c0, .slice a1 g.wins.length c1, .slice a2 g.shown.length c2]] w fun e w' => IsB (GatP g) e ∧ Below w.heap.size w w' := by
  have hl := hf.wins.1
  unfold maxLen at hl
  have hb0 : Below w.heap.size w (w.alloc (.cells #[.slice a0 g.ins.length c0, .slice a1 g.wins.length c1, .slice a2 g.shown.length c2] 53)) := (Below.refl _ _).alloc (Nat.le_refl _) _
  have hlt := box_lt w (.cells #[.slice a0 g.ins.length c0, .slice a1 g.wins.length c1, .slice a2 g.shown.length c2] 53)
  have d0 : (w.alloc (.cells #[.slice a0 g.ins.length c0, .slice a1 g.wins.length c1, .slice a2 g.shown.length c2] 53)).cell? ⟨w.heap.size, 0, none⟩ = some (.slice a0 g.ins.length c0) := by simp [go_sem]
  have d1 : (w.alloc (.cells #[.slice a0 g.ins.length c0, .slice a1 g.wins.length c1, .slice a2 g.shown.length c2] 53)).cell? ⟨w.heap.size, 1, none⟩ = some (.slice a1 g.wins.length c1) := by simp [go_sem]
  have d2 : (w.alloc (.cells #[.slice a0 g.ins.length c0, .slice a1 g.wins.length c1, .slice a2 g.shown.length c2] 53)).cell? ⟨w.heap.size, 2, none⟩ = some (.slice a2 g.shown.length c2) := by simp [go_sem]
  go_enter Try.func46, Try.ntmps46
  go_wp2_with fail
  generalize w.alloc (.cells #[.slice a0 g.ins.length c0, .slice a1 g.wins.length c1, .slice a2 g.shown.length c2] 53) = W0 at *
  refine (insOk_any a0 c0 g.ins _ hi hc hc2 (r0.below hb0) hf.ins.2).mono ?_
  rintro e w1 ⟨⟨r, rfl, hr⟩, rfl⟩
  have HR : Hid (r = true ↔ InsP g.ins) := hr
  clear hr
  cases r with
  | false =>
    have HN : Hid (¬ GatP g) := fun h => by have := HR.out.2 h.ins; simp at this
    go_wp2_with fail
    go_ret
    exact ⟨isB_false HN.out, hb0⟩
  | true =>
    have HP : Hid (InsP g.ins) := HR.out.1 rfl
    clear HR
    by_cases hlen : g.wins.length = g.ins.length
    · have HL : Hid (g.wins.length = g.ins.length) := hlen
      have hlen' : ((g.wins.length : Int) != (g.ins.length : Int)) = false := by rw [bne_eq_false_iff_eq]; omega
      clear hlen
      go_wp2_with fail
      go_loopw [21] (fun i wr => ∃ k : Nat, k ≤ g.wins.length ∧ i = .int .i64 k ∧ Hid (∀ j, (h : j < g.wins.length) → j < k → WinP g.wins[j]) ∧ Below w1.heap.size w1 wr) (fun i _ => g.wins.length - (intOf i).toNat)
      case atStart => exact ⟨0, Nat.zero_le _, rfl, fun _ _ h => absurd h (Nat.not_lt_zero _), Below.refl _ _⟩
      case round =>
        obtain ⟨k, hk, rfl, HI, hbl⟩ := hrel
        have B1 : Below w.heap.size w wr := hb0.trans (hbl.mono hb0.size)
        by_cases hk2 : k < g.wins.length
        · obtain ⟨b1, o1, rfl, g1, s1, t1, e1, _, q1⟩ := r1.below B1 k hk2
          have k0 : (0 : Int) ≤ (k : Int) := by omega
          have k1 : (k : Int) < (g.wins.length : Int) := by omega
          go_wp2_with fail
          refine (implWinOk_any s1 t1 g.wins[k] _ (hf.wins.2 k hk2) q1).mono ?_
          rintro e w2 ⟨⟨r, rfl, hr⟩, b2⟩
          have HR : Hid (r = true ↔ WinP g.wins[k]) := hr
          clear hr
          cases r with
          | false =>
            have HN : Hid (¬ GatP g) := fun h => by have := HR.out.2 (h.wins.2.2 k hk2); simp at this
            go_wp2_with fail
            go_ret
            exact ⟨isB_false HN.out, B1.trans (b2.mono B1.size)⟩
          | true =>
            have HST : Hid (∀ j, (h : j < g.wins.length) → j < k + 1 → WinP g.wins[j]) := win_step HI.out hk2 (HR.out.1 rfl)
            go_wp2_with fail
            exact ⟨⟨k + 1, by omega, by go_num, HST, hbl.trans (b2.mono hbl.size)⟩, by simp [intOf]; omega⟩
        · have HW : Hid (OkW g.wins) := ⟨by have := HP.out.1; have := HL.out; omega, by have := HP.out.2.1; have := HL.out; omega, fun j hj => HI.out j hj (by omega)⟩
          have e2 := cell_on hbl hlt d2
          go_wp2_with fail
          refine (implStampOk_any a2 c2 g.shown _ hf.shown.1 (r2.below B1) hf.shown.2).mono ?_
          rintro e w3 ⟨⟨r, rfl, hr⟩, b3⟩
          have HR : Hid (r = true ↔ GatP g) := hr.trans ⟨fun h => ⟨HP.out, HL.out, HW.out, h⟩, fun h => h.shown⟩
          clear hr
          go_wp2_with fail
          go_ret
          exact ⟨⟨r, rfl, HR.out⟩, B1.trans (b3.mono B1.size)⟩
    · have hlen' : ((g.wins.length : Int) != (g.ins.length : Int)) = true := by rw [bne_iff_ne]; omega
      have HN : Hid (¬ GatP g) := fun h => hlen h.len
      go_wp2_with fail
      go_ret
      exact ⟨isB_false HN.out, hb0⟩

end Go.Proofs.Ytpfhegengmlkmac
