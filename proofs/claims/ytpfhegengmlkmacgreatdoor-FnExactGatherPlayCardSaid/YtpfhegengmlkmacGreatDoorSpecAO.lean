/- Walks: spec.StampAgree, spec.l1Below, spec.StampOrder. -/
import Derived.Test.YtpfhegengmlkmacGreatDoorGet
import Derived.Test.YtpfhegengmlkmacGreatDoorMath3
namespace Go.Proofs.YtpfhegengmlkmacGreatDoor
open Go.RowKit Go.BigFrame

/-- Both are stamps, and have the same version of what both have. -/
def AgreeP (a b : List (ByteArray × Int)) : Prop := StampP a ∧ StampP b ∧ ∀ i, (h : i < a.length) → getM b a[i].1 = 0 ∨ getM b a[i].1 = a[i].2
/-- Each mark of the first is in the second, with at least its version. -/
def BelowP (a b : List (ByteArray × Int)) : Prop := ∀ i, (h : i < a.length) → a[i].2 ≤ getM b a[i].1

theorem ag_step {a b : List (ByteArray × Int)} {k : Nat} (H : ∀ i, (h : i < a.length) → i < k → getM b a[i].1 = 0 ∨ getM b a[i].1 = a[i].2) (hk : k < a.length) (h : getM b a[k].1 = 0 ∨ getM b a[k].1 = a[k].2) : ∀ i, (h : i < a.length) → i < k + 1 → getM b a[i].1 = 0 ∨ getM b a[i].1 = a[i].2 := fun i hi hlt => by
  by_cases e : i = k
  · subst e; exact h
  · exact H i hi (by omega)
theorem be_step {a b : List (ByteArray × Int)} {k : Nat} (H : ∀ i, (h : i < a.length) → i < k → a[i].2 ≤ getM b a[i].1) (hk : k < a.length) (h : a[k].2 ≤ getM b a[k].1) : ∀ i, (h : i < a.length) → i < k + 1 → a[i].2 ≤ getM b a[i].1 := fun i hi hlt => by
  by_cases e : i = k
  · subst e; exact h
  · exact H i hi (by omega)

set_option maxHeartbeats 800000 in
theorem l1Below_any (aa ab : Option Addr) (ca cb : Nat) (la lb : List (ByteArray × Int)) (w : World) (hla : la.length ≤ maxLen) (hlb : lb.length ≤ maxLen) (ha : Row w aa la) (hb : Row w ab lb) :
    Calls Tryz.prog 86 #[.slice aa la.length ca, .slice ab lb.length cb] w fun e w' => IsB (BelowP la lb) e ∧ Below w.heap.size w w' := by
  have hl := hla
  unfold maxLen at hl
  go_enter Tryz.func86, Tryz.ntmps86
  go_wp2_with fail
  go_loopw [5] (fun i wr => ∃ k : Nat, k ≤ la.length ∧ i = .int .i64 k ∧ (∀ i, (h : i < la.length) → i < k → la[i].2 ≤ getM lb la[i].1) ∧ Below w.heap.size w wr) (fun i _ => la.length - (intOf i).toNat)
  case atStart => exact ⟨0, Nat.zero_le _, rfl, fun j _ h => by omega, Below.refl _ _⟩
  case round =>
    obtain ⟨k, hk, rfl, hall, hbl⟩ := hrel
    by_cases hlt : k < la.length
    · obtain ⟨b, o, rfl, hblt, c0, c1⟩ := ha k hlt
      have HST := be_step hall hlt
      have e0 := cell_on hbl hblt c0
      have e1 := cell_on hbl hblt c1
      have g1 : b < wr.heap.size := Nat.lt_of_lt_of_le hblt hbl.size
      have HRB : Hid (∀ n : Lat wr, Row n.w ab lb) := fun n => (hb.below hbl).below n.h
      by_cases hc : getM lb la[k].1 < la[k].2
      · go_wp2_with fail
        refine wp_region_lat (by kernel_rfl) (by kernel_rfl) ?_
        have hne := Lat.some wr
        have q0 : ∀ n : Lat wr, n.w.cell? ⟨b, o + k * 2, none⟩ = some (.string la[k].1) := fun n => n.cell g1 e0
        have q1 : ∀ n : Lat wr, n.w.cell? ⟨b, o + k * 2 + 1, none⟩ = some (.int .i64 la[k].2) := fun n => n.cell g1 e1
        repeat (go_big_quiet_step ((go_at_call 124; exact Calls.lat_same (l1Get_any _ _ lb _ _ hlb (HRB.out _)))))
        refine wpQuiet_nil ?_
        rintro _ ⟨nq, rfl⟩
        go_wp2_with fail
        go_ret
        exact ⟨isB_false (fun h => by have := h k hlt; omega), hbl.trans (nq.h.mono hbl.size)⟩
      · have HN := HST (by omega)
        clear HST hall
        go_wp2_with fail
        refine wp_region_lat (by kernel_rfl) (by kernel_rfl) ?_
        have hne := Lat.some wr
        have q0 : ∀ n : Lat wr, n.w.cell? ⟨b, o + k * 2, none⟩ = some (.string la[k].1) := fun n => n.cell g1 e0
        have q1 : ∀ n : Lat wr, n.w.cell? ⟨b, o + k * 2 + 1, none⟩ = some (.int .i64 la[k].2) := fun n => n.cell g1 e1
        repeat (go_big_quiet_step ((go_at_call 124; exact Calls.lat_same (l1Get_any _ _ lb _ _ hlb (HRB.out _)))))
        refine wpQuiet_nil ?_
        rintro _ ⟨nq, rfl⟩
        go_wp2_with fail
        exact ⟨⟨k + 1, by omega, by go_num, HN, hbl.trans (nq.h.mono hbl.size)⟩, by simp [intOf]; omega⟩
    · go_wp2_with fail
      go_ret
      exact ⟨isB_true (fun i hi => hall i hi (by omega)), hbl⟩

set_option maxHeartbeats 800000 in
theorem specAgree_any (aa ab : Option Addr) (ca cb : Nat) (la lb : List (ByteArray × Int)) (w : World) (hla : la.length ≤ maxLen) (hlb : lb.length ≤ maxLen) (ha : Row w aa la) (hb : Row w ab lb)
    (hsa : ∀ j, (h : j < la.length) → la[j].1.size ≤ maxLen) (hsb : ∀ j, (h : j < lb.length) → lb[j].1.size ≤ maxLen) :
    Calls Tryz.prog 165 #[.slice aa la.length ca, .slice ab lb.length cb] w fun e w' => IsB (AgreeP la lb) e ∧ Below w.heap.size w w' := by
  have hl := hla
  unfold maxLen at hl
  go_enter Tryz.func165, Tryz.ntmps165
  go_wp2_with fail
  refine (specOk_b aa ca la _ hla ha hsa).mono ?_
  rintro e w1 ⟨⟨r, rfl, hr1⟩, hb1⟩
  cases r
  · have hn : ¬ StampP la := fun h => by simpa using hr1.2 h
    clear hr1
    go_wp2_with fail
    go_ret
    exact ⟨isB_false (fun h => hn h.1), hb1⟩
  have hya : StampP la := hr1.1 rfl
  clear hr1
  go_wp2_with fail
  refine (specOk_b ab cb lb _ hlb (hb.below hb1) hsb).mono ?_
  rintro e w2 ⟨⟨r, rfl, hr2⟩, hb2⟩
  have hb12 : Below w.heap.size w w2 := hb1.trans (hb2.mono hb1.size)
  cases r
  · have hn : ¬ StampP lb := fun h => by simpa using hr2.2 h
    clear hr2
    go_wp2_with fail
    go_ret
    exact ⟨isB_false (fun h => hn h.2.1), hb12⟩
  have hyb : StampP lb := hr2.1 rfl
  clear hr2
  have hra := ha.below hb12
  have hrb := hb.below hb12
  clear ha hb
  go_wp2_with fail
  go_loop [5] (fun i => ∃ k : Nat, k ≤ la.length ∧ i = .int .i64 k ∧ (∀ i, (h : i < la.length) → i < k → getM lb la[i].1 = 0 ∨ getM lb la[i].1 = la[i].2)) (fun i => la.length - (intOf i).toNat)
  case atStart => exact ⟨0, Nat.zero_le _, rfl, fun j _ h => by omega⟩
  case round =>
    obtain ⟨k, hk, rfl, hall⟩ := hrel
    by_cases hlt : k < la.length
    · obtain ⟨b, o, rfl, hblt, c0, c1⟩ := hra k hlt
      have HST := ag_step hall hlt
      by_cases e0 : getM lb la[k].1 = 0
      · have HN := HST (.inl e0)
        have g0 : (getM lb la[k].1 != 0) = false := by simp [e0]
        clear HST hall e0
        go_wp2_with (go_at_call 124; refine (l1Get_any _ _ lb _ _ hlb hrb).mono ?_; rintro e w3 ⟨rfl, rfl⟩)
        exact ⟨⟨k + 1, by omega, by go_num, HN⟩, by simp [intOf]; omega⟩
      · have g0 : (getM lb la[k].1 != 0) = true := by simp [e0]
        by_cases e1 : getM lb la[k].1 = la[k].2
        · have HN := HST (.inr e1)
          have g1 : (getM lb la[k].1 != la[k].2) = false := by simp [e1]
          clear HST hall e0 e1
          go_wp2_with (go_at_call 124; refine (l1Get_any _ _ lb _ _ hlb hrb).mono ?_; rintro e w3 ⟨rfl, rfl⟩)
          exact ⟨⟨k + 1, by omega, by go_num, HN⟩, by simp [intOf]; omega⟩
        · have g1 : (getM lb la[k].1 != la[k].2) = true := by simp [e1]
          have HE : Hid (¬ getM lb la[k].1 = 0 ∧ ¬ getM lb la[k].1 = la[k].2) := ⟨e0, e1⟩
          clear HST hall e0 e1
          go_wp2_with (go_at_call 124; refine (l1Get_any _ _ lb _ _ hlb hrb).mono ?_; rintro e w3 ⟨rfl, rfl⟩)
          go_ret
          exact ⟨isB_false (fun h => (h.2.2 k hlt).elim HE.out.1 HE.out.2), hb12⟩
    · go_wp2_with fail
      go_ret
      exact ⟨isB_true ⟨hya, hyb, fun i hi => hall i hi (by omega)⟩, hb12⟩

/-- What StampOrder answers. -/
def IsOrd (a b : List (ByteArray × Int)) (v : Int) : Prop :=
  (¬ (StampP a ∧ StampP b) ∧ v = 4) ∨ (StampP a ∧ StampP b ∧ ((BelowP a b ∧ BelowP b a ∧ v = 0) ∨ (BelowP a b ∧ ¬ BelowP b a ∧ v = 1) ∨ (¬ BelowP a b ∧ BelowP b a ∧ v = 2) ∨ (¬ BelowP a b ∧ ¬ BelowP b a ∧ v = 3)))
theorem IsOrd.one {a b : List (ByteArray × Int)} {u v : Int} (h : IsOrd a b u) (k : IsOrd a b v) : u = v := by
  rcases h with ⟨h1, h2⟩ | ⟨h1, h2, h3⟩
  · rcases k with ⟨k1, k2⟩ | ⟨k1, k2, k3⟩
    · rw [h2, k2]
    · exact absurd ⟨k1, k2⟩ h1
  · rcases k with ⟨k1, k2⟩ | ⟨k1, k2, k3⟩
    · exact absurd ⟨h1, h2⟩ k1
    · rcases h3 with ⟨p, q, e⟩ | ⟨p, q, e⟩ | ⟨p, q, e⟩ | ⟨p, q, e⟩ <;> rcases k3 with ⟨p', q', e'⟩ | ⟨p', q', e'⟩ | ⟨p', q', e'⟩ | ⟨p', q', e'⟩ <;> first | (rw [e, e']; done) | exact absurd p p' | exact absurd p' p | exact absurd q q' | exact absurd q' q

set_option maxHeartbeats 800000 in
theorem specOrder_any (aa ab : Option Addr) (ca cb : Nat) (la lb : List (ByteArray × Int)) (w : World) (hla : la.length ≤ maxLen) (hlb : lb.length ≤ maxLen) (ha : Row w aa la) (hb : Row w ab lb)
    (hsa : ∀ j, (h : j < la.length) → la[j].1.size ≤ maxLen) (hsb : ∀ j, (h : j < lb.length) → lb[j].1.size ≤ maxLen) :
    Calls Tryz.prog 46 #[.slice aa la.length ca, .slice ab lb.length cb] w fun e w' => (∃ v, e = .returned (.int .i64 v) ∧ IsOrd la lb v) ∧ Below w.heap.size w w' := by
  go_enter Tryz.func46, Tryz.ntmps46
  go_wp2_with fail
  refine (specOk_b aa ca la _ hla ha hsa).mono ?_
  rintro e w1 ⟨⟨r, rfl, hr1⟩, hb1⟩
  cases r
  · have hn : ¬ StampP la := fun h => by simpa using hr1.2 h
    clear hr1
    go_wp2_with fail
    go_ret
    exact ⟨⟨4, rfl, .inl ⟨fun h => hn h.1, rfl⟩⟩, hb1⟩
  have hya : StampP la := hr1.1 rfl
  clear hr1
  go_wp2_with fail
  refine (specOk_b ab cb lb _ hlb (hb.below hb1) hsb).mono ?_
  rintro e w2 ⟨⟨r, rfl, hr2⟩, hb2⟩
  have hb12 : Below w.heap.size w w2 := hb1.trans (hb2.mono hb1.size)
  cases r
  · have hn : ¬ StampP lb := fun h => by simpa using hr2.2 h
    clear hr2
    go_wp2_with fail
    go_ret
    exact ⟨⟨4, rfl, .inl ⟨fun h => hn h.2, rfl⟩⟩, hb12⟩
  have hyb : StampP lb := hr2.1 rfl
  clear hr2
  go_wp2_with fail
  refine (l1Below_any aa ab ca cb la lb _ hla hlb (ha.below hb12) (hb.below hb12)).mono ?_
  rintro e w3 ⟨⟨r3, rfl, hr3⟩, hb3⟩
  have hb13 : Below w.heap.size w w3 := hb12.trans (hb3.mono hb12.size)
  have HR3 : Hid (r3 = true ↔ BelowP la lb) := hr3
  clear hr3
  go_wp2_with fail
  refine (l1Below_any ab aa cb ca lb la _ hlb hla (hb.below hb13) (ha.below hb13)).mono ?_
  rintro e w4 ⟨⟨r4, rfl, hr4⟩, hb4⟩
  have hb14 : Below w.heap.size w w4 := hb13.trans (hb4.mono hb13.size)
  have h3 := HR3.out
  cases r3 <;> cases r4 <;> simp at h3 hr4
  all_goals
    have H3 : Hid _ := h3
    have H4 : Hid _ := hr4
    clear h3 hr4 HR3
    go_wp2_with fail
    go_ret
  · exact ⟨⟨3, rfl, .inr ⟨hya, hyb, .inr (.inr (.inr ⟨H3.out, H4.out, rfl⟩))⟩⟩, hb14⟩
  · exact ⟨⟨2, rfl, .inr ⟨hya, hyb, .inr (.inr (.inl ⟨H3.out, H4.out, rfl⟩))⟩⟩, hb14⟩
  · exact ⟨⟨1, rfl, .inr ⟨hya, hyb, .inr (.inl ⟨H3.out, H4.out, rfl⟩)⟩⟩, hb14⟩
  · exact ⟨⟨0, rfl, .inr ⟨hya, hyb, .inl ⟨H3.out, H4.out, rfl⟩⟩⟩, hb14⟩

end Go.Proofs.YtpfhegengmlkmacGreatDoor
