/- Walks: insOk, l4Ins: which inputs may be. -/
import Derived.Test.YtpfhegengmlkmacWd
import Derived.Test.YtpfhegengmlkmacOnly
namespace Go.Proofs.Ytpfhegengmlkmac
open Go.RowKit Go.BigFrame

/-- From 1 to 6 names, no two alike. -/
def InsP (l : List ByteArray) : Prop := 1 ≤ l.length ∧ l.length ≤ 6 ∧ ∀ i, (h : i < l.length) → NameP l[i] ∧ ∀ k, (hk : k < i) → l[k] ≠ l[i]
/-- The first k of them are so. -/
def InsTo (l : List ByteArray) (n : Nat) : Prop := ∀ i, (h : i < l.length) → i < n → NameP l[i] ∧ ∀ k, (hk : k < i) → l[k] ≠ l[i]
theorem insTo_step {l : List ByteArray} {n : Nat} (h : InsTo l n) (hn : n < l.length) (h1 : NameP l[n]) (h2 : ∀ k, (hk : k < n) → l[k] ≠ l[n]) : InsTo l (n + 1) := fun i hi hlt => by
  by_cases e : i = n
  · subst e; exact ⟨h1, h2⟩
  · exact h i hi (by omega)
theorem RowS.take {w : World} {b o : Nat} {l : List ByteArray} (h : RowS w (some ⟨b, o, none⟩) l) (k : Nat) : RowS w (some ⟨b, o, none⟩) (l.take k) := fun j hj => by
  rw [List.length_take] at hj
  obtain ⟨b', o', e, h1, h2⟩ := h j (by omega)
  exact ⟨b', o', e, h1, by rw [List.getElem_take]; exact h2⟩

set_option maxHeartbeats 800000 in
theorem insOk_any (a : Option Addr) (cap : Nat) (l : List ByteArray) (w : World) (hl : l.length ≤ 1048576) (hc : l.length ≤ cap) (hc2 : cap ≤ maxLen) (hr : RowS w a l) (hs : ∀ j, (h : j < l.length) → l[j].size ≤ maxLen) :
    Calls Try.prog 70 #[.slice a l.length cap] w fun e w' => IsB (InsP l) e ∧ w' = w := by
  unfold maxLen at hc2
  by_cases h1 : l.length < 1
  · go_enter Try.func70, Try.ntmps70
    go_wp2_with fail
    go_ret
    exact ⟨isB_false (fun h => by have := h.1; omega), rfl⟩
  by_cases h6 : 6 < l.length
  · go_enter Try.func70, Try.ntmps70
    go_wp2_with fail
    go_ret
    exact ⟨isB_false (fun h => by have := h.2.1; omega), rfl⟩
  go_enter Try.func70, Try.ntmps70
  go_wp2_with fail
  go_loopw [15] (fun i wr => ∃ k : Nat, k ≤ l.length ∧ i = .int .i64 k ∧ Hid (InsTo l k) ∧ wr = w) (fun i _ => l.length - (intOf i).toNat)
  case atStart => exact ⟨0, Nat.zero_le _, rfl, fun _ _ h => absurd h (Nat.not_lt_zero _), rfl⟩
  case round =>
    obtain ⟨k, hk, rfl, HI, rfl⟩ := hrel
    by_cases hlt : k < l.length
    · obtain ⟨b, o, rfl, hblt, c0⟩ := hr k hlt
      have k0 : (0 : Int) ≤ (k : Int) := by omega
      have k1 : (k : Int) < (l.length : Int) := by omega
      have HS := hs k hlt
      have HT : Hid (∀ u : World, u = wr → Calls Try.prog 97 #[.slice (some ⟨b, o, none⟩) k cap, .string l[k]] u fun e w' => e = .returned (.bool (amongB (l.take k) l[k])) ∧ w' = u) := fun u hu => by
        have h := contains_any (some ⟨b, o, none⟩) cap (l.take k) l[k] u (by rw [List.length_take]; omega) (hu ▸ hr.take k)
        rwa [List.length_take, Nat.min_eq_left (by omega)] at h
      go_wp2_with fail
      refine (nameOk_any l[k] _ HS).mono ?_
      rintro e w1 ⟨⟨r, rfl, hr1⟩, rfl⟩
      have HR : Hid (r = true ↔ NameP l[k]) := hr1
      clear hr1
      cases r with
      | false =>
        have HN : Hid (¬ InsP l) := fun h => by have h3 := (h.2.2 k hlt).1; have := HR.out.2 h3; simp at this
        go_wp2_with fail
        go_ret
        exact ⟨isB_false HN.out, rfl⟩
      | true =>
        have HP : Hid (NameP l[k]) := HR.out.1 rfl
        go_wp2_with fail
        refine (HT.out _ rfl).mono ?_
        rintro e w1 ⟨rfl, rfl⟩
        cases hq : amongB (l.take k) l[k] with
        | false =>
          have HST : Hid (InsTo l (k + 1)) := insTo_step HI.out hlt HP.out (fun j hj he => by
            have := (among_iff (names := l.take k) (s := l[k])).2 ⟨j, by rw [List.length_take]; omega, by rw [List.getElem_take]; exact he⟩
            rw [hq] at this
            cases this)
          go_wp2_with fail
          exact ⟨⟨k + 1, by omega, by go_num, HST, by trivial⟩, by simp [intOf]; omega⟩
        | true =>
          have HN : Hid (¬ InsP l) := fun h => by
            obtain ⟨j, hj, he⟩ := among_iff.1 hq
            rw [List.length_take] at hj
            rw [List.getElem_take] at he
            exact (h.2.2 k hlt).2 j (by omega) he
          go_wp2_with fail
          go_ret
          exact ⟨isB_false HN.out, rfl⟩
    · have HF : Hid (InsP l) := ⟨by omega, by omega, fun i hi => HI.out i hi (by omega)⟩
      go_wp2_with fail
      go_ret
      exact ⟨isB_true HF.out, rfl⟩

end Go.Proofs.Ytpfhegengmlkmac
