/- The walk of the law FnWindowFind. -/
import Derived.Test.YtlhdjbepjfojbaaDrawF
import Derived.Test.YtlhdjbepjfojbaaWinF
namespace Go.Proofs.Ytlhdjbepjfojbaa
open Go.RowKit Go.BigFrame
set_option maxRecDepth 100000

theorem isF_le {l : List ItemL} {s : ByteArray} {n r : Int} (h : IsF l s n r) : -1 ≤ r ∧ r < (l.length : Int) := by
  by_cases hp : WinP l
  · rcases h.1 hp with ⟨e, _⟩ | ⟨k, hk, e, _⟩ <;> omega
  · rw [h.2 hp]; omega
/-- What is behind the place that is told has more. -/
theorem isF_behind {l : List ItemL} {s : ByteArray} {n : Int} {k : Nat} (h : IsF l s n (k : Int)) : WinP l ∧ ∃ hk : k < l.length, getM l[k].2 s ≤ n ∧ ∀ j, (hj : j < l.length) → k < j → n < getM l[j].2 s := by
  by_cases hp : WinP l
  · refine ⟨hp, ?_⟩
    rcases h.1 hp with ⟨e, _⟩ | ⟨k', hk, e, h1, h2⟩
    · omega
    · obtain rfl : k = k' := by omega
      refine ⟨hk, h1.2, fun j hj hlt => ?_⟩
      have h3 := h2 j hj hlt
      have h4 := (hp.same hk hj s).1 h1.1
      unfold HitP at h3
      omega
  · have := h.2 hp
    omega

set_option maxHeartbeats 6400000 in
theorem lawWFind_draw (ab : Option Addr) (n c : Nat) (w : World) (h : Bytes w ab n c) (hn : n ≤ maxLen) :
    Calls Try.prog 8 #[.slice ab n c] w fun e w' => e = .returned (.bool true) ∧ Below w.heap.size w w' := by
  unfold maxLen at hn
  by_cases hbig : 1048576 < n
  · have hbig' : decide ((1048576 : Int) < (n : Int)) = true := decide_eq_true (by omega)
    go_enter Try.func8, Try.ntmps8
    go_wp2_with fail
    go_ret
    exact ⟨rfl, Below.refl _ _⟩
  have hbig' : decide ((1048576 : Int) < (n : Int)) = false := decide_eq_false (by omega)
  go_enter Try.func8, Try.ntmps8
  go_wp2_with fail
  refine (drawWFind_any ab n c _ h).mono ?_
  rintro e w1 ⟨⟨v, L, s, ver, rfl, hg1, hf1, hs8⟩, B1⟩
  obtain ⟨a, cap, rfl, hcap, hr1, _⟩ := hg1.form
  have hfit := hf1.fit (by omega)
  generalize hl : L.map (·.1) = l at *
  have hLl : L.length = l.length := by rw [← hl, List.length_map]
  rw [hLl]
  rw [hLl] at hcap
  have hlen : l.length ≤ 6 := hf1.1
  clear hg1 h hl hLl
  go_wp2_with fail
  refine (implFind_any a cap l s ver _ hfit hr1).mono ?_
  rintro e w2 ⟨⟨r, rfl, hF⟩, b2⟩
  have B2 : Below w.heap.size w w2 := B1.trans (b2.mono B1.size)
  have hr2 := hr1.below b2
  have HF : Hid (IsF l s ver r) := hF
  have hrr := isF_le hF
  clear b2 B1 hr1 hF
  go_wp2_with fail
  refine (specFind_any a cap l s ver _ hfit hr2).mono ?_
  rintro e w3 ⟨⟨r', rfl, hF'⟩, b3⟩
  obtain rfl : r = r' := HF.out.one hF'
  have B3 : Below w.heap.size w w3 := B2.trans (b3.mono B2.size)
  have hr3 := hr2.below b3
  obtain ⟨hrr1, hrr2⟩ := hrr
  clear b3 B2 hr2 hF'
  by_cases hneg : r < 0
  · obtain rfl : r = -1 := by omega
    go_wp2_with fail
    go_ret
    exact ⟨rfl, B3⟩
  obtain ⟨k, rfl⟩ := Int.eq_ofNat_of_zero_le (Int.not_lt.1 hneg)
  obtain ⟨hp, hk, hle, hbeh⟩ := isF_behind HF.out
  have HP : Hid (WinP l) := hp
  have HB : Hid (∀ j, (hj : j < l.length) → k < j → ver < getM l[j].2 s) := hbeh
  have HSP : Hid (∀ j, (hj : j < l.length) → StampP l[j].2) := fun j hj => (hp.2.1 j hj).1
  obtain ⟨b, o, rfl, hblt, c0, vv, c1, ⟨sa, sc, rfl, _, r3⟩⟩ := hr3 k hk
  have k0 : (0 : Int) ≤ (k : Int) := by omega
  have k1 : (k : Int) < (l.length : Int) := by omega
  have fk := hfit.2 k hk
  clear hp hbeh HF
  go_wp2_with fail
  refine (implGet_any sa sc l[k].2 s _ fk.1 r3 fk.2).mono ?_
  rintro e w4 ⟨⟨g, rfl, hg⟩, b4⟩
  have hgv : g ≤ ver := by rw [hg.1 (HSP.out k hk)]; exact hle
  have B4 : Below w.heap.size w w4 := B3.trans (b4.mono B3.size)
  have hr4 := hr3.below b4
  clear hg b4 B3 hr3 r3 hle c0 c1 hblt
  go_wp2_with fail
  go_loopw [7] (fun i wr => ∃ j : Nat, k < j ∧ j ≤ l.length ∧ i = .int .i64 j ∧ RowI wr (some ⟨b, o, none⟩) l ∧ Below w.heap.size w wr) (fun i _ => l.length - (intOf i).toNat)
  case atStart => exact ⟨k + 1, by omega, by omega, rfl, hr4, B4⟩
  case round =>
    obtain ⟨j, hkj, hj, rfl, hr5, B5⟩ := hrel
    clear hr4 B4
    by_cases hlt : j < l.length
    · obtain ⟨b', o', hbo, hblt, c0, vv, c1, ⟨sa, sc, rfl, _, r5⟩⟩ := hr5 j hlt
      obtain ⟨rfl, rfl⟩ : b = b' ∧ o = o' := by simpa using hbo
      have j0 : (0 : Int) ≤ (j : Int) := by omega
      have j1 : (j : Int) < (l.length : Int) := by omega
      have fj := hfit.2 j hlt
      go_wp2_with fail
      refine (implGet_any sa sc l[j].2 s _ fj.1 r5 fj.2).mono ?_
      rintro e w6 ⟨⟨g', rfl, hg'⟩, b6⟩
      have hgv' : ver < g' := by rw [hg'.1 (HSP.out j hlt)]; exact HB.out j hlt hkj
      have B6 : Below w.heap.size w w6 := B5.trans (b6.mono B5.size)
      have hr6 := hr5.below b6
      clear hg' b6 B5 hr5 r5 c0 c1 hblt
      go_wp2_with fail
      exact ⟨⟨j + 1, by omega, by omega, by go_num, hr6, B6⟩, by simp [intOf]; omega⟩
    · go_wp2_with fail
      go_ret
      exact ⟨rfl, B5⟩

end Go.Proofs.Ytlhdjbepjfojbaa
