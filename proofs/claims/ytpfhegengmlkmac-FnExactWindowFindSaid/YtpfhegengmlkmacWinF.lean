/- Walks: spec.WindowFind, impl.WindowFind. -/
import Derived.Test.YtpfhegengmlkmacWinL
import Derived.Test.YtpfhegengmlkmacGet
namespace Go.Proofs.Ytpfhegengmlkmac
open Go.RowKit Go.BigFrame
set_option maxRecDepth 100000

/-- Has the item the source, with at most that version? -/
def HitP (m : List (ByteArray × Int)) (s : ByteArray) (n : Int) : Prop := 0 < getM m s ∧ getM m s ≤ n
/-- The last of the first k places that hit; -1 where there is none. -/
def IsF (l : List ItemL) (s : ByteArray) (n : Int) (r : Int) : Prop :=
  (WinP l → (r = -1 ∧ ∀ j, (h : j < l.length) → ¬ HitP l[j].2 s n) ∨ ∃ k, ∃ h : k < l.length, r = (k : Int) ∧ HitP l[k].2 s n ∧ ∀ j, (hj : j < l.length) → k < j → ¬ HitP l[j].2 s n) ∧ (¬ WinP l → r = -1)
theorem IsF.one {l : List ItemL} {s : ByteArray} {n r r' : Int} (h : IsF l s n r) (h' : IsF l s n r') : r = r' := by
  by_cases hp : WinP l
  · rcases h.1 hp with ⟨e, h1⟩ | ⟨k, hk, e, h1, h2⟩ <;> rcases h'.1 hp with ⟨e', h1'⟩ | ⟨k', hk', e', h1', h2'⟩
    · omega
    · exact absurd h1' (h1 k' hk')
    · exact absurd h1 (h1' k hk)
    · rcases Nat.lt_trichotomy k k' with q | q | q
      · exact absurd h1' (h2 k' hk' q)
      · omega
      · exact absurd h1 (h2' k hk q)
  · rw [h.2 hp, h'.2 hp]
/-- None of the places from k on hits. -/
def NoneP (l : List ItemL) (s : ByteArray) (n : Int) (k : Nat) : Prop := ∀ j, (h : j < l.length) → k ≤ j → ¬ HitP l[j].2 s n
theorem none_step {l : List ItemL} {s : ByteArray} {n : Int} {k : Nat} (h : NoneP l s n (k + 1)) (hk : k < l.length) (hn : ¬ HitP l[k].2 s n) : NoneP l s n k := fun j hj hle => by
  by_cases e : j = k
  · subst e; exact hn
  · exact h j hj (by omega)
theorem none_hit {l : List ItemL} {s : ByteArray} {n : Int} {k : Nat} (h : NoneP l s n (k + 1)) (hk : k < l.length) (hp : WinP l) (hn : HitP l[k].2 s n) : IsF l s n (k : Int) :=
  ⟨fun _ => .inr ⟨k, hk, rfl, hn, fun j hj hlt => h j hj (by omega)⟩, fun h => absurd hp h⟩
theorem none_all {l : List ItemL} {s : ByteArray} {n : Int} (h : NoneP l s n 0) (hp : WinP l) : IsF l s n (-1) :=
  ⟨fun _ => .inl ⟨rfl, fun j hj => h j hj (Nat.zero_le _)⟩, fun h => absurd hp h⟩

set_option maxHeartbeats 1600000 in
theorem specFind_any (a : Option Addr) (cap : Nat) (l : List ItemL) (s : ByteArray) (n : Int) (w : World) (hf : FitI l) (hr : RowI w a l) :
    Calls Try.prog 11 #[.slice a l.length cap, .string s, .int .i64 n] w fun e w' => (∃ r, e = .returned (.int .i64 r) ∧ IsF l s n r) ∧ Below w.heap.size w w' := by
  have hl := hf.1
  unfold maxLen at hl
  go_enter Try.func11, Try.ntmps11
  go_wp2_with fail
  refine (specWinOk_any a cap l _ hf hr).mono ?_
  rintro e w1 ⟨⟨r, rfl, hr1⟩, b1⟩
  have HR : Hid (r = true ↔ WinP l) := hr1
  clear hr1
  cases r
  · have HN : Hid (¬ WinP l) := fun h => by simpa using HR.out.2 h
    clear HR
    go_wp2_with fail
    go_ret
    exact ⟨⟨-1, rfl, fun h => absurd h HN.out, fun _ => rfl⟩, b1⟩
  · have HP : Hid (WinP l) := HR.out.1 rfl
    clear HR
    go_wp2_with fail
    go_loopw [7] (fun i wr => ∃ k : Nat, k ≤ l.length ∧ i = .int .i64 ((k : Int) - 1) ∧ Hid (NoneP l s n k) ∧ Below w.heap.size w wr) (fun i _ => (intOf i + 1).toNat)
    case atStart => exact ⟨l.length, Nat.le_refl _, rfl, fun j hj hle => by omega, b1⟩
    case round =>
      obtain ⟨k, hk, rfl, HI, hb⟩ := hrel
      by_cases hlt : 0 < k
      · obtain ⟨q, rfl⟩ : ∃ q, k = q + 1 := ⟨k - 1, by omega⟩
        have hq : q < l.length := by omega
        obtain ⟨b, o, rfl, hblt, c0, v, c1, hv⟩ := hr.below hb q hq
        obtain ⟨sa, sc, rfl, hcap, hrow⟩ := hv
        have eq : (((q + 1 : Nat) : Int) - 1) = (q : Int) := by omega
        rw [eq]
        have k0 : (0 : Int) ≤ (q : Int) := by omega
        have k1 : (q : Int) < (l.length : Int) := by omega
        have hlk := (hf.2 q hq).1
        clear eq
        go_wp2_with fail
        refine (l1Get_any sa sc l[q].2 s _ hlk hrow).mono ?_
        rintro e w2 ⟨rfl, rfl⟩
        have HH : Hid (HitP l[q].2 s n → IsF l s n (q : Int)) := fun h => none_hit HI.out hq HP.out h
        have HS : Hid (¬ HitP l[q].2 s n → NoneP l s n q) := fun h => none_step HI.out hq h
        generalize hg : getM l[q].2 s = g at *
        have HG : Hid (HitP l[q].2 s n ↔ 0 < g ∧ g ≤ n) := by unfold Hid HitP; rw [hg]
        clear hg HI
        by_cases h1 : 0 < g
        · by_cases h2 : g ≤ n
          · go_wp2_with fail
            go_ret
            exact ⟨⟨_, rfl, HH.out (HG.out.2 ⟨h1, h2⟩)⟩, hb⟩
          · go_wp2_with fail
            exact ⟨⟨q, by omega, rfl, HS.out (fun h => by have := HG.out.1 h; omega), hb⟩, by simp [intOf]⟩
        · go_wp2_with fail
          exact ⟨⟨q, by omega, rfl, HS.out (fun h => by have := HG.out.1 h; omega), hb⟩, by simp [intOf]⟩
      · obtain rfl : k = 0 := by omega
        have HF : Hid (IsF l s n (-1)) := none_all HI.out HP.out
        go_wp2_with fail
        go_ret
        exact ⟨⟨-1, rfl, HF.out⟩, hb⟩

set_option maxHeartbeats 1600000 in
theorem implFind_any (a : Option Addr) (cap : Nat) (l : List ItemL) (s : ByteArray) (n : Int) (w : World) (hf : FitI l) (hr : RowI w a l) :
    Calls Try.prog 13 #[.slice a l.length cap, .string s, .int .i64 n] w fun e w' => (∃ r, e = .returned (.int .i64 r) ∧ IsF l s n r) ∧ Below w.heap.size w w' := by
  have hl := hf.1
  unfold maxLen at hl
  go_enter Try.func13, Try.ntmps13
  go_wp2_with fail
  refine (readWindow_any a cap l _ hf hr).mono ?_
  rintro e w1 ⟨hE, b1⟩
  rcases hE with ⟨v, rfl, hp, hv⟩ | ⟨v, rfl, hp, hv⟩
  · have HP : Hid (WinP l) := hp
    clear hp
    obtain ⟨x0, x1, x2, x3, a0, a1, a2, a3, n0, n1, n2, n3, c0, c1, c2, c3, rfl, hw⟩ := hv.laid
    have hW := hw w1 b1.size
    have B1 := b1.alloc b1.size (.cells #[.int .i64 x0, .slice a0 n0 c0, .int .i64 x1, .slice a1 n1 c1, .int .i64 x2, .slice a2 n2 c2, .int .i64 x3, .slice a3 n3 c3, .int .i64 0, .int .i64 l.length] 80)
    clear hw hv
    go_wp2_with fail
    generalize w1.alloc (.cells #[.int .i64 x0, .slice a0 n0 c0, .int .i64 x1, .slice a1 n1 c1, .int .i64 x2, .slice a2 n2 c2, .int .i64 x3, .slice a3 n3 c3, .int .i64 0, .int .i64 l.length] 80) = W1 at *
    refine (size_any w W1 _ 0 l hW).mono ?_
    rintro e w2 ⟨rfl, rfl⟩
    go_wp2_with fail
    clear hr
    generalize w1.heap.size = bq at *
    go_loopw [9] (fun i wr => ∃ k : Nat, k ≤ l.length ∧ i = .int .i64 ((k : Int) - 1) ∧ Hid (NoneP l s n k) ∧ WinB w wr bq 0 l ∧ Below w.heap.size w wr) (fun i _ => (intOf i + 1).toNat)
    case atStart => exact ⟨l.length, Nat.le_refl _, rfl, fun j hj hle => by omega, hW, B1⟩
    case round =>
      obtain ⟨k, hk, rfl, HI, hWr, hb⟩ := hrel
      clear hW B1 b1
      by_cases hlt : 0 < k
      · obtain ⟨q, rfl⟩ : ∃ q, k = q + 1 := ⟨k - 1, by omega⟩
        have hq : q < l.length := by omega
        have eq : (((q + 1 : Nat) : Int) - 1) = (q : Int) := by omega
        rw [eq]
        have k0 : (0 : Int) ≤ (q : Int) := by omega
        have k1 : (q : Int) < (l.length : Int) := by omega
        have fq := hf.2 q hq
        have hzr := hb.size
        have HSP : Hid (StampP l[q].2) := (HP.out.2.1 q hq).1
        have HH : Hid (HitP l[q].2 s n → IsF l s n (q : Int)) := fun h => none_hit HI.out hq HP.out h
        have HS : Hid (¬ HitP l[q].2 s n → NoneP l s n q) := fun h => none_step HI.out hq h
        clear eq HI
        go_wp2_with fail
        refine (at_any w wr bq 0 l q hWr hq).mono ?_
        rintro e w2 ⟨⟨v, rfl, sa, sc, rfl, hcap, hrow⟩, b2⟩
        have B2 : Below w.heap.size w w2 := hb.trans (b2.mono hzr)
        have hW2 := hWr.below b2
        have hfd := field_stamp l[q].1 sa l[q].2.length sc
        clear hWr b2 hb
        go_wp2_with fail
        refine (implGet_any sa sc l[q].2 s _ fq.1 (hrow.below B2) fq.2).mono ?_
        rintro e w3 ⟨⟨g, rfl, hg⟩, b3⟩
        have HG : Hid (HitP l[q].2 s n ↔ 0 < g ∧ g ≤ n) := by unfold Hid HitP; rw [hg.1 HSP.out]
        have B3 : Below w.heap.size w w3 := B2.trans (b3.mono B2.size)
        have hW3 := hW2.below b3
        clear hg hW2 b3 B2
        by_cases h1 : 0 < g
        · by_cases h2 : g ≤ n
          · go_wp2_with fail
            go_ret
            exact ⟨⟨_, rfl, HH.out (HG.out.2 ⟨h1, h2⟩)⟩, B3⟩
          · go_wp2_with fail
            exact ⟨⟨q, by omega, rfl, HS.out (fun h => by have := HG.out.1 h; omega), hW3, B3⟩, by simp [intOf]⟩
        · go_wp2_with fail
          exact ⟨⟨q, by omega, rfl, HS.out (fun h => by have := HG.out.1 h; omega), hW3, B3⟩, by simp [intOf]⟩
      · obtain rfl : k = 0 := by omega
        have HF : Hid (IsF l s n (-1)) := none_all HI.out HP.out
        go_wp2_with fail
        go_ret
        exact ⟨⟨-1, rfl, HF.out⟩, hb⟩
  · have HP : Hid (¬ WinP l) := hp
    clear hp
    obtain ⟨x0, x1, x2, x3, a0, a1, a2, a3, n0, n1, n2, n3, c0, c1, c2, c3, rfl, _⟩ := hv.laid
    go_wp2_with fail
    go_ret
    exact ⟨⟨-1, rfl, fun h => absurd h HP.out, fun _ => rfl⟩, b1.alloc b1.size _⟩

end Go.Proofs.Ytpfhegengmlkmac
