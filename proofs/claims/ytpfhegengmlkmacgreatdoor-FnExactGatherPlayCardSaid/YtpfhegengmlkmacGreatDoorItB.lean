/- Rows of items in memory: a value and a slice of marks each. Walks: szItem, szItemS. -/
import Derived.Test.YtpfhegengmlkmacGreatDoorWa
namespace Go.Proofs.YtpfhegengmlkmacGreatDoor
open Go.RowKit

/-- An item: its value and its stamp. -/
abbrev ItemL := Int × List (ByteArray × Int)
/-- The slice value 'v' holds the marks 'l'. -/
def IsSl (w : World) (v : Value) (l : List (ByteArray × Int)) : Prop := ∃ a c, v = .slice a l.length c ∧ l.length ≤ c ∧ Row w a l
/-- The slice at address 'a' holds the items 'l', each in two cells. -/
def RowI (w : World) (a : Option Addr) (l : List ItemL) : Prop :=
  ∀ k, (h : k < l.length) → ∃ b o, a = some ⟨b, o, none⟩ ∧ b < w.heap.size ∧ w.cell? ⟨b, o + k * 2, none⟩ = some (.int .i64 l[k].1) ∧ ∃ v, w.cell? ⟨b, o + k * 2 + 1, none⟩ = some v ∧ IsSl w v l[k].2
/-- No length or size passes what an int tells. -/
def FitM (l : List (ByteArray × Int)) : Prop := l.length ≤ maxLen ∧ ∀ j, (h : j < l.length) → l[j].1.size ≤ maxLen
def FitI (l : List ItemL) : Prop := l.length ≤ maxLen ∧ ∀ j, (h : j < l.length) → FitM l[j].2
/-- Small: what the laws' size test lets through. -/
def SmallM (n : Int) (l : List (ByteArray × Int)) : Prop := (l.length : Int) ≤ n ∧ ∀ j, (h : j < l.length) → (l[j].1.size : Int) ≤ n
def SmallI (n : Int) (l : List ItemL) : Prop := (l.length : Int) ≤ n ∧ ∀ j, (h : j < l.length) → SmallM n l[j].2
theorem SmallM.mono {n m : Int} {l : List (ByteArray × Int)} (h : SmallM n l) (hm : n ≤ m) : SmallM m l := ⟨by have := h.1; omega, fun j hj => by have := h.2 j hj; omega⟩
theorem IsSl.below {w w' : World} {v : Value} {l : List (ByteArray × Int)} (h : IsSl w v l) (hb : Below w.heap.size w w') : IsSl w' v l := by
  obtain ⟨a, c, h1, h2, h3⟩ := h
  exact ⟨a, c, h1, h2, h3.below hb⟩
theorem RowI.below {w w' : World} {a : Option Addr} {l : List ItemL} (h : RowI w a l) (hb : Below w.heap.size w w') : RowI w' a l := fun k hk => by
  obtain ⟨b, o, ha, hlt, h0, v, h1, h2⟩ := h k hk
  exact ⟨b, o, ha, Nat.lt_of_lt_of_le hlt hb.size, by rw [hb.cell hlt]; exact h0, v, by rw [hb.cell hlt]; exact h1, h2.below hb⟩

set_option maxHeartbeats 400000 in
theorem szItem_any (x : Int) (a : Option Addr) (c : Nat) (l : List (ByteArray × Int)) (left : Int) (w : World) (hr : Row w a l) (hf : FitM l) (h0 : 0 ≤ left) (h1 : left ≤ 1048576) :
    Calls Tryz.prog 40 #[.agg #[.int .i64 x, .slice a l.length c], .int .i64 left] w fun e w' => ∃ r : Int, e = .returned (.int .i64 r) ∧ -1 ≤ r ∧ r ≤ left ∧ (0 ≤ r → SmallM left l) ∧ Below w.heap.size w w' := by
  go_enter Tryz.func40, Tryz.ntmps40
  go_wp2_with fail
  have hb0 : Below w.heap.size w (w.alloc (.cells #[.int .i64 x, .slice a l.length c] 28)) := (Below.refl _ _).alloc (Nat.le_refl _) _
  refine (szMarkS_any a c l left _ hf.1 (hr.below hb0) hf.2 h0 h1).mono ?_
  rintro e w1 ⟨r, rfl, hr0, hr1, hr2, b1⟩
  have B1 : Below w.heap.size w w1 := hb0.trans (b1.mono hb0.size)
  by_cases hneg : r < 0
  · go_wp2_with fail
    go_ret
    exact ⟨-1, rfl, by omega, by omega, fun h => by omega, B1⟩
  · go_wp2_with fail
    go_ret
    exact ⟨r, rfl, hr0, hr1, hr2, B1⟩

theorem szI_step {l : List ItemL} {left : Int} {k : Nat} (H : ∀ j, (h : j < l.length) → j < k → SmallM left l[j].2) (hk : k < l.length) (h : SmallM left l[k].2) : ∀ j, (h : j < l.length) → j < k + 1 → SmallM left l[j].2 := fun j hj hlt => by
  by_cases e : j = k
  · subst e; exact h
  · exact H j hj (by omega)

set_option maxHeartbeats 800000 in
theorem szItemS_any (a : Option Addr) (cap : Nat) (l : List ItemL) (left : Int) (w : World) (hr : RowI w a l) (hf : FitI l) (h0 : 0 ≤ left) (h1 : left ≤ 1048576) :
    Calls Tryz.prog 75 #[.slice a l.length cap, .int .i64 left] w fun e w' => ∃ r : Int, e = .returned (.int .i64 r) ∧ -1 ≤ r ∧ r ≤ left ∧ (0 ≤ r → SmallI left l) ∧ Below w.heap.size w w' := by
  have hl := hf.1
  unfold maxLen at hl
  by_cases hc : left - (l.length : Int) < 0
  · go_enter Tryz.func75, Tryz.ntmps75
    go_wp2_with fail
    go_ret
    exact ⟨-1, rfl, by omega, by omega, fun h => by omega, Below.refl _ _⟩
  · go_enter Tryz.func75, Tryz.ntmps75
    go_wp2_with fail
    go_loopw [1, 5] (fun lf i wr => ∃ (k : Nat) (q : Int), k ≤ l.length ∧ i = .int .i64 k ∧ lf = .int .i64 q ∧ 0 ≤ q ∧ q ≤ left ∧ (∀ j, (h : j < l.length) → j < k → SmallM left l[j].2) ∧ Below w.heap.size w wr) (fun _ i _ => l.length - (intOf i).toNat)
    case atStart => exact ⟨0, _, Nat.zero_le _, rfl, rfl, by omega, by omega, fun j _ h => by omega, Below.refl _ _⟩
    case round =>
      obtain ⟨k, q, hk, rfl, rfl, hq0, hq1, hall, hb⟩ := hrel
      by_cases hlt : k < l.length
      · obtain ⟨b, o, rfl, hblt, c0, v, c1, hv⟩ := hr.below hb k hlt
        obtain ⟨sa, sc, rfl, hcap, hrow⟩ := hv
        have HST : Hid (SmallM left l[k].2 → ∀ j, (h : j < l.length) → j < k + 1 → SmallM left l[j].2) := szI_step hall hlt
        have k0 : (0 : Int) ≤ (k : Int) := by omega
        have k1 : (k : Int) < (l.length : Int) := by omega
        clear hall
        go_wp2_with fail
        refine (szItem_any _ sa sc l[k].2 q _ hrow (hf.2 k hlt) hq0 (by omega)).mono ?_
        rintro e w1 ⟨r, rfl, hr0, hr1, hr2, hb1⟩
        have HR2 : Hid (0 ≤ r → SmallM q l[k].2) := hr2
        clear hr2
        by_cases hneg : r < 0
        · go_wp2_with fail
          go_ret
          exact ⟨-1, rfl, by omega, by omega, fun h => by omega, hb.trans (hb1.mono hb.size)⟩
        · go_wp2_with fail
          exact ⟨⟨k + 1, r, by omega, by go_num, rfl, by omega, by omega, HST.out ((HR2.out (by omega)).mono hq1), hb.trans (hb1.mono hb.size)⟩, by simp [intOf]; omega⟩
      · go_wp2_with fail
        go_ret
        exact ⟨q, rfl, by omega, hq1, fun _ => ⟨by omega, fun j hj => hall j hj (by omega)⟩, hb⟩

end Go.Proofs.YtpfhegengmlkmacGreatDoor
