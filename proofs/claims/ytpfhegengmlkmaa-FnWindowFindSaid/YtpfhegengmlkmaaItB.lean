/- Rows of items in memory: a value and a slice of marks each. Walks: szItem, szItemS. -/
import Derived.Test.YtpfhegengmlkmaaWa
namespace Go.Proofs.Ytpfhegengmlkmaa
open Go.RowKit

/-- An item: its value and its stamp. -/
abbrev ItemL := Int × List (ByteArray × Int)
/-- The slice value 'v' holds the marks 'l'. -/
def IsSl (w : World) (v : Value) (l : List (ByteArray × Int)) : Prop := ∃ a c, v = .slice a l.length c ∧ l.length ≤ c ∧ Row w a l
/-- The slice at address 'a' holds the items 'l', each in two cells. -/
def RowI (w : World) (a : Option Addr) (l : List ItemL) : Prop :=
  ∀ k, (h : k < l.length) → ∃ b o, a = some ⟨b, o, none⟩ ∧ b < w.heap.size ∧ w.cell? ⟨b, o + k * 2, none⟩ = some (.int .i64 l[k].1) ∧ ∃ v, w.cell? ⟨b, o + k * 2 + 1, none⟩ = some v ∧ IsSl w v l[k].2
/-- No length or size passes what an int tells. -/
def FitM (l : List (ByteArray × Int)) : Prop := l.length ≤ maxLen ∧ ∀ j, (h : j < l.length) → l[j].1.size ≤ maxLen
def FitI (l : List ItemL) : Prop := l.length ≤ maxLen ∧ ∀ j, (h : j < l.length) → FitM l[j].2
/-- Small: what the laws' size test lets through. -/
def SmallM (n : Int) (l : List (ByteArray × Int)) : Prop := (l.length : Int) ≤ n ∧ ∀ j, (h : j < l.length) → (l[j].1.size : Int) ≤ n
def SmallI (n : Int) (l : List ItemL) : Prop := (l.length : Int) ≤ n ∧ ∀ j, (h : j < l.length) → SmallM n l[j].2
theorem SmallM.mono {n m : Int} {l : List (ByteArray × Int)} (h : SmallM n l) (hm : n ≤ m) : SmallM m l := ⟨by have := h.1; omega, fun j hj => by have := h.2 j hj; omega⟩
theorem IsSl.below {w w' : World} {v : Value} {l : List (ByteArray × Int)} (h : IsSl w v l) (hb : Below w.heap.size w w') : IsSl w' v l := by
  obtain ⟨a, c, h1, h2, h3⟩ := h
  exact ⟨a, c, h1, h2, h3.below hb⟩
theorem RowI.below {w w' : World} {a : Option Addr} {l : List ItemL} (h : RowI w a l) (hb : Below w.heap.size w w') : RowI w' a l := fun k hk => by
  obtain ⟨b, o, ha, hlt, h0, v, h1, h2⟩ := h k hk
  exact ⟨b, o, ha, Nat.lt_of_lt_of_le hlt hb.size, by rw [hb.cell hlt]; exact h0, v, by rw [hb.cell hlt]; exact h1, h2.below hb⟩

theorem szI_step {l : List ItemL} {left : Int} {k : Nat} (H : ∀ j, (h : j < l.length) → j < k → SmallM left l[j].2) (hk : k < l.length) (h : SmallM left l[k].2) : ∀ j, (h : j < l.length) → j < k + 1 → SmallM left l[j].2 := fun j hj hlt => by
  by_cases e : j = k
  · subst e; exact h
  · exact H j hj (by omega)

end Go.Proofs.Ytpfhegengmlkmaa
