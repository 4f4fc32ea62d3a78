/- Walks: szMark, szMarkS, toMark, toMarkS. -/
import Derived.Test.YtpfhegengmlkmaaBase
namespace Go.Proofs.Ytpfhegengmlkmaa
open Go.RowKit

theorem sz_step {l : List (ByteArray × Int)} {left : Int} {k : Nat} (H : ∀ j, (h : j < l.length) → j < k → (l[j].1.size : Int) ≤ left) (hk : k < l.length) (h : (l[k].1.size : Int) ≤ left) : ∀ j, (h : j < l.length) → j < k + 1 → (l[j].1.size : Int) ≤ left := fun j hj hlt => by
  by_cases e : j = k
  · subst e; exact h
  · exact H j hj (by omega)

end Go.Proofs.Ytpfhegengmlkmaa
