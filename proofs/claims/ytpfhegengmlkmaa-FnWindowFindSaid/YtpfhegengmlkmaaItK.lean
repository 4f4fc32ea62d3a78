/- The laws' size tests, with sums: szMarkS, szItem, szItemS, szItemSS. -/
import Derived.Test.YtpfhegengmlkmaaItB
namespace Go.Proofs.Ytpfhegengmlkmaa
open Go.RowKit

/-- How many marks the items have together. -/
def lens : List ItemL → Nat
  | [] => 0
  | x :: l => x.2.length + lens l
theorem lens_append (l m : List ItemL) : lens (l ++ m) = lens l + lens m := by
  induction l with
  | nil => simp [lens]
  | cons x l ih => simp [lens, ih]; omega
theorem lens_take {l : List ItemL} {k : Nat} (h : k < l.length) : lens (l.take (k + 1)) = lens (l.take k) + l[k].2.length := by
  rw [List.take_succ_eq_append_getElem h, lens_append]
  simp [lens]

end Go.Proofs.Ytpfhegengmlkmaa
