/- The walk of the law FnExactStampText. -/
import Derived.Test.YtpfhegengmlkmabDoorTxI
import Derived.Test.YtpfhegengmlkmabDoorTxS
import Derived.Test.YtpfhegengmlkmabDoorWc
namespace Go.Proofs.YtpfhegengmlkmabDoor
open Go.RowKit
set_option maxRecDepth 100000

set_option maxHeartbeats 1600000 in
theorem lawText_any (aa : Option Addr) (ca : Nat) (la : List (ByteArray × Int)) (w : World) (hla : la.length ≤ maxLen) (ha : Row w aa la)
    (hsa : ∀ j, (h : j < la.length) → la[j].1.size ≤ maxLen) (ht : Tab w) :
    Calls Tryd.prog 3 #[.slice aa la.length ca] w fun e w' => e = .returned (.bool true) ∧ Below w.heap.size w w' := by
  go_enter Tryd.func3, Tryd.ntmps3
  go_wp2_with fail
  refine (szMarkS_any aa ca la 1048576 _ hla ha hsa (by omega) (by omega)).mono ?_
  rintro e w1 ⟨r, rfl, hr0, hr1, hr2, B1⟩
  by_cases hneg : r < 0
  · go_wp2_with fail
    go_ret
    exact ⟨rfl, B1⟩
  obtain ⟨hlena, _⟩ := hr2 (by omega)
  have hLa : la.length ≤ 1048576 := by omega
  clear hr2
  go_wp2_with fail
  refine (toMarkS_any aa ca la _ hLa (ha.below B1)).mono ?_
  rintro e w3 ⟨rfl, oa3, b3⟩
  have B3 : Below w.heap.size w w3 := B1.trans (b3.mono B1.size)
  clear b3
  go_wp2_with fail
  refine (specText_any _ _ la _ hla oa3.row hsa).mono ?_
  rintro e w5 ⟨⟨s, rfl, hs⟩, b5⟩
  have B5 : Below w.heap.size w w5 := B3.trans (b5.mono B3.size)
  have HS : Hid (IsTx la s) := hs
  clear b5 oa3 hs
  go_wp2_with fail
  refine (toMarkS_any aa ca la _ hLa (ha.below B5)).mono ?_
  rintro e w6 ⟨rfl, oa6, b6⟩
  have B6 : Below w.heap.size w w6 := B5.trans (b6.mono B5.size)
  clear b6
  go_wp2_with fail
  refine (implText_any _ _ la _ hla oa6.row hsa (ht.below B6)).mono ?_
  rintro e w8 ⟨⟨s', rfl, hs'⟩, b8⟩
  obtain rfl := HS.out.one hs'
  have B8 : Below w.heap.size w w8 := B6.trans (b8.mono B6.size)
  have oa8 := oa6.below b8
  clear b8 oa6 hs'
  go_wp2_with fail
  refine (toMarkS_any aa ca la _ hLa (ha.below B8)).mono ?_
  rintro e w10 ⟨rfl, o10, b10⟩
  have B10 : Below w.heap.size w w10 := B8.trans (b10.mono B8.size)
  have oa10 := oa8.below b10
  clear b10 oa8
  go_wp2_with fail
  refine (eqMarkS_same _ _ _ _ la _ hla oa10.row o10.row).mono ?_
  rintro e w11 ⟨rfl, b11⟩
  go_wp2_with fail
  go_ret
  exact ⟨rfl, B10.trans (b11.mono B10.size)⟩

end Go.Proofs.YtpfhegengmlkmabDoor
