/- The walk of the law FnExactStampOnly. -/
import Derived.Test.YtpfhegengmlkmabOnly
import Derived.Test.YtpfhegengmlkmabMtS
import Derived.Test.YtpfhegengmlkmabSafe
import Derived.Test.YtpfhegengmlkmabWc
namespace Go.Proofs.Ytpfhegengmlkmab
open Go.RowKit

theorem only_le {l : List (ByteArray × Int)} {names : List ByteArray} {m : List (ByteArray × Int)} (h : IsO l names m) : m.length ≤ l.length := by
  by_cases hp : StampP l
  · rw [h.1 hp]; exact List.length_filter_le _ _
  · rw [h.2 hp]; exact Nat.zero_le _
theorem PartS.but {w w' : World} {b c k : Nat} {l : List ByteArray} (h : PartS w b l k) (hb : But c w w') (hne : b ≠ c) : PartS w' b l k := by
  have hlt := h.lt
  obtain ⟨f, h, hf⟩ := h
  exact ⟨f, h.of_block (hb.block b hlt hne), hf⟩
theorem Safe.but {w w' : World} {lo hi b : Nat} {a : Option Addr} {m : List (ByteArray × Int)} (h : Safe w lo hi a m) (hb : But b w w') (hd : hi ≤ b ∨ b < lo) : Safe w' lo hi a m :=
  h.span (hb.span (Nat.le_refl b) (Nat.lt_succ_self b)) (by omega)

set_option maxHeartbeats 1600000 in
theorem lawOnly_any (a : Option Addr) (cap : Nat) (l : List (ByteArray × Int)) (a' : Option Addr) (cap' : Nat) (names : List ByteArray) (w : World) (hl : l.length ≤ maxLen) (hr : Row w a l) (hs : ∀ j, (h : j < l.length) → l[j].1.size ≤ maxLen)
    (hl' : names.length ≤ maxLen) (hr' : RowS w a' names) (hs' : ∀ j, (h : j < names.length) → names[j].size ≤ maxLen) :
    Calls Try.prog 8 #[.slice a l.length cap, .slice a' names.length cap'] w fun e w' => e = .returned (.bool true) ∧ Below w.heap.size w w' := by
  go_enter Try.func8, Try.ntmps8
  go_wp2_with fail
  refine (szMarkS_any a cap l 1048576 _ hl hr hs (by omega) (by omega)).mono ?_
  rintro e w1 ⟨r, rfl, hr0, hr1, hr2, hb1⟩
  by_cases hneg : r < 0
  · go_wp2_with fail
    go_ret
    exact ⟨rfl, hb1⟩
  obtain ⟨hlen, hsz⟩ := hr2 (by omega)
  clear hr2
  go_wp2_with fail
  refine (szStringS_any a' cap' names r _ hl' (hr'.below hb1) hs' (by omega) (by omega)).mono ?_
  rintro e w1' ⟨⟨r', rfl, hr0', hr1', hr2'⟩, rfl⟩
  by_cases hneg' : r' < 0
  · go_wp2_with fail
    go_ret
    exact ⟨rfl, hb1⟩
  obtain ⟨hlen', hsz'⟩ := hr2' (by omega)
  clear hr2' hsz'
  have hL : l.length ≤ 1048576 := by omega
  have hL' : names.length ≤ 1048576 := by omega
  -- spec
  go_wp2_with fail
  refine (toMarkS_any a cap l _ hL (hr.below hb1)).mono ?_
  rintro e w2 ⟨rfl, ho2, hb2⟩
  have B2 : Below w.heap.size w w2 := hb1.trans (hb2.mono hb1.size)
  go_wp2_with fail
  refine (toStringS_any a' cap' names _ hL' (hr'.below B2)).mono ?_
  rintro e w3 ⟨rfl, hp3, hb3⟩
  have B3 : Below w.heap.size w w3 := B2.trans (hb3.mono B2.size)
  go_wp2_with fail
  refine (specOnly_any _ _ l _ _ names _ hL (ho2.below hb3).row hs hL' hp3.row).mono ?_
  rintro e w4 ⟨⟨v0, m, rfl, hg4, hm4⟩, hb4⟩
  have B4 : Below w.heap.size w w4 := B3.trans (hb4.mono B3.size)
  obtain ⟨a0, cap0, rfl, hs4⟩ := hg4.safe
  have hmle := only_le hm4
  -- x0, x1
  go_wp2_with fail
  refine (toMarkS_any a cap l _ hL (hr.below B4)).mono ?_
  rintro e w5 ⟨rfl, ho5, hb5⟩
  have B5 : Below w.heap.size w w5 := B4.trans (hb5.mono B4.size)
  go_wp2_with fail
  refine (toStringS_any a' cap' names _ hL' (hr'.below B5)).mono ?_
  rintro e w6 ⟨rfl, hp6, hb6⟩
  have B6 : Below w.heap.size w w6 := B5.trans (hb6.mono B5.size)
  -- impl
  go_wp2_with fail
  refine (implOnly_any _ _ l _ _ names _ hL (ho5.below hb6).row hsz hL' hp6.row).mono ?_
  rintro e w7 ⟨⟨v1, m', rfl, hg7, hm7⟩, hb7⟩
  obtain rfl : m = m' := hm4.one hm7
  have B7 : Below w.heap.size w w7 := B6.trans (hb7.mono B6.size)
  obtain ⟨a1, cap1, rfl, hs7⟩ := hg7.safe
  go_wp2_with fail
  refine (eqMarkS_same _ _ _ _ m _ (by unfold maxLen; omega) hs7.row (((hs4.below hb5).below hb6).below hb7).row).mono ?_
  rintro e w8 ⟨rfl, hb8⟩
  have B8 : Below w.heap.size w w8 := B7.trans (hb8.mono B7.size)
  go_wp2_with fail
  refine (toMarkS_any a cap l _ hL (hr.below B8)).mono ?_
  rintro e w9 ⟨rfl, ho9, hb9⟩
  have B9 : Below w.heap.size w w9 := B8.trans (hb9.mono B8.size)
  go_wp2_with fail
  refine (eqMarkS_same _ _ _ _ l _ hl ((((ho5.below hb6).below hb7).below hb8).below hb9).row ho9.row).mono ?_
  rintro e w10 ⟨rfl, hb10⟩
  have B10 : Below w.heap.size w w10 := B9.trans (hb10.mono B9.size)
  go_wp2_with fail
  refine (toStringS_any a' cap' names _ hL' (hr'.below B10)).mono ?_
  rintro e w11 ⟨rfl, hp11, hb11⟩
  have B11 : Below w.heap.size w w11 := B10.trans (hb11.mono B10.size)
  have C7 : Below w6.heap.size w6 w10 := hb7.trans (((hb8.trans (hb9.mono hb8.size)).trans (hb10.mono (Nat.le_trans hb8.size hb9.size))).mono hb7.size)
  have C11 : Below w6.heap.size w6 w11 := C7.trans (hb11.mono C7.size)
  have P11 : PartS w11 w5.heap.size names names.length := hp6.below hp6.lt C11
  go_wp2_with fail
  refine (eqStringS_same _ _ _ _ names _ hl' P11.row hp11.row).mono ?_
  rintro e w12 ⟨rfl, hb12⟩
  have B12 : Below w.heap.size w w12 := B11.trans (hb12.mono B11.size)
  have C12 : Below w6.heap.size w6 w12 := C11.trans (hb12.mono C11.size)
  have O12 : Own w12 w4.heap.size l := (ho5.below hb6).below C12
  have P12 : PartS w12 w5.heap.size names names.length := hp6.below hp6.lt C12
  have S4 : Safe w12 w3.heap.size w4.heap.size a0 m := ((hs4.below hb5).below hb6).below C12
  have D7 : Below w7.heap.size w7 w12 := (((hb8.trans (hb9.mono hb8.size)).trans (hb10.mono (Nat.le_trans hb8.size hb9.size))).trans (hb11.mono (Nat.le_trans (Nat.le_trans hb8.size hb9.size) hb10.size))).trans (hb12.mono (Nat.le_trans (Nat.le_trans (Nat.le_trans hb8.size hb9.size) hb10.size) hb11.size))
  have S7 : Safe w12 w6.heap.size w7.heap.size a1 m := hs7.below D7
  have z4 : w.heap.size ≤ w4.heap.size := B4.size
  have z5 : w4.heap.size < w5.heap.size := ho5.lt
  have z6 : w5.heap.size < w6.heap.size := hp6.lt
  have z12 : w6.heap.size ≤ w12.heap.size := C12.size
  have z7 : w7.heap.size ≤ w12.heap.size := D7.size
  have z3 : w.heap.size ≤ w3.heap.size := B3.size
  clear hp3 ho2 hs4 hg4 hg7 hs7 ho9 hp11 P11 C7 C11 hb1 hb2 hb3 hb4 hb5 hb6 hb7 hb8 hb9 hb10 hb11 hb12 B2 B3 B4 B5 B6 B7 B8 B9 B10 B11 ho5 hp6 D7
  go_wp2_with fail
  refine (markMarkS_any _ _ l.length 1 _ hL (by omega) (by omega) l rfl O12).mono ?_
  rintro e w13 ⟨rfl, _, M13⟩
  have P13 := P12.but M13 (by omega)
  have S4a := S4.but M13 (by omega)
  have S7a := S7.but M13 (by omega)
  have B13 : Below w.heap.size w w13 := B12.trans (M13.below (by omega) B12.size)
  have y13 := M13.size
  go_wp2_with fail
  refine (markStringS_any _ _ names _ _ hL' (by omega) (by omega) P13).mono ?_
  rintro e w14 ⟨rfl, M14⟩
  have S4b := S4a.but M14 (by omega)
  have S7b := S7a.but M14 (by omega)
  have B14 : Below w.heap.size w w14 := B13.trans (M14.below (by omega) B13.size)
  have y14 := M14.size
  clear S4 S7 S4a S7a P12 P13 O12 B12 B13
  go_wp2_with fail
  refine (eqMarkS_same _ _ _ _ m _ (by unfold maxLen; omega) S7b.row S4b.row).mono ?_
  rintro e w15 ⟨rfl, hb15⟩
  have S4c := S4b.below hb15
  have S7c := S7b.below hb15
  have B15 : Below w.heap.size w w15 := B14.trans (hb15.mono B14.size)
  have y15 := hb15.size
  go_wp2_with fail
  refine (markSafe_any a1 cap1 _ _ m 1 _ (by omega) (by omega) (by omega) S7c).mono ?_
  rintro e w16 ⟨rfl, S7d, M16⟩
  have S4d := S4c.span M16 (by omega)
  have B16 : Below w.heap.size w w16 := B15.trans (M16.below (by omega) B15.size)
  clear S4b S7b S4c S7c B14 B15
  go_wp2_with fail
  refine (heldMarkS_any a1 cap1 m.length 1 _ (by omega) (by omega) (by omega) S7d.row).mono ?_
  rintro e w17 ⟨rfl, hb17⟩
  have S4e := S4d.below hb17
  have S7e := S7d.below hb17
  have B17 : Below w.heap.size w w17 := B16.trans (hb17.mono B16.size)
  go_wp2_with fail
  refine (toMarkS_any a cap l _ hL (hr.below B17)).mono ?_
  rintro e w18 ⟨rfl, ho18, hb18⟩
  have B18 : Below w.heap.size w w18 := B17.trans (hb18.mono B17.size)
  go_wp2_with fail
  refine (toStringS_any a' cap' names _ hL' (hr'.below B18)).mono ?_
  rintro e w19 ⟨rfl, hp19, hb19⟩
  have B19 : Below w.heap.size w w19 := B18.trans (hb19.mono B18.size)
  go_wp2_with fail
  refine (implOnly_any _ _ l _ _ names _ hL (ho18.below hb19).row hsz hL' hp19.row).mono ?_
  rintro e w20 ⟨⟨v2, m', rfl, hg20, hm20⟩, hb20⟩
  obtain rfl : m = m' := hm4.one hm20
  have B20 : Below w.heap.size w w20 := B19.trans (hb20.mono B19.size)
  obtain ⟨a2, cap2, rfl, hs20⟩ := hg20.safe
  go_wp2_with fail
  refine (eqMarkS_same _ _ _ _ m _ (by unfold maxLen; omega) hs20.row (((S4e.below hb18).below hb19).below hb20).row).mono ?_
  rintro e w21 ⟨rfl, hb21⟩
  have B21 : Below w.heap.size w w21 := B20.trans (hb21.mono B20.size)
  go_wp2_with fail
  refine (heldMarkS_any a1 cap1 m.length 1 _ (by omega) (by omega) (by omega) ((((S7e.below hb18).below hb19).below hb20).below hb21).row).mono ?_
  rintro e w22 ⟨rfl, hb22⟩
  go_wp2_with fail
  go_ret
  exact ⟨rfl, B21.trans (hb22.mono B21.size)⟩

end Go.Proofs.Ytpfhegengmlkmab
