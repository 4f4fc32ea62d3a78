/- Slices of few marks, with all that the laws' calls ask of them. -/
import Derived.Test.YtpfhegengmlkmaaDraw4
import Derived.Test.YtpfhegengmlkmaaLawM
namespace Go.Proofs.Ytpfhegengmlkmaa
open Go.RowKit
set_option maxRecDepth 100000

structure Mk (w : World) (a : Option Addr) (c : Nat) (l : List (ByteArray × Int)) : Prop where
  row : Row w a l
  cap : l.length ≤ c
  len : l.length ≤ 40
  size : ∀ j, (h : j < l.length) → l[j].1.size ≤ 2000
theorem Mk.below {w w' : World} {a : Option Addr} {c : Nat} {l : List (ByteArray × Int)} (h : Mk w a c l) (hb : Below w.heap.size w w') : Mk w' a c l := ⟨h.row.below hb, h.cap, h.len, h.size⟩
theorem Mk.max {w : World} {a : Option Addr} {c : Nat} {l : List (ByteArray × Int)} (h : Mk w a c l) : l.length ≤ maxLen := by have := h.len; unfold maxLen; omega
theorem Mk.few {w : World} {a : Option Addr} {c : Nat} {l : List (ByteArray × Int)} (h : Mk w a c l) : l.length ≤ 1048576 := by have := h.len; omega
theorem Mk.smax {w : World} {a : Option Addr} {c : Nat} {l : List (ByteArray × Int)} (h : Mk w a c l) : ∀ j, (h : j < l.length) → l[j].1.size ≤ maxLen := fun j hj => by have := h.size j hj; unfold maxLen; omega
theorem Mk.sfew {w : World} {a : Option Addr} {c : Nat} {l : List (ByteArray × Int)} (h : Mk w a c l) : ∀ j, (h : j < l.length) → (l[j].1.size : Int) ≤ 1048576 := fun j hj => by have := h.size j hj; omega
theorem Gath.cap {w : World} {B : Nat} {v : Value} {l : List (ByteArray × Int)} (h : Gath w B v l) : ∃ a c, v = .slice a l.length c ∧ Row w a l ∧ l.length ≤ c := by
  obtain ⟨a, c, rfl, hr⟩ := h.shape
  refine ⟨a, c, rfl, hr, ?_⟩
  by_cases h0 : l.length = 0
  · omega
  · exact (h.cut (k := 1) (by omega) (by omega)).1
theorem Mks.sl {w : World} {B : Nat} {v : Value} {l : List (ByteArray × Int)} (h : Mks w B v l) : ∃ a c, v = .slice a l.length c ∧ Mk w a c l := by
  obtain ⟨a, c, hv, hr, hc⟩ := h.g.cap
  exact ⟨a, c, hv, hr, hc, h.len, fun j hj => h.size _ (List.getElem_mem hj)⟩
theorem mk_stamp {w : World} {B : Nat} {v : Value} {l : List (ByteArray × Int)} (h : Gath w B v l) (hs : StampP l) : ∃ a c, v = .slice a l.length c ∧ Mk w a c l := by
  obtain ⟨a, c, hv, hr, hc⟩ := h.cap
  exact ⟨a, c, hv, hr, hc, by have := hs.1; omega, fun j hj => by have := (hs.2.1 j hj).1.2.1; omega⟩
theorem IsJ.stamp {a b m : List (ByteArray × Int)} {ok : Bool} (h : IsJ a b m ok) : StampP m := by
  cases ok
  · rw [h.none]; exact stampP_nil
  · exact h.fits.2.2.2

end Go.Proofs.Ytpfhegengmlkmaa
