/- Walks: toItem, toItemS; items in blocks of the call's own. -/
import Derived.Test.YtpfhegengmlkmaaItB
import Derived.Test.YtpfhegengmlkmaaWb
namespace Go.Proofs.Ytpfhegengmlkmaa
open Go.RowKit

theorem IsSl.of_own {w : World} {b : Nat} {l : List (ByteArray × Int)} (h : Own w b l) : IsSl w (.slice (some ⟨b, 0, none⟩) l.length l.length) l := ⟨_, _, rfl, Nat.le_refl _, h.row⟩

theorem Own.setOther {w : World} {b : Nat} {l : List (ByteArray × Int)} (h : Own w b l) {q : Nat} (hq : b ≠ q) (i : Nat) (v : Value) : Own (w.setCell ⟨q, i, none⟩ v) b l := by
  obtain ⟨m, f, h, hf⟩ := h
  exact ⟨m, f, h.of_block (Below.heap_setCell _ _ _ _ (by simp only; omega)), hf⟩

end Go.Proofs.Ytpfhegengmlkmaa
