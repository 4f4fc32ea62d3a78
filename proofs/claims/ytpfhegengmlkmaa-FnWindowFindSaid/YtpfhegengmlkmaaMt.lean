/- Walks: markText, markMarkS, heldMarkS. -/
import Derived.Test.YtpfhegengmlkmaaLat
import Derived.Laws.IdiomStrings
namespace Go.Proofs.Ytpfhegengmlkmaa
open Go.RowKit Go.BigFrame

/-- string([]byte{d}) of a byte that was just laid. -/
theorem conv_one (d : Int) (h0 : 0 ≤ d) (h1 : d ≤ 255) (u : World) :
    (convert 22 9 (.slice (some ⟨u.heap.size, 0, none⟩) 1 1)).run Try.prog (u.alloc (.cells #[.int .u8 d] 5)) = .ok (.string ⟨#[UInt8.ofNat d.toNat]⟩) (u.alloc (.cells #[.int .u8 d] 5)) := by
  have h := run_convert_bytes_back (P := Try.prog) (u.alloc (.cells #[.int .u8 d] 5)) 22 9 5 ⟨u.heap.size, 0, none⟩ 1 [UInt8.ofNat d.toNat] Try.underlying22 Try.underlying5 Try.underlying9 (fun j hj => by
    obtain rfl : j = 0 := by simpa using hj
    have e : ((UInt8.ofNat d.toNat).toNat : Int) = d := by
      rw [UInt8.toNat_ofNat']
      omega
    simp [Addr.add, go_sem]
    omega)
  simpa using h

/-- The decimal text of q ahead of 'out', by so many steps at the most. -/
def mtF : Nat → Nat → ByteArray → ByteArray
  | 0, _, out => out
  | f + 1, q, out => if q = 0 then out else mtF f (q / 10) (⟨#[48 + UInt8.ofNat (q % 10)]⟩ ++ out)
theorem mtF_zero (f : Nat) (out : ByteArray) : mtF f 0 out = out := by cases f <;> simp [mtF]
theorem mtF_step (f q : Nat) (out : ByteArray) (h : 0 < q) : mtF (f + 1) q out = mtF f (q / 10) (⟨#[48 + UInt8.ofNat (q % 10)]⟩ ++ out) := by
  rw [mtF, if_neg (by omega)]
/-- The text that markText makes of k. -/
def mt (k : Int) : ByteArray := if k ≤ 0 then ⟨#[109, 48]⟩ else ⟨#[109]⟩ ++ mtF (k.toNat + 1) k.toNat ⟨#[]⟩

/-- What markMarkS leaves of n marks, counted from k on. -/
def marked (k : Int) (n : Nat) : List (ByteArray × Int) := (List.range n).map fun (i : Nat) => (mt (k + 2 * (i : Int)), k + 2 * (i : Int) + 1)
theorem marked_length (k : Int) (n : Nat) : (marked k n).length = n := by simp [marked]
theorem marked_at (k : Int) (n j : Nat) (h : j < (marked k n).length) : (marked k n)[j] = (mt (k + 2 * (j : Int)), k + 2 * (j : Int) + 1) := by simp [marked]

end Go.Proofs.Ytpfhegengmlkmaa
