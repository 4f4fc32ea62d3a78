/- An answer's marks in memory, between two block numbers; what marking them leaves alone. -/
import Derived.Test.YtpfhegengmlkmacGreatDoorGath
import Derived.Test.YtpfhegengmlkmacGreatDoorMt
namespace Go.Proofs.YtpfhegengmlkmacGreatDoor
open Go.RowKit Go.BigFrame

/-- The marks 'm' lie at 'a', in a block of the call's own from number 'lo' on and ahead of 'hi'; or there are none. -/
def Safe (w : World) (lo hi : Nat) (a : Option Addr) (m : List (ByteArray × Int)) : Prop :=
  m = [] ∨ ∃ g, a = some ⟨g, 0, none⟩ ∧ lo ≤ g ∧ g < hi ∧ Own w g m

theorem Safe.row {w : World} {lo hi : Nat} {a : Option Addr} {m : List (ByteArray × Int)} (h : Safe w lo hi a m) : Row w a m := by
  rcases h with rfl | ⟨g, rfl, _, _, ho⟩
  · exact fun k hk => absurd hk (Nat.not_lt_zero k)
  · exact ho.row
theorem Safe.below {w w' : World} {lo hi : Nat} {a : Option Addr} {m : List (ByteArray × Int)} (h : Safe w lo hi a m) (hb : Below w.heap.size w w') : Safe w' lo hi a m := by
  rcases h with rfl | ⟨g, rfl, h1, h2, ho⟩
  · exact .inl rfl
  · exact .inr ⟨g, rfl, h1, h2, ho.below hb⟩
theorem Gath.safe {w : World} {B : Nat} {v : Value} {m : List (ByteArray × Int)} (h : Gath w B v m) : ∃ a cap, v = .slice a m.length cap ∧ Safe w B w.heap.size a m := by
  rcases h.form with ⟨hv, rfl⟩ | ⟨g, cap, hv, hB, ho⟩
  · exact ⟨_, _, hv, .inl rfl⟩
  · exact ⟨_, _, hv, .inr ⟨g, rfl, hB, ho.lt, ho⟩⟩

/-- Of all that lay there only blocks from 'lo' on and ahead of 'hi' may have turned. -/
structure Span (lo hi : Nat) (w w' : World) : Prop where
  os : w'.os = w.os
  tape : w'.tape = w.tape
  output : w'.output = w.output
  size : w.heap.size ≤ w'.heap.size
  block : ∀ k, k < w.heap.size → (k < lo ∨ hi ≤ k) → w'.heap[k]? = w.heap[k]?

theorem Span.refl (lo hi : Nat) (w : World) : Span lo hi w w := ⟨rfl, rfl, rfl, Nat.le_refl _, fun _ _ _ => rfl⟩
theorem But.span {b lo hi : Nat} {w w' : World} (h : But b w w') (h1 : lo ≤ b) (h2 : b < hi) : Span lo hi w w' := ⟨h.os, h.tape, h.output, h.size, fun k hk hn => h.block k hk (by omega)⟩
theorem Span.below {lo hi B : Nat} {w w' : World} (h : Span lo hi w w') (hb : B ≤ lo) (hw : B ≤ w.heap.size) : Below B w w' :=
  ⟨h.os, h.tape, h.output, h.size, fun k hk => h.block k (by omega) (by omega)⟩
theorem Safe.span {w w' : World} {lo hi lo' hi' : Nat} {a : Option Addr} {m : List (ByteArray × Int)} (h : Safe w lo hi a m) (hs : Span lo' hi' w w') (hd : hi ≤ lo' ∨ hi' ≤ lo) : Safe w' lo hi a m := by
  rcases h with rfl | ⟨g, rfl, h1, h2, ho⟩
  · exact .inl rfl
  · refine .inr ⟨g, rfl, h1, h2, ?_⟩
    have hlt := ho.lt
    obtain ⟨m, f, h', hf⟩ := ho
    exact ⟨m, f, h'.of_block (hs.block g hlt (by omega)), hf⟩

theorem marked_nil (k : Int) (m : List (ByteArray × Int)) (h : m = []) : marked k m.length = [] := by rw [h]; rfl

theorem markSafe_any (a : Option Addr) (cap lo hi : Nat) (m : List (ByteArray × Int)) (k : Int) (w : World) (hn : m.length ≤ 1048576) (hk0 : 0 ≤ k) (hk1 : k ≤ 10000000) (hs : Safe w lo hi a m) :
    Calls Tryz.prog 59 #[.slice a m.length cap, .int .i64 k] w fun e w' => e = .returned (.int .i64 (k + 2 * (m.length : Int))) ∧ Safe w' lo hi a (marked k m.length) ∧ Span lo hi w w' := by
  rcases hs with rfl | ⟨g, rfl, h1, h2, ho⟩
  · exact (markMarkS_none a cap k w).mono fun e w' ⟨he, hw⟩ => ⟨by rw [he]; simp, .inl rfl, by rw [hw]; exact Span.refl _ _ _⟩
  · exact (markMarkS_any g cap m.length k w hn hk0 hk1 m rfl ho).mono fun e w' ⟨he, ho', hb⟩ => ⟨he, .inr ⟨g, rfl, h1, h2, ho'⟩, hb.span h1 h2⟩

end Go.Proofs.YtpfhegengmlkmacGreatDoor
