/- Walks: the reader opened; the draws of stamps. -/
import Derived.Test.YtpfhegengmlkmaaDoorDraw3
import Derived.Test.YtpfhegengmlkmaaDoorStrsM
namespace Go.Proofs.YtpfhegengmlkmaaDoor
open Go.RowKit Go.BigFrame
set_option maxRecDepth 100000

/-- The slice 'ab' of 'n' bytes. -/
structure Bytes (w : World) (ab : Option Addr) (n c : Nat) : Prop where
  cap : n ≤ c
  byte : ∀ k, k < n → ∃ b o, ∃ v : Int, ab = some ⟨b, o, none⟩ ∧ b < w.heap.size ∧ 0 ≤ v ∧ v ≤ 255 ∧ w.cell? ⟨b, o + k, none⟩ = some (.int .u8 v)

theorem Bytes.below {w w' : World} {ab : Option Addr} {n c : Nat} (h : Bytes w ab n c) (hb : Below w.heap.size w w') : Bytes w' ab n c :=
  ⟨h.cap, fun k hk => by
    obtain ⟨b, o, v, h1, h2, h4, h5, h6⟩ := h.byte k hk
    exact ⟨b, o, v, h1, Nat.lt_of_lt_of_le h2 hb.size, h4, h5, (hb.cell h2).trans h6⟩⟩

theorem Bytes.rd {w : World} {ab : Option Addr} {n m c : Nat} (h : Bytes w ab n c) (hm : m ≤ n) (hs : m ≤ 2000) : Rd (w.alloc (.cells #[.slice ab m c, .int .i64 0] 50)) w.heap.size ab m c 0 :=
  ⟨by simp [go_sem], by simp [go_sem], by simp [go_sem], hs, fun k hk => by
    obtain ⟨b, o, v, h1, h2, h4, h5, h6⟩ := h.byte k (by omega)
    exact ⟨b, o, v, h1, h2, h4, h5, (World.cell?_of_block (Below.heap_alloc _ _ _ h2)).trans h6⟩⟩

set_option maxHeartbeats 800000 in
theorem l1Open_any (ab : Option Addr) (n c : Nat) (w : World) (h : Bytes w ab n c) :
    Calls Tryd.prog 12 #[.slice ab n c] w fun e w' => (∃ m, e = .returned (.pointer (some ⟨w.heap.size, 0, none⟩)) ∧ Rd w' w.heap.size ab m c 0) ∧ Below w.heap.size w w' := by
  have hcap := h.cap
  by_cases hlt : 2000 < n
  · have hlt' : decide ((2000 : Int) < (n : Int)) = true := by simp; omega
    have HRD : Hid (Rd (w.alloc (.cells #[.slice ab 2000 c, .int .i64 0] 50)) w.heap.size ab 2000 c 0) := h.rd (by omega) (by omega)
    clear h
    go_enter Tryd.func12, Tryd.ntmps12
    go_wp2_with fail
    go_ret
    exact ⟨⟨2000, rfl, HRD.out⟩, (Below.refl _ _).alloc (Nat.le_refl _) _⟩
  · have hlt' : decide ((2000 : Int) < (n : Int)) = false := by simp; omega
    have HRD : Hid (Rd (w.alloc (.cells #[.slice ab n c, .int .i64 0] 50)) w.heap.size ab n c 0) := h.rd (by omega) (by omega)
    clear h
    go_enter Tryd.func12, Tryd.ntmps12
    go_wp2_with fail
    go_ret
    exact ⟨⟨n, rfl, HRD.out⟩, (Below.refl _ _).alloc (Nat.le_refl _) _⟩

/-- Marks that were drawn: few, of short names. -/
structure Mks (w : World) (B : Nat) (v : Value) (l : List (ByteArray × Int)) : Prop where
  g : Gath w B v l
  len : l.length ≤ 40
  size : ∀ m ∈ l, m.1.size ≤ 2000
theorem Mks.but {w w' : World} {R B : Nat} {v : Value} {l : List (ByteArray × Int)} (h : Mks w B v l) (hb : But R w w') (hR : R < B) : Mks w' B v l := ⟨h.g.but hb hR, h.len, h.size⟩
theorem Mks.keep {w w' : World} {B : Nat} {v : Value} {l : List (ByteArray × Int)} (h : Mks w B v l) (hb : Below w.heap.size w w') : Mks w' B v l := ⟨h.g.keep hb, h.len, h.size⟩
theorem Mks.lower {w : World} {B B' : Nat} {v : Value} {l : List (ByteArray × Int)} (h : Mks w B v l) (hB : B' ≤ B) : Mks w B' v l := ⟨h.g.lower hB, h.len, h.size⟩

/-- l6Marks, with what the draws need. -/
theorem l6Marks_mks (R n c p : Nat) (ab : Option Addr) (w : World) (hr : Rd w R ab n c p) (hp : p ≤ 80000) :
    Calls Tryd.prog 13 #[.pointer (some ⟨R, 0, none⟩)] w fun e w' => (∃ v l p', e = .returned v ∧ Mks w' w.heap.size v l ∧ l.length ≤ 30 ∧ Rd w' R ab n c p' ∧ p' ≤ p + 100) ∧ But R w w' :=
  (l6Marks_any R n c p ab w hr hp).mono fun _ _ ⟨⟨v, l, p', he, hg, hl, hs, hr, hp⟩, hb⟩ => ⟨⟨v, l, p', he, ⟨hg, by omega, hs⟩, hl, hr, hp⟩, hb⟩

set_option maxHeartbeats 800000 in
theorem drawText_any (ab : Option Addr) (n c : Nat) (w : World) (h : Bytes w ab n c) :
    Calls Tryd.prog 4 #[.slice ab n c] w fun e w' => (∃ va la, e = .returned va ∧ Mks w' w.heap.size va la) ∧ Below w.heap.size w w' := by
  go_enter Tryd.func4, Tryd.ntmps4
  go_wp2_with fail
  refine (l1Open_any ab n c _ h).mono ?_
  rintro e w1 ⟨⟨m, rfl, hr1⟩, hb1⟩
  have hR := hr1.lt
  go_wp2_with fail
  refine (l6Marks_mks _ m c 0 ab _ hr1 (by omega)).mono ?_
  rintro e w2 ⟨⟨va, la, p2, rfl, hm2, hl2, hr2, hp2⟩, hb2⟩
  have z2 := hb2.size
  have HF : Hid (Mks w2 w.heap.size va la ∧ Below w.heap.size w w2) := ⟨hm2.lower (by omega), hb1.trans (hb2.below (Nat.le_refl _) (by omega))⟩
  clear hb1 hb2 hr1 hr2 hm2 h
  go_wp2_with fail
  go_ret
  exact ⟨⟨va, la, rfl, HF.out.1⟩, HF.out.2⟩

end Go.Proofs.YtpfhegengmlkmaaDoor
