/- Walks: impl's reader of a stamp's text: peek, take. -/
import Derived.Test.YtpfhegengmlkmaaDoorRdS
import Derived.Test.YtpfhegengmlkmaaDoorWd
namespace Go.Proofs.YtpfhegengmlkmaaDoor
open Go.RowKit Go.BigFrame

/-- The reader in block R is at place p of the text t. -/
structure Sr (w : World) (R : Nat) (t : ByteArray) (p : Nat) : Prop where
  c0 : w.cell? ⟨R, 0, none⟩ = some (.string t)
  c1 : w.cell? ⟨R, 1, none⟩ = some (.int .i64 (p : Int))
  f1 : w.frozen? ⟨R, 1, none⟩ = false
  le : p ≤ t.size
  small : t.size ≤ 1000
theorem Sr.lt {w : World} {R p : Nat} {t : ByteArray} (h : Sr w R t p) : R < w.heap.size := block_lt_of_cell h.c0
theorem Sr.same {w w' : World} {R p : Nat} {t : ByteArray} (h : Sr w R t p) (hk : w'.heap[R]? = w.heap[R]?) : Sr w' R t p :=
  ⟨(World.cell?_of_block hk).trans h.c0, (World.cell?_of_block hk).trans h.c1, (World.frozen?_of_block hk).trans h.f1, h.le, h.small⟩
theorem Sr.below {w w' : World} {R p : Nat} {t : ByteArray} (h : Sr w R t p) (hb : Below w.heap.size w w') : Sr w' R t p := h.same (hb.block R h.lt)
theorem Sr.step {w : World} {R p : Nat} {t : ByteArray} (h : Sr w R t p) (hp : p < t.size) : Sr (w.setCell ⟨R, 1, none⟩ (.int .i64 ((p : Int) + 1))) R t (p + 1) :=
  ⟨by simp [go_sem, h.c0], by simp [go_sem, h.c1], by simp [go_sem, h.f1], hp, h.small⟩
/-- The byte at place p; 0 at the end. -/
def pk (t : ByteArray) (p : Nat) : UInt8 := if h : p < t.size then t[p] else 0
theorem pk_at {t : ByteArray} {p : Nat} (h : p < t.size) : pk t p = t[p] := dif_pos h
theorem pk_end {t : ByteArray} {p : Nat} (h : ¬ p < t.size) : pk t p = 0 := dif_neg h

set_option maxHeartbeats 800000 in
theorem peek_any (R p : Nat) (t : ByteArray) (w : World) (hr : Sr w R t p) :
    Calls Tryd.prog 47 #[.pointer (some ⟨R, 0, none⟩)] w fun e w' => e = .returned (.int .u8 ((pk t p).toNat : Int)) ∧ Below w.heap.size w w' := by
  obtain ⟨c0, c1, f1, hle, hsm⟩ := hr
  go_enter Tryd.func47, Tryd.ntmps47
  by_cases hlt : p < t.size
  · have hpe : ((p : Int) == (t.size : Int)) = false := by rw [beq_eq_false_iff_ne]; omega
    have HP : Hid (pk t p = t[p]) := pk_at hlt
    go_wp2_with fail
    go_quiet (fail)
    go_wp2_with fail
    go_quiet (fail)
    go_wp2_with fail
    go_ret
    exact ⟨by rw [HP.out]; rfl, by repeat (first | exact Below.refl _ _ | apply below_drewN)⟩
  · have hpe : ((p : Int) == (t.size : Int)) = true := by rw [beq_iff_eq]; omega
    have HP : Hid (pk t p = 0) := pk_end hlt
    go_wp2_with fail
    go_quiet (fail)
    go_wp2_with fail
    go_ret
    exact ⟨by rw [HP.out]; rfl, by repeat (first | exact Below.refl _ _ | apply below_drewN)⟩

/-- What is behind a byte that was asked for. -/
def TakeE (w : World) (R : Nat) (t : ByteArray) (p : Nat) (c : UInt8) (e : Ending) : Prop := (p < t.size ∧ pk t p = c ∧ e = .returned (.bool true) ∧ Sr w R t (p + 1)) ∨ (¬ (p < t.size ∧ pk t p = c) ∧ e = .returned (.bool false) ∧ Sr w R t p)

set_option maxHeartbeats 800000 in
theorem take_any (R p : Nat) (t : ByteArray) (c : UInt8) (w : World) (hr : Sr w R t p) :
    Calls Tryd.prog 33 #[.pointer (some ⟨R, 0, none⟩), .int .u8 (c.toNat : Int)] w fun e w' => TakeE w' R t p c e ∧ But R w w' := by
  obtain ⟨c0, c1, f1, hle, hsm⟩ := id hr
  go_enter Tryd.func33, Tryd.ntmps33
  by_cases hlt : p < t.size
  · have hpe : ((p : Int) == (t.size : Int)) = false := by rw [beq_eq_false_iff_ne]; omega
    by_cases hc : t[p] = c
    · have hc' : ((t[p].toNat : Int) != (c.toNat : Int)) = false := by rw [hc]; simp
      have HP : Hid (pk t p = c) := (pk_at hlt).trans hc
      clear hc
      go_wp2_with fail
      go_quiet (fail)
      go_wp2_with fail
      go_ret
      exact ⟨.inl ⟨hlt, HP.out, rfl, (hr.below (below_drewN (Below.refl _ _) nq)).step hlt⟩, (But.of_below (below_drewN (Below.refl _ _) nq)).setCell _ _⟩
    · have hc' : ((t[p].toNat : Int) != (c.toNat : Int)) = true := by
        rw [bne_iff_ne]
        exact fun e => hc (UInt8.toNat_inj.1 (by omega))
      have HP : Hid (¬ (p < t.size ∧ pk t p = c)) := fun h => hc ((pk_at hlt).symm.trans h.2)
      clear hc
      go_wp2_with fail
      go_quiet (fail)
      go_wp2_with fail
      go_ret
      exact ⟨.inr ⟨HP.out, rfl, hr.below (by repeat (first | exact Below.refl _ _ | apply below_drewN))⟩, But.of_below (by repeat (first | exact Below.refl _ _ | apply below_drewN))⟩
  · have hpe : ((p : Int) == (t.size : Int)) = true := by rw [beq_iff_eq]; omega
    have HP : Hid (¬ (p < t.size ∧ pk t p = c)) := fun h => hlt h.1
    go_wp2_with fail
    go_quiet (fail)
    go_wp2_with fail
    go_ret
    exact ⟨.inr ⟨HP.out, rfl, hr.below (by repeat (first | exact Below.refl _ _ | apply below_drewN))⟩, But.of_below (by repeat (first | exact Below.refl _ _ | apply below_drewN))⟩

end Go.Proofs.YtpfhegengmlkmaaDoor
