/- Walks: what the draws of the laws read off a code: pick and its kin. -/
import Derived.Test.YtpfhegengmlkmaaDoorGath
import Derived.Laws.BitsLemmas
namespace Go.Proofs.YtpfhegengmlkmaaDoor
open Go.RowKit Go.BigFrame
set_option maxRecDepth 100000

/-- The reader in block R: its code is the slice 'ab' of 'n' bytes; it has read 'p'. -/
structure Rd (w : World) (R : Nat) (ab : Option Addr) (n c p : Nat) : Prop where
  c0 : w.cell? ⟨R, 0, none⟩ = some (.slice ab n c)
  c1 : w.cell? ⟨R, 1, none⟩ = some (.int .i64 (p : Int))
  f1 : w.frozen? ⟨R, 1, none⟩ = false
  small : n ≤ 2000
  byte : ∀ k, k < n → ∃ b o, ∃ v : Int, ab = some ⟨b, o, none⟩ ∧ b < R ∧ 0 ≤ v ∧ v ≤ 255 ∧ w.cell? ⟨b, o + k, none⟩ = some (.int .u8 v)

theorem Rd.lt {w : World} {R n c p : Nat} {ab : Option Addr} (h : Rd w R ab n c p) : R < w.heap.size := block_lt_of_cell h.c0
theorem Rd.same {w w' : World} {R n c p : Nat} {ab : Option Addr} (h : Rd w R ab n c p) (hk : ∀ k, k ≤ R → w'.heap[k]? = w.heap[k]?) : Rd w' R ab n c p :=
  ⟨(World.cell?_of_block (hk R (Nat.le_refl R))).trans h.c0, (World.cell?_of_block (hk R (Nat.le_refl R))).trans h.c1, (World.frozen?_of_block (hk R (Nat.le_refl R))).trans h.f1, h.small, fun k hk' => by
    obtain ⟨b, o, v, h1, h2, h4, h5, h6⟩ := h.byte k hk'
    exact ⟨b, o, v, h1, h2, h4, h5, (World.cell?_of_block (hk b (Nat.le_of_lt h2))).trans h6⟩⟩
theorem Rd.below {w w' : World} {R n c p : Nat} {ab : Option Addr} (h : Rd w R ab n c p) (hb : Below w.heap.size w w') : Rd w' R ab n c p := by
  have := h.lt
  exact h.same fun k hk => hb.block k (by omega)
theorem Rd.step {w : World} {R n c p : Nat} {ab : Option Addr} (h : Rd w R ab n c p) : Rd (w.setCell ⟨R, 1, none⟩ (.int .i64 ((p : Int) + 1))) R ab n c (p + 1) :=
  ⟨by simp [go_sem, h.c0], by simp [go_sem, h.c1], by simp [go_sem, h.f1], h.small, fun k hk => by
    obtain ⟨b, o, v, h1, h2, h4, h5, h6⟩ := h.byte k hk
    exact ⟨b, o, v, h1, h2, h4, h5, by rw [World.cell?_of_block (Below.heap_setCell _ _ _ _ (by simp only; omega))]; exact h6⟩⟩

theorem xor_nonneg (x y : Int) (hx : 0 ≤ x) (hx1 : x < 4611686018427387904) (hy : 0 ≤ y) (hy1 : y < 4611686018427387904) : 0 ≤ bits .xor .i64 x y := by
  obtain ⟨a, rfl⟩ := Int.eq_ofNat_of_zero_le hx
  obtain ⟨b, rfl⟩ := Int.eq_ofNat_of_zero_le hy
  have ha : a < 2 ^ 62 := by omega
  have hb : b < 2 ^ 62 := by omega
  have hxl := Nat.xor_lt_two_pow ha hb
  have ha' : a % 2 ^ IntKind.i64.bits = a := Nat.mod_eq_of_lt (Nat.lt_of_lt_of_le ha (by decide))
  have hb' : b % 2 ^ IntKind.i64.bits = b := Nat.mod_eq_of_lt (Nat.lt_of_lt_of_le hb (by decide))
  simp only [bits, BitVec.ofInt_natCast, BitVec.toNat_xor, BitVec.toNat_ofNat, ha', hb']
  rw [IntKind.wrap_i64]
  omega

set_option maxHeartbeats 800000 in
theorem pick_any (R n c p : Nat) (ab : Option Addr) (m : Int) (w : World) (hr : Rd w R ab n c p) (hp : p ≤ 1000000) (h1 : 1 ≤ m) (h2 : m ≤ 1000000) :
    Calls Tryd.prog 20 #[.pointer (some ⟨R, 0, none⟩), .int .i64 m] w fun e w' => (∃ x : Int, e = .returned (.int .i64 x) ∧ 0 ≤ x ∧ x < m) ∧ Rd w' R ab n c (p + 1) ∧ But R w w' := by
  obtain ⟨c0, c1, f1, hn, hby⟩ := id hr
  by_cases hn0 : n = 0
  · subst hn0
    go_enter Tryd.func20, Tryd.ntmps20
    go_wp2_with fail
    go_ret
    exact ⟨⟨0, rfl, by omega, by omega⟩, hr.step, (But.refl _ _).setCell _ _⟩
  · have hm1 : decide (m < 1) = false := by simp; omega
    have hn1 : ((n : Int) == 0) = false := by simp; omega
    by_cases hk : p < n
    · obtain ⟨b, o, v, rfl, hbR0, hv0, hv1, hb⟩ := hby p hk
      have hbR : b ≠ R := by omega
      have hb' : (w.setCell ⟨R, 1, none⟩ (.int .i64 ((p : Int) + 1))).cell? ⟨b, o + p, none⟩ = some (.int .u8 v) := by rw [World.cell?_of_block (Below.heap_setCell _ _ _ _ hbR)]; exact hb
      go_enter Tryd.func20, Tryd.ntmps20
      go_wp2_with fail
      go_ret
      exact ⟨⟨_, rfl, Int.emod_nonneg _ (by omega), Int.emod_lt_of_pos _ (by omega)⟩, hr.step, (But.refl _ _).setCell _ _⟩
    · obtain ⟨q1, hq1, hmod1⟩ : ∃ q : Nat, q < n ∧ (p : Int) % (n : Int) = (q : Int) := ⟨p % n, Nat.mod_lt _ (by omega), by omega⟩
      obtain ⟨q2, hq2, hmod2⟩ : ∃ q : Nat, q < n ∧ ((p : Int) * 7 + 3) % (n : Int) = (q : Int) := ⟨(((p : Int) * 7 + 3) % (n : Int)).toNat, by have := Int.emod_lt_of_pos ((p : Int) * 7 + 3) (b := (n : Int)) (by omega); omega, by have := Int.emod_nonneg ((p : Int) * 7 + 3) (b := (n : Int)) (by omega); omega⟩
      obtain ⟨b, o, v, rfl, hbR0, hv0, hv1, hb⟩ := hby q1 hq1
      have hbR : b ≠ R := by omega
      obtain ⟨b2, o2, u, e2, hbR2, hu0, hu1, hb2⟩ := hby q2 hq2
      obtain ⟨rfl, rfl⟩ : b = b2 ∧ o = o2 := by simpa using e2
      have hb' : (w.setCell ⟨R, 1, none⟩ (.int .i64 ((p : Int) + 1))).cell? ⟨b, o + q1, none⟩ = some (.int .u8 v) := by rw [World.cell?_of_block (Below.heap_setCell _ _ _ _ hbR)]; exact hb
      have hb2' : (w.setCell ⟨R, 1, none⟩ (.int .i64 ((p : Int) + 1))).cell? ⟨b, o + q2, none⟩ = some (.int .u8 u) := by rw [World.cell?_of_block (Below.heap_setCell _ _ _ _ hbR)]; exact hb2
      obtain ⟨D, hD, hD0, hD1⟩ : ∃ D : Int, (p : Int) / (n : Int) = D ∧ 0 ≤ D ∧ D ≤ 1000000 := ⟨_, rfl, Int.ediv_nonneg (by omega) (by omega), by have := Int.ediv_le_self (a := (p : Int)) (n : Int) (by omega); omega⟩
      go_enter Tryd.func20, Tryd.ntmps20
      go_wp2_with fail
      go_quiet (fail)
      go_wp2_with fail
      have hxx := xor_nonneg (v * 131 + u * 1117 + ↑p * 29 + D * 53) ((v * 131 + u * 1117 + ↑p * 29 + D * 53) / 64) (by omega) (by omega) (by omega) (by omega)
      go_ret
      exact ⟨⟨_, rfl, Int.tmod_nonneg _ hxx, Int.tmod_lt_of_pos _ (by omega)⟩, hr.step.below (below_drewN (Below.refl _ _) nq), ((But.refl _ _).setCell _ _).trans (But.of_below (below_drewN (Below.refl _ _) nq))⟩

theorem But.cell {R : Nat} {w w' : World} (h : But R w w') {b : Nat} (o : Nat) (hb : b < w.heap.size) (hne : b ≠ R) : w'.cell? ⟨b, o, none⟩ = w.cell? ⟨b, o, none⟩ := World.cell?_of_block (h.block b hb hne)
/-- An element of a table that was just laid. -/
theorem table_at {R : Nat} {w w1 : World} {t : TypeId} {tab : Array Value} (hR : R < w.heap.size) (h : But R (w.alloc (.cells tab t)) w1) (k : Nat) (hk : k < tab.size) : w1.cell? ⟨w.heap.size, k, none⟩ = some tab[k] := by
  rw [h.cell k (by simp) (by omega)]
  simp [go_sem, hk]

set_option maxHeartbeats 400000 in
theorem l6Src_any (R n c p : Nat) (ab : Option Addr) (w : World) (hr : Rd w R ab n c p) (hp : p ≤ 1000000) :
    Calls Tryd.prog 25 #[.pointer (some ⟨R, 0, none⟩)] w fun e w' => (∃ s : ByteArray, e = .returned (.string s) ∧ s.size ≤ 8) ∧ Rd w' R ab n c (p + 1) ∧ But R w w' := by
  have hR := hr.lt
  go_enter Tryd.func25, Tryd.ntmps25
  go_wp2_with fail
  refine (pick_any R n c p ab _ _ (hr.below ((Below.refl _ _).alloc (Nat.le_refl _) _)) hp (by omega) (by omega)).mono ?_
  rintro e w1 ⟨⟨x, rfl, hx0, hx1⟩, hr1, hb1⟩
  obtain ⟨k, rfl⟩ := Int.eq_ofNat_of_zero_le hx0
  obtain ⟨s, hs, hsz⟩ : ∃ s : ByteArray, w1.cell? ⟨w.heap.size, k, none⟩ = some (.string s) ∧ s.size ≤ 8 := by
    rw [table_at hR hb1 k (by simp; omega)]
    rcases (by omega : k = 0 ∨ k = 1 ∨ k = 2 ∨ k = 3 ∨ k = 4 ∨ k = 5) with rfl | rfl | rfl | rfl | rfl | rfl <;> exact ⟨_, rfl, by decide⟩
  have hB : But R w w1 := (But.of_below ((Below.refl _ _).alloc (Nat.le_refl _) _)).trans hb1
  have HB : Hid (But R w w1) := hB
  clear hb1 hB
  go_wp2_with fail
  go_ret
  exact ⟨⟨s, rfl, hsz⟩, hr1, HB.out⟩

set_option maxHeartbeats 400000 in
theorem l6Ver_any (R n c p : Nat) (ab : Option Addr) (w : World) (hr : Rd w R ab n c p) (hp : p ≤ 100000) :
    Calls Tryd.prog 35 #[.pointer (some ⟨R, 0, none⟩)] w fun e w' => (∃ v : Int, e = .returned (.int .i64 v)) ∧ Rd w' R ab n c (p + 2) ∧ But R w w' := by
  have hR := hr.lt
  go_enter Tryd.func35, Tryd.ntmps35
  go_wp2_with fail
  refine (pick_any R n c p ab _ _ hr (by omega) (by omega) (by omega)).mono ?_
  rintro e w1 ⟨⟨x, rfl, hx0, hx1⟩, hr1, hb1⟩
  have hR1 := hr1.lt
  by_cases h0 : x = 0
  · subst h0
    go_wp2_with fail
    refine (pick_any R n c (p + 1) ab _ _ (hr1.below ((Below.refl _ _).alloc (Nat.le_refl _) _)) (by omega) (by omega) (by omega)).mono ?_
    rintro e w2 ⟨⟨x, rfl, hx0, hx1⟩, hr2, hb2⟩
    obtain ⟨k, rfl⟩ := Int.eq_ofNat_of_zero_le hx0
    obtain ⟨s, hs⟩ : ∃ s : Int, w2.cell? ⟨w1.heap.size, k, none⟩ = some (.int .i64 s) := by
      rw [table_at hR1 hb2 k (by simp; omega)]
      rcases (by omega : k = 0 ∨ k = 1 ∨ k = 2 ∨ k = 3 ∨ k = 4 ∨ k = 5) with rfl | rfl | rfl | rfl | rfl | rfl <;> exact ⟨_, rfl⟩
    have HB : Hid (But R w w2) := hb1.trans ((But.of_below ((Below.refl _ _).alloc (Nat.le_refl _) _)).trans hb2)
    clear hb1 hb2
    go_wp2_with fail
    go_ret
    exact ⟨⟨s, rfl⟩, hr2, HB.out⟩
  · have h0' : (x == 0) = false := by simp [h0]
    go_wp2_with fail
    refine (pick_any R n c (p + 1) ab _ _ hr1 (by omega) (by omega) (by omega)).mono ?_
    rintro e w2 ⟨⟨y, rfl, hy0, hy1⟩, hr2, hb2⟩
    go_wp2_with fail
    go_ret
    exact ⟨⟨_, rfl⟩, hr2, hb1.trans hb2⟩

end Go.Proofs.YtpfhegengmlkmaaDoor
