/- Texts of this claim, one behind the other. -/
import Derived.Test.YtpfhegengmlkmacGreatDoorChS
import Derived.Test.YtpfhegengmlkmacGreatDoorLawM
import Derived.Test.YtpfhegengmlkmacGreatDoorOwnB
import Derived.Test.YtpfhegengmlkmacGreatDoorItG
import Derived.Test.YtpfhegengmlkmacGreatDoorLat
import Derived.WalkKit
import Derived.LaidEql
import Derived.Stop.Asserts
import Derived.RowKitTokens
import Derived.Test.YtpfhegengmlkmacGreatDoorZGPOwn3
/- A gather that is an answer: its three parts in blocks of their own; marked, and held. -/
namespace Go.Proofs.YtpfhegengmlkmacGreatDoor
open Go.RowKit Go.BigFrame
set_option maxRecDepth 100000

theorem YW.span {w w' : World} {lo hi t lo' hi' : Nat} {L : List WinY} (h : YW w lo hi t L) (hs : Span lo' hi' w w') (ht : t < lo' ∨ hi' ≤ t) (hd : hi ≤ lo' ∨ hi' ≤ lo) : YW w' lo hi t L :=
  ⟨Nat.lt_of_lt_of_le h.lt hs.size, fun k hk => by rw [World.cell?_of_block (hs.block t h.lt ht)]; exact h.cell k hk, fun p hp => by
    obtain ⟨a, c, h1, h2, h3⟩ := h.at_ p hp
    have := h.in_ p hp
    exact ⟨a, c, h1, h2, h3.span hs (by omega)⟩, h.far, h.in_, h.dis⟩
/-- A block that none of the windows has is turned. -/
theorem YW.but {w w' : World} {lo hi t b : Nat} {L : List WinY} (h : YW w lo hi t L) (hs : But b w w') (ht : t ≠ b) (hd : ∀ p ∈ L, b < p.lo ∨ p.hi ≤ b) : YW w' lo hi t L :=
  ⟨Nat.lt_of_lt_of_le h.lt hs.size, fun k hk => by rw [World.cell?_of_block (hs.block t h.lt ht)]; exact h.cell k hk, fun p hp => by
    obtain ⟨a, c, h1, h2, h3⟩ := h.at_ p hp
    exact ⟨a, c, h1, h2, h3.span (hs.span (Nat.le_refl b) (Nat.lt_succ_self b)) (by have := hd p hp; omega)⟩, h.far, h.in_, h.dis⟩

/-- The stamp of a gather that is an answer. -/
def StG (w : World) (lo hi b t : Nat) (a2 : Option Addr) (L : List WinY) (m : List (ByteArray × Int)) : Prop := m = [] ∨ ∃ s, a2 = some ⟨s, 0, none⟩ ∧ lo ≤ s ∧ s < hi ∧ s ≠ b ∧ s ≠ t ∧ Own w s m ∧ ∀ p ∈ L, s < p.lo ∨ p.hi ≤ s
structure FullG (w : World) (lo hi b t : Nat) (a2 : Option Addr) (nm : List ByteArray) (L : List WinY) (m : List (ByteArray × Int)) : Prop where
  names : StrB w b nm
  wins : YW w lo hi t L
  bt : b ≠ t
  bin : lo ≤ b ∧ b < hi
  tin : lo ≤ t ∧ t < hi
  bfar : ∀ p ∈ L, b < p.lo ∨ p.hi ≤ b
  stamp : StG w lo hi b t a2 L m
def SafeG (w : World) (lo hi : Nat) (a0 a1 a2 : Option Addr) (nm : List ByteArray) (L : List WinY) (m : List (ByteArray × Int)) : Prop :=
  (nm = [] ∧ L = [] ∧ m = []) ∨ ∃ b t, a0 = some ⟨b, 0, none⟩ ∧ a1 = some ⟨t, 0, none⟩ ∧ FullG w lo hi b t a2 nm L m
theorem own_but {w w' : World} {b s : Nat} {m : List (ByteArray × Int)} (h : Own w s m) (hb : But b w w') (hne : s ≠ b) : Own w' s m := hb.own h hne
theorem StG.row {w : World} {lo hi b t : Nat} {a2 : Option Addr} {L : List WinY} {m : List (ByteArray × Int)} (h : StG w lo hi b t a2 L m) : Row w a2 m := by
  rcases h with rfl | ⟨s, rfl, _, _, _, _, ho, _⟩
  · exact fun k hk => absurd hk (Nat.not_lt_zero k)
  · exact ho.row
theorem SafeG.rows {w : World} {lo hi : Nat} {a0 a1 a2 : Option Addr} {nm : List ByteArray} {L : List WinY} {m : List (ByteArray × Int)} (h : SafeG w lo hi a0 a1 a2 nm L m) : RowS w a0 nm ∧ RowW w a1 (L.map (·.l)) ∧ Row w a2 m := by
  rcases h with ⟨rfl, rfl, rfl⟩ | ⟨b, t, rfl, rfl, h⟩
  · exact ⟨fun k hk => absurd hk (Nat.not_lt_zero k), fun k hk => absurd hk (Nat.not_lt_zero k), fun k hk => absurd hk (Nat.not_lt_zero k)⟩
  · exact ⟨h.names.row, h.wins.row, h.stamp.row⟩
theorem FullG.below {w w' : World} {lo hi b t : Nat} {a2 : Option Addr} {nm : List ByteArray} {L : List WinY} {m : List (ByteArray × Int)} (h : FullG w lo hi b t a2 nm L m) (hb : Below w.heap.size w w') : FullG w' lo hi b t a2 nm L m :=
  ⟨h.names.below hb, h.wins.below hb, h.bt, h.bin, h.tin, h.bfar, by
    rcases h.stamp with e | ⟨s, e, h1, h2, h3, h4, h5, h6⟩
    · exact .inl e
    · exact .inr ⟨s, e, h1, h2, h3, h4, h5.below hb, h6⟩⟩
theorem FullG.span {w w' : World} {lo hi b t lo' hi' : Nat} {a2 : Option Addr} {nm : List ByteArray} {L : List WinY} {m : List (ByteArray × Int)} (h : FullG w lo hi b t a2 nm L m) (hs : Span lo' hi' w w') (hd : hi ≤ lo' ∨ hi' ≤ lo) : FullG w' lo hi b t a2 nm L m :=
  ⟨h.names.span hs (by have := h.bin; omega), h.wins.span hs (by have := h.tin; omega) hd, h.bt, h.bin, h.tin, h.bfar, by
    rcases h.stamp with e | ⟨s, e, h1, h2, h3, h4, h5, h6⟩
    · exact .inl e
    · obtain ⟨mm, f, h7, hf⟩ := id h5
      exact .inr ⟨s, e, h1, h2, h3, h4, ⟨mm, f, h7.of_block (hs.block s h5.lt (by omega)), hf⟩, h6⟩⟩
theorem SafeG.below {w w' : World} {lo hi : Nat} {a0 a1 a2 : Option Addr} {nm : List ByteArray} {L : List WinY} {m : List (ByteArray × Int)} (h : SafeG w lo hi a0 a1 a2 nm L m) (hb : Below w.heap.size w w') : SafeG w' lo hi a0 a1 a2 nm L m := by
  rcases h with h | ⟨b, t, e1, e2, h⟩
  · exact .inl h
  · exact .inr ⟨b, t, e1, e2, h.below hb⟩
theorem SafeG.span {w w' : World} {lo hi lo' hi' : Nat} {a0 a1 a2 : Option Addr} {nm : List ByteArray} {L : List WinY} {m : List (ByteArray × Int)} (h : SafeG w lo hi a0 a1 a2 nm L m) (hs : Span lo' hi' w w') (hd : hi ≤ lo' ∨ hi' ≤ lo) : SafeG w' lo hi a0 a1 a2 nm L m := by
  rcases h with h | ⟨b, t, e1, e2, h⟩
  · exact .inl h
  · exact .inr ⟨b, t, e1, e2, h.span hs hd⟩

theorem mixY_same {k : Int} {L : List WinY} {q : WinY} (h : q ∈ mixY k L.length L) : ∃ p ∈ L, q.lo = p.lo ∧ q.hi = p.hi := by
  obtain ⟨i, hi, rfl⟩ := List.mem_iff_getElem.1 h
  have hi' : i < L.length := by rw [mixY_len] at hi; exact hi
  rw [mixY_at k L.length L i hi hi', if_pos hi']
  exact ⟨L[i], List.getElem_mem hi', rfl, rfl⟩
/-- The last mark of a gather. -/
def kG (n : Nat) (L : List WinY) (s : Nat) : Int := kAt (1 + (n : Int)) L.length L + 2 * (s : Int)

set_option maxHeartbeats 800000 in
theorem markIns_any (a0 : Option Addr) (c0 lo hi b t : Nat) (a2 : Option Addr) (nm : List ByteArray) (L : List WinY) (m : List (ByteArray × Int)) (w : World) (h6 : nm.length ≤ 6) (e0 : a0 = some ⟨b, 0, none⟩) (h : FullG w lo hi b t a2 nm L m) :
    Calls Tryz.prog 30 #[.slice a0 nm.length c0, .int .i64 1] w fun e w' => e = .returned (.int .i64 (1 + (nm.length : Int))) ∧ FullG w' lo hi b t a2 (textsM 1 nm.length) L m ∧ Span lo hi w w' := by
  subst e0
  refine (markStrB_any b c0 nm 1 w (by omega) (by omega) (by omega) h.names).mono ?_
  rintro e w' ⟨rfl, hs, hb⟩
  refine ⟨rfl, ⟨hs, h.wins.but hb h.bt.symm h.bfar, h.bt, h.bin, h.tin, h.bfar, ?_⟩, hb.span h.bin.1 h.bin.2⟩
  rcases h.stamp with e | ⟨s, e, h1, h2, h3, h4, h5, h6⟩
  · exact .inl e
  · exact .inr ⟨s, e, h1, h2, h3, h4, hb.own h5 h3, h6⟩

set_option maxHeartbeats 800000 in
theorem markWins_any (c1 lo hi b t : Nat) (a2 : Option Addr) (nm : List ByteArray) (L : List WinY) (m : List (ByteArray × Int)) (k : Int) (w : World) (h6 : L.length ≤ 6) (hL : ∀ p ∈ L, StampsP p.l) (hk0 : 0 ≤ k) (hk1 : k ≤ 1000) (h : FullG w lo hi b t a2 nm L m) :
    Calls Tryz.prog 58 #[.slice (some ⟨t, 0, none⟩) L.length c1, .int .i64 k] w fun e w' => e = .returned (.int .i64 (kAt k L.length L)) ∧ FullG w' lo hi b t a2 nm (mixY k L.length L) m ∧ Span lo hi w w' := by
  refine (markYW_any t c1 lo hi L k w h6 hL hk0 (by omega) h.wins).mono ?_
  rintro e w' ⟨rfl, hy, hk⟩
  refine ⟨rfl, ⟨?_, hy, h.bt, h.bin, h.tin, fun p hp => ?_, ?_⟩, hk.span h.wins.in_⟩
  · obtain ⟨mm, f, h7, hf⟩ := id h.names
    exact ⟨mm, f, h7.of_block (hk.block b h.names.lt h.bfar), hf⟩
  · obtain ⟨q, hq, e1, e2⟩ := mixY_same hp
    rw [e1, e2]
    exact h.bfar q hq
  · rcases h.stamp with e | ⟨s, e, h1, h2, h3, h4, h5, h6'⟩
    · exact .inl e
    · obtain ⟨mm, f, h7, hf⟩ := id h5
      refine .inr ⟨s, e, h1, h2, h3, h4, ⟨mm, f, h7.of_block (hk.block s h5.lt h6'), hf⟩, fun p hp => ?_⟩
      obtain ⟨q, hq, e1, e2⟩ := mixY_same hp
      rw [e1, e2]
      exact h6' q hq

set_option maxHeartbeats 800000 in
theorem markStG_any (c2 lo hi b t : Nat) (a2 : Option Addr) (nm : List ByteArray) (L : List WinY) (m : List (ByteArray × Int)) (k : Int) (w : World) (h12 : m.length ≤ 12) (hk0 : 0 ≤ k) (hk1 : k ≤ 10000) (h : FullG w lo hi b t a2 nm L m) :
    Calls Tryz.prog 59 #[.slice a2 m.length c2, .int .i64 k] w fun e w' => e = .returned (.int .i64 (k + 2 * (m.length : Int))) ∧ FullG w' lo hi b t a2 nm L (marked k m.length) ∧ Span lo hi w w' := by
  rcases h.stamp with rfl | ⟨s, rfl, h1, h2, h3, h4, h5, h6⟩
  · refine (markMarkS_none a2 c2 k w).mono ?_
    rintro e w' ⟨rfl, rfl⟩
    exact ⟨by simp, ⟨h.names, h.wins, h.bt, h.bin, h.tin, h.bfar, .inl (by simp [marked])⟩, Span.refl _ _ _⟩
  · have hsf : Safe w s (s + 1) (some ⟨s, 0, none⟩) m := .inr ⟨s, rfl, Nat.le_refl _, Nat.lt_succ_self _, h5⟩
    refine (markSafe_any (some ⟨s, 0, none⟩) c2 s (s + 1) m k w (by omega) hk0 (by omega) hsf).mono ?_
    rintro e w' ⟨rfl, hs, hsp⟩
    have hbut : But s w w' := ⟨hsp.os, hsp.tape, hsp.output, hsp.size, fun i hi hn => hsp.block i hi (by omega)⟩
    refine ⟨rfl, ⟨h.names.span hsp (by omega), h.wins.but hbut h4.symm h6, h.bt, h.bin, h.tin, h.bfar, ?_⟩, hbut.span h1 h2⟩
    rcases hs with e | ⟨s', e, _, _, ho⟩
    · exact .inl e
    · obtain rfl : s = s' := congrArg Addr.block (Option.some.inj e)
      exact .inr ⟨s, rfl, h1, h2, h3, h4, ho, h6⟩

set_option maxHeartbeats 800000 in
theorem markG_any (a0 a1 a2 : Option Addr) (c0 c1 c2 lo hi : Nat) (nm : List ByteArray) (L : List WinY) (m : List (ByteArray × Int)) (w : World) (h6 : nm.length ≤ 6) (hL6 : L.length ≤ 6) (hL : ∀ p ∈ L, StampsP p.l) (h12 : m.length ≤ 12) (hhi : hi ≤ w.heap.size) (hs : SafeG w lo hi a0 a1 a2 nm L m) :
    Calls Tryz.prog 15 #[.agg #[.slice a0 nm.length c0, .slice a1 L.length c1, .slice a2 m.length c2], .int .i64 1] w fun e w' => e = .returned (.int .i64 (kG nm.length L m.length)) ∧ SafeG w' lo hi a0 a1 a2 (textsM 1 nm.length) (mixY (1 + (nm.length : Int)) L.length L) (marked (kAt (1 + (nm.length : Int)) L.length L) m.length) ∧ Span lo hi w w' := by
  have hb0 : Below w.heap.size w (w.alloc (.cells #[.slice a0 nm.length c0, .slice a1 L.length c1, .slice a2 m.length c2] 36)) := (Below.refl _ _).alloc (Nat.le_refl _) _
  have d1 : (w.alloc (.cells #[.slice a0 nm.length c0, .slice a1 L.length c1, .slice a2 m.length c2] 36)).cell? ⟨w.heap.size, 1, none⟩ = some (.slice a1 L.length c1) := by simp [go_sem]
  have d2 : (w.alloc (.cells #[.slice a0 nm.length c0, .slice a1 L.length c1, .slice a2 m.length c2] 36)).cell? ⟨w.heap.size, 2, none⟩ = some (.slice a2 m.length c2) := by simp [go_sem]
  rcases hs with ⟨rfl, rfl, rfl⟩ | ⟨b, t, rfl, rfl, hG⟩
  · go_enter Tryz.func15, Tryz.ntmps15
    go_wp2_with fail
    have hr0 : RowW (w.alloc (.cells #[.slice a0 0 c0, .slice a1 0 c1, .slice a2 0 c2] 36)) a1 (List.replicate 0 []) := fun k hk => by simp at hk
    refine (markStringS_none a0 c0 1 _).mono ?_
    rintro e w1 ⟨rfl, rfl⟩
    go_wp2_with fail
    refine (markWinE_any a1 c1 0 1 _ (by omega) (by omega) (by omega) hr0).mono ?_
    rintro e w2 ⟨rfl, b2⟩
    have d2' := cell_on b2 (by simp) d2
    simp only [List.length_nil] at d2'
    go_wp2_with fail
    refine (markMarkS_none a2 c2 1 _).mono ?_
    rintro e w3 ⟨rfl, rfl⟩
    go_wp2_with fail
    go_ret
    refine ⟨rfl, .inl ⟨rfl, rfl, rfl⟩, ?_⟩
    have hb2 := hb0.trans (b2.mono hb0.size)
    exact ⟨hb2.os, hb2.tape, hb2.output, hb2.size, fun i hi _ => hb2.block i hi⟩
  · replace hG := hG.below hb0
    have hk := kAt_le hL L.length (1 + (nm.length : Int)) (Nat.le_refl _)
    go_enter Tryz.func15, Tryz.ntmps15
    go_wp2_with fail
    generalize w.alloc (.cells #[.slice (some ⟨b, 0, none⟩) nm.length c0, .slice (some ⟨t, 0, none⟩) L.length c1, .slice a2 m.length c2] 36) = W0 at *
    refine (markIns_any _ c0 lo hi b t a2 nm L m _ h6 rfl hG).mono ?_
    rintro e w1 ⟨rfl, hG1, s1⟩
    have d1' : w1.cell? ⟨w.heap.size, 1, none⟩ = some (.slice (some ⟨t, 0, none⟩) L.length c1) := by rw [World.cell?_of_block (s1.block w.heap.size (block_lt_of_cell d1) (by omega))]; exact d1
    have d2' : w1.cell? ⟨w.heap.size, 2, none⟩ = some (.slice a2 m.length c2) := by rw [World.cell?_of_block (s1.block w.heap.size (block_lt_of_cell d1) (by omega))]; exact d2
    clear d1 d2
    go_wp2_with fail
    refine (markWins_any c1 lo hi b t a2 _ L m (1 + (nm.length : Int)) _ hL6 hL (by omega) (by omega) hG1).mono ?_
    rintro e w2 ⟨rfl, hG2, s2⟩
    have d2'' : w2.cell? ⟨w.heap.size, 2, none⟩ = some (.slice a2 m.length c2) := by rw [World.cell?_of_block (s2.block w.heap.size (block_lt_of_cell d1') (by omega))]; exact d2'
    clear d1' d2'
    go_wp2_with fail
    refine (markStG_any c2 lo hi b t a2 _ _ m (kAt (1 + (nm.length : Int)) L.length L) _ h12 (by omega) (by omega) hG2).mono ?_
    rintro e w3 ⟨rfl, hG3, s3⟩
    go_wp2_with fail
    go_ret
    refine ⟨rfl, .inr ⟨b, t, rfl, rfl, hG3⟩, ?_⟩
    have sA : Span lo hi w W0 := ⟨hb0.os, hb0.tape, hb0.output, hb0.size, fun i hi _ => hb0.block i hi⟩
    exact ((sA.trans s1).trans s2).trans s3

set_option maxHeartbeats 800000 in
theorem heldG_any (a0 a1 a2 : Option Addr) (c0 c1 c2 lo hi n s : Nat) (L : List WinY) (w : World) (h6 : n ≤ 6) (hL6 : L.length ≤ 6) (hL : ∀ p ∈ L, StampsP p.l) (h12 : s ≤ 12) (hs : SafeG w lo hi a0 a1 a2 (textsM 1 n) (mixY (1 + (n : Int)) L.length L) (marked (kAt (1 + (n : Int)) L.length L) s)) :
    Calls Tryz.prog 18 #[.agg #[.slice a0 n c0, .slice a1 L.length c1, .slice a2 s c2], .int .i64 1] w fun e w' => e = .returned (.int .i64 (kG n L s)) ∧ Below w.heap.size w w' := by
  have hb0 : Below w.heap.size w (w.alloc (.cells #[.slice a0 n c0, .slice a1 L.length c1, .slice a2 s c2] 36)) := (Below.refl _ _).alloc (Nat.le_refl _) _
  have hlt := box_lt w (.cells #[.slice a0 n c0, .slice a1 L.length c1, .slice a2 s c2] 36)
  have d1 : (w.alloc (.cells #[.slice a0 n c0, .slice a1 L.length c1, .slice a2 s c2] 36)).cell? ⟨w.heap.size, 1, none⟩ = some (.slice a1 L.length c1) := by simp [go_sem]
  have d2 : (w.alloc (.cells #[.slice a0 n c0, .slice a1 L.length c1, .slice a2 s c2] 36)).cell? ⟨w.heap.size, 2, none⟩ = some (.slice a2 s c2) := by simp [go_sem]
  obtain ⟨hr0, hr1, hr2⟩ := hs.rows
  have hk := kAt_le hL L.length (1 + (n : Int)) (Nat.le_refl _)
  go_enter Tryz.func18, Tryz.ntmps18
  go_wp2_with fail
  generalize w.alloc (.cells #[.slice a0 n c0, .slice a1 L.length c1, .slice a2 s c2] 36) = W0 at *
  refine (heldStringS_any a0 c0 n 1 _ (by omega) (by omega) (by omega) (hr0.below hb0)).mono ?_
  rintro e w1 ⟨rfl, b1⟩
  have B1 : Below w.heap.size w w1 := hb0.trans (b1.mono hb0.size)
  replace d1 := cell_on b1 hlt d1
  replace d2 := cell_on b1 hlt d2
  have z1 := b1.size
  have hpos : ¬ (1 + (n : Int)) < 0 := by omega
  go_wp2_with fail
  refine (heldYW_any a1 c1 L (1 + (n : Int)) _ hL6 hL (by omega) (by omega) (hr1.below B1)).mono ?_
  rintro e w2 ⟨rfl, b2⟩
  have B2 : Below w.heap.size w w2 := B1.trans (b2.mono B1.size)
  replace d2 := cell_on b2 (by omega) d2
  have HKG : Hid (kG n L s = kAt (1 + (n : Int)) L.length L + 2 * (s : Int)) := rfl
  obtain ⟨q, hq⟩ : ∃ q, q = kAt (1 + (n : Int)) L.length L := ⟨_, rfl⟩
  rw [← hq] at hk hr2 HKG ⊢
  clear hq
  have hneg : ¬ q < 0 := by omega
  go_wp2_with fail
  refine (heldMarkS_any a2 c2 s q w2 (by omega) (by omega) (by omega) (hr2.below B2)).mono ?_
  rintro e w3 ⟨rfl, b3⟩
  have hneg3 : ¬ q + 2 * (s : Int) < 0 := by omega
  go_wp2_with fail
  go_ret
  exact ⟨by rw [HKG.out]; rfl, B2.trans (b3.mono B2.size)⟩

end Go.Proofs.YtpfhegengmlkmacGreatDoor
/- Mathematics of choices: the greatest one that agrees. -/
namespace Go.Proofs.YtpfhegengmlkmacGreatDoor

theorem pk_eq {ws : List (List ItemL)} {ps : List Int} (hin : InW ws ps) {i : Nat} (hi : i < ps.length) (hw : i < ws.length) : ∃ h : ps[i].toNat < ws[i].length, pkM ws ps i = (ws[i][ps[i].toNat]).2 := by
  obtain ⟨h0, h1⟩ := hin.2 i hi
  have e : ws.getD i [] = ws[i] := by simp [List.getD, hw]
  have e2 : ps.getD i 0 = ps[i] := by simp [List.getD, hi]
  rw [e] at h1
  have h : ps[i].toNat < ws[i].length := by omega
  refine ⟨h, ?_⟩
  unfold pkM
  rw [e, e2]
  simp [List.getD, h]

theorem chP_max {ws : List (List ItemL)} {a b : List Int} (ha : ChP ws a) (hb : ChP ws b) : ChP ws (List.zipWith max a b) := by
  obtain ⟨hok, la, ia, ga⟩ := ha
  obtain ⟨_, lb, ib, gb⟩ := hb
  have hl : (List.zipWith max a b).length = ws.length := by simp [la, lb]
  have hin : InW ws (List.zipWith max a b) := by
    refine ⟨by omega, fun i hi => ?_⟩
    have hia : i < a.length := by omega
    have hib : i < b.length := by omega
    have h1 := ia.2 i hia
    have h2 := ib.2 i hib
    rw [List.getElem_zipWith]
    omega
  refine ⟨hok, hl, hin, fun i k hk hi => ?_⟩
  rw [hl] at hi
  have hkw : k < ws.length := by omega
  obtain ⟨p1, e1⟩ := pk_eq hin (i := i) (by omega) hi
  obtain ⟨p2, e2⟩ := pk_eq hin (i := k) (by omega) hkw
  obtain ⟨q1, f1⟩ := pk_eq ia (i := i) (by omega) hi
  obtain ⟨q2, f2⟩ := pk_eq ia (i := k) (by omega) hkw
  obtain ⟨r1, g1⟩ := pk_eq ib (i := i) (by omega) hi
  obtain ⟨r2, g2⟩ := pk_eq ib (i := k) (by omega) hkw
  have A := ga i k hk (by omega)
  have B := gb i k hk (by omega)
  rw [f1, f2] at A
  rw [g1, g2] at B
  have L := later_agrees (hok.2.2 i hi) (hok.2.2 k hkw) q1 r1 q2 r2 A B
  rw [e1, e2]
  have m1 : ((List.zipWith max a b)[i]'(by omega)).toNat = max (a[i]'(by omega)).toNat (b[i]'(by omega)).toNat := by
    have h1 := ia.2 i (by omega)
    have h2 := ib.2 i (by omega)
    rw [List.getElem_zipWith]
    omega
  have m2 : ((List.zipWith max a b)[k]'(by omega)).toNat = max (a[k]'(by omega)).toNat (b[k]'(by omega)).toNat := by
    have h1 := ia.2 k (by omega)
    have h2 := ib.2 k (by omega)
    rw [List.getElem_zipWith]
    omega
  simp only [m1, m2]
  exact L

/-- What the greatest choice is: it agrees, and none that agrees is ahead of it at any place; or there is none. -/
def BestP (ws : List (List ItemL)) (out : List Int) (ok : Bool) : Prop :=
  (ok = true ∧ ChP ws out ∧ ∀ q, ChP ws q → ∀ i, (hq : i < q.length) → (ho : i < out.length) → q[i] ≤ out[i]) ∨ (ok = false ∧ out = [] ∧ ∀ q, ¬ ChP ws q)

theorem BestP.one {ws : List (List ItemL)} {a b : List Int} {x y : Bool} (h : BestP ws a x) (k : BestP ws b y) : a = b ∧ x = y := by
  rcases h with ⟨rfl, h1, h2⟩ | ⟨rfl, rfl, h2⟩
  · rcases k with ⟨rfl, k1, k2⟩ | ⟨rfl, rfl, k2⟩
    · refine ⟨?_, rfl⟩
      have la := h1.2.1
      have lb := k1.2.1
      apply List.ext_getElem (by omega)
      intro i hi hi'
      have e1 := h2 b k1 i hi' hi
      have e2 := k2 a h1 i hi hi'
      omega
    · exact absurd h1 (k2 a)
  · rcases k with ⟨rfl, k1, k2⟩ | ⟨rfl, rfl, k2⟩
    · exact absurd k1 (h2 b)
    · exact ⟨rfl, rfl⟩


/-- A spot: in which window, and at which place of its stamps. -/
abbrev Spot := Nat × Nat
/-- The source s stands there. -/
def SpotOf (ws : List (List ItemL)) (s : ByteArray) (p : Spot) : Prop := ∃ h : p.1 < ws.length, ∃ h0 : 0 < ws[p.1].length, ∃ h1 : p.2 < (ws[p.1][ws[p.1].length - 1]).2.length, ((ws[p.1][ws[p.1].length - 1]).2[p.2]).1 = s
/-- The spots of the sources that two windows or more have. -/
def SharedP (ws : List (List ItemL)) (sh : List (List Spot)) : Prop :=
  (∀ src ∈ sh, ∃ s, ∀ p ∈ src, SpotOf ws s p) ∧
  ∀ s i k j l, i ≠ k → SpotOf ws s (i, j) → SpotOf ws s (k, l) → ∃ src ∈ sh, (i, j) ∈ src ∧ (k, l) ∈ src
/-- What the chosen item has at a spot. -/
def verM (ws : List (List ItemL)) (ps : List Int) (p : Spot) : Int := ((pkM ws ps p.1).getD p.2 (ByteArray.empty, 0)).2

theorem names_pos {a b : List (ByteArray × Int)} (h : namesM a = namesM b) {j : Nat} (hj : j < a.length) : ∃ hb : j < b.length, a[j].1 = b[j].1 := by
  have hl : a.length = b.length := by
    have := congrArg List.length h
    simpa [namesM] using this
  refine ⟨by omega, ?_⟩
  have e : (namesM a)[j]? = (namesM b)[j]? := by rw [h]
  have hb : j < b.length := by omega
  simpa [namesM, hj, hb] using e

theorem verM_eq {ws : List (List ItemL)} {ps : List Int} (hok : OkW ws) (hl : ps.length = ws.length) (hin : InW ws ps) {s : ByteArray} {p : Spot} (hp : SpotOf ws s p) : ∃ h : p.2 < (pkM ws ps p.1).length, ((pkM ws ps p.1)[p.2]).1 = s ∧ verM ws ps p = ((pkM ws ps p.1)[p.2]).2 ∧ verM ws ps p = getM (pkM ws ps p.1) s ∧ 0 < verM ws ps p := by
  obtain ⟨h, h0, h1, hs⟩ := hp
  obtain ⟨q, e⟩ := pk_eq hin (i := p.1) (by omega) h
  have hw := hok.2.2 p.1 h
  have hn : namesM (ws[p.1][ws[p.1].length - 1]).2 = namesM (pkM ws ps p.1) := by
    rw [e]
    have := hw.names (ws[p.1].length - 1 - (ps[p.1]'(by omega)).toNat) (ps[p.1]'(by omega)).toNat (by omega)
    rw [this]
    congr 2
    congr 1
    omega
  obtain ⟨hb, en⟩ := names_pos hn h1
  have hst : StampP (pkM ws ps p.1) := by rw [e]; exact (hw.2.1 _ q).1
  have ss := stamp_sorted hst
  have hv : verM ws ps p = ((pkM ws ps p.1)[p.2]).2 := by
    unfold verM
    simp [List.getD, hb]
  have hm := getM_mem ss (List.getElem_mem hb)
  have hpos := ss.2 _ (List.getElem_mem hb)
  refine ⟨hb, by rw [← en, hs], hv, ?_, by rw [hv]; exact hpos⟩
  rw [hv, ← hm, ← en, hs]

/-- Which source stands where of a stamp. -/
theorem spot_of_get {ws : List (List ItemL)} {ps : List Int} (hok : OkW ws) (hl : ps.length = ws.length) (hin : InW ws ps) {i : Nat} (hi : i < ws.length) {s : ByteArray} (h : 0 < getM (pkM ws ps i) s) : ∃ j, SpotOf ws s (i, j) := by
  obtain ⟨q, e⟩ := pk_eq hin (i := i) (by omega) hi
  have hw := hok.2.2 i hi
  have h0 : 0 < ws[i].length := by omega
  rw [e, hw.same q (show ws[i].length - 1 < ws[i].length by omega) s] at h
  obtain ⟨j, hj, ej⟩ := List.mem_iff_getElem.1 (getM_pos h)
  exact ⟨j, hi, h0, hj, by simp only; rw [ej]⟩

theorem agW_iff {ws : List (List ItemL)} {ps : List Int} {sh : List (List Spot)} (hok : OkW ws) (hl : ps.length = ws.length) (hin : InW ws ps) (hsh : SharedP ws sh) :
    AgW ws ps ↔ ∀ src ∈ sh, ∀ p ∈ src, ∀ q ∈ src, verM ws ps p = verM ws ps q := by
  have hst : ∀ i, i < ws.length → StampP (pkM ws ps i) := fun i hi => by
    obtain ⟨q, e⟩ := pk_eq hin (i := i) (by omega) hi
    rw [e]
    exact ((hok.2.2 i hi).2.1 _ q).1
  constructor
  · intro h src hs p hp q hq
    obtain ⟨s, hall⟩ := hsh.1 src hs
    have p0 := hall p hp
    have q0 := hall q hq
    obtain ⟨_, _, _, e1, g1⟩ := verM_eq hok hl hin p0
    obtain ⟨_, _, _, e2, g2⟩ := verM_eq hok hl hin q0
    have hpw := p0.1
    have hqw := q0.1
    rcases Nat.lt_trichotomy p.1 q.1 with hlt | heq | hlt
    · have := (agree_get (hst _ hqw) (hst _ hpw)).1 (h q.1 p.1 hlt (by omega)) s (by omega) (by omega)
      omega
    · rw [e1, e2, heq]
    · have := (agree_get (hst _ hpw) (hst _ hqw)).1 (h p.1 q.1 hlt (by omega)) s (by omega) (by omega)
      omega
  · intro h i k hk hi
    rw [agree_get (hst i (by omega)) (hst k (by omega))]
    intro s h1 h2
    obtain ⟨j, hj⟩ := spot_of_get hok hl hin (i := i) (by omega) h1
    obtain ⟨l, hl'⟩ := spot_of_get hok hl hin (i := k) (by omega) h2
    obtain ⟨src, hm, m1, m2⟩ := hsh.2 s i k j l (by omega) hj hl'
    have e := h src hm _ m1 _ m2
    obtain ⟨_, _, _, e1, _⟩ := verM_eq hok hl hin hj
    obtain ⟨_, _, _, e2, _⟩ := verM_eq hok hl hin hl'
    simp only at e1 e2
    omega

/-- A step back loses no choice that agrees. -/
theorem step_back {ws : List (List ItemL)} {ps : List Int} {sh : List (List Spot)} (hok : OkW ws) (hl : ps.length = ws.length) (hin : InW ws ps) (hsh : SharedP ws sh) (hub : ∀ q, ChP ws q → ∀ i, (hq : i < q.length) → (ho : i < ps.length) → q[i] ≤ ps[i])
    {src : List Spot} (hs : src ∈ sh) {p r : Spot} (hp : p ∈ src) (hr : r ∈ src) (hlt : verM ws ps r < verM ws ps p) : ∀ q, ChP ws q → ∀ (hq : p.1 < q.length) (ho : p.1 < ps.length), q[p.1] < ps[p.1] := by
  intro q hc hq ho
  obtain ⟨s, hall⟩ := hsh.1 src hs
  have p0 := hall p hp
  have r0 := hall r hr
  have hpw := p0.1
  have hrw := r0.1
  obtain ⟨_, _, _, e1, _⟩ := verM_eq hok hl hin p0
  obtain ⟨_, _, _, e2, _⟩ := verM_eq hok hl hin r0
  obtain ⟨_, _, _, f1, _⟩ := verM_eq hok hc.2.1 hc.2.2.1 p0
  obtain ⟨_, _, _, f2, _⟩ := verM_eq hok hc.2.1 hc.2.2.1 r0
  have e := (agW_iff hok hc.2.1 hc.2.2.1 hsh).1 hc.2.2.2 src hs p hp r hr
  obtain ⟨a1, b1⟩ := pk_eq hin (i := r.1) (by omega) hrw
  obtain ⟨a2, b2⟩ := pk_eq hc.2.2.1 (i := r.1) (by rw [hc.2.1]; exact hrw) hrw
  obtain ⟨a3, b3⟩ := pk_eq hin (i := p.1) (by omega) hpw
  obtain ⟨a4, b4⟩ := pk_eq hc.2.2.1 (i := p.1) (by rw [hc.2.1]; exact hpw) hpw
  have u1 := hub q hc r.1 (by rw [hc.2.1]; exact hrw) (by omega)
  have l1 := (hok.2.2 r.1 hrw).le (i := (q[r.1]'(by rw [hc.2.1]; exact hrw)).toNat) (j := (ps[r.1]'(by omega)).toNat) (by omega) a1 s
  rw [← b1, ← b2] at l1
  have c0 := hin.2 p.1 ho
  have d0 := hc.2.2.1.2 p.1 hq
  by_cases hge : q[p.1] < ps[p.1]
  · exact hge
  · exfalso
    have l2 := (hok.2.2 p.1 hpw).le (i := (ps[p.1]'(by omega)).toNat) (j := (q[p.1]'(by rw [hc.2.1]; exact hpw)).toNat) (by omega) a4 s
    rw [← b3, ← b4] at l2
    omega

end Go.Proofs.YtpfhegengmlkmacGreatDoor
/- Mathematics: the join of a choice, stamp by stamp. -/
namespace Go.Proofs.YtpfhegengmlkmacGreatDoor

theorem isJ_stamp {a b m : List (ByteArray × Int)} {ok : Bool} (h : IsJ a b m ok) : StampP m := by
  cases ok
  · rw [h.none]; exact stampP_nil
  · exact h.fits.2.2.2

/-- The join of the stamps of the first k of a choice. -/
def JoinsTo (ws : List (List ItemL)) (ps : List Int) : Nat → List (ByteArray × Int) → Prop
  | 0, m => m = []
  | k + 1, m => ∃ q, JoinsTo ws ps k q ∧ IsJ q (pkM ws ps k) m true
theorem JoinsTo.one {ws : List (List ItemL)} {ps : List Int} : ∀ {k : Nat} {a b : List (ByteArray × Int)}, JoinsTo ws ps k a → JoinsTo ws ps k b → a = b
  | 0, a, b, h1, h2 => by rw [show a = [] from h1, show b = [] from h2]
  | k + 1, a, b, ⟨q, h1, h2⟩, ⟨q', h3, h4⟩ => by
    obtain rfl := h1.one h3
    exact (h2.one h4).1
theorem JoinsTo.pre {ws : List (List ItemL)} {ps : List Int} : ∀ {n : Nat} {m : List (ByteArray × Int)}, JoinsTo ws ps n m → ∀ k, k < n → ∃ q r, JoinsTo ws ps k q ∧ IsJ q (pkM ws ps k) r true
  | n + 1, m, ⟨q, h1, h2⟩, k, hk => by
    by_cases e : k = n
    · subst e; exact ⟨q, m, h1, h2⟩
    · exact h1.pre k (by omega)
theorem JoinsTo.stamp {ws : List (List ItemL)} {ps : List Int} : ∀ {k : Nat} {m : List (ByteArray × Int)}, JoinsTo ws ps k m → StampP m
  | 0, m, h => by rw [show m = [] from h]; exact stampP_nil
  | k + 1, m, ⟨q, _, h2⟩ => isJ_stamp h2
/-- Some stamp does not fit. -/
def JoinsNot (ws : List (List ItemL)) (ps : List Int) : Prop := ∃ k q m, k < ps.length ∧ JoinsTo ws ps k q ∧ IsJ q (pkM ws ps k) m false
/-- What the join of a choice is. -/
def IsCJ (ws : List (List ItemL)) (ps : List Int) (m : List (ByteArray × Int)) (ok : Bool) : Prop :=
  (ok = true ∧ ChP ws ps ∧ JoinsTo ws ps ps.length m) ∨ (ok = false ∧ m = [] ∧ (¬ ChP ws ps ∨ JoinsNot ws ps))
theorem joinsNot_not {ws : List (List ItemL)} {ps : List Int} {m : List (ByteArray × Int)} (h : JoinsNot ws ps) (hj : JoinsTo ws ps ps.length m) : False := by
  obtain ⟨k, q, r, hk, h1, h2⟩ := h
  obtain ⟨q', r', h3, h4⟩ := hj.pre k hk
  obtain rfl := h1.one h3
  have := (h2.one h4).2
  cases this
theorem IsCJ.one {ws : List (List ItemL)} {ps : List Int} {m m' : List (ByteArray × Int)} {ok ok' : Bool} (h : IsCJ ws ps m ok) (k : IsCJ ws ps m' ok') : m = m' ∧ ok = ok' := by
  rcases h with ⟨rfl, h1, h2⟩ | ⟨rfl, rfl, h2⟩
  · rcases k with ⟨rfl, k1, k2⟩ | ⟨rfl, rfl, k2⟩
    · exact ⟨h2.one k2, rfl⟩
    · rcases k2 with k2 | k2
      · exact absurd h1 k2
      · exact (joinsNot_not k2 h2).elim
  · rcases k with ⟨rfl, k1, k2⟩ | ⟨rfl, rfl, k2⟩
    · rcases h2 with h2 | h2
      · exact absurd k1 h2
      · exact (joinsNot_not h2 k2).elim
    · exact ⟨rfl, rfl⟩
theorem IsCJ.stamp {ws : List (List ItemL)} {ps : List Int} {m : List (ByteArray × Int)} {ok : Bool} (h : IsCJ ws ps m ok) : StampP m := by
  rcases h with ⟨rfl, _, h2⟩ | ⟨rfl, rfl, _⟩
  · exact h2.stamp
  · exact stampP_nil

end Go.Proofs.YtpfhegengmlkmacGreatDoor
/- Mathematics: all choices that agree, in the order of their places; the greatest of them. -/
namespace Go.Proofs.YtpfhegengmlkmacGreatDoor

/-- All choices that begin so, with the places in m windows more. -/
def allL (ws : List (List ItemL)) : Nat → List Int → List (List Int)
  | 0, ps => [ps]
  | m + 1, ps => (List.range (ws.getD ps.length []).length).flatMap fun i : Nat => allL ws m (ps ++ [(i : Int)])

theorem pkM_pre {ws : List (List ItemL)} {ps qs : List Int} {i : Nat} (h : i < ps.length) : pkM ws (ps ++ qs) i = pkM ws ps i := by
  unfold pkM
  have e : (ps ++ qs).getD i 0 = ps.getD i 0 := by simp [List.getD, List.getElem?_append_left h]
  rw [e]

theorem AgW.pre {ws : List (List ItemL)} {ps qs : List Int} (h : AgW ws (ps ++ qs)) : AgW ws ps := fun i k hk hi => by
  have h1 := h i k hk (by simp; omega)
  rw [pkM_pre hi, pkM_pre (by omega)] at h1
  exact h1

theorem allL_pre {ws : List (List ItemL)} : ∀ (m : Nat) (ps q : List Int), q ∈ allL ws m ps → ∃ r, q = ps ++ r ∧ r.length = m
  | 0, ps, q, h => by
    obtain rfl : q = ps := by simpa [allL] using h
    exact ⟨[], by simp, rfl⟩
  | m + 1, ps, q, h => by
    simp only [allL, List.mem_flatMap, List.mem_range] at h
    obtain ⟨i, _, h⟩ := h
    obtain ⟨r, rfl, hr⟩ := allL_pre m _ _ h
    exact ⟨(i : Int) :: r, by simp, by simp [hr]⟩

open Classical in
/-- Those of them that agree. -/
noncomputable def foundL (ws : List (List ItemL)) (m : Nat) (ps : List Int) : List (List Int) := (allL ws m ps).filter fun q => decide (AgW ws q)

theorem foundL_no {ws : List (List ItemL)} {m : Nat} {ps : List Int} (h : ¬ AgW ws ps) : foundL ws m ps = [] := by
  classical
  unfold foundL
  rw [List.filter_eq_nil_iff]
  intro q hq
  obtain ⟨r, rfl, _⟩ := allL_pre m ps q hq
  simp only [decide_eq_true_eq]
  exact fun h2 => h h2.pre

theorem foundL_zero {ws : List (List ItemL)} {ps : List Int} (h : AgW ws ps) : foundL ws 0 ps = [ps] := by
  classical
  unfold foundL
  simp [allL, h]

/-- The first k of the next window's places. -/
noncomputable def foundK (ws : List (List ItemL)) (m : Nat) (ps : List Int) (k : Nat) : List (List Int) := (List.range k).flatMap fun i : Nat => foundL ws m (ps ++ [(i : Int)])
theorem foundK_zero (ws : List (List ItemL)) (m : Nat) (ps : List Int) : foundK ws m ps 0 = [] := rfl
theorem foundK_succ (ws : List (List ItemL)) (m : Nat) (ps : List Int) (k : Nat) : foundK ws m ps (k + 1) = foundK ws m ps k ++ foundL ws m (ps ++ [(k : Int)]) := by
  unfold foundK
  simp [List.range_succ, List.flatMap_append]
theorem foundL_succ (ws : List (List ItemL)) (m : Nat) (ps : List Int) : foundL ws (m + 1) ps = foundK ws m ps (ws.getD ps.length []).length := by
  classical
  unfold foundL foundK allL foundL
  rw [List.filter_flatMap]

theorem mem_allL {ws : List (List ItemL)} : ∀ (m : Nat) (ps q : List Int), ps.length + m ≤ ws.length → InW ws ps → (q ∈ allL ws m ps ↔ ∃ r, q = ps ++ r ∧ r.length = m ∧ InW ws q)
  | 0, ps, q, hm, hin => by
    constructor
    · intro h
      obtain rfl : q = ps := by simpa [allL] using h
      exact ⟨[], by simp, rfl, hin⟩
    · rintro ⟨r, rfl, hr, _⟩
      obtain rfl := List.length_eq_zero_iff.1 hr
      simp [allL]
  | m + 1, ps, q, hm, hin => by
    have hin2 : ∀ i : Nat, i < (ws.getD ps.length []).length → InW ws (ps ++ [(i : Int)]) := fun i hi => by
      refine ⟨by simp; omega, fun j hj => ?_⟩
      simp only [List.length_append, List.length_singleton] at hj
      by_cases e : j < ps.length
      · rw [List.getElem_append_left e]
        exact hin.2 j e
      · obtain rfl : j = ps.length := by omega
        simp only [List.getElem_concat_length]
        omega
    simp only [allL, List.mem_flatMap, List.mem_range]
    constructor
    · rintro ⟨i, hi, h⟩
      obtain ⟨r, rfl, hr, h3⟩ := (mem_allL m _ q (by simp; omega) (hin2 i hi)).1 h
      exact ⟨(i : Int) :: r, by simp, by simp [hr], h3⟩
    · rintro ⟨r, rfl, hr, h3⟩
      match r, hr with
      | x :: r, hr =>
        have hx := h3.2 ps.length (by simp)
        have e : (ps ++ x :: r)[ps.length]'(by simp) = x := by simp
        rw [e] at hx
        refine ⟨x.toNat, by omega, ?_⟩
        have ex : ((x.toNat : Nat) : Int) = x := by omega
        refine (mem_allL m _ _ (by simp; omega) (hin2 x.toNat (by omega))).2 ⟨r, by rw [ex]; simp, by simpa using hr, h3⟩

theorem chP_iff {ws : List (List ItemL)} {q : List Int} : ChP ws q ↔ OkW ws ∧ q ∈ foundL ws ws.length [] := by
  classical
  unfold foundL
  rw [List.mem_filter, mem_allL ws.length [] q (by simp) ⟨by simp, fun i hi => by simp at hi⟩]
  simp only [decide_eq_true_eq, List.nil_append]
  constructor
  · rintro ⟨h1, h2, h3, h4⟩
    exact ⟨h1, ⟨q, rfl, h2, h3⟩, h4⟩
  · rintro ⟨h1, ⟨r, rfl, h2, h3⟩, h4⟩
    exact ⟨h1, h2, h3, h4⟩

/-- Place by place the greatest of some choices. -/
def topL (b : List Int) (L : List (List Int)) : List Int := L.foldl (List.zipWith max) b

theorem topL_ch {ws : List (List ItemL)} : ∀ (L : List (List Int)) (b : List Int), ChP ws b → (∀ q ∈ L, ChP ws q) → ChP ws (topL b L) ∧ (∀ i, (hb : i < b.length) → (ht : i < (topL b L).length) → b[i] ≤ (topL b L)[i]) ∧ ∀ q ∈ L, ∀ i, (hq : i < q.length) → (ht : i < (topL b L).length) → q[i] ≤ (topL b L)[i]
  | [], b, hb, _ => ⟨hb, fun i h1 h2 => Int.le_refl _, fun q hq => by simp at hq⟩
  | p :: L, b, hb, hL => by
    have hp := hL p (by simp)
    obtain ⟨h1, h2, h3⟩ := topL_ch L (List.zipWith max b p) (chP_max hb hp) (fun q hq => hL q (by simp [hq]))
    have lb := hb.2.1
    have lp := hp.2.1
    have lt := h1.2.1
    have e : topL b (p :: L) = topL (List.zipWith max b p) L := rfl
    rw [e]
    refine ⟨h1, fun i hi ht => ?_, fun q hq i hi ht => ?_⟩
    · have h4 := h2 i (by simp; omega) ht
      rw [List.getElem_zipWith] at h4
      omega
    · rcases List.mem_cons.1 hq with rfl | hq
      · have h4 := h2 i (by simp; omega) ht
        rw [List.getElem_zipWith] at h4
        omega
      · exact h3 q hq i hi ht

theorem topL_best {ws : List (List ItemL)} (hok : OkW ws) {b : List Int} {L : List (List Int)} (h : foundL ws ws.length [] = b :: L) : BestP ws (topL b (b :: L)) true := by
  have hall : ∀ q ∈ b :: L, ChP ws q := fun q hq => chP_iff.2 ⟨hok, by rw [h]; exact hq⟩
  obtain ⟨h1, _, h3⟩ := topL_ch (b :: L) b (hall b (by simp)) hall
  refine .inl ⟨rfl, h1, fun q hq i hi ho => ?_⟩
  have hm := (chP_iff.1 hq).2
  rw [h] at hm
  exact h3 q hm i hi ho

theorem none_best {ws : List (List ItemL)} (h : ¬ OkW ws ∨ foundL ws ws.length [] = []) : BestP ws [] false := by
  refine .inr ⟨rfl, rfl, fun q hq => ?_⟩
  obtain ⟨h1, h2⟩ := chP_iff.1 hq
  rcases h with h | h
  · exact h h1
  · rw [h] at h2
    simp at h2

end Go.Proofs.YtpfhegengmlkmacGreatDoor
/- Walks: l3All. -/
namespace Go.Proofs.YtpfhegengmlkmacGreatDoor
open Go.RowKit Go.BigFrame
set_option maxRecDepth 100000

theorem Tryz.infoZ1 : (Tryz.prog.info? 3).map (fun i => (i.zero, i.size, i.bytes)) = some (some (.int .i64 0), 1, 8) := by kernel_rfl
theorem Tryz.infoZ2 : (Tryz.prog.info? 37).map (fun i => (i.zero, i.size, i.bytes)) = some (some (.slice none 0 0), 1, 24) := by kernel_rfl

theorem allL_len {ws : List (List ItemL)} (h4 : ∀ k, (h : k < ws.length) → ws[k].length ≤ 4) : ∀ (m : Nat) (ps : List Int), (allL ws m ps).length ≤ 4 ^ m
  | 0, ps => by simp [allL]
  | m + 1, ps => by
    simp only [allL, List.length_flatMap]
    have hn : (ws.getD ps.length []).length ≤ 4 := by
      by_cases h : ps.length < ws.length
      · rw [getD_at h]; exact h4 _ h
      · simp [List.getD, List.getElem?_eq_none (by omega : ws.length ≤ ps.length)]
    have hs : ∀ n : Nat, ((List.range n).map fun i : Nat => (allL ws m (ps ++ [(i : Int)])).length).sum ≤ n * 4 ^ m := fun n => by
      induction n with
      | zero => simp
      | succ n ih =>
        rw [List.range_succ, List.map_append, List.sum_append]
        have := allL_len h4 m (ps ++ [(n : Int)])
        simp only [List.map_cons, List.map_nil, List.sum_cons, List.sum_nil]
        rw [Nat.succ_mul]
        omega
    have h1 := hs (ws.getD ps.length []).length
    have h2 : (ws.getD ps.length []).length * 4 ^ m ≤ 4 * 4 ^ m := Nat.mul_le_mul_right _ hn
    have h3 : 4 ^ (m + 1) = 4 * 4 ^ m := by rw [Nat.pow_succ]; omega
    omega
theorem foundL_len {ws : List (List ItemL)} (h4 : ∀ k, (h : k < ws.length) → ws[k].length ≤ 4) (m : Nat) (ps : List Int) : (foundL ws m ps).length ≤ 4 ^ m := by
  unfold foundL
  exact Nat.le_trans (List.length_filter_le _ _) (allL_len h4 m ps)
theorem foundK_len {ws : List (List ItemL)} (h4 : ∀ k, (h : k < ws.length) → ws[k].length ≤ 4) (m : Nat) (ps : List Int) (k : Nat) : (foundK ws m ps k).length ≤ k * 4 ^ m := by
  induction k with
  | zero => simp [foundK]
  | succ k ih =>
    rw [foundK_succ, List.length_append, Nat.succ_mul]
    have := foundL_len h4 m (ps ++ [(k : Int)])
    omega

theorem RowZ.grown {w w' : World} {a : Option Addr} {ps : List Int} {r : Option Nat} (h : RowZ w a ps) (hg : w.grownBy w' r) (hne : ∀ b o, a = some ⟨b, o, none⟩ → some b ≠ r) : RowZ w' a ps := fun k hk => by
  obtain ⟨b, o, e, h1, h2⟩ := h k hk
  exact ⟨b, o, e, Nat.lt_of_lt_of_le h1 hg.size, grown_cell hg (hne b o e) h2⟩
theorem GathN.rowz {w : World} {B g cap n : Nat} {l : List Int} (h : GathN w B (.slice (some ⟨g, 0, none⟩) n cap) l) (hn : n = l.length) (h0 : 0 < l.length) : RowZ w (some ⟨g, 0, none⟩) l := fun k hk => by
  subst hn
  obtain ⟨g', cap', e, _, h2, _, h3⟩ := h.shape h0
  obtain ⟨rfl, rfl⟩ : g = g' ∧ cap = cap' := by simpa using e
  exact ⟨g, 0, rfl, h2, by rw [Nat.zero_add]; exact h3 k hk⟩
theorem rowz_news {w : World} {b o : Nat} {l : List Int} (h : RowZ w (some ⟨b, o, none⟩) l) : ∀ j u, (l.map fun x => Value.int .i64 x)[j]? = some u → w.cell? ((⟨b, o, none⟩ : Addr).add j) = some u := by
  intro j u hj
  have hjl : j < l.length := by have := (List.getElem?_eq_some_iff.1 hj).1; simpa using this
  have e : (⟨b, o, none⟩ : Addr).add j = ⟨b, o + j, none⟩ := by unfold Addr.add; by_cases h : j = 0 <;> simp [h]
  obtain ⟨b', o', ha, _, c0⟩ := h j hjl
  obtain ⟨rfl, rfl⟩ : b = b' ∧ o = o' := by simpa using ha
  rw [e, c0]
  simpa [hjl] using hj

theorem in_snoc {ws : List (List ItemL)} {ps : List Int} (hin : InW ws ps) (hp : ps.length < ws.length) {i : Nat} (hi : i < ws[ps.length].length) : InW ws (ps ++ [(i : Int)]) := by
  refine ⟨by simp; omega, fun j hj => ?_⟩
  simp only [List.length_append, List.length_singleton] at hj
  by_cases e : j < ps.length
  · rw [List.getElem_append_left e]
    exact hin.2 j e
  · obtain rfl : j = ps.length := by omega
    rw [getD_at hp]
    simp only [List.getElem_concat_length]
    omega

/-- append of nil onto a literal of none. -/
theorem wpList_append_nil {P : Program} (w : World) {ops : Array Oper} {rest : List Oper} {o : Oper} {a : Act} {Q : Exit → Act → World → Prop} (hgd : o.guard = none) (s x : Operand) (t : TypeId)
    (ho : o.op = .call { callee := .builtin .append, args := #[s, x], argTypes := #[t, t] }) (e : TypeId) (i : TypeInfo) (ht : P.underlying t = some (.slice e)) (hi : P.info? e = some i) (va : Addr) (c : Nat) (hs : a.eval s = .slice (some va) 0 0) (hx : a.eval x = .slice none 0 c)
    (h : wpList P ops Q rest (a.put o.dst (.slice (some va) 0 0)) w) : wpList P ops Q (o :: rest) a w := by
  refine wpList_plain hgd fun K hK => ?_
  have hr : (Builtin.append_ #[t, t] o.type #[.slice (some va) 0 0, .slice none 0 c]).run P w = .ok (.slice (some va) 0 0) w := by
    simp [Builtin.append_, run_underlying ht, sizeOf, typeInfo, hi, Builtin.lenOf, Builtin.firstCells, storeCells]
  unfold Oper.wp execOp
  simp only [ho, resolve, invoke, builtin, Sem.run_bind, Sem.run_pure, Result.andThen_ok, List.map_toArray, List.map_cons, List.map_nil, hs, hx, hr]
  exact hK _ _ h

/-- append of all numbers of a slice onto a literal of none. -/
theorem wpList_append_nums {ops : Array Oper} {rest : List Oper} {o : Oper} {a : Act} {w : World} {Q : Exit → Act → World → Prop} (hgd : o.guard = none) (s x : Operand)
    (ho : o.op = .call { callee := .builtin .append, args := #[s, x], argTypes := #[37, 37] }) (base e0 cap : Nat) (a' : Option Addr) (l : List Int) (hs : a.eval s = .slice (some ⟨e0, 0, none⟩) 0 0) (he : w.heap[e0]? = some (.cells #[] 3 (0, 0))) (hb : base ≤ e0)
    (hx : a.eval x = .slice a' l.length cap) (hr : RowZ w a' l) (h0 : l = [] → a' = none) (hl : l.length ≤ 1048576)
    (h : ∀ g' cap' w', GathN w' base (.slice (some ⟨g', 0, none⟩) l.length cap') l → w.grownBy w' (some e0) → e0 ≤ g' → wpList Tryz.prog ops Q rest (a.put o.dst (.slice (some ⟨g', 0, none⟩) l.length cap')) w') : wpList Tryz.prog ops Q (o :: rest) a w := by
  obtain ⟨i0, hi, hz0, hz1, hz2⟩ := info_parts Tryz.infoZ1
  have hlt : e0 < w.heap.size := (Array.getElem?_eq_some_iff.1 he).1
  have hown : w.ownsRow base 3 1 (.slice (some ⟨e0, 0, none⟩) 0 0) 0 [] := ⟨rfl, .inr ⟨e0, 0, #[], rfl, hb, he, Nat.le_refl _, Nat.zero_le _, rfl, rfl⟩⟩
  by_cases hn : l = []
  · subst hn
    obtain rfl := h0 rfl
    exact wpList_append_nil w hgd s x 37 ho 3 i0 Tryz.underlying37 hi _ cap hs hx (h e0 0 w hown ⟨rfl, rfl, rfl, Nat.le_refl _, fun _ _ _ => rfl⟩ (Nat.le_refl _))
  · have hpos : 0 < l.length := List.length_pos_iff.2 hn
    obtain ⟨b, off, rfl, _⟩ := hr 0 hpos
    refine wpList_append_lies w hgd s x 37 ho base 3 i0 (.int .i64 0) 1 8 Tryz.underlying37 hi hz0 hz1 hz2 rfl (by decide) _ _ _ hs hown ⟨b, off, none⟩ l.length cap (l.map fun x => .int .i64 x) hx (by simp) (rowz_news hr) (by simp [Value.oneCell']) hpos (by unfold maxLen; omega) (by omega) (Nat.le_trans hb (Nat.le_of_lt hlt)) _ rfl ?_
    intro g' cap' w' h1 h2 h3 _
    simp only [Nat.zero_add, List.nil_append] at h1 ⊢
    exact h g' cap' w' h1 h2 (by
      rcases h3 with h3 | h3
      · simp [Value.ownBlock] at h3; omega
      · omega)

set_option maxHeartbeats 3200000 in
theorem l3All_any (W0 : World) (B : Nat) (a : Option Addr) (cap : Nat) (ws : List (List ItemL)) (hW0 : W0.heap.size ≤ B) (hf : FitW ws) (hr : RowW W0 a ws) (h6 : ws.length ≤ 6) (h4 : ∀ k, (h : k < ws.length) → ws[k].length ≤ 4) :
    ∀ (m : Nat) (a' : Option Addr) (cap' : Nat) (ps : List Int) (v : Value) (L : List (List Int × Nat × Nat)) (w : World), Below W0.heap.size W0 w → RowZ w a' ps → (ps = [] → a' = none) → (∀ b o, a' = some ⟨b, o, none⟩ → some b ≠ v.ownBlock) → InW ws ps → ps.length + m = ws.length → GathU w B v L → B ≤ w.heap.size → L.length + 4 ^ m ≤ 100000 →
    Calls Tryz.prog 83 #[.slice a ws.length cap, .slice a' ps.length cap', v] w fun e w' => (∃ v' L', e = .returned v' ∧ GathU w' B v' L' ∧ L'.map (·.1) = L.map (·.1) ++ foundL ws m ps ∧ (v'.ownBlock = v.ownBlock ∨ ∃ g, v'.ownBlock = some g ∧ w.heap.size ≤ g)) ∧ w.grownBy w' v.ownBlock := by
  intro m
  induction m with
  | zero =>
    intro a' cap' ps v L w hb hr' h0 hne hin hm hg hB hlen
    obtain ⟨i2, hi2, hy0, hy1, hy2⟩ := info_parts Tryz.infoZ2
    have hl := hf.1
    unfold maxLen at hl
    simp only [Nat.pow_zero] at hlen
    have hps : ps.length ≤ 6 := by omega
    have hpm : ps.length ≤ maxLen := by unfold maxLen; omega
    go_enter Tryz.func83, Tryz.ntmps83
    go_wp2_with fail
    refine (l3Agrees_any a cap ws a' cap' ps _ hf (hr.below hb) hpm hr' hin).mono ?_
    rintro e w1 ⟨⟨r, rfl, hr1⟩, b1⟩
    have HR : Hid (r = true ↔ AgW ws ps) := hr1
    clear hr1
    cases r
    · have HF : Hid (foundL ws 0 ps = []) := foundL_no (fun h => by simpa using HR.out.2 h)
      clear HR
      go_wp2_with fail
      go_ret
      exact ⟨⟨v, L, rfl, hg.keep b1, by rw [HF.out]; simp, .inl rfl⟩, grown_below b1 _⟩
    · have HF : Hid (foundL ws 0 ps = [ps]) := foundL_zero (HR.out.1 rfl)
      have heq : ((ps.length : Int) == (ws.length : Int)) = true := by rw [beq_iff_eq]; omega
      have hg1 := hg.keep b1
      have hr1 := hr'.below b1
      have z1 := b1.size
      clear HR hg hr'
      go_wp2_with (first
        | (at_builtin; refine wpList_append_nums rfl _ _ rfl B w1.heap.size cap' a' ps rfl (heap_alloc_new w1 _) (by omega) rfl (hr1.below ((Below.refl _ _).alloc (Nat.le_refl _) _)) h0 (by omega) ?_; intro g2 c2 w2 hn2 hgr2 hge2;
           have b2 : Below w1.heap.size w1 w2 := ((Below.refl _ _).alloc (Nat.le_refl _) _).grown hgr2 (by simp) (fun k e => by cases e; exact Nat.le_refl _);
           have hg2 := hg1.keep b2; have z2 := b2.size;
           have hbx : Below w2.heap.size w2 (w2.alloc (.cells #[.slice (some ⟨g2, 0, none⟩) ps.length c2] 37)) := (Below.refl _ _).alloc (Nat.le_refl _) _)
        | (at_builtin; refine wpList_append_own_at _ rfl _ _ 139 rfl B 37 i2 (.slice none 0 0) 1 24 Tryz.underlying139 hi2 hy0 hy1 hy2 rfl (by decide) _ _ _ rfl (own_keep hg2.1 hbx) ⟨w2.heap.size, 0, none⟩ 1 1 [.slice (some ⟨g2, 0, none⟩) ps.length c2] rfl rfl (cell_one_new _ _ _) (by simp [Value.oneCell']) (by unfold maxLen; omega) (by omega) (by simp; omega) ?_; intro v3 w3 hown3 hgr3 _ hloc3))
      go_ret
      have hall : Below w.heap.size w (w2.alloc (.cells #[.slice (some ⟨g2, 0, none⟩) ps.length c2] 37)) := (b1.trans (b2.mono z1)).alloc (by omega) _
      refine ⟨⟨v3, L ++ [(ps, g2, c2)], rfl, GathU.snoc (hg2.keep hbx) (own_keep hn2 hbx) (by decide) hown3 hgr3, by rw [HF.out]; simp, ?_⟩, grown_then (grown_below hall _) hgr3 (.inl rfl)⟩
      rcases hloc3 with e | e
      · exact .inl e
      · exact .inr ⟨_, e, by simp; omega⟩
  | succ m ih =>
    intro a' cap' ps v L w hb hr' h0 hne hin hm hg hB hlen
    obtain ⟨i1, hi1, hz0, hz1, hz2⟩ := info_parts Tryz.infoZ1
    have hl := hf.1
    unfold maxLen at hl
    have h41 : 4 ^ (m + 1) = 4 * 4 ^ m := by rw [Nat.pow_succ]; omega
    have hps : ps.length ≤ 6 := by omega
    have hpw : ps.length < ws.length := by omega
    have hpm : ps.length ≤ maxLen := by unfold maxLen; omega
    go_enter Tryz.func83, Tryz.ntmps83
    go_wp2_with fail
    refine (l3Agrees_any a cap ws a' cap' ps _ hf (hr.below hb) hpm hr' hin).mono ?_
    rintro e w1 ⟨⟨r, rfl, hr1⟩, b1⟩
    have HR : Hid (r = true ↔ AgW ws ps) := hr1
    clear hr1
    cases r
    · have HF : Hid (foundL ws (m + 1) ps = []) := foundL_no (fun h => by simpa using HR.out.2 h)
      clear HR
      go_wp2_with fail
      go_ret
      exact ⟨⟨v, L, rfl, hg.keep b1, by rw [HF.out]; simp, .inl rfl⟩, grown_below b1 _⟩
    · have HF : Hid (foundL ws (m + 1) ps = foundK ws m ps ws[ps.length].length) := by
        rw [foundL_succ, getD_at hpw]
        trivial
      have heq : ((ps.length : Int) == (ws.length : Int)) = false := by rw [beq_eq_false_iff_ne]; omega
      have hg1 := hg.keep b1
      have hr1 := hr'.below b1
      have z1 := b1.size
      have hz0' := hb.size
      have hb1 : Below W0.heap.size W0 w1 := hb.trans (b1.mono hz0')
      obtain ⟨bw, ow, rfl, gw, sw, tw, ew, _, _⟩ := hr ps.length hpw
      have ew1 := cell_on hb1 gw ew
      have k0 : (0 : Int) ≤ (ps.length : Int) := by omega
      have k1 : (ps.length : Int) < (ws.length : Int) := by omega
      have hw4 := h4 ps.length hpw
      have hvB := own_from hg.1
      clear HR hg hr'
      go_wp2_with fail
      go_loopw [2, 8] (fun u i wr => ∃ (k : Nat) (L' : List (List Int × Nat × Nat)), k ≤ ws[ps.length].length ∧ i = .int .i64 k ∧ GathU wr B u L' ∧ Hid (L'.map (·.1) = L.map (·.1) ++ foundK ws m ps k) ∧ (u.ownBlock = v.ownBlock ∨ ∃ g, u.ownBlock = some g ∧ w.heap.size ≤ g) ∧ w.grownBy wr v.ownBlock ∧ RowZ wr a' ps ∧ (∀ b o, a' = some ⟨b, o, none⟩ → some b ≠ u.ownBlock)) (fun _ i _ => ws[ps.length].length - (intOf i).toNat)
      case atStart => exact ⟨0, L, Nat.zero_le _, rfl, hg1, by unfold Hid; rw [foundK_zero]; simp, .inl rfl, grown_below b1 _, hr1, hne⟩
      case round =>
        obtain ⟨k, L', hk, rfl, hgU, HL, hloc, hgw, hrz, hnu⟩ := hrel
        clear hg1 hr1 ew1 b1 z1 hb1 hne
        by_cases hlt : k < ws[ps.length].length
        · have j0 : (0 : Int) ≤ (k : Int) := by omega
          have j1 : (k : Int) < (ws[ps.length].length : Int) := by omega
          have zr := hgw.size
          go_wp2_with (first
            | (at_builtin; refine wpList_append_nums rfl _ _ rfl B wr.heap.size cap' a' ps rfl (heap_alloc_new wr _) (by omega) rfl (hrz.below ((Below.refl _ _).alloc (Nat.le_refl _) _)) h0 (by omega) ?_; intro g2 c2 w2 hn2 hgr2 hge2;
               have b2 : Below wr.heap.size wr w2 := ((Below.refl _ _).alloc (Nat.le_refl _) _).grown hgr2 (by simp) (fun k e => by cases e; exact Nat.le_refl _);
               have z2 := b2.size;
               have hbx : Below w2.heap.size w2 (w2.alloc (.cells #[.int .i64 k] 3)) := (Below.refl _ _).alloc (Nat.le_refl _) _)
            | (at_builtin; refine wpList_append_lies _ rfl _ _ 37 rfl B 3 i1 (.int .i64 0) 1 8 Tryz.underlying37 hi1 hz0 hz1 hz2 rfl (by decide) _ _ _ rfl (own_keep hn2 hbx) ⟨w2.heap.size, 0, none⟩ 1 1 [.int .i64 k] rfl rfl (cell_one_new _ _ _) (by simp [Value.oneCell']) (by decide) (by unfold maxLen; omega) (by omega) (by simp; omega) _ rfl ?_; intro g3 c3 w3 hown3 hgr3 _ hlt3))
          have b3 : Below wr.heap.size wr w3 := (b2.alloc z2 _).grown hgr3 (by simp; omega) (fun k e => by have e2 : some g2 = some k := e; cases e2; omega)
          have z3 := b3.size
          have hn3 : GathN w3 B (.slice (some ⟨g3, 0, none⟩) (ps.length + 1) c3) (ps ++ [(k : Int)]) := by
            unfold GathN
            rw [List.length_append, List.map_append]
            exact hown3
          have hg3 := hgU.keep b3
          have hbr : Below W0.heap.size W0 wr := hb.grown hgw hz0' (fun k e => Nat.le_trans hW0 (hvB k e))
          have hne3 : ∀ b o, (some ⟨g3, 0, none⟩ : Option Addr) = some ⟨b, o, none⟩ → some b ≠ u2.ownBlock := fun b o e q => by
            obtain ⟨rfl, rfl⟩ : g3 = b ∧ 0 = o := by simpa using e
            rcases own_types hn3 hg3.1 (by decide) with h | h
            · simp [Value.ownBlock] at h
            · exact h (by simpa [Value.ownBlock] using q)
          have hLl : L'.length + 4 ^ m ≤ 100000 := by
            have h1 := congrArg List.length HL.out
            have h2 := foundK_len h4 m ps k
            have h3 : k * 4 ^ m ≤ 3 * 4 ^ m := Nat.mul_le_mul_right _ (by omega)
            simp only [List.length_map, List.length_append] at h1
            omega
          have hih := ih (some ⟨g3, 0, none⟩) c3 (ps ++ [(k : Int)]) u2 L' w3 (hbr.trans (b3.mono hbr.size)) (hn3.rowz (by simp) (by simp)) (fun h => by simp at h) hne3 (in_snoc hin hpw hlt) (by simp; omega) hg3 (by omega) hLl
          rw [List.length_append, List.length_singleton] at hih
          refine hih.mono ?_
          rintro e w4 ⟨⟨v4, L4, rfl, hg4, HL4, hloc4⟩, hgr4⟩
          have HLn : Hid (L4.map (·.1) = L.map (·.1) ++ foundK ws m ps (k + 1)) := by
            unfold Hid
            rw [HL4, HL.out, foundK_succ, List.append_assoc]
          have hgw4 : w.grownBy w4 v.ownBlock := grown_then (grown_then hgw (grown_below b3 _) (.inl rfl)) hgr4 hloc
          have hloc' : v4.ownBlock = v.ownBlock ∨ ∃ g, v4.ownBlock = some g ∧ w.heap.size ≤ g := by
            rcases hloc4 with e | ⟨g, e, hle⟩
            · rw [e]; exact hloc
            · exact .inr ⟨g, e, by omega⟩
          have hrz4 : RowZ w4 a' ps := (hrz.below b3).grown hgr4 hnu
          have hnu4 : ∀ b o, a' = some ⟨b, o, none⟩ → some b ≠ v4.ownBlock := fun b o e q => by
            by_cases hp0 : ps = []
            · have := h0 hp0
              rw [this] at e
              simp at e
            · obtain ⟨b', o', e', hl', _⟩ := hrz 0 (List.length_pos_iff.2 hp0)
              rw [e] at e'
              obtain ⟨rfl, rfl⟩ : b = b' ∧ o = o' := by simpa using e'
              rcases hloc4 with e4 | ⟨g, e4, hle⟩
              · exact hnu b o e (q.trans e4)
              · rw [e4] at q
                cases q
                omega
          clear hih HL HL4 hgr4 hg3 hn3 hown3 hgr3 hn2 hgr2 hgU
          go_wp2_with fail
          exact ⟨⟨k + 1, L4, by omega, by go_num, hg4, HLn, hloc', hgw4, hrz4, hnu4⟩, by simp [intOf]; omega⟩
        · have HL2 : Hid (L'.map (·.1) = L.map (·.1) ++ foundL ws (m + 1) ps) := by
            unfold Hid
            rw [HL.out, HF.out]
            congr 2
            omega
          go_wp2_with fail
          go_ret
          exact ⟨⟨_, rfl, L', hgU, HL2.out, hloc⟩, hgw⟩

end Go.Proofs.YtpfhegengmlkmacGreatDoor
/- Walk: spec.ChoiceBest. -/
namespace Go.Proofs.YtpfhegengmlkmacGreatDoor
open Go.RowKit Go.BigFrame
set_option maxRecDepth 100000

/-- The slice at address 'a' holds lists of numbers, each in a slice of its own. -/
def RowU (w : World) (a : Option Addr) (F : List (List Int)) : Prop := ∀ i, (h : i < F.length) → ∃ b o, a = some ⟨b, o, none⟩ ∧ b < w.heap.size ∧ ∃ s c, w.cell? ⟨b, o + i, none⟩ = some (.slice s F[i].length c) ∧ RowZ w s F[i]
theorem RowU.below {w w' : World} {a : Option Addr} {F : List (List Int)} (h : RowU w a F) (hb : Below w.heap.size w w') : RowU w' a F := fun i hi => by
  obtain ⟨b, o, e, h1, s, c, h2, h3⟩ := h i hi
  exact ⟨b, o, e, Nat.lt_of_lt_of_le h1 hb.size, s, c, cell_on hb h1 h2, h3.below hb⟩
theorem GathU.row {w : World} {B : Nat} {v : Value} {L : List (List Int × Nat × Nat)} (h : GathU w B v L) (h0 : ∀ p ∈ L, 0 < p.1.length) : ∃ a cap, v = .slice a L.length cap ∧ RowU w a (L.map (·.1)) := by
  rcases h.1.2 with ⟨rfl, e0⟩ | ⟨g, cap, cur, rfl, hB, hh, hn, _⟩
  · exact ⟨none, 0, by rw [e0], fun k hk => by rw [List.length_map] at hk; omega⟩
  · have hlt : g < w.heap.size := (Array.getElem?_eq_some_iff.1 hh).1
    refine ⟨_, cap, rfl, fun k hk => ⟨g, 0, rfl, hlt, ?_⟩⟩
    rw [List.length_map] at hk
    have hm := List.getElem_mem hk
    refine ⟨some ⟨L[k].2.1, 0, none⟩, L[k].2.2, ?_, by simpa using (h.2 L[k] hm).rowz rfl (h0 _ hm)⟩
    rw [Nat.zero_add, World.ownsRow.cellAt h.1 _ (by omega)]
    simp [hk]
/-- Block 'g' begins with the numbers 'l'. -/
def NumB (w : World) (g : Nat) (l : List Int) : Prop := ∃ m f, w.rowIs g 3 m f ∧ l.length ≤ m ∧ ∀ j, (h : j < l.length) → f j = .int .i64 l[j]
theorem NumB.cell {w : World} {g : Nat} {l : List Int} (h : NumB w g l) {j : Nat} (hj : j < l.length) : w.cell? ⟨g, j, none⟩ = some (.int .i64 l[j]) := by
  obtain ⟨m, f, h, hm, hf⟩ := h
  rw [h.cell (by omega), hf j hj]
theorem NumB.frozen {w : World} {g : Nat} {l : List Int} (h : NumB w g l) (j : Nat) : w.frozen? ⟨g, j, none⟩ = false := by
  obtain ⟨m, f, h, _⟩ := h
  exact h.frozen j
theorem NumB.lt {w : World} {g : Nat} {l : List Int} (h : NumB w g l) : g < w.heap.size := by
  obtain ⟨m, f, h, _⟩ := h
  exact h.lt
theorem NumB.set {w : World} {g : Nat} {l : List Int} (h : NumB w g l) (j : Nat) (x : Int) : NumB (w.setCell ⟨g, j, none⟩ (.int .i64 x)) g (l.set j x) := by
  obtain ⟨m, f, h, hm, hf⟩ := h
  refine ⟨m, _, h.set _ _, by rw [List.length_set]; exact hm, fun i hi => ?_⟩
  rw [List.length_set] at hi
  by_cases e : i = j
  · subst e; simp
  · simp only [if_neg e]
    rw [hf i hi, List.getElem_set_ne (fun h => e h.symm)]
theorem NumB.below {w w' : World} {g : Nat} {l : List Int} (h : NumB w g l) (hb : Below w.heap.size w w') : NumB w' g l := by
  have hlt := h.lt
  obtain ⟨m, f, h, hf⟩ := h
  exact ⟨m, f, h.of_block (hb.block g hlt), hf⟩
theorem NumB.row {w : World} {g : Nat} {l : List Int} (h : NumB w g l) : RowZ w (some ⟨g, 0, none⟩) l := fun k hk => ⟨g, 0, rfl, h.lt, by rw [Nat.zero_add]; exact h.cell hk⟩
theorem GathN.block {w : World} {B g n c : Nat} {l : List Int} (h : GathN w B (.slice (some ⟨g, 0, none⟩) n c) l) : B ≤ g ∧ NumB w g l := by
  rcases h.2 with ⟨e, _⟩ | ⟨g', cap, cur, e, hB, hh, hn, hc, hs, ht⟩
  · cases e
  · obtain rfl : g = g' := by simpa using (Value.slice.inj e).1
    refine ⟨hB, cap * 1, fun i => (cur[i]?).getD undef, ⟨cur, hh, hs, fun i hi => ?_⟩, by omega, fun k hk => ?_⟩
    · have hi' : i < cur.size := by omega
      simp [Array.getElem?_eq_getElem hi']
    · have h2 : (l.map fun x => Value.int .i64 x)[k]? = some (.int .i64 l[k]) := by simp [hk]
      rw [← ht, List.getElem?_take_of_lt (by simp; omega)] at h2
      simp only [Array.getElem?_toList] at h2
      simp only [h2]
      rfl

/-- The first k places have been held against q. -/
def MixP (cur q : List Int) (k : Nat) (l : List Int) : Prop := l.length = cur.length ∧ ∀ j, (h : j < l.length) → (hc : j < cur.length) → (hq : j < q.length) → l[j] = if j < k then max cur[j] q[j] else cur[j]
theorem mix_start (cur q : List Int) : MixP cur q 0 cur := ⟨rfl, fun j h hc hq => by simp⟩
theorem MixP.up {cur q l : List Int} {k : Nat} (h : MixP cur q k l) (hk : k < l.length) (hq : k < q.length) (hlt : l[k] < q[k]) : MixP cur q (k + 1) (l.set k q[k]) := by
  refine ⟨by rw [List.length_set]; exact h.1, fun j hj0 hc hq' => ?_⟩
  have hj : j < l.length := by simpa using hj0
  by_cases e : j = k
  · subst e
    have h2 := h.2 j hj hc hq'
    rw [if_neg (by omega)] at h2
    rw [List.getElem_set_self, if_pos (by omega)]
    omega
  · have h2 := h.2 j hj hc hq'
    rw [List.getElem_set_ne (fun h => e h.symm), h2]
    by_cases e2 : j < k
    · rw [if_pos e2, if_pos (by omega)]
    · rw [if_neg e2, if_neg (by omega)]
theorem MixP.same {cur q l : List Int} {k : Nat} (h : MixP cur q k l) (hk : k < l.length) (hq : k < q.length) (hlt : ¬ l[k] < q[k]) : MixP cur q (k + 1) l := by
  refine ⟨h.1, fun j hj hc hq' => ?_⟩
  have h2 := h.2 j hj hc hq'
  by_cases e : j = k
  · subst e
    rw [if_neg (by omega)] at h2
    rw [if_pos (by omega)]
    omega
  · rw [h2]
    by_cases e2 : j < k
    · rw [if_pos e2, if_pos (by omega)]
    · rw [if_neg e2, if_neg (by omega)]
theorem MixP.whole {cur q l : List Int} {k : Nat} (h : MixP cur q k l) (hq : q.length = cur.length) (hk : cur.length ≤ k) : l = List.zipWith max cur q := by
  apply List.ext_getElem
  · rw [h.1, List.length_zipWith, hq, Nat.min_self]
  · intro j h1 h2
    have hl := h.1
    rw [List.getElem_zipWith, h.2 j h1 (by omega) (by omega), if_pos (by omega)]
theorem topL_take {b : List Int} {F : List (List Int)} {i : Nat} (h : i < F.length) : topL b (F.take (i + 1)) = List.zipWith max (topL b (F.take i)) F[i] := by
  rw [List.take_succ_eq_append_getElem h]
  unfold topL
  rw [List.foldl_append]
  rfl

set_option maxHeartbeats 1600000 in
theorem specCB_any (a : Option Addr) (cap : Nat) (ws : List (List ItemL)) (w : World) (hf : FitW ws) (hr : RowW w a ws) :
    Calls Tryz.prog 44 #[.slice a ws.length cap] w fun e w' => ((∃ g c out, e = .returned (.tuple #[.slice (some ⟨g, 0, none⟩) out.length c, .bool true]) ∧ BestP ws out true ∧ w.heap.size ≤ g ∧ NumB w' g out) ∨ (e = .returned (.tuple #[.slice none 0 0, .bool false]) ∧ BestP ws [] false)) ∧ Below w.heap.size w w' := by
  go_enter Tryz.func44, Tryz.ntmps44
  go_wp2_with fail
  refine (l3Ok_any a cap ws _ hf hr).mono ?_
  rintro e w1 ⟨⟨r, rfl, hr1⟩, b1⟩
  have HR : Hid (r = true ↔ OkW ws) := hr1
  clear hr1
  cases r with
  | false =>
    have HN : Hid (BestP ws [] false) := none_best (.inl fun h => by have := HR.out.2 h; simp at this)
    go_wp2_with fail
    exact bodyPost_ret (v := .tuple #[.slice none 0 0, .bool false]) (by simp [results, Tryz.results44, go_sem]) rfl ⟨.inr ⟨rfl, HN.out⟩, b1⟩
  | true =>
    have HOK : Hid (OkW ws) := HR.out.1 rfl
    clear HR
    have h6 := HOK.out.2.1
    have h1l := HOK.out.1
    go_wp2_with fail
    have hpow : 4 ^ ws.length ≤ 4096 := Nat.le_trans (Nat.pow_le_pow_right (by omega) h6) (by decide)
    refine (l3All_any w w1.heap.size a cap ws b1.size hf hr h6 (fun k hk => (HOK.out.2.2 k hk).1) ws.length none 0 [] (.slice none 0 0) [] w1 b1 (fun k hk => absurd hk (Nat.not_lt_zero k)) (fun _ => rfl) (fun b o h => by cases h) ⟨by simp, fun i hi => by simp at hi⟩ (by simp) (gathU_none _ _) (Nat.le_refl _) (by simp; omega)).mono ?_
    rintro e w2 ⟨⟨v2, L, rfl, hg2, hL, _⟩, hgr⟩
    have hb2 : Below w1.heap.size w1 w2 := (Below.refl _ _).grown hgr (Nat.le_refl _) (fun k hk => by cases hk)
    have B2 : Below w.heap.size w w2 := b1.trans (hb2.mono b1.size)
    simp only [List.map_nil, List.nil_append] at hL
    have hlens : ∀ q ∈ foundL ws ws.length [], q.length = ws.length := fun q hq => (chP_iff.2 ⟨HOK.out, hq⟩).2.1
    have hcnt : (foundL ws ws.length []).length ≤ 4096 := Nat.le_trans (foundL_len (fun k hk => (HOK.out.2.2 k hk).1) ws.length []) hpow
    obtain ⟨va, vc, rfl, hru⟩ := hg2.row (fun p hp => by
      have := hlens p.1 (by rw [← hL]; exact List.mem_map.2 ⟨p, hp, rfl⟩)
      omega)
    rw [hL] at hru
    have hLl : L.length = (foundL ws ws.length []).length := by rw [← hL, List.length_map]
    rw [hLl]
    clear hg2 hgr hLl hL
    generalize hF : foundL ws ws.length [] = F at *
    have HF : Hid (foundL ws ws.length [] = F) := hF
    clear hF
    by_cases h0 : F.length = 0
    · have HN : Hid (BestP ws [] false) := none_best (.inr (by rw [HF.out]; exact List.length_eq_zero_iff.1 h0))
      have h0' : ((F.length : Int) == 0) = true := by rw [beq_iff_eq]; omega
      go_wp2_with fail
      exact bodyPost_ret (v := .tuple #[.slice none 0 0, .bool false]) (by simp [results, Tryz.results44, go_sem]) rfl ⟨.inr ⟨rfl, HN.out⟩, B2⟩
    have h0' : ((F.length : Int) == 0) = false := by rw [beq_eq_false_iff_ne]; omega
    obtain ⟨bu, ou, rfl, hbu, s0, c0, hu0, hz0⟩ := hru 0 (by omega)
    have i0 : (0 : Int) < (F.length : Int) := by omega
    have hl0 : F[0].length = ws.length := hlens _ (List.getElem_mem (by omega))
    have HL0 : Hid (F[0].length = ws.length) := hl0
    have hl6 : F[0].length ≤ 6 := by omega
    have hnn : F[0] = [] → s0 = none := fun h => by rw [h] at hl0; simp at hl0; omega
    have HLENS : Hid (∀ q ∈ F, q.length = ws.length) := hlens
    clear hl0 hlens
    rw [Nat.add_zero] at hu0
    have hbx : Below w2.heap.size w2 (w2.alloc (.cells #[] 3)) := (Below.refl _ _).alloc (Nat.le_refl _) _
    have hu0' := cell_on hbx hbu hu0
    have hz0' := hz0.below hbx
    go_wp2_with (first | (at_builtin; refine wpList_append_nums rfl _ _ rfl w2.heap.size w2.heap.size c0 s0 F[0] rfl (heap_alloc_new w2 _) (Nat.le_refl _) rfl hz0' hnn (by omega) ?_; intro g3 c3 w3 hn3 hgr3 hge3))
    obtain ⟨_, hnb⟩ := hn3.block
    have hb3 : Below w2.heap.size w2 w3 := hbx.grown hgr3 (by simp) (fun k hk => by cases hk; exact Nat.le_refl _)
    clear hn3 hgr3 hu0 hu0' hz0 hz0' hbx
    have B3 : Below w.heap.size w w3 := B2.trans (hb3.mono B2.size)
    go_loopw [6] (fun i wr => ∃ (k : Nat) (l : List Int), k ≤ F.length ∧ i = .int .i64 k ∧ l.length = F[0].length ∧ Hid (l = topL F[0] (F.take k)) ∧ NumB wr g3 l ∧ Below w2.heap.size w2 wr) (fun i _ => F.length - (intOf i).toNat)
    case atStart => exact ⟨0, F[0], Nat.zero_le _, rfl, rfl, rfl, hnb, hb3⟩
    case round =>
      clear hnb
      obtain ⟨k, l, hk, rfl, hll, HT, hnb, hbl⟩ := hrel
      by_cases hlt : k < F.length
      · have hqlen : F[k].length = F[0].length := by rw [HLENS.out _ (List.getElem_mem hlt), HL0.out]
        have HQL : Hid (F[k].length = F[0].length) := hqlen
        have hq6 : F[k].length ≤ 6 := by omega
        have HLL : Hid (l.length = F[0].length) := hll
        have k0 : (0 : Int) ≤ (k : Int) := by omega
        have k1 : (k : Int) < (F.length : Int) := by omega
        clear hqlen hll
        go_wp2_with fail
        go_loopw [7] (fun i2 wr2 => ∃ (j : Nat) (m : List Int), j ≤ F[0].length ∧ i2 = .int .i64 j ∧ Hid (MixP l F[k] j m) ∧ NumB wr2 g3 m ∧ Below w2.heap.size w2 wr2) (fun i2 _ => F[0].length - (intOf i2).toNat)
        case atStart => exact ⟨0, l, Nat.zero_le _, rfl, mix_start l F[k], hnb, hbl⟩
        case round =>
          clear hnb hbl
          obtain ⟨j, m, hj, rfl, HM, hnb, hbl⟩ := hrel
          by_cases hjlt : j < F[0].length
          · have hml : m.length = F[0].length := by rw [HM.out.1, HLL.out]
            have hjm : j < m.length := by omega
            have hjq : j < F[k].length := by rw [HQL.out]; omega
            obtain ⟨b5, o5, e5, hb5, s5, c5, f5, r5⟩ := hru.below hbl k hlt
            cases e5
            obtain ⟨b6, o6, rfl, hb6, f6⟩ := r5 j hjq
            have f7 := hnb.cell hjm
            have z7 := hnb.frozen j
            have j0 : (0 : Int) ≤ (j : Int) := by omega
            have j1 : (j : Int) < (F[0].length : Int) := by omega
            have j2 : (j : Int) < (F[k].length : Int) := by omega
            clear hml
            by_cases hgt : m[j] < F[k][j]
            · have HX : Hid (MixP l F[k] (j + 1) (m.set j F[k][j])) := HM.out.up hjm hjq hgt
              have hgt' : decide (m[j] < F[k][j]) = true := decide_eq_true hgt
              go_wp2_with fail
              go_quiet (fail)
              go_wp2_with fail
              have hset := (hnb.below (below_drewN (Below.refl _ _) nq)).set j F[k][j]
              exact ⟨⟨j + 1, _, by omega, by go_num, HX, hset, (below_drewN hbl _).setCell (by simp only; omega) _⟩, by simp [intOf]; omega⟩
            · have HX : Hid (MixP l F[k] (j + 1) m) := HM.out.same hjm hjq hgt
              have hgt' : decide (m[j] < F[k][j]) = false := decide_eq_false hgt
              go_wp2_with fail
              go_quiet (fail)
              go_wp2_with fail
              exact ⟨⟨j + 1, m, by omega, by go_num, HX, hnb.below (below_drewN (Below.refl _ _) _), below_drewN hbl _⟩, by simp [intOf]; omega⟩
          · have HX : Hid (m = topL F[0] (F.take (k + 1))) := by
              unfold Hid
              rw [topL_take hlt, ← HT.out]
              exact HM.out.whole (by rw [HQL.out, HLL.out]) (by rw [HLL.out]; omega)
            have hml : m.length = F[0].length := by rw [HM.out.1, HLL.out]
            go_wp2_with fail
            exact ⟨⟨k + 1, m, by omega, by go_num, hml, HX, hnb, hbl⟩, by simp [intOf]; omega⟩
      · have HB : Hid (BestP ws l true) := by
          unfold Hid
          rw [HT.out, List.take_of_length_le (by omega)]
          have e : foundL ws ws.length [] = F[0] :: F.tail := by rw [HF.out]; cases F with
            | nil => simp at h0
            | cons x y => rfl
          have h := topL_best HOK.out e
          rwa [← e, HF.out] at h
        go_wp2_with fail
        exact bodyPost_ret (v := .tuple #[.slice (some ⟨g3, 0, none⟩) l.length c3, .bool true]) (by simp [results, Tryz.results44, go_sem, hll]) rfl ⟨.inl ⟨g3, c3, l, rfl, HB.out, Nat.le_trans B2.size hge3, hnb⟩, B2.trans (hbl.mono B2.size)⟩

end Go.Proofs.YtpfhegengmlkmacGreatDoor
/- Mathematics: what an item that comes to a gather's input leads to. -/
namespace Go.Proofs.YtpfhegengmlkmacGreatDoor

/-- The value of the item that a choice has from window k. -/
def pkV (ws : List (List ItemL)) (ps : List Int) (k : Nat) : Int := ((ws.getD k []).getD (ps.getD k 0).toNat (0, [])).1
def valsM (ws : List (List ItemL)) (ps : List Int) : List Int := (List.range ps.length).map (pkV ws ps)
theorem valsM_len (ws : List (List ItemL)) (ps : List Int) : (valsM ws ps).length = ps.length := by simp [valsM]
def emptyG : GatL := ⟨[], [], []⟩
/-- The gather may be, and the input is one of its own. -/
def InG (g : GatL) (i : Int) : Prop := GatP g ∧ 0 ≤ i ∧ i < (g.ins.length : Int)
/-- What comes of the windows as they are. -/
def ComeP (ws : List (List ItemL)) (sh : List (ByteArray × Int)) (sh' : List (ByteArray × Int)) (sv : List Int) (ss : List (ByteArray × Int)) (code : Int) : Prop :=
  ∃ out ok, BestP ws out ok ∧ ((ok = false ∧ sh' = sh ∧ sv = [] ∧ ss = [] ∧ code = 0) ∨ (ok = true ∧ ∃ j okj, IsCJ ws out j okj ∧
    ((okj = false ∧ sh' = sh ∧ sv = [] ∧ ss = [] ∧ code = 4) ∨ (okj = true ∧ ∃ o, IsOrd sh j o ∧
      ((o ≠ 1 ∧ sh' = sh ∧ sv = [] ∧ ss = [] ∧ code = 0) ∨ (o = 1 ∧ sh' = j ∧ sv = valsM ws out ∧ ss = j ∧ code = 1))))))
theorem ComeP.one {ws : List (List ItemL)} {sh s1 s2 t1 t2 : List (ByteArray × Int)} {v1 v2 : List Int} {c1 c2 : Int} (h : ComeP ws sh s1 v1 t1 c1) (k : ComeP ws sh s2 v2 t2 c2) : s1 = s2 ∧ v1 = v2 ∧ t1 = t2 ∧ c1 = c2 := by
  obtain ⟨o1, k1, b1, h⟩ := h
  obtain ⟨o2, k2, b2, k⟩ := k
  obtain ⟨rfl, rfl⟩ := b1.one b2
  rcases h with ⟨rfl, rfl, rfl, rfl, rfl⟩ | ⟨rfl, j1, x1, i1, h⟩
  · rcases k with ⟨_, rfl, rfl, rfl, rfl⟩ | ⟨e, _⟩
    · exact ⟨rfl, rfl, rfl, rfl⟩
    · cases e
  · rcases k with ⟨e, _⟩ | ⟨_, j2, x2, i2, k⟩
    · cases e
    · obtain ⟨rfl, rfl⟩ := i1.one i2
      rcases h with ⟨rfl, rfl, rfl, rfl, rfl⟩ | ⟨rfl, p1, q1, h⟩
      · rcases k with ⟨_, rfl, rfl, rfl, rfl⟩ | ⟨e, _⟩
        · exact ⟨rfl, rfl, rfl, rfl⟩
        · cases e
      · rcases k with ⟨e, _⟩ | ⟨_, p2, q2, k⟩
        · cases e
        · obtain rfl := q1.one q2
          rcases h with ⟨h1, rfl, rfl, rfl, rfl⟩ | ⟨h1, rfl, rfl, rfl, rfl⟩
          · rcases k with ⟨_, rfl, rfl, rfl, rfl⟩ | ⟨k1, _⟩
            · exact ⟨rfl, rfl, rfl, rfl⟩
            · exact absurd k1 h1
          · rcases k with ⟨k1, _⟩ | ⟨_, rfl, rfl, rfl, rfl⟩
            · exact absurd h1 k1
            · exact ⟨rfl, rfl, rfl, rfl⟩
/-- What the feed comes to. -/
def PutG (g : GatL) (i x : Int) (m : List (ByteArray × Int)) (g' : GatL) (sv : List Int) (ss : List (ByteArray × Int)) (code : Int) : Prop :=
  (¬ InG g i ∧ g' = emptyG ∧ sv = [] ∧ ss = [] ∧ code = 2) ∨ (InG g i ∧ ∃ r c, IsP (g.wins.getD i.toNat []) x m r c ∧
    ((c = 1 ∧ g' = emptyG ∧ sv = [] ∧ ss = [] ∧ code = 2) ∨ (c = 2 ∧ g' = g ∧ sv = [] ∧ ss = [] ∧ code = 3) ∨
      (c = 0 ∧ ∃ sh, ComeP (g.wins.set i.toNat r) g.shown sh sv ss code ∧ g' = ⟨g.ins, g.wins.set i.toNat r, sh⟩)))
theorem PutG.one {g g1 g2 : GatL} {i x c1 c2 : Int} {m s1 s2 : List (ByteArray × Int)} {v1 v2 : List Int} (h : PutG g i x m g1 v1 s1 c1) (k : PutG g i x m g2 v2 s2 c2) : g1 = g2 ∧ v1 = v2 ∧ s1 = s2 ∧ c1 = c2 := by
  rcases h with ⟨h0, rfl, rfl, rfl, rfl⟩ | ⟨h0, r1, d1, p1, h⟩
  · rcases k with ⟨_, rfl, rfl, rfl, rfl⟩ | ⟨k0, _⟩
    · exact ⟨rfl, rfl, rfl, rfl⟩
    · exact absurd k0 h0
  · rcases k with ⟨k0, _⟩ | ⟨_, r2, d2, p2, k⟩
    · exact absurd h0 k0
    · obtain ⟨rfl, rfl⟩ := p1.one p2
      rcases h with ⟨rfl, rfl, rfl, rfl, rfl⟩ | ⟨rfl, rfl, rfl, rfl, rfl⟩ | ⟨rfl, sh1, q1, rfl⟩
      · rcases k with ⟨_, rfl, rfl, rfl, rfl⟩ | ⟨e, _⟩ | ⟨e, _⟩
        · exact ⟨rfl, rfl, rfl, rfl⟩
        · omega
        · omega
      · rcases k with ⟨e, _⟩ | ⟨_, rfl, rfl, rfl, rfl⟩ | ⟨e, _⟩
        · omega
        · exact ⟨rfl, rfl, rfl, rfl⟩
        · omega
      · rcases k with ⟨e, _⟩ | ⟨e, _⟩ | ⟨_, sh2, q2, rfl⟩
        · omega
        · omega
        · obtain ⟨rfl, rfl, rfl, rfl⟩ := q1.one q2
          exact ⟨rfl, rfl, rfl, rfl⟩

theorem getD_get {α : Type} (l : List α) (d : α) {k : Nat} (h : k < l.length) : l.getD k d = l[k] := by simp [List.getD, h]
theorem winP_stamps {l : List ItemL} (h : WinP l) : StampsP l := ⟨by have := h.1; omega, fun j hj => (h.2.1 j hj).1⟩
theorem set_stamps {ws : List (List ItemL)} {k : Nat} {r : List ItemL} (h : ∀ l ∈ ws, StampsP l) (hr : StampsP r) : ∀ l ∈ ws.set k r, StampsP l := fun l hl => by
  rcases List.mem_or_eq_of_mem_set hl with h1 | h1
  · exact h l h1
  · exact h1 ▸ hr
theorem stamps_fitW {ws : List (List ItemL)} (h6 : ws.length ≤ 6) (h : ∀ l ∈ ws, StampsP l) : FitW ws := ⟨by unfold maxLen; omega, fun j hj => (h _ (List.getElem_mem hj)).fit⟩
/-- What an answer is like: few names, few windows, stamps alone. -/
structure NiceG (g : GatL) : Prop where
  ins : g.ins.length ≤ 6
  names : ∀ j, (h : j < g.ins.length) → g.ins[j].size ≤ 8
  wins : g.wins.length ≤ 6
  items : ∀ l ∈ g.wins, StampsP l
  shown : StampP g.shown
theorem emptyG_nice : NiceG emptyG := ⟨by simp [emptyG], fun j hj => by simp [emptyG] at hj, by simp [emptyG], fun l hl => by simp [emptyG] at hl, stampP_nil⟩
theorem GatP.nice {g : GatL} (h : GatP g) : NiceG g := by
  refine ⟨h.ins.2.1, fun j hj => (h.ins.2.2 j hj).1.2.1, ?_, fun l hl => ?_, h.shown⟩
  · have := h.ins.2.1; have := h.len; omega
  · obtain ⟨j, hj, rfl⟩ := List.mem_iff_getElem.1 hl
    exact winP_stamps (h.wins.2.2 j hj)
theorem best_in {ws : List (List ItemL)} {out : List Int} (h : BestP ws out true) : ChP ws out := by
  rcases h with ⟨_, h, _⟩ | ⟨e, _⟩
  · exact h
  · cases e
theorem ComeP.nice {ws : List (List ItemL)} {sh s1 t1 : List (ByteArray × Int)} {v1 : List Int} {c1 : Int} (h : ComeP ws sh s1 v1 t1 c1) (hs : StampP sh) : StampP s1 ∧ v1.length ≤ 6 ∧ StampP t1 := by
  obtain ⟨o1, k1, b1, h⟩ := h
  rcases h with ⟨rfl, rfl, rfl, rfl, rfl⟩ | ⟨rfl, j1, x1, i1, h⟩
  · exact ⟨hs, by simp, stampP_nil⟩
  · have hc := best_in b1
    have hl : o1.length ≤ 6 := by have := hc.2.1; have := hc.1.2.1; omega
    rcases h with ⟨rfl, rfl, rfl, rfl, rfl⟩ | ⟨rfl, p1, q1, h⟩
    · exact ⟨hs, by simp, stampP_nil⟩
    · rcases h with ⟨h1, rfl, rfl, rfl, rfl⟩ | ⟨h1, rfl, rfl, rfl, rfl⟩
      · exact ⟨hs, by simp, stampP_nil⟩
      · exact ⟨i1.stamp, by rw [valsM_len]; exact hl, i1.stamp⟩
theorem PutG.nice {g g1 : GatL} {i x c1 : Int} {m s1 : List (ByteArray × Int)} {v1 : List Int} (h : PutG g i x m g1 v1 s1 c1) : NiceG g1 ∧ v1.length ≤ 6 ∧ StampP s1 := by
  rcases h with ⟨h0, rfl, rfl, rfl, rfl⟩ | ⟨h0, r1, d1, p1, h⟩
  · exact ⟨emptyG_nice, by simp, stampP_nil⟩
  · have hn := h0.1.nice
    rcases h with ⟨rfl, rfl, rfl, rfl, rfl⟩ | ⟨rfl, rfl, rfl, rfl, rfl⟩ | ⟨rfl, sh1, q1, rfl⟩
    · exact ⟨emptyG_nice, by simp, stampP_nil⟩
    · exact ⟨hn, by simp, stampP_nil⟩
    · have hc := q1.nice hn.shown
      exact ⟨⟨hn.ins, hn.names, by simpa using hn.wins, set_stamps hn.items (isP_stamps p1), hc.1⟩, hc.2⟩

end Go.Proofs.YtpfhegengmlkmacGreatDoor
/- errors.As at a refusal: by the library's own text, the entries of reflectlite by closed facts. -/
namespace Go.Proofs.YtpfhegengmlkmacGreatDoor
open Go.RowKit Go.Extern.Stop Go.Stop Go.Extern

theorem as_nil (t : Value) (w : World) :
    Calls Tryz.prog 52 #[.nilIface, t] w fun e w' => e = .returned (.bool false) ∧ w' = w := by
  go_enter Tryz.func52, Tryz.ntmps52
  go_wp2
  go_ret
  exact ⟨rfl, rfl⟩

theorem Tryz.valueOfP (t : Addr) (w : World) : (ReflectliteValue.unpack (.iface 98 (.pointer (some t)))).run Tryz.prog w
    = .ok (.agg #[.pointer (some ⟨11, 98, none⟩), .pointer (some ⟨w.heap.size, 0, none⟩), .int .u64 150]) (w.alloc (.cells #[.pointer (some t)] 98)) := by kernel_rfl
theorem Tryz.typeP (a : Addr) (w : World) : (ReflectliteValue.methodAny (ReflectliteValue.valueError "reflectlite.Value.Type" 0) (fun t _ _ _ => ReflectliteType.toType t) #[.agg #[.pointer (some ⟨11, 98, none⟩), .pointer (some a), .int .u64 150]]).run Tryz.prog w
    = .ok (.iface 197 (.agg #[.pointer (some ⟨11, 98, none⟩)])) w := by kernel_rfl
theorem Tryz.methodKind (h : Value) (w : World) : (Go.method 466 197 (.agg #[h]) "Kind").run Tryz.prog w = .ok (284, h) w := by kernel_rfl
theorem Tryz.kindP (w : World) : ((ReflectliteType.abiMethod fun t => (fun a : Nat => Value.int IntKind.u8 (a : Int)) <$> Rtype.kind t) #[.pointer (some ⟨11, 98, none⟩)]).run Tryz.prog w = .ok (.int .u8 22) w := by kernel_rfl
theorem Tryz.kindR (w : World) : ((ReflectliteType.abiMethod fun t => (fun a : Nat => Value.int IntKind.u8 (a : Int)) <$> Rtype.kind t) #[.pointer (some ⟨11, 96, none⟩)]).run Tryz.prog w = .ok (.int .u8 25) w := by kernel_rfl
theorem method_parts (z : Sem Value) (f : TypeId → Addr → Nat → Nat → Sem Value) (v : Value) : ∃ g, ReflectliteValue.method z f #[v] = (ReflectliteValue.parts v >>= g) ∧ ∀ t a fl, g (some (t, a, fl)) = f t a fl (fl % 32) := ⟨_, rfl, fun _ _ _ => rfl⟩
theorem Tryz.partsP (a : Addr) (w : World) : (ReflectliteValue.parts (.agg #[.pointer (some ⟨11, 98, none⟩), .pointer (some a), .int .u64 150])).run Tryz.prog w = .ok (some (98, a, 150)) w := by kernel_rfl
theorem Tryz.isNilP (a p : Addr) (W : World) (ha : W.cell? a = some (.pointer (some p))) :
    (ReflectliteValue.method (ReflectliteValue.valueError "reflectlite.Value.IsNil" 0) ReflectliteValue.isNil #[.agg #[.pointer (some ⟨11, 98, none⟩), .pointer (some a), .int .u64 150]]).run Tryz.prog W = .ok (.bool false) W := by
  obtain ⟨g, e1, e2⟩ := method_parts _ _ _
  rw [e1]
  simp only [Sem.run_bind, Tryz.partsP, Result.andThen, e2]
  simp [ReflectliteValue.isNil, loadVar, isAgg, underlying, Tryz.underlying98, ha, Result.andThen]
theorem Tryz.methodElem (h : Value) (w : World) : (Go.method 466 197 (.agg #[h]) "Elem").run Tryz.prog w = .ok (298, .agg #[h]) w := by kernel_rfl
theorem Tryz.methodImplements (h : Value) (w : World) : (Go.method 466 197 (.agg #[h]) "Implements").run Tryz.prog w = .ok (299, .agg #[h]) w := by kernel_rfl
theorem Tryz.methodAssignableTo (h : Value) (w : World) : (Go.method 466 197 (.agg #[h]) "AssignableTo").run Tryz.prog w = .ok (296, .agg #[h]) w := by kernel_rfl
theorem Tryz.elemP (w : World) : (ReflectliteType.method ReflectliteType.elem #[.agg #[.pointer (some ⟨11, 98, none⟩)]]).run Tryz.prog w = .ok (.iface 197 (.agg #[.pointer (some ⟨11, 96, none⟩)])) w := by kernel_rfl
theorem Tryz.implementsR (w : World) : (ReflectliteType.relation "Implements" ReflectliteType.implements_ #[.agg #[.pointer (some ⟨11, 96, none⟩)], .iface 197 (.agg #[.pointer (some ⟨11, 92, none⟩)])]).run Tryz.prog w = .ok (.bool true) w := by kernel_rfl
theorem Tryz.typeOfR (v : Value) (w : World) : (ReflectliteType.typeOf #[.iface 96 v]).run Tryz.prog w = .ok (.iface 197 (.agg #[.pointer (some ⟨11, 96, none⟩)])) w := by kernel_rfl
theorem Tryz.assignableR (w : World) : (ReflectliteType.relation "AssignableTo" ReflectliteType.assignableTo #[.agg #[.pointer (some ⟨11, 96, none⟩)], .iface 197 (.agg #[.pointer (some ⟨11, 96, none⟩)])]).run Tryz.prog w = .ok (.bool true) w := by kernel_rfl
theorem Tryz.valueOfR (c : Int) (w : World) : (ReflectliteValue.unpack (.iface 96 (.agg #[.int .i64 c]))).run Tryz.prog w
    = .ok (.agg #[.pointer (some ⟨11, 96, none⟩), .pointer (some ⟨w.heap.size, 0, none⟩), .int .u64 153]) (w.alloc (.cells #[.int .i64 c] 96)) := by kernel_rfl
theorem Tryz.elemOfP (w : World) : (Rtype.elem? 98).run Tryz.prog w = .ok (some 96) w := by kernel_rfl
theorem Tryz.mkR (p : Addr) (w : World) : (ReflectliteValue.mk 96 p ReflectliteValue.flagAddr).run Tryz.prog w = .ok (.agg #[.pointer (some ⟨11, 96, none⟩), .pointer (some p), .int .u64 409]) w := by kernel_rfl
theorem Tryz.elemVP (a p : Addr) (W : World) (ha : W.cell? a = some (.pointer (some p))) :
    (ReflectliteValue.method (ReflectliteValue.valueError "reflectlite.Value.Elem" 0) ReflectliteValue.elem #[.agg #[.pointer (some ⟨11, 98, none⟩), .pointer (some a), .int .u64 150]]).run Tryz.prog W
      = .ok (.agg #[.pointer (some ⟨11, 96, none⟩), .pointer (some p), .int .u64 409]) W := by
  obtain ⟨g, e1, e2⟩ := method_parts _ _ _
  rw [e1]
  simp only [Sem.run_bind, Tryz.partsP, Result.andThen, e2]
  simp [ReflectliteValue.elem, loadVar, isAgg, underlying, Tryz.underlying98, ha, Result.andThen, Tryz.elemOfP, Tryz.mkR]
theorem Tryz.partsRa (a : Addr) (w : World) : (ReflectliteValue.parts (.agg #[.pointer (some ⟨11, 96, none⟩), .pointer (some a), .int .u64 409])).run Tryz.prog w = .ok (some (96, a, 409)) w := by kernel_rfl
theorem Tryz.partsR (a : Addr) (w : World) : (ReflectliteValue.parts (.agg #[.pointer (some ⟨11, 96, none⟩), .pointer (some a), .int .u64 153])).run Tryz.prog w = .ok (some (96, a, 153)) w := by kernel_rfl
theorem Tryz.directR (w : World) : (Rtype.directlyAssignable 96 96).run Tryz.prog w = .ok true w := by kernel_rfl
theorem Tryz.setR0 (ta b : Addr) (W : World) : (ReflectliteValue.set #[.agg #[.pointer (some ⟨11, 96, none⟩), .pointer (some ta), .int .u64 409], .agg #[.pointer (some ⟨11, 96, none⟩), .pointer (some b), .int .u64 153]]).run Tryz.prog W
      = (do let v ← loadVar 96 b; storeVar 96 ta v; pure (Value.tuple #[])).run Tryz.prog W := by kernel_rfl
theorem Tryz.setR (ta b : Addr) (c : Int) (old : Value) (W : World) (hb : W.cell? b = some (.int .i64 c)) (ht : W.cell? ta = some old) (hf : W.frozen? ta = false) :
    (ReflectliteValue.set #[.agg #[.pointer (some ⟨11, 96, none⟩), .pointer (some ta), .int .u64 409], .agg #[.pointer (some ⟨11, 96, none⟩), .pointer (some b), .int .u64 153]]).run Tryz.prog W
      = .ok (.tuple #[]) (W.setCell ta (.int .i64 c)) := by
  rw [Tryz.setR0]
  simp [loadVar, storeVar, isAgg, underlying, Tryz.underlying96, loadCells, loadCellsFrom, hb, Result.andThen, Value.cells, storeCells, Addr.add]
  rw [run_store Tryz.prog W ta _ _ (by rfl)]
  simp [ht, hf]

/-- A refusal, asked for as such: it is handed over. -/
def AsTo (c : Int) (t : Addr) (w w' : World) : Prop := ∃ W, Below w.heap.size w W ∧ w' = W.setCell t (.int .i64 c)

set_option maxRecDepth 100000 in
set_option maxHeartbeats 4000000 in
theorem as_hit (c : Int) (t : Addr) (old : Value) (w : World) (hg : w.cell? ⟨0, 0, none⟩ = some (.iface 197 (.agg #[.pointer (some ⟨11, 92, none⟩)]))) (ht0 : w.cell? t = some old) (hf0 : w.frozen? t = false) :
    Calls Tryz.prog 52 #[.iface 96 (.agg #[.int .i64 c]), .iface 98 (.pointer (some t))] w fun ev w' => ev = .returned (.bool true) ∧ AsTo c t w w' := by
  have h1 := @run_callFunc_extern Tryz.prog 92 _ (fun args => ReflectliteValue.unpack (args.getD 0 (.tuple #[]))) Tryz.func92 (by kernel_rfl) (by kernel_rfl) (by kernel_rfl) (by kernel_rfl)
  have h2 := @run_callFunc_extern Tryz.prog 93 _ (ReflectliteValue.methodAny (ReflectliteValue.valueError "reflectlite.Value.Type" 0) (fun t _ _ _ => ReflectliteType.toType t)) Tryz.func93 (by kernel_rfl) (by kernel_rfl) (by kernel_rfl) (by kernel_rfl)
  have h3 := @run_callFunc_extern Tryz.prog 94 _ (ReflectliteValue.method (ReflectliteValue.valueError "reflectlite.Value.IsNil" 0) ReflectliteValue.isNil) Tryz.func94 (by kernel_rfl) (by kernel_rfl) (by kernel_rfl) (by kernel_rfl)
  have h4 := @run_callFunc_extern Tryz.prog 284 _ (ReflectliteType.abiMethod fun t => do pure (.int .u8 (← Rtype.kind t))) Tryz.func284 (by kernel_rfl) (by kernel_rfl) (by kernel_rfl) (by kernel_rfl)
  have h5 := @run_callFunc_extern Tryz.prog 298 _ (ReflectliteType.method ReflectliteType.elem) Tryz.func298 (by kernel_rfl) (by kernel_rfl) (by kernel_rfl) (by kernel_rfl)
  have h6 := @run_callFunc_extern Tryz.prog 299 _ (ReflectliteType.relation "Implements" ReflectliteType.implements_) Tryz.func299 (by kernel_rfl) (by kernel_rfl) (by kernel_rfl) (by kernel_rfl)
  have h7 := @run_callFunc_extern Tryz.prog 134 _ ReflectliteType.typeOf Tryz.func134 (by kernel_rfl) (by kernel_rfl) (by kernel_rfl) (by kernel_rfl)
  have h8 := @run_callFunc_extern Tryz.prog 296 _ (ReflectliteType.relation "AssignableTo" ReflectliteType.assignableTo) Tryz.func296 (by kernel_rfl) (by kernel_rfl) (by kernel_rfl) (by kernel_rfl)
  have h9 := @run_callFunc_extern Tryz.prog 135 _ (ReflectliteValue.method (ReflectliteValue.valueError "reflectlite.Value.Elem" 0) ReflectliteValue.elem) Tryz.func135 (by kernel_rfl) (by kernel_rfl) (by kernel_rfl) (by kernel_rfl)
  have h10 := @run_callFunc_extern Tryz.prog 136 _ ReflectliteValue.set Tryz.func136 (by kernel_rfl) (by kernel_rfl) (by kernel_rfl) (by kernel_rfl)
  have k1 := Tryz.typeOfR
  have k2 := Tryz.methodAssignableTo
  have k3 := Tryz.assignableR
  have k4 := Tryz.valueOfR
  have k5 := Tryz.valueOfP
  have k6 := Tryz.typeP
  have k7 := Tryz.methodKind
  have k8 := Tryz.methodElem
  have k9 := Tryz.methodImplements
  have k10 := Tryz.kindP
  have k11 := Tryz.kindR
  have k12 := Tryz.elemP
  have k13 := Tryz.implementsR
  have hlt : 0 < w.heap.size := block_lt_of_cell hg
  have htl : t.block < w.heap.size := by
    rcases Nat.lt_or_ge t.block w.heap.size with h | h
    · exact h
    · simp [World.cell?, Array.getElem?_eq_none h] at ht0
  obtain ⟨W1, hW1⟩ : ∃ W1, (w.alloc (.cells #[.pointer (some t)] 98)).alloc (.cells #[.pointer (some ⟨11, 98, none⟩), .pointer (some ⟨w.heap.size, 0, none⟩), .int .u64 150] 150) = W1 := ⟨_, rfl⟩
  have b1 : Below w.heap.size w W1 := by rw [← hW1]; exact ((Below.refl _ _).alloc (Nat.le_refl _) _).alloc (by simp) _
  have n1 := Tryz.isNilP ⟨w.heap.size, 0, none⟩ t W1 (by rw [← hW1]; simp)
  have hg1 : W1.cell? ⟨0, 0, none⟩ = some (.iface 197 (.agg #[.pointer (some ⟨11, 92, none⟩)])) := cell_on b1 hlt hg
  rw [← hW1] at n1 hg1 b1
  clear hW1 W1
  have b3 : Below w.heap.size w ((((w.alloc (.cells #[.pointer (some t)] 98)).alloc (.cells #[.pointer (some ⟨11, 98, none⟩), .pointer (some ⟨w.heap.size, 0, none⟩), .int .u64 150] 150)).alloc (.cells #[.pointer (some ⟨11, 98, none⟩), .pointer (some ⟨w.heap.size, 0, none⟩), .int .u64 150] 150)).alloc (.cells #[.int .i64 c] 96)) := (b1.alloc (by simp; omega) _).alloc (by simp; omega) _
  have n2 := Tryz.elemVP ⟨w.heap.size, 0, none⟩ t (((w.alloc (.cells #[.pointer (some t)] 98)).alloc (.cells #[.pointer (some ⟨11, 98, none⟩), .pointer (some ⟨w.heap.size, 0, none⟩), .int .u64 150] 150)).alloc (.cells #[.pointer (some ⟨11, 98, none⟩), .pointer (some ⟨w.heap.size, 0, none⟩), .int .u64 150] 150)) (by rw [World.cell?_alloc_lt _ _ ⟨w.heap.size, 0, none⟩ (by simp; omega)]; simp)
  have n3 := Tryz.setR t ⟨w.heap.size + 1 + 1 + 1, 0, none⟩ c old ((((w.alloc (.cells #[.pointer (some t)] 98)).alloc (.cells #[.pointer (some ⟨11, 98, none⟩), .pointer (some ⟨w.heap.size, 0, none⟩), .int .u64 150] 150)).alloc (.cells #[.pointer (some ⟨11, 98, none⟩), .pointer (some ⟨w.heap.size, 0, none⟩), .int .u64 150] 150)).alloc (.cells #[.int .i64 c] 96)) (by rw [World.cell?_alloc_at _ _ _ _ (by simp)]; rfl) ((b3.cell htl).trans ht0) ((b3.frozen htl).trans hf0)
  go_enter Tryz.func52, Tryz.ntmps52
  go_wp2
  refine wp_loop_rounds 1 ?_
  rw [rounds_succ]
  go_wp2
  go_ret
  exact ⟨rfl, _, b3, rfl⟩

end Go.Proofs.YtpfhegengmlkmacGreatDoor
