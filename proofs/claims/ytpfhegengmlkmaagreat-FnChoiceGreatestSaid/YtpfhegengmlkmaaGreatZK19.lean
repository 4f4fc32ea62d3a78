/- Texts of this claim, one behind the other. -/
import Derived.Test.YtpfhegengmlkmaaGreatZK9
import Derived.Test.YtpfhegengmlkmaaGreatZK10
import Derived.Test.YtpfhegengmlkmaaGreatZK18
namespace Go.Proofs.YtpfhegengmlkmaaGreat
open Go.RowKit Go.BigFrame
set_option maxRecDepth 100000

/-- Block 'g' begins with n empty windows. -/
def WinE (w : World) (g n : Nat) : Prop := ∃ m f, w.rowIs g 41 m f ∧ n ≤ m ∧ ∀ j, j < n → ∃ s c, f j = .slice s 0 c
theorem WinE.lt {w : World} {g n : Nat} (h : WinE w g n) : g < w.heap.size := by
  obtain ⟨m, f, h, _⟩ := h
  exact h.lt
theorem WinE.span {w w' : World} {g n lo hi : Nat} (h : WinE w g n) (hs : Span lo hi w w') (hd : g < lo ∨ hi ≤ g) : WinE w' g n := by
  have hlt := h.lt
  obtain ⟨m, f, h, hf⟩ := h
  exact ⟨m, f, h.of_block (hs.block g hlt hd), hf⟩
theorem WinE.below {w w' : World} {g n : Nat} (h : WinE w g n) (hb : Below w.heap.size w w') : WinE w' g n := by
  have hlt := h.lt
  obtain ⟨m, f, h, hf⟩ := h
  exact ⟨m, f, h.of_block (hb.block g hlt), hf⟩
theorem WinE.row {w : World} {g n : Nat} (h : WinE w g n) : RowW w (some ⟨g, 0, none⟩) (List.replicate n []) := fun k hk => by
  have hk' : k < n := by simpa using hk
  have hlt := h.lt
  obtain ⟨m, f, h, hm, hf⟩ := h
  obtain ⟨s, c, e⟩ := hf k hk'
  exact ⟨g, 0, rfl, hlt, s, c, by rw [Nat.zero_add, h.cell (by omega), e]; simp, by simp, fun j hj => by simp at hj⟩
theorem GathY.block {w : World} {B n : Nat} {v : Value} {L : List WinY} (h : GathY w B v L) (hL : L.map (·.l) = List.replicate n []) (h0 : 0 < n) : ∃ g c, v = .slice (some ⟨g, 0, none⟩) n c ∧ B ≤ g ∧ WinE w g n := by
  have hn : L.length = n := by have := congrArg List.length hL; simpa using this
  rcases h.own.2 with ⟨_, e⟩ | ⟨g, cap, cur, e, hB, hh, hnc, hc, hs, ht⟩
  · omega
  · refine ⟨g, cap, by rw [← hn]; exact e, hB, cap * 1, fun i => (cur[i]?).getD undef, ⟨cur, hh, hs, fun i hi => ?_⟩, by omega, fun k hk => ?_⟩
    · have hi' : i < cur.size := by omega
      simp [Array.getElem?_eq_getElem hi']
    · have hk' : k < L.length := by omega
      obtain ⟨⟨a, c, e2, _⟩, _⟩ := h.at_ L[k] (List.getElem_mem hk')
      have e3 : L[k].l = [] := by
        have h4 : (L.map (·.l))[k]? = some [] := by rw [hL]; simp [hk]
        simpa [hk'] using h4
      have h2 : (L.map (·.v))[k]? = some L[k].v := by simp [hk']
      rw [← ht, List.getElem?_take_of_lt (by simp; omega)] at h2
      simp only [Array.getElem?_toList] at h2
      refine ⟨a, c, ?_⟩
      simp only [h2, Option.getD_some]
      rw [e2, e3]
      rfl

/-- An answer of GatherNew: the names and as many empty windows, in blocks between two, or nothing. -/
def SafeN (w : World) (lo hi : Nat) (a0 a1 : Option Addr) (nm : List ByteArray) : Prop := nm = [] ∨ ∃ g t, a0 = some ⟨g, 0, none⟩ ∧ a1 = some ⟨t, 0, none⟩ ∧ lo ≤ g ∧ g < hi ∧ lo ≤ t ∧ t < hi ∧ g ≠ t ∧ StrB w g nm ∧ WinE w t nm.length
theorem SafeN.row {w : World} {lo hi : Nat} {a0 a1 : Option Addr} {nm : List ByteArray} (h : SafeN w lo hi a0 a1 nm) : RowS w a0 nm ∧ RowW w a1 (List.replicate nm.length []) := by
  rcases h with rfl | ⟨g, t, rfl, rfl, _, _, _, _, _, h1, h2⟩
  · exact ⟨fun k hk => absurd hk (Nat.not_lt_zero k), fun k hk => absurd hk (Nat.not_lt_zero k)⟩
  · exact ⟨h1.row, h2.row⟩
theorem SafeN.below {w w' : World} {lo hi : Nat} {a0 a1 : Option Addr} {nm : List ByteArray} (h : SafeN w lo hi a0 a1 nm) (hb : Below w.heap.size w w') : SafeN w' lo hi a0 a1 nm := by
  rcases h with rfl | ⟨g, t, rfl, rfl, h3, h4, h5, h6, h7, h1, h2⟩
  · exact .inl rfl
  · exact .inr ⟨g, t, rfl, rfl, h3, h4, h5, h6, h7, h1.below hb, h2.below hb⟩
theorem SafeN.span {w w' : World} {lo hi lo' hi' : Nat} {a0 a1 : Option Addr} {nm : List ByteArray} (h : SafeN w lo hi a0 a1 nm) (hs : Span lo' hi' w w') (hd : hi ≤ lo' ∨ hi' ≤ lo) : SafeN w' lo hi a0 a1 nm := by
  rcases h with rfl | ⟨g, t, rfl, rfl, h3, h4, h5, h6, h7, h1, h2⟩
  · exact .inl rfl
  · exact .inr ⟨g, t, rfl, rfl, h3, h4, h5, h6, h7, h1.span hs (by omega), h2.span hs (by omega)⟩
/-- Which names are answered. -/
def IsN (ins nm : List ByteArray) (ok : Bool) : Prop := (ok = true ∧ InsP ins ∧ nm = ins) ∨ (ok = false ∧ ¬ InsP ins ∧ nm = [])
theorem IsN.one {ins nm nm' : List ByteArray} {ok ok' : Bool} (h : IsN ins nm ok) (k : IsN ins nm' ok') : nm = nm' ∧ ok = ok' := by
  rcases h with ⟨rfl, h1, rfl⟩ | ⟨rfl, h1, rfl⟩
  · rcases k with ⟨rfl, _, rfl⟩ | ⟨rfl, k1, rfl⟩
    · exact ⟨rfl, rfl⟩
    · exact absurd h1 k1
  · rcases k with ⟨rfl, k1, rfl⟩ | ⟨rfl, _, rfl⟩
    · exact absurd k1 h1
    · exact ⟨rfl, rfl⟩
theorem NewE.safe {w w' : World} {ins : List ByteArray} {e : Ending} (h : NewE w w' ins e) : ∃ nm ok a0 c0 a1 c1 a2 c2, e = .returned (.tuple #[.agg #[.slice a0 nm.length c0, .slice a1 nm.length c1, .slice a2 0 c2], .bool ok]) ∧ IsN ins nm ok ∧ SafeN w' w.heap.size w'.heap.size a0 a1 nm := by
  rcases h with ⟨B, v0, v1, L, v2, hB, rfl, hp, h1, h2, h3, ⟨a2, c2, rfl⟩⟩ | ⟨rfl, hp⟩
  · have hpos : 0 < ins.length := hp.1
    obtain ⟨g, c, rfl, hg, hs⟩ := h1.block hpos
    obtain ⟨t, c', rfl, ht, hw⟩ := h2.block h3 hpos
    have hne : g ≠ t := fun e => by
      have hx := own_types (show World.ownsRow _ _ _ _ _ _ _ from h1) h2.own str_unlike
      rcases hx with hx | hx
      · simp [Value.ownBlock] at hx
      · exact hx (by rw [e]; rfl)
    exact ⟨ins, true, _, c, _, c', a2, c2, rfl, .inl ⟨rfl, hp, rfl⟩, .inr ⟨g, t, rfl, rfl, by omega, hs.lt, by omega, hw.lt, hne, hs, hw⟩⟩
  · exact ⟨[], false, none, 0, none, 0, none, 0, rfl, .inr ⟨rfl, hp, rfl⟩, .inl rfl⟩

end Go.Proofs.YtpfhegengmlkmaaGreat

namespace Go.Proofs.YtpfhegengmlkmaaGreat
open Go.RowKit Go.BigFrame
set_option maxRecDepth 100000

theorem YW.span {w w' : World} {lo hi t lo' hi' : Nat} {L : List WinY} (h : YW w lo hi t L) (hs : Span lo' hi' w w') (ht : t < lo' ∨ hi' ≤ t) (hd : hi ≤ lo' ∨ hi' ≤ lo) : YW w' lo hi t L :=
  ⟨Nat.lt_of_lt_of_le h.lt hs.size, fun k hk => by rw [World.cell?_of_block (hs.block t h.lt ht)]; exact h.cell k hk, fun p hp => by
    obtain ⟨a, c, h1, h2, h3⟩ := h.at_ p hp
    have := h.in_ p hp
    exact ⟨a, c, h1, h2, h3.span hs (by omega)⟩, h.far, h.in_, h.dis⟩
/-- A block that none of the windows has is turned. -/
theorem YW.but {w w' : World} {lo hi t b : Nat} {L : List WinY} (h : YW w lo hi t L) (hs : But b w w') (ht : t ≠ b) (hd : ∀ p ∈ L, b < p.lo ∨ p.hi ≤ b) : YW w' lo hi t L :=
  ⟨Nat.lt_of_lt_of_le h.lt hs.size, fun k hk => by rw [World.cell?_of_block (hs.block t h.lt ht)]; exact h.cell k hk, fun p hp => by
    obtain ⟨a, c, h1, h2, h3⟩ := h.at_ p hp
    exact ⟨a, c, h1, h2, h3.span (hs.span (Nat.le_refl b) (Nat.lt_succ_self b)) (by have := hd p hp; omega)⟩, h.far, h.in_, h.dis⟩

/-- The stamp of a gather that is an answer. -/
def StG (w : World) (lo hi b t : Nat) (a2 : Option Addr) (L : List WinY) (m : List (ByteArray × Int)) : Prop := m = [] ∨ ∃ s, a2 = some ⟨s, 0, none⟩ ∧ lo ≤ s ∧ s < hi ∧ s ≠ b ∧ s ≠ t ∧ Own w s m ∧ ∀ p ∈ L, s < p.lo ∨ p.hi ≤ s
structure FullG (w : World) (lo hi b t : Nat) (a2 : Option Addr) (nm : List ByteArray) (L : List WinY) (m : List (ByteArray × Int)) : Prop where
  names : StrB w b nm
  wins : YW w lo hi t L
  bt : b ≠ t
  bin : lo ≤ b ∧ b < hi
  tin : lo ≤ t ∧ t < hi
  bfar : ∀ p ∈ L, b < p.lo ∨ p.hi ≤ b
  stamp : StG w lo hi b t a2 L m
def SafeG (w : World) (lo hi : Nat) (a0 a1 a2 : Option Addr) (nm : List ByteArray) (L : List WinY) (m : List (ByteArray × Int)) : Prop :=
  (nm = [] ∧ L = [] ∧ m = []) ∨ ∃ b t, a0 = some ⟨b, 0, none⟩ ∧ a1 = some ⟨t, 0, none⟩ ∧ FullG w lo hi b t a2 nm L m
theorem StG.row {w : World} {lo hi b t : Nat} {a2 : Option Addr} {L : List WinY} {m : List (ByteArray × Int)} (h : StG w lo hi b t a2 L m) : Row w a2 m := by
  rcases h with rfl | ⟨s, rfl, _, _, _, _, ho, _⟩
  · exact fun k hk => absurd hk (Nat.not_lt_zero k)
  · exact ho.row
theorem SafeG.rows {w : World} {lo hi : Nat} {a0 a1 a2 : Option Addr} {nm : List ByteArray} {L : List WinY} {m : List (ByteArray × Int)} (h : SafeG w lo hi a0 a1 a2 nm L m) : RowS w a0 nm ∧ RowW w a1 (L.map (·.l)) ∧ Row w a2 m := by
  rcases h with ⟨rfl, rfl, rfl⟩ | ⟨b, t, rfl, rfl, h⟩
  · exact ⟨fun k hk => absurd hk (Nat.not_lt_zero k), fun k hk => absurd hk (Nat.not_lt_zero k), fun k hk => absurd hk (Nat.not_lt_zero k)⟩
  · exact ⟨h.names.row, h.wins.row, h.stamp.row⟩
theorem FullG.below {w w' : World} {lo hi b t : Nat} {a2 : Option Addr} {nm : List ByteArray} {L : List WinY} {m : List (ByteArray × Int)} (h : FullG w lo hi b t a2 nm L m) (hb : Below w.heap.size w w') : FullG w' lo hi b t a2 nm L m :=
  ⟨h.names.below hb, h.wins.below hb, h.bt, h.bin, h.tin, h.bfar, by
    rcases h.stamp with e | ⟨s, e, h1, h2, h3, h4, h5, h6⟩
    · exact .inl e
    · exact .inr ⟨s, e, h1, h2, h3, h4, h5.below hb, h6⟩⟩
theorem FullG.span {w w' : World} {lo hi b t lo' hi' : Nat} {a2 : Option Addr} {nm : List ByteArray} {L : List WinY} {m : List (ByteArray × Int)} (h : FullG w lo hi b t a2 nm L m) (hs : Span lo' hi' w w') (hd : hi ≤ lo' ∨ hi' ≤ lo) : FullG w' lo hi b t a2 nm L m :=
  ⟨h.names.span hs (by have := h.bin; omega), h.wins.span hs (by have := h.tin; omega) hd, h.bt, h.bin, h.tin, h.bfar, by
    rcases h.stamp with e | ⟨s, e, h1, h2, h3, h4, h5, h6⟩
    · exact .inl e
    · obtain ⟨mm, f, h7, hf⟩ := id h5
      exact .inr ⟨s, e, h1, h2, h3, h4, ⟨mm, f, h7.of_block (hs.block s h5.lt (by omega)), hf⟩, h6⟩⟩
theorem SafeG.below {w w' : World} {lo hi : Nat} {a0 a1 a2 : Option Addr} {nm : List ByteArray} {L : List WinY} {m : List (ByteArray × Int)} (h : SafeG w lo hi a0 a1 a2 nm L m) (hb : Below w.heap.size w w') : SafeG w' lo hi a0 a1 a2 nm L m := by
  rcases h with h | ⟨b, t, e1, e2, h⟩
  · exact .inl h
  · exact .inr ⟨b, t, e1, e2, h.below hb⟩
theorem SafeG.span {w w' : World} {lo hi lo' hi' : Nat} {a0 a1 a2 : Option Addr} {nm : List ByteArray} {L : List WinY} {m : List (ByteArray × Int)} (h : SafeG w lo hi a0 a1 a2 nm L m) (hs : Span lo' hi' w w') (hd : hi ≤ lo' ∨ hi' ≤ lo) : SafeG w' lo hi a0 a1 a2 nm L m := by
  rcases h with h | ⟨b, t, e1, e2, h⟩
  · exact .inl h
  · exact .inr ⟨b, t, e1, e2, h.span hs hd⟩

end Go.Proofs.YtpfhegengmlkmaaGreat

namespace Go.Proofs.YtpfhegengmlkmaaGreat

theorem pk_eq {ws : List (List ItemL)} {ps : List Int} (hin : InW ws ps) {i : Nat} (hi : i < ps.length) (hw : i < ws.length) : ∃ h : ps[i].toNat < ws[i].length, pkM ws ps i = (ws[i][ps[i].toNat]).2 := by
  obtain ⟨h0, h1⟩ := hin.2 i hi
  have e : ws.getD i [] = ws[i] := by simp [List.getD, hw]
  have e2 : ps.getD i 0 = ps[i] := by simp [List.getD, hi]
  rw [e] at h1
  have h : ps[i].toNat < ws[i].length := by omega
  refine ⟨h, ?_⟩
  unfold pkM
  rw [e, e2]
  simp [List.getD, h]

theorem chP_max {ws : List (List ItemL)} {a b : List Int} (ha : ChP ws a) (hb : ChP ws b) : ChP ws (List.zipWith max a b) := by
  obtain ⟨hok, la, ia, ga⟩ := ha
  obtain ⟨_, lb, ib, gb⟩ := hb
  have hl : (List.zipWith max a b).length = ws.length := by simp [la, lb]
  have hin : InW ws (List.zipWith max a b) := by
    refine ⟨by omega, fun i hi => ?_⟩
    have hia : i < a.length := by omega
    have hib : i < b.length := by omega
    have h1 := ia.2 i hia
    have h2 := ib.2 i hib
    rw [List.getElem_zipWith]
    omega
  refine ⟨hok, hl, hin, fun i k hk hi => ?_⟩
  rw [hl] at hi
  have hkw : k < ws.length := by omega
  obtain ⟨p1, e1⟩ := pk_eq hin (i := i) (by omega) hi
  obtain ⟨p2, e2⟩ := pk_eq hin (i := k) (by omega) hkw
  obtain ⟨q1, f1⟩ := pk_eq ia (i := i) (by omega) hi
  obtain ⟨q2, f2⟩ := pk_eq ia (i := k) (by omega) hkw
  obtain ⟨r1, g1⟩ := pk_eq ib (i := i) (by omega) hi
  obtain ⟨r2, g2⟩ := pk_eq ib (i := k) (by omega) hkw
  have A := ga i k hk (by omega)
  have B := gb i k hk (by omega)
  rw [f1, f2] at A
  rw [g1, g2] at B
  have L := later_agrees (hok.2.2 i hi) (hok.2.2 k hkw) q1 r1 q2 r2 A B
  rw [e1, e2]
  have m1 : ((List.zipWith max a b)[i]'(by omega)).toNat = max (a[i]'(by omega)).toNat (b[i]'(by omega)).toNat := by
    have h1 := ia.2 i (by omega)
    have h2 := ib.2 i (by omega)
    rw [List.getElem_zipWith]
    omega
  have m2 : ((List.zipWith max a b)[k]'(by omega)).toNat = max (a[k]'(by omega)).toNat (b[k]'(by omega)).toNat := by
    have h1 := ia.2 k (by omega)
    have h2 := ib.2 k (by omega)
    rw [List.getElem_zipWith]
    omega
  simp only [m1, m2]
  exact L

/-- What the greatest choice is: it agrees, and none that agrees is ahead of it at any place; or there is none. -/
def BestP (ws : List (List ItemL)) (out : List Int) (ok : Bool) : Prop :=
  (ok = true ∧ ChP ws out ∧ ∀ q, ChP ws q → ∀ i, (hq : i < q.length) → (ho : i < out.length) → q[i] ≤ out[i]) ∨ (ok = false ∧ out = [] ∧ ∀ q, ¬ ChP ws q)

theorem BestP.one {ws : List (List ItemL)} {a b : List Int} {x y : Bool} (h : BestP ws a x) (k : BestP ws b y) : a = b ∧ x = y := by
  rcases h with ⟨rfl, h1, h2⟩ | ⟨rfl, rfl, h2⟩
  · rcases k with ⟨rfl, k1, k2⟩ | ⟨rfl, rfl, k2⟩
    · refine ⟨?_, rfl⟩
      have la := h1.2.1
      have lb := k1.2.1
      apply List.ext_getElem (by omega)
      intro i hi hi'
      have e1 := h2 b k1 i hi' hi
      have e2 := k2 a h1 i hi hi'
      omega
    · exact absurd h1 (k2 a)
  · rcases k with ⟨rfl, k1, k2⟩ | ⟨rfl, rfl, k2⟩
    · exact absurd k1 (h2 b)
    · exact ⟨rfl, rfl⟩


/-- A spot: in which window, and at which place of its stamps. -/
abbrev Spot := Nat × Nat
/-- The source s stands there. -/
def SpotOf (ws : List (List ItemL)) (s : ByteArray) (p : Spot) : Prop := ∃ h : p.1 < ws.length, ∃ h0 : 0 < ws[p.1].length, ∃ h1 : p.2 < (ws[p.1][ws[p.1].length - 1]).2.length, ((ws[p.1][ws[p.1].length - 1]).2[p.2]).1 = s
/-- The spots of the sources that two windows or more have. -/
def SharedP (ws : List (List ItemL)) (sh : List (List Spot)) : Prop :=
  (∀ src ∈ sh, ∃ s, ∀ p ∈ src, SpotOf ws s p) ∧
  ∀ s i k j l, i ≠ k → SpotOf ws s (i, j) → SpotOf ws s (k, l) → ∃ src ∈ sh, (i, j) ∈ src ∧ (k, l) ∈ src
/-- What the chosen item has at a spot. -/
def verM (ws : List (List ItemL)) (ps : List Int) (p : Spot) : Int := ((pkM ws ps p.1).getD p.2 (ByteArray.empty, 0)).2

theorem names_pos {a b : List (ByteArray × Int)} (h : namesM a = namesM b) {j : Nat} (hj : j < a.length) : ∃ hb : j < b.length, a[j].1 = b[j].1 := by
  have hl : a.length = b.length := by
    have := congrArg List.length h
    simpa [namesM] using this
  refine ⟨by omega, ?_⟩
  have e : (namesM a)[j]? = (namesM b)[j]? := by rw [h]
  have hb : j < b.length := by omega
  simpa [namesM, hj, hb] using e

theorem verM_eq {ws : List (List ItemL)} {ps : List Int} (hok : OkW ws) (hl : ps.length = ws.length) (hin : InW ws ps) {s : ByteArray} {p : Spot} (hp : SpotOf ws s p) : ∃ h : p.2 < (pkM ws ps p.1).length, ((pkM ws ps p.1)[p.2]).1 = s ∧ verM ws ps p = ((pkM ws ps p.1)[p.2]).2 ∧ verM ws ps p = getM (pkM ws ps p.1) s ∧ 0 < verM ws ps p := by
  obtain ⟨h, h0, h1, hs⟩ := hp
  obtain ⟨q, e⟩ := pk_eq hin (i := p.1) (by omega) h
  have hw := hok.2.2 p.1 h
  have hn : namesM (ws[p.1][ws[p.1].length - 1]).2 = namesM (pkM ws ps p.1) := by
    rw [e]
    have := hw.names (ws[p.1].length - 1 - (ps[p.1]'(by omega)).toNat) (ps[p.1]'(by omega)).toNat (by omega)
    rw [this]
    congr 2
    congr 1
    omega
  obtain ⟨hb, en⟩ := names_pos hn h1
  have hst : StampP (pkM ws ps p.1) := by rw [e]; exact (hw.2.1 _ q).1
  have ss := stamp_sorted hst
  have hv : verM ws ps p = ((pkM ws ps p.1)[p.2]).2 := by
    unfold verM
    simp [List.getD, hb]
  have hm := getM_mem ss (List.getElem_mem hb)
  have hpos := ss.2 _ (List.getElem_mem hb)
  refine ⟨hb, by rw [← en, hs], hv, ?_, by rw [hv]; exact hpos⟩
  rw [hv, ← hm, ← en, hs]

/-- Which source stands where of a stamp. -/
theorem spot_of_get {ws : List (List ItemL)} {ps : List Int} (hok : OkW ws) (hl : ps.length = ws.length) (hin : InW ws ps) {i : Nat} (hi : i < ws.length) {s : ByteArray} (h : 0 < getM (pkM ws ps i) s) : ∃ j, SpotOf ws s (i, j) := by
  obtain ⟨q, e⟩ := pk_eq hin (i := i) (by omega) hi
  have hw := hok.2.2 i hi
  have h0 : 0 < ws[i].length := by omega
  rw [e, hw.same q (show ws[i].length - 1 < ws[i].length by omega) s] at h
  obtain ⟨j, hj, ej⟩ := List.mem_iff_getElem.1 (getM_pos h)
  exact ⟨j, hi, h0, hj, by simp only; rw [ej]⟩

theorem agW_iff {ws : List (List ItemL)} {ps : List Int} {sh : List (List Spot)} (hok : OkW ws) (hl : ps.length = ws.length) (hin : InW ws ps) (hsh : SharedP ws sh) :
    AgW ws ps ↔ ∀ src ∈ sh, ∀ p ∈ src, ∀ q ∈ src, verM ws ps p = verM ws ps q := by
  have hst : ∀ i, i < ws.length → StampP (pkM ws ps i) := fun i hi => by
    obtain ⟨q, e⟩ := pk_eq hin (i := i) (by omega) hi
    rw [e]
    exact ((hok.2.2 i hi).2.1 _ q).1
  constructor
  · intro h src hs p hp q hq
    obtain ⟨s, hall⟩ := hsh.1 src hs
    have p0 := hall p hp
    have q0 := hall q hq
    obtain ⟨_, _, _, e1, g1⟩ := verM_eq hok hl hin p0
    obtain ⟨_, _, _, e2, g2⟩ := verM_eq hok hl hin q0
    have hpw := p0.1
    have hqw := q0.1
    rcases Nat.lt_trichotomy p.1 q.1 with hlt | heq | hlt
    · have := (agree_get (hst _ hqw) (hst _ hpw)).1 (h q.1 p.1 hlt (by omega)) s (by omega) (by omega)
      omega
    · rw [e1, e2, heq]
    · have := (agree_get (hst _ hpw) (hst _ hqw)).1 (h p.1 q.1 hlt (by omega)) s (by omega) (by omega)
      omega
  · intro h i k hk hi
    rw [agree_get (hst i (by omega)) (hst k (by omega))]
    intro s h1 h2
    obtain ⟨j, hj⟩ := spot_of_get hok hl hin (i := i) (by omega) h1
    obtain ⟨l, hl'⟩ := spot_of_get hok hl hin (i := k) (by omega) h2
    obtain ⟨src, hm, m1, m2⟩ := hsh.2 s i k j l (by omega) hj hl'
    have e := h src hm _ m1 _ m2
    obtain ⟨_, _, _, e1, _⟩ := verM_eq hok hl hin hj
    obtain ⟨_, _, _, e2, _⟩ := verM_eq hok hl hin hl'
    simp only at e1 e2
    omega

/-- A step back loses no choice that agrees. -/
theorem step_back {ws : List (List ItemL)} {ps : List Int} {sh : List (List Spot)} (hok : OkW ws) (hl : ps.length = ws.length) (hin : InW ws ps) (hsh : SharedP ws sh) (hub : ∀ q, ChP ws q → ∀ i, (hq : i < q.length) → (ho : i < ps.length) → q[i] ≤ ps[i])
    {src : List Spot} (hs : src ∈ sh) {p r : Spot} (hp : p ∈ src) (hr : r ∈ src) (hlt : verM ws ps r < verM ws ps p) : ∀ q, ChP ws q → ∀ (hq : p.1 < q.length) (ho : p.1 < ps.length), q[p.1] < ps[p.1] := by
  intro q hc hq ho
  obtain ⟨s, hall⟩ := hsh.1 src hs
  have p0 := hall p hp
  have r0 := hall r hr
  have hpw := p0.1
  have hrw := r0.1
  obtain ⟨_, _, _, e1, _⟩ := verM_eq hok hl hin p0
  obtain ⟨_, _, _, e2, _⟩ := verM_eq hok hl hin r0
  obtain ⟨_, _, _, f1, _⟩ := verM_eq hok hc.2.1 hc.2.2.1 p0
  obtain ⟨_, _, _, f2, _⟩ := verM_eq hok hc.2.1 hc.2.2.1 r0
  have e := (agW_iff hok hc.2.1 hc.2.2.1 hsh).1 hc.2.2.2 src hs p hp r hr
  obtain ⟨a1, b1⟩ := pk_eq hin (i := r.1) (by omega) hrw
  obtain ⟨a2, b2⟩ := pk_eq hc.2.2.1 (i := r.1) (by rw [hc.2.1]; exact hrw) hrw
  obtain ⟨a3, b3⟩ := pk_eq hin (i := p.1) (by omega) hpw
  obtain ⟨a4, b4⟩ := pk_eq hc.2.2.1 (i := p.1) (by rw [hc.2.1]; exact hpw) hpw
  have u1 := hub q hc r.1 (by rw [hc.2.1]; exact hrw) (by omega)
  have l1 := (hok.2.2 r.1 hrw).le (i := (q[r.1]'(by rw [hc.2.1]; exact hrw)).toNat) (j := (ps[r.1]'(by omega)).toNat) (by omega) a1 s
  rw [← b1, ← b2] at l1
  have c0 := hin.2 p.1 ho
  have d0 := hc.2.2.1.2 p.1 hq
  by_cases hge : q[p.1] < ps[p.1]
  · exact hge
  · exfalso
    have l2 := (hok.2.2 p.1 hpw).le (i := (ps[p.1]'(by omega)).toNat) (j := (q[p.1]'(by rw [hc.2.1]; exact hpw)).toNat) (by omega) a4 s
    rw [← b3, ← b4] at l2
    omega

end Go.Proofs.YtpfhegengmlkmaaGreat

namespace Go.Proofs.YtpfhegengmlkmaaGreat

/-- All choices that begin so, with the places in m windows more. -/
def allL (ws : List (List ItemL)) : Nat → List Int → List (List Int)
  | 0, ps => [ps]
  | m + 1, ps => (List.range (ws.getD ps.length []).length).flatMap fun i : Nat => allL ws m (ps ++ [(i : Int)])

theorem pkM_pre {ws : List (List ItemL)} {ps qs : List Int} {i : Nat} (h : i < ps.length) : pkM ws (ps ++ qs) i = pkM ws ps i := by
  unfold pkM
  have e : (ps ++ qs).getD i 0 = ps.getD i 0 := by simp [List.getD, List.getElem?_append_left h]
  rw [e]

theorem AgW.pre {ws : List (List ItemL)} {ps qs : List Int} (h : AgW ws (ps ++ qs)) : AgW ws ps := fun i k hk hi => by
  have h1 := h i k hk (by simp; omega)
  rw [pkM_pre hi, pkM_pre (by omega)] at h1
  exact h1

theorem allL_pre {ws : List (List ItemL)} : ∀ (m : Nat) (ps q : List Int), q ∈ allL ws m ps → ∃ r, q = ps ++ r ∧ r.length = m
  | 0, ps, q, h => by
    obtain rfl : q = ps := by simpa [allL] using h
    exact ⟨[], by simp, rfl⟩
  | m + 1, ps, q, h => by
    simp only [allL, List.mem_flatMap, List.mem_range] at h
    obtain ⟨i, _, h⟩ := h
    obtain ⟨r, rfl, hr⟩ := allL_pre m _ _ h
    exact ⟨(i : Int) :: r, by simp, by simp [hr]⟩

open Classical in
/-- Those of them that agree. -/
noncomputable def foundL (ws : List (List ItemL)) (m : Nat) (ps : List Int) : List (List Int) := (allL ws m ps).filter fun q => decide (AgW ws q)

theorem foundL_no {ws : List (List ItemL)} {m : Nat} {ps : List Int} (h : ¬ AgW ws ps) : foundL ws m ps = [] := by
  classical
  unfold foundL
  rw [List.filter_eq_nil_iff]
  intro q hq
  obtain ⟨r, rfl, _⟩ := allL_pre m ps q hq
  simp only [decide_eq_true_eq]
  exact fun h2 => h h2.pre

theorem foundL_zero {ws : List (List ItemL)} {ps : List Int} (h : AgW ws ps) : foundL ws 0 ps = [ps] := by
  classical
  unfold foundL
  simp [allL, h]

/-- The first k of the next window's places. -/
noncomputable def foundK (ws : List (List ItemL)) (m : Nat) (ps : List Int) (k : Nat) : List (List Int) := (List.range k).flatMap fun i : Nat => foundL ws m (ps ++ [(i : Int)])
theorem foundK_zero (ws : List (List ItemL)) (m : Nat) (ps : List Int) : foundK ws m ps 0 = [] := rfl
theorem foundK_succ (ws : List (List ItemL)) (m : Nat) (ps : List Int) (k : Nat) : foundK ws m ps (k + 1) = foundK ws m ps k ++ foundL ws m (ps ++ [(k : Int)]) := by
  unfold foundK
  simp [List.range_succ, List.flatMap_append]
theorem foundL_succ (ws : List (List ItemL)) (m : Nat) (ps : List Int) : foundL ws (m + 1) ps = foundK ws m ps (ws.getD ps.length []).length := by
  classical
  unfold foundL foundK allL foundL
  rw [List.filter_flatMap]

theorem mem_allL {ws : List (List ItemL)} : ∀ (m : Nat) (ps q : List Int), ps.length + m ≤ ws.length → InW ws ps → (q ∈ allL ws m ps ↔ ∃ r, q = ps ++ r ∧ r.length = m ∧ InW ws q)
  | 0, ps, q, hm, hin => by
    constructor
    · intro h
      obtain rfl : q = ps := by simpa [allL] using h
      exact ⟨[], by simp, rfl, hin⟩
    · rintro ⟨r, rfl, hr, _⟩
      obtain rfl := List.length_eq_zero_iff.1 hr
      simp [allL]
  | m + 1, ps, q, hm, hin => by
    have hin2 : ∀ i : Nat, i < (ws.getD ps.length []).length → InW ws (ps ++ [(i : Int)]) := fun i hi => by
      refine ⟨by simp; omega, fun j hj => ?_⟩
      simp only [List.length_append, List.length_singleton] at hj
      by_cases e : j < ps.length
      · rw [List.getElem_append_left e]
        exact hin.2 j e
      · obtain rfl : j = ps.length := by omega
        simp only [List.getElem_concat_length]
        omega
    simp only [allL, List.mem_flatMap, List.mem_range]
    constructor
    · rintro ⟨i, hi, h⟩
      obtain ⟨r, rfl, hr, h3⟩ := (mem_allL m _ q (by simp; omega) (hin2 i hi)).1 h
      exact ⟨(i : Int) :: r, by simp, by simp [hr], h3⟩
    · rintro ⟨r, rfl, hr, h3⟩
      match r, hr with
      | x :: r, hr =>
        have hx := h3.2 ps.length (by simp)
        have e : (ps ++ x :: r)[ps.length]'(by simp) = x := by simp
        rw [e] at hx
        refine ⟨x.toNat, by omega, ?_⟩
        have ex : ((x.toNat : Nat) : Int) = x := by omega
        refine (mem_allL m _ _ (by simp; omega) (hin2 x.toNat (by omega))).2 ⟨r, by rw [ex]; simp, by simpa using hr, h3⟩

theorem chP_iff {ws : List (List ItemL)} {q : List Int} : ChP ws q ↔ OkW ws ∧ q ∈ foundL ws ws.length [] := by
  classical
  unfold foundL
  rw [List.mem_filter, mem_allL ws.length [] q (by simp) ⟨by simp, fun i hi => by simp at hi⟩]
  simp only [decide_eq_true_eq, List.nil_append]
  constructor
  · rintro ⟨h1, h2, h3, h4⟩
    exact ⟨h1, ⟨q, rfl, h2, h3⟩, h4⟩
  · rintro ⟨h1, ⟨r, rfl, h2, h3⟩, h4⟩
    exact ⟨h1, h2, h3, h4⟩

/-- Place by place the greatest of some choices. -/
def topL (b : List Int) (L : List (List Int)) : List Int := L.foldl (List.zipWith max) b

theorem topL_ch {ws : List (List ItemL)} : ∀ (L : List (List Int)) (b : List Int), ChP ws b → (∀ q ∈ L, ChP ws q) → ChP ws (topL b L) ∧ (∀ i, (hb : i < b.length) → (ht : i < (topL b L).length) → b[i] ≤ (topL b L)[i]) ∧ ∀ q ∈ L, ∀ i, (hq : i < q.length) → (ht : i < (topL b L).length) → q[i] ≤ (topL b L)[i]
  | [], b, hb, _ => ⟨hb, fun i h1 h2 => Int.le_refl _, fun q hq => by simp at hq⟩
  | p :: L, b, hb, hL => by
    have hp := hL p (by simp)
    obtain ⟨h1, h2, h3⟩ := topL_ch L (List.zipWith max b p) (chP_max hb hp) (fun q hq => hL q (by simp [hq]))
    have lb := hb.2.1
    have lp := hp.2.1
    have lt := h1.2.1
    have e : topL b (p :: L) = topL (List.zipWith max b p) L := rfl
    rw [e]
    refine ⟨h1, fun i hi ht => ?_, fun q hq i hi ht => ?_⟩
    · have h4 := h2 i (by simp; omega) ht
      rw [List.getElem_zipWith] at h4
      omega
    · rcases List.mem_cons.1 hq with rfl | hq
      · have h4 := h2 i (by simp; omega) ht
        rw [List.getElem_zipWith] at h4
        omega
      · exact h3 q hq i hi ht

theorem topL_best {ws : List (List ItemL)} (hok : OkW ws) {b : List Int} {L : List (List Int)} (h : foundL ws ws.length [] = b :: L) : BestP ws (topL b (b :: L)) true := by
  have hall : ∀ q ∈ b :: L, ChP ws q := fun q hq => chP_iff.2 ⟨hok, by rw [h]; exact hq⟩
  obtain ⟨h1, _, h3⟩ := topL_ch (b :: L) b (hall b (by simp)) hall
  refine .inl ⟨rfl, h1, fun q hq i hi ho => ?_⟩
  have hm := (chP_iff.1 hq).2
  rw [h] at hm
  exact h3 q hm i hi ho

theorem none_best {ws : List (List ItemL)} (h : ¬ OkW ws ∨ foundL ws ws.length [] = []) : BestP ws [] false := by
  refine .inr ⟨rfl, rfl, fun q hq => ?_⟩
  obtain ⟨h1, h2⟩ := chP_iff.1 hq
  rcases h with h | h
  · exact h h1
  · rw [h] at h2
    simp at h2

end Go.Proofs.YtpfhegengmlkmaaGreat
