/- Texts of this claim, one behind the other. -/
import Derived.Laws.IdiomStrings
import Derived.Test.YtpfhegengmlkmaaGreatDoorZT1
import Derived.Test.YtpfhegengmlkmaaGreatDoorZT5
import Derived.Test.YtpfhegengmlkmaaGreatDoorZT10
import Derived.Test.YtpfhegengmlkmaaGreatDoorZT20
import Derived.Test.YtpfhegengmlkmaaGreatDoorZT22
import Derived.Test.YtpfhegengmlkmaaGreatDoorZT24
import Derived.Test.YtpfhegengmlkmaaGreatDoorZT26
import Derived.Test.YtpfhegengmlkmaaGreatDoorZT27
import Derived.Test.YtpfhegengmlkmaaGreatDoorZT29
namespace Go.Proofs.YtpfhegengmlkmaaGreatDoor
open Go.RowKit Go.BigFrame
set_option maxRecDepth 100000

/-- A show: its values and its stamp. -/
abbrev ShowV := List Int × List (ByteArray × Int)
/-- The slice at address 'a' holds the shows 'l', each in two cells. -/
def RowH (w : World) (a : Option Addr) (l : List ShowV) : Prop :=
  ∀ k, (h : k < l.length) → ∃ b o, a = some ⟨b, o, none⟩ ∧ b < w.heap.size ∧ ∃ a1 c1 a2 c2, w.cell? ⟨b, o + k * 2, none⟩ = some (.slice a1 l[k].1.length c1) ∧ w.cell? ⟨b, o + k * 2 + 1, none⟩ = some (.slice a2 l[k].2.length c2) ∧ RowZ w a1 l[k].1 ∧ Row w a2 l[k].2
/-- As few as a show may have. -/
def FewH (l : List ShowV) : Prop := ∀ p ∈ l, p.1.length ≤ 6 ∧ p.2.length ≤ 12
theorem RowH.below {w w' : World} {a : Option Addr} {l : List ShowV} (h : RowH w a l) (hb : Below w.heap.size w w') : RowH w' a l := fun k hk => by
  obtain ⟨b, o, ha, hlt, a1, c1, a2, c2, h0, h1, h2, h3⟩ := h k hk
  exact ⟨b, o, ha, Nat.lt_of_lt_of_le hlt hb.size, a1, c1, a2, c2, by rw [hb.cell hlt]; exact h0, by rw [hb.cell hlt]; exact h1, h2.below hb, h3.below hb⟩

/-- A show of an answer: its numbers and its marks, the slices, and the blocks between which they lie. -/
structure ShoY where
  vals : List Int
  st : List (ByteArray × Int)
  a1 : Option Addr
  c1 : Nat
  a2 : Option Addr
  c2 : Nat
  lo : Nat
  mid : Nat
  mi2 : Nat
  hi : Nat
abbrev ShoY.sv (p : ShoY) : ShowV := (p.vals, p.st)
structure ShoY.In (w : World) (p : ShoY) : Prop where
  z : SafeZ w p.lo p.mid p.a1 p.vals
  s : Safe w p.mi2 p.hi p.a2 p.st
  o1 : p.lo ≤ p.mid
  o2 : p.mid ≤ p.hi
  o3 : p.hi ≤ w.heap.size
  o4 : p.lo ≤ p.mi2
  o5 : p.mi2 ≤ p.hi
theorem ShoY.In.below {w w' : World} {p : ShoY} (h : p.In w) (hb : Below w.heap.size w w') : p.In w' := ⟨h.z.below hb, h.s.below hb, h.o1, h.o2, Nat.le_trans h.o3 hb.size, h.o4, h.o5⟩
theorem ShoY.In.span {w w' : World} {p : ShoY} {lo hi : Nat} (h : p.In w) (hs : Span lo hi w w') (hd : p.hi ≤ lo ∨ hi ≤ p.lo) : p.In w' :=
  ⟨h.z.span hs (by have := h.o1; have := h.o2; omega), h.s.span hs (by have := h.o4; have := h.o5; omega), h.o1, h.o2, Nat.le_trans h.o3 hs.size, h.o4, h.o5⟩
/-- Block 't' begins with the shows of L, each in blocks of its own between lo and hi. -/
structure HW (w : World) (lo hi t : Nat) (L : List ShoY) : Prop where
  lt : t < w.heap.size
  cell : ∀ k, (h : k < L.length) → w.cell? ⟨t, k * 2, none⟩ = some (.slice L[k].a1 L[k].vals.length L[k].c1) ∧ w.cell? ⟨t, k * 2 + 1, none⟩ = some (.slice L[k].a2 L[k].st.length L[k].c2)
  at_ : ∀ p ∈ L, p.In w
  far : ∀ p ∈ L, t < p.lo ∨ p.hi ≤ t
  in_ : ∀ p ∈ L, lo ≤ p.lo ∧ p.hi ≤ hi
  dis : L.Pairwise fun p q => p.hi ≤ q.lo ∨ q.hi ≤ p.lo
theorem HW.below {w w' : World} {lo hi t : Nat} {L : List ShoY} (h : HW w lo hi t L) (hb : Below w.heap.size w w') : HW w' lo hi t L :=
  ⟨Nat.lt_of_lt_of_le h.lt hb.size, fun k hk => ⟨cell_on hb h.lt (h.cell k hk).1, cell_on hb h.lt (h.cell k hk).2⟩, fun p hp => (h.at_ p hp).below hb, h.far, h.in_, h.dis⟩
theorem HW.span {w w' : World} {lo hi t lo' hi' : Nat} {L : List ShoY} (h : HW w lo hi t L) (hs : Span lo' hi' w w') (ht : t < lo' ∨ hi' ≤ t) (hd : ∀ p ∈ L, p.hi ≤ lo' ∨ hi' ≤ p.lo) : HW w' lo hi t L := by
  have e := hs.block t h.lt ht
  exact ⟨Nat.lt_of_lt_of_le h.lt hs.size, fun k hk => ⟨(World.cell?_of_block (a := ⟨t, k * 2, none⟩) e).trans (h.cell k hk).1, (World.cell?_of_block (a := ⟨t, k * 2 + 1, none⟩) e).trans (h.cell k hk).2⟩, fun p hp => (h.at_ p hp).span hs (hd p hp), h.far, h.in_, h.dis⟩
theorem HW.row {w : World} {lo hi t : Nat} {L : List ShoY} (h : HW w lo hi t L) : RowH w (some ⟨t, 0, none⟩) (L.map (·.sv)) := fun k hk => by
  have hk' : k < L.length := by simpa using hk
  have h0 := h.cell k hk'
  have h1 := h.at_ L[k] (List.getElem_mem hk')
  exact ⟨t, 0, rfl, h.lt, L[k].a1, L[k].c1, L[k].a2, L[k].c2, by simpa using h0.1, by simpa using h0.2, by simpa using h1.z.row, by simpa using h1.s.row⟩

/-- All but the shows' own blocks lies as it lay. -/
structure KeepH (L : List ShoY) (w w' : World) : Prop where
  os : w'.os = w.os
  tape : w'.tape = w.tape
  output : w'.output = w.output
  size : w.heap.size ≤ w'.heap.size
  block : ∀ k, k < w.heap.size → (∀ p ∈ L, k < p.lo ∨ p.hi ≤ k) → w'.heap[k]? = w.heap[k]?
theorem KeepH.refl (L : List ShoY) (w : World) : KeepH L w w := ⟨rfl, rfl, rfl, Nat.le_refl _, fun _ _ _ => rfl⟩
theorem KeepH.trans {L : List ShoY} {x y z : World} (h : KeepH L x y) (k : KeepH L y z) : KeepH L x z := ⟨k.os.trans h.os, k.tape.trans h.tape, k.output.trans h.output, Nat.le_trans h.size k.size, fun i hi hn => (k.block i (Nat.lt_of_lt_of_le hi h.size) hn).trans (h.block i hi hn)⟩
theorem KeepH.span {L : List ShoY} {w w' : World} {lo hi : Nat} (h : KeepH L w w') (hin : ∀ p ∈ L, lo ≤ p.lo ∧ p.hi ≤ hi) : Span lo hi w w' := ⟨h.os, h.tape, h.output, h.size, fun k hk hn => h.block k hk fun p hp => by have := hin p hp; omega⟩

/-- As few as a show of an answer may have. -/
def FewY (L : List ShoY) : Prop := ∀ p ∈ L, p.vals.length ≤ 6 ∧ p.st.length ≤ 12
/-- One show's contents turned. -/
theorem HW.turn {w w' : World} {lo hi t : Nat} {L : List ShoY} (h : HW w lo hi t L) {j : Nat} (hj : j < L.length) {q : ShoY} (hq : q.a1 = L[j].a1 ∧ q.c1 = L[j].c1 ∧ q.a2 = L[j].a2 ∧ q.c2 = L[j].c2 ∧ q.lo = L[j].lo ∧ q.hi = L[j].hi ∧ q.vals.length = L[j].vals.length ∧ q.st.length = L[j].st.length) (hs : Span L[j].lo L[j].hi w w') (hn : q.In w') : HW w' lo hi t (L.set j q) := by
  have hm := List.getElem_mem hj
  have hd := List.pairwise_iff_getElem.1 h.dis
  have hset : ∀ i, (hi : i < (L.set j q).length) → ∃ hi' : i < L.length, ((L.set j q)[i].a1 = L[i].a1 ∧ (L.set j q)[i].c1 = L[i].c1 ∧ (L.set j q)[i].a2 = L[i].a2 ∧ (L.set j q)[i].c2 = L[i].c2 ∧ (L.set j q)[i].lo = L[i].lo ∧ (L.set j q)[i].hi = L[i].hi ∧ (L.set j q)[i].vals.length = L[i].vals.length ∧ (L.set j q)[i].st.length = L[i].st.length) := fun i hi => by
    have hi' : i < L.length := by simpa using hi
    refine ⟨hi', ?_⟩
    rw [List.getElem_set]
    split
    · rename_i e; subst e; exact hq
    · exact ⟨rfl, rfl, rfl, rfl, rfl, rfl, rfl, rfl⟩
  have eb := hs.block t h.lt (h.far _ hm)
  refine ⟨Nat.lt_of_lt_of_le h.lt hs.size, fun k hk => ?_, fun p hp => ?_, fun p hp => ?_, fun p hp => ?_, ?_⟩
  · obtain ⟨hk', e1, e2, e3, e4, _, _, e5, e6⟩ := hset k hk
    rw [e1, e2, e3, e4, e5, e6, World.cell?_of_block (a := ⟨t, k * 2, none⟩) eb, World.cell?_of_block (a := ⟨t, k * 2 + 1, none⟩) eb]
    exact h.cell k hk'
  · obtain ⟨i, hi, rfl⟩ := List.mem_iff_getElem.1 hp
    have hi' : i < L.length := by simpa using hi
    rw [List.getElem_set]
    split
    · exact hn
    · rename_i e
      refine (h.at_ L[i] (List.getElem_mem hi')).span hs ?_
      rcases Nat.lt_or_gt_of_ne e with h4 | h4
      · exact (hd j i hj hi' h4).symm
      · exact hd i j hi' hj h4
  · obtain ⟨i, hi, rfl⟩ := List.mem_iff_getElem.1 hp
    obtain ⟨hi', _, _, _, _, e2, e3, _, _⟩ := hset i hi
    rw [e2, e3]
    exact h.far _ (List.getElem_mem hi')
  · obtain ⟨i, hi, rfl⟩ := List.mem_iff_getElem.1 hp
    obtain ⟨hi', _, _, _, _, e2, e3, _, _⟩ := hset i hi
    rw [e2, e3]
    exact h.in_ _ (List.getElem_mem hi')
  · rw [List.pairwise_iff_getElem]
    intro a b ha hb hab
    obtain ⟨ha', _, _, _, _, e2, e3, _, _⟩ := hset a ha
    obtain ⟨hb', _, _, _, _, f2, f3, _, _⟩ := hset b hb
    rw [e2, e3, f2, f3]
    exact hd a b ha' hb' hab

end Go.Proofs.YtpfhegengmlkmaaGreatDoor

namespace Go.Proofs.YtpfhegengmlkmaaGreatDoor

theorem isJ_stamp {a b m : List (ByteArray × Int)} {ok : Bool} (h : IsJ a b m ok) : StampP m := by
  cases ok
  · rw [h.none]; exact stampP_nil
  · exact h.fits.2.2.2

/-- The join of the stamps of the first k of a choice. -/
def JoinsTo (ws : List (List ItemL)) (ps : List Int) : Nat → List (ByteArray × Int) → Prop
  | 0, m => m = []
  | k + 1, m => ∃ q, JoinsTo ws ps k q ∧ IsJ q (pkM ws ps k) m true
theorem JoinsTo.one {ws : List (List ItemL)} {ps : List Int} : ∀ {k : Nat} {a b : List (ByteArray × Int)}, JoinsTo ws ps k a → JoinsTo ws ps k b → a = b
  | 0, a, b, h1, h2 => by rw [show a = [] from h1, show b = [] from h2]
  | k + 1, a, b, ⟨q, h1, h2⟩, ⟨q', h3, h4⟩ => by
    obtain rfl := h1.one h3
    exact (h2.one h4).1
theorem JoinsTo.pre {ws : List (List ItemL)} {ps : List Int} : ∀ {n : Nat} {m : List (ByteArray × Int)}, JoinsTo ws ps n m → ∀ k, k < n → ∃ q r, JoinsTo ws ps k q ∧ IsJ q (pkM ws ps k) r true
  | n + 1, m, ⟨q, h1, h2⟩, k, hk => by
    by_cases e : k = n
    · subst e; exact ⟨q, m, h1, h2⟩
    · exact h1.pre k (by omega)
theorem JoinsTo.stamp {ws : List (List ItemL)} {ps : List Int} : ∀ {k : Nat} {m : List (ByteArray × Int)}, JoinsTo ws ps k m → StampP m
  | 0, m, h => by rw [show m = [] from h]; exact stampP_nil
  | k + 1, m, ⟨q, _, h2⟩ => isJ_stamp h2
/-- Some stamp does not fit. -/
def JoinsNot (ws : List (List ItemL)) (ps : List Int) : Prop := ∃ k q m, k < ps.length ∧ JoinsTo ws ps k q ∧ IsJ q (pkM ws ps k) m false
/-- What the join of a choice is. -/
def IsCJ (ws : List (List ItemL)) (ps : List Int) (m : List (ByteArray × Int)) (ok : Bool) : Prop :=
  (ok = true ∧ ChP ws ps ∧ JoinsTo ws ps ps.length m) ∨ (ok = false ∧ m = [] ∧ (¬ ChP ws ps ∨ JoinsNot ws ps))
theorem joinsNot_not {ws : List (List ItemL)} {ps : List Int} {m : List (ByteArray × Int)} (h : JoinsNot ws ps) (hj : JoinsTo ws ps ps.length m) : False := by
  obtain ⟨k, q, r, hk, h1, h2⟩ := h
  obtain ⟨q', r', h3, h4⟩ := hj.pre k hk
  obtain rfl := h1.one h3
  have := (h2.one h4).2
  cases this
theorem IsCJ.one {ws : List (List ItemL)} {ps : List Int} {m m' : List (ByteArray × Int)} {ok ok' : Bool} (h : IsCJ ws ps m ok) (k : IsCJ ws ps m' ok') : m = m' ∧ ok = ok' := by
  rcases h with ⟨rfl, h1, h2⟩ | ⟨rfl, rfl, h2⟩
  · rcases k with ⟨rfl, k1, k2⟩ | ⟨rfl, rfl, k2⟩
    · exact ⟨h2.one k2, rfl⟩
    · rcases k2 with k2 | k2
      · exact absurd h1 k2
      · exact (joinsNot_not k2 h2).elim
  · rcases k with ⟨rfl, k1, k2⟩ | ⟨rfl, rfl, k2⟩
    · rcases h2 with h2 | h2
      · exact absurd k1 h2
      · exact (joinsNot_not h2 k2).elim
    · exact ⟨rfl, rfl⟩
theorem IsCJ.stamp {ws : List (List ItemL)} {ps : List Int} {m : List (ByteArray × Int)} {ok : Bool} (h : IsCJ ws ps m ok) : StampP m := by
  rcases h with ⟨rfl, _, h2⟩ | ⟨rfl, rfl, _⟩
  · exact h2.stamp
  · exact stampP_nil

end Go.Proofs.YtpfhegengmlkmaaGreatDoor

namespace Go.Proofs.YtpfhegengmlkmaaGreatDoor

/-- The value of the item that a choice has from window k. -/
def pkV (ws : List (List ItemL)) (ps : List Int) (k : Nat) : Int := ((ws.getD k []).getD (ps.getD k 0).toNat (0, [])).1
def valsM (ws : List (List ItemL)) (ps : List Int) : List Int := (List.range ps.length).map (pkV ws ps)
theorem valsM_len (ws : List (List ItemL)) (ps : List Int) : (valsM ws ps).length = ps.length := by simp [valsM]
def emptyG : GatL := ⟨[], [], []⟩
/-- The gather may be, and the input is one of its own. -/
def InG (g : GatL) (i : Int) : Prop := GatP g ∧ 0 ≤ i ∧ i < (g.ins.length : Int)
/-- What comes of the windows as they are. -/
def ComeP (ws : List (List ItemL)) (sh : List (ByteArray × Int)) (sh' : List (ByteArray × Int)) (sv : List Int) (ss : List (ByteArray × Int)) (code : Int) : Prop :=
  ∃ out ok, BestP ws out ok ∧ ((ok = false ∧ sh' = sh ∧ sv = [] ∧ ss = [] ∧ code = 0) ∨ (ok = true ∧ ∃ j okj, IsCJ ws out j okj ∧
    ((okj = false ∧ sh' = sh ∧ sv = [] ∧ ss = [] ∧ code = 4) ∨ (okj = true ∧ ∃ o, IsOrd sh j o ∧
      ((o ≠ 1 ∧ sh' = sh ∧ sv = [] ∧ ss = [] ∧ code = 0) ∨ (o = 1 ∧ sh' = j ∧ sv = valsM ws out ∧ ss = j ∧ code = 1))))))
theorem ComeP.one {ws : List (List ItemL)} {sh s1 s2 t1 t2 : List (ByteArray × Int)} {v1 v2 : List Int} {c1 c2 : Int} (h : ComeP ws sh s1 v1 t1 c1) (k : ComeP ws sh s2 v2 t2 c2) : s1 = s2 ∧ v1 = v2 ∧ t1 = t2 ∧ c1 = c2 := by
  obtain ⟨o1, k1, b1, h⟩ := h
  obtain ⟨o2, k2, b2, k⟩ := k
  obtain ⟨rfl, rfl⟩ := b1.one b2
  rcases h with ⟨rfl, rfl, rfl, rfl, rfl⟩ | ⟨rfl, j1, x1, i1, h⟩
  · rcases k with ⟨_, rfl, rfl, rfl, rfl⟩ | ⟨e, _⟩
    · exact ⟨rfl, rfl, rfl, rfl⟩
    · cases e
  · rcases k with ⟨e, _⟩ | ⟨_, j2, x2, i2, k⟩
    · cases e
    · obtain ⟨rfl, rfl⟩ := i1.one i2
      rcases h with ⟨rfl, rfl, rfl, rfl, rfl⟩ | ⟨rfl, p1, q1, h⟩
      · rcases k with ⟨_, rfl, rfl, rfl, rfl⟩ | ⟨e, _⟩
        · exact ⟨rfl, rfl, rfl, rfl⟩
        · cases e
      · rcases k with ⟨e, _⟩ | ⟨_, p2, q2, k⟩
        · cases e
        · obtain rfl := q1.one q2
          rcases h with ⟨h1, rfl, rfl, rfl, rfl⟩ | ⟨h1, rfl, rfl, rfl, rfl⟩
          · rcases k with ⟨_, rfl, rfl, rfl, rfl⟩ | ⟨k1, _⟩
            · exact ⟨rfl, rfl, rfl, rfl⟩
            · exact absurd k1 h1
          · rcases k with ⟨k1, _⟩ | ⟨_, rfl, rfl, rfl, rfl⟩
            · exact absurd h1 k1
            · exact ⟨rfl, rfl, rfl, rfl⟩
/-- What the feed comes to. -/
def PutG (g : GatL) (i x : Int) (m : List (ByteArray × Int)) (g' : GatL) (sv : List Int) (ss : List (ByteArray × Int)) (code : Int) : Prop :=
  (¬ InG g i ∧ g' = emptyG ∧ sv = [] ∧ ss = [] ∧ code = 2) ∨ (InG g i ∧ ∃ r c, IsP (g.wins.getD i.toNat []) x m r c ∧
    ((c = 1 ∧ g' = emptyG ∧ sv = [] ∧ ss = [] ∧ code = 2) ∨ (c = 2 ∧ g' = g ∧ sv = [] ∧ ss = [] ∧ code = 3) ∨
      (c = 0 ∧ ∃ sh, ComeP (g.wins.set i.toNat r) g.shown sh sv ss code ∧ g' = ⟨g.ins, g.wins.set i.toNat r, sh⟩)))
theorem PutG.one {g g1 g2 : GatL} {i x c1 c2 : Int} {m s1 s2 : List (ByteArray × Int)} {v1 v2 : List Int} (h : PutG g i x m g1 v1 s1 c1) (k : PutG g i x m g2 v2 s2 c2) : g1 = g2 ∧ v1 = v2 ∧ s1 = s2 ∧ c1 = c2 := by
  rcases h with ⟨h0, rfl, rfl, rfl, rfl⟩ | ⟨h0, r1, d1, p1, h⟩
  · rcases k with ⟨_, rfl, rfl, rfl, rfl⟩ | ⟨k0, _⟩
    · exact ⟨rfl, rfl, rfl, rfl⟩
    · exact absurd k0 h0
  · rcases k with ⟨k0, _⟩ | ⟨_, r2, d2, p2, k⟩
    · exact absurd h0 k0
    · obtain ⟨rfl, rfl⟩ := p1.one p2
      rcases h with ⟨rfl, rfl, rfl, rfl, rfl⟩ | ⟨rfl, rfl, rfl, rfl, rfl⟩ | ⟨rfl, sh1, q1, rfl⟩
      · rcases k with ⟨_, rfl, rfl, rfl, rfl⟩ | ⟨e, _⟩ | ⟨e, _⟩
        · exact ⟨rfl, rfl, rfl, rfl⟩
        · omega
        · omega
      · rcases k with ⟨e, _⟩ | ⟨_, rfl, rfl, rfl, rfl⟩ | ⟨e, _⟩
        · omega
        · exact ⟨rfl, rfl, rfl, rfl⟩
        · omega
      · rcases k with ⟨e, _⟩ | ⟨e, _⟩ | ⟨_, sh2, q2, rfl⟩
        · omega
        · omega
        · obtain ⟨rfl, rfl, rfl, rfl⟩ := q1.one q2
          exact ⟨rfl, rfl, rfl, rfl⟩

theorem getD_get {α : Type} (l : List α) (d : α) {k : Nat} (h : k < l.length) : l.getD k d = l[k] := by simp [List.getD, h]
theorem winP_stamps {l : List ItemL} (h : WinP l) : StampsP l := ⟨by have := h.1; omega, fun j hj => (h.2.1 j hj).1⟩
theorem set_stamps {ws : List (List ItemL)} {k : Nat} {r : List ItemL} (h : ∀ l ∈ ws, StampsP l) (hr : StampsP r) : ∀ l ∈ ws.set k r, StampsP l := fun l hl => by
  rcases List.mem_or_eq_of_mem_set hl with h1 | h1
  · exact h l h1
  · exact h1 ▸ hr
theorem stamps_fitW {ws : List (List ItemL)} (h6 : ws.length ≤ 6) (h : ∀ l ∈ ws, StampsP l) : FitW ws := ⟨by unfold maxLen; omega, fun j hj => (h _ (List.getElem_mem hj)).fit⟩
/-- What an answer is like: few names, few windows, stamps alone. -/
structure NiceG (g : GatL) : Prop where
  ins : g.ins.length ≤ 6
  names : ∀ j, (h : j < g.ins.length) → g.ins[j].size ≤ 8
  wins : g.wins.length ≤ 6
  items : ∀ l ∈ g.wins, StampsP l
  shown : StampP g.shown
theorem emptyG_nice : NiceG emptyG := ⟨by simp [emptyG], fun j hj => by simp [emptyG] at hj, by simp [emptyG], fun l hl => by simp [emptyG] at hl, stampP_nil⟩
theorem GatP.nice {g : GatL} (h : GatP g) : NiceG g := by
  refine ⟨h.ins.2.1, fun j hj => (h.ins.2.2 j hj).1.2.1, ?_, fun l hl => ?_, h.shown⟩
  · have := h.ins.2.1; have := h.len; omega
  · obtain ⟨j, hj, rfl⟩ := List.mem_iff_getElem.1 hl
    exact winP_stamps (h.wins.2.2 j hj)
theorem best_in {ws : List (List ItemL)} {out : List Int} (h : BestP ws out true) : ChP ws out := by
  rcases h with ⟨_, h, _⟩ | ⟨e, _⟩
  · exact h
  · cases e
theorem ComeP.nice {ws : List (List ItemL)} {sh s1 t1 : List (ByteArray × Int)} {v1 : List Int} {c1 : Int} (h : ComeP ws sh s1 v1 t1 c1) (hs : StampP sh) : StampP s1 ∧ v1.length ≤ 6 ∧ StampP t1 := by
  obtain ⟨o1, k1, b1, h⟩ := h
  rcases h with ⟨rfl, rfl, rfl, rfl, rfl⟩ | ⟨rfl, j1, x1, i1, h⟩
  · exact ⟨hs, by simp, stampP_nil⟩
  · have hc := best_in b1
    have hl : o1.length ≤ 6 := by have := hc.2.1; have := hc.1.2.1; omega
    rcases h with ⟨rfl, rfl, rfl, rfl, rfl⟩ | ⟨rfl, p1, q1, h⟩
    · exact ⟨hs, by simp, stampP_nil⟩
    · rcases h with ⟨h1, rfl, rfl, rfl, rfl⟩ | ⟨h1, rfl, rfl, rfl, rfl⟩
      · exact ⟨hs, by simp, stampP_nil⟩
      · exact ⟨i1.stamp, by rw [valsM_len]; exact hl, i1.stamp⟩
theorem PutG.nice {g g1 : GatL} {i x c1 : Int} {m s1 : List (ByteArray × Int)} {v1 : List Int} (h : PutG g i x m g1 v1 s1 c1) : NiceG g1 ∧ v1.length ≤ 6 ∧ StampP s1 := by
  rcases h with ⟨h0, rfl, rfl, rfl, rfl⟩ | ⟨h0, r1, d1, p1, h⟩
  · exact ⟨emptyG_nice, by simp, stampP_nil⟩
  · have hn := h0.1.nice
    rcases h with ⟨rfl, rfl, rfl, rfl, rfl⟩ | ⟨rfl, rfl, rfl, rfl, rfl⟩ | ⟨rfl, sh1, q1, rfl⟩
    · exact ⟨emptyG_nice, by simp, stampP_nil⟩
    · exact ⟨hn, by simp, stampP_nil⟩
    · have hc := q1.nice hn.shown
      exact ⟨⟨hn.ins, hn.names, by simpa using hn.wins, set_stamps hn.items (isP_stamps p1), hc.1⟩, hc.2⟩

end Go.Proofs.YtpfhegengmlkmaaGreatDoor

namespace Go.Proofs.YtpfhegengmlkmaaGreatDoor
open Go.RowKit Go.BigFrame
set_option maxRecDepth 100000

theorem Tri.span {w w' : World} {b lo hi : Nat} {x y z : Value} (h : Tri w b x y z) (hs : Span lo hi w w') (hd : b < lo ∨ hi ≤ b) : Tri w' b x y z := by
  have hlt : b < w.heap.size := block_lt_of_cell h.c0
  have e := hs.block b hlt hd
  exact ⟨(World.cell?_of_block (a := ⟨b, 0, none⟩) e).trans h.c0, (World.cell?_of_block (a := ⟨b, 1, none⟩) e).trans h.c1, (World.cell?_of_block (a := ⟨b, 2, none⟩) e).trans h.c2, (World.frozen?_of_block (a := ⟨b, 0, none⟩) e).trans h.f0, (World.frozen?_of_block (a := ⟨b, 1, none⟩) e).trans h.f1, (World.frozen?_of_block (a := ⟨b, 2, none⟩) e).trans h.f2⟩

end Go.Proofs.YtpfhegengmlkmaaGreatDoor

namespace Go.Proofs.YtpfhegengmlkmaaGreatDoor
open Go.RowKit Go.BigFrame
set_option maxRecDepth 100000

/-- The feeds so far, from g0 on: the gather, the shows, and the codes. -/
inductive PlayTo (g0 : GatL) : List FeedV → GatL → List ShowV → List Int → Prop
  | nil : PlayTo g0 [] g0 [] []
  | snoc {fs : List FeedV} {g g1 : GatL} {sh : List ShowV} {cs : List Int} {f : FeedV} {sv : List Int} {ss : List (ByteArray × Int)} {c : Int} (h : PlayTo g0 fs g sh cs) (hp : PutG g f.1 f.2.1 f.2.2 g1 sv ss c) :
      PlayTo g0 (fs ++ [f]) (if c = 2 then g else g1) (if c = 1 then sh ++ [(sv, ss)] else sh) (cs ++ [c])
theorem PlayTo.inv {g0 : GatL} {l : List FeedV} {g : GatL} {sh : List ShowV} {cs : List Int} (h : PlayTo g0 l g sh cs) :
    (l = [] ∧ g = g0 ∧ sh = [] ∧ cs = []) ∨ ∃ fs f gp shp csp g1 sv ss c, l = fs ++ [f] ∧ PlayTo g0 fs gp shp csp ∧ PutG gp f.1 f.2.1 f.2.2 g1 sv ss c ∧ g = (if c = 2 then gp else g1) ∧ sh = (if c = 1 then shp ++ [(sv, ss)] else shp) ∧ cs = csp ++ [c] := by
  cases h with
  | nil => exact .inl ⟨rfl, rfl, rfl, rfl⟩
  | snoc h hp => exact .inr ⟨_, _, _, _, _, _, _, _, _, rfl, h, hp, rfl, rfl, rfl⟩
/-- It comes to one thing alone. -/
theorem PlayTo.one {g0 : GatL} {l : List FeedV} {g : GatL} {sh : List ShowV} {cs : List Int} (h : PlayTo g0 l g sh cs) : ∀ {g' : GatL} {sh' : List ShowV} {cs' : List Int}, PlayTo g0 l g' sh' cs' → g = g' ∧ sh = sh' ∧ cs = cs' := by
  induction h with
  | nil =>
    intro g' sh' cs' k
    rcases k.inv with ⟨_, h1, h2, h3⟩ | ⟨fs, f, _, _, _, _, _, _, _, e, _⟩
    · exact ⟨h1.symm, h2.symm, h3.symm⟩
    · simp at e
  | snoc h hp ih =>
    intro g' sh' cs' k
    rcases k.inv with ⟨e, _⟩ | ⟨fs, f, gp, shp, csp, g1, sv, ss, c, e, k1, k2, k3, k4, k5⟩
    · simp at e
    · obtain ⟨e1, e2⟩ := List.append_inj' e rfl
      simp only [List.cons.injEq, and_true] at e2
      subst e1 e2
      obtain ⟨i1, i2, i3⟩ := ih k1
      subst i1 i2 i3
      obtain ⟨j1, j2, j3, j4⟩ := hp.one k2
      subst j1 j2 j3 j4
      exact ⟨k3.symm, k4.symm, k5.symm⟩
theorem PlayTo.nice {g0 : GatL} {l : List FeedV} {g : GatL} {sh : List ShowV} {cs : List Int} (h0 : NiceG g0) (h : PlayTo g0 l g sh cs) : NiceG g ∧ FewH sh ∧ cs.length = l.length ∧ sh.length ≤ l.length := by
  induction h with
  | nil => exact ⟨h0, fun p hp => by simp at hp, rfl, Nat.le_refl _⟩
  | snoc h hp ih =>
    obtain ⟨i1, i2, i3, i4⟩ := ih
    obtain ⟨j1, j2, j3⟩ := hp.nice
    refine ⟨?_, ?_, by simp [i3], ?_⟩
    · split
      · exact i1
      · exact j1
    · split
      · intro p hp'
        rcases List.mem_append.1 hp' with h1 | h1
        · exact i2 p h1
        · obtain rfl : p = _ := by simpa using h1
          exact ⟨j2, j3.1⟩
      · exact i2
    · split
      · simp; omega
      · simp; omega
/-- What GatherPlay answers. -/
def PlayR (ins : List ByteArray) (fs : List FeedV) (sh : List ShowV) (cs : List Int) : Prop :=
  ∃ nm ok, IsN ins nm ok ∧ ((ok = true ∧ fs.length ≤ 60 ∧ ∃ g, PlayTo (newG nm) fs g sh cs) ∨ ((ok = false ∨ 60 < fs.length) ∧ sh = [] ∧ cs = []))
theorem newG_nice {ins nm : List ByteArray} (h : IsN ins nm true) : NiceG (newG nm) := by
  rcases h with ⟨_, h1, rfl⟩ | ⟨e, _, _⟩
  · refine ⟨h1.2.1, fun j hj => (h1.2.2 j hj).1.2.1, by simp [newG]; exact h1.2.1, fun l hl => ?_, stampP_nil⟩
    obtain rfl : l = [] := by
      have := List.eq_of_mem_replicate (show l ∈ List.replicate _ [] from hl)
      exact this
    exact ⟨by simp, fun j hj => by simp at hj⟩
  · cases e
theorem PlayR.one {ins : List ByteArray} {fs : List FeedV} {sh sh' : List ShowV} {cs cs' : List Int} (h : PlayR ins fs sh cs) (k : PlayR ins fs sh' cs') : sh = sh' ∧ cs = cs' := by
  obtain ⟨nm, ok, h1, h2⟩ := h
  obtain ⟨nm', ok', k1, k2⟩ := k
  obtain ⟨e1, e2⟩ := h1.one k1
  subst e1 e2
  rcases h2 with ⟨rfl, hl, g, h2⟩ | ⟨hn, rfl, rfl⟩
  · rcases k2 with ⟨_, _, g', k2⟩ | ⟨kn, _, _⟩
    · exact (h2.one k2).2
    · rcases kn with e | e
      · cases e
      · omega
  · rcases k2 with ⟨rfl, kl, g', k2⟩ | ⟨_, rfl, rfl⟩
    · rcases hn with e | e
      · cases e
      · omega
    · exact ⟨rfl, rfl⟩
theorem PlayR.few {ins : List ByteArray} {fs : List FeedV} {sh : List ShowV} {cs : List Int} (h : PlayR ins fs sh cs) : FewH sh ∧ cs.length ≤ 60 ∧ sh.length ≤ 60 := by
  obtain ⟨nm, ok, h1, h2⟩ := h
  rcases h2 with ⟨rfl, hl, g, h2⟩ | ⟨hn, rfl, rfl⟩
  · obtain ⟨_, i2, i3, i4⟩ := h2.nice (newG_nice h1)
    exact ⟨i2, by omega, by omega⟩
  · exact ⟨fun p hp => by simp at hp, by simp, by simp⟩

/-- The shows and the codes of an answer lie between two blocks. -/
structure PlyA (w : World) (lo hi : Nat) (sa ca : Option Addr) (L : List ShoY) (cs : List Int) : Prop where
  sh : L = [] ∨ ∃ t, sa = some ⟨t, 0, none⟩ ∧ lo ≤ t ∧ t < hi ∧ HW w lo hi t L ∧ (∀ c, ca = some ⟨c, 0, none⟩ → c ≠ t)
  co : cs = [] ∨ ∃ c, ca = some ⟨c, 0, none⟩ ∧ lo ≤ c ∧ c < hi ∧ NumB w c cs ∧ ∀ p ∈ L, c < p.lo ∨ p.hi ≤ c
theorem PlyA.below {w w' : World} {lo hi : Nat} {sa ca : Option Addr} {L : List ShoY} {cs : List Int} (h : PlyA w lo hi sa ca L cs) (hb : Below w.heap.size w w') : PlyA w' lo hi sa ca L cs := by
  refine ⟨?_, ?_⟩
  · rcases h.sh with e | ⟨t, e, h1, h2, h3, h4⟩
    · exact .inl e
    · exact .inr ⟨t, e, h1, h2, h3.below hb, h4⟩
  · rcases h.co with e | ⟨c, e, h1, h2, h3, h4⟩
    · exact .inl e
    · exact .inr ⟨c, e, h1, h2, h3.below hb, h4⟩
theorem PlyA.span {w w' : World} {lo hi lo' hi' : Nat} {sa ca : Option Addr} {L : List ShoY} {cs : List Int} (h : PlyA w lo hi sa ca L cs) (hs : Span lo' hi' w w') (hd : hi ≤ lo' ∨ hi' ≤ lo) : PlyA w' lo hi sa ca L cs := by
  refine ⟨?_, ?_⟩
  · rcases h.sh with e | ⟨t, e, h1, h2, h3, h4⟩
    · exact .inl e
    · exact .inr ⟨t, e, h1, h2, h3.span hs (by omega) (fun p hp => by have := h3.in_ p hp; have := (h3.at_ p hp).o1; have := (h3.at_ p hp).o2; omega), h4⟩
  · rcases h.co with e | ⟨c, e, h1, h2, h3, h4⟩
    · exact .inl e
    · exact .inr ⟨c, e, h1, h2, h3.span hs (by omega), h4⟩
theorem PlyA.rows {w : World} {lo hi : Nat} {sa ca : Option Addr} {L : List ShoY} {cs : List Int} (h : PlyA w lo hi sa ca L cs) : RowH w sa (L.map (·.sv)) ∧ RowZ w ca cs := by
  refine ⟨?_, ?_⟩
  · rcases h.sh with rfl | ⟨t, rfl, _, _, h3, _⟩
    · exact fun k hk => by simp at hk
    · exact h3.row
  · rcases h.co with rfl | ⟨c, rfl, _, _, h3, _⟩
    · exact fun k hk => absurd hk (Nat.not_lt_zero k)
    · exact h3.row
theorem FewH.y {L : List ShoY} (h : FewH (L.map (·.sv))) : FewY L := fun p hp => h p.sv (List.mem_map.2 ⟨p, hp, rfl⟩)

end Go.Proofs.YtpfhegengmlkmaaGreatDoor
