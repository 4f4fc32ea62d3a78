/- Texts of this claim, one behind the other. -/
import Derived.Test.YtpfhegengmlkmacGreatDoorGath
import Derived.Maps.OwnOps
import Derived.Maps.OwnSet
import Derived.Maps.AppendAt
import Derived.Sort.KeysCollected
import Derived.Test.YtpfhegengmlkmacGreatDoorIter
import Derived.WalkMore
import Derived.Deep.LoopGhost
import Derived.Test.YtpfhegengmlkmacGreatDoorJoinM
import Derived.Test.YtpfhegengmlkmacGreatDoorWe
import Derived.Test.YtpfhegengmlkmacGreatDoorGet
import Derived.Test.YtpfhegengmlkmacGreatDoorZGPOwn4
/- A map of slices that the call itself makes: at each text its spots, each list in a row of its own. -/
namespace Go.Proofs.YtpfhegengmlkmacGreatDoor
open Go.RowKit Go.BigFrame

/-- An element reads as itself. -/
def heldE (v : Value) : Option (DataW Value × List MemPlace) := some (.held v, [])
/-- A text as a key. -/
def litS (s : ByteArray) : Lit := .string s.data.toList
theorem litS_inj {s t : ByteArray} (h : litS s = litS t) : s = t := by
  unfold litS at h
  have h1 : s.data.toList = t.data.toList := by simpa using h
  cases s
  cases t
  simp only at h1
  congr 1
  exact Array.toList_inj.1 h1
theorem litS_key (s : ByteArray) : WideAt.IsKeyLit (litS s) := by unfold litS WideAt.IsKeyLit; trivial

/-- The cells of spots, two a spot. -/
def scells : List Spot → List Value
  | [] => []
  | p :: r => .int .i64 (p.1 : Int) :: .int .i64 (p.2 : Int) :: scells r
theorem scells_length : ∀ L, (scells L).length = L.length * 2
  | [] => rfl
  | p :: r => by simp [scells, scells_length r]; omega
theorem scells_append : ∀ L r, scells (L ++ r) = scells L ++ scells r
  | [], _ => rfl
  | p :: L, r => by simp [scells, scells_append L r]
theorem scells_at : ∀ (L : List Spot) (k : Nat) (h : k < L.length), (scells L)[k * 2]? = some (.int .i64 (L[k].1 : Int)) ∧ (scells L)[k * 2 + 1]? = some (.int .i64 (L[k].2 : Int))
  | p :: r, 0, _ => by simp [scells]
  | p :: r, k + 1, h => by
    have := scells_at r k (by simpa using h)
    have e0 : (k + 1) * 2 = k * 2 + 1 + 1 := by omega
    rw [e0]
    simp only [scells, List.getElem?_cons_succ, List.getElem_cons_succ]
    exact this

/-- The slice value 'v' holds the spots 'l', in a row of the call's own. -/
def GathP (w : World) (B : Nat) (v : Value) (l : List Spot) : Prop := w.ownsRow B 245 2 v l.length (scells l)

/-- Block 'b' is a map: at each text the spots that S has of it, in the slice that V has of it; no two slices lie in one row. -/
structure GrpS (w : World) (B b n : Nat) (D : DataW Value) (V : ByteArray → Value) (S : ByteArray → List Spot) : Prop where
  own : w.ownsMap Tryz.prog 9 heldE b n D
  lt : b < B
  eq : ∀ s, D.atKey (litS s) (.held (.slice none 0 0)) = .held (V s)
  has : ∀ s, Maps.has D (litS s) = true ↔ S s ≠ []
  row : ∀ s, GathP w B (V s) (S s)
  far : ∀ s t, s ≠ t → (V s).ownBlock = none ∨ (V s).ownBlock ≠ (V t).ownBlock

theorem grpS_made (w : World) : GrpS (w.alloc (.map #[] 0)) (w.heap.size + 1) w.heap.size 0 (.map []) (fun _ => .slice none 0 0) (fun _ => []) where
  own := World.ownsMap_made _ _ _ _
  lt := Nat.lt_succ_self _
  eq := fun s => rfl
  has := fun s => by simp [Maps.has]
  row := fun s => World.ownsRow_nil _ _ _ _
  far := fun s t _ => .inl rfl

theorem GathP.kept {w w' : World} {B : Nat} {v : Value} {l : List Spot} {row : Option Nat} (h : GathP w B v l) (hg : w.grownBy w' row) (hne : v.ownBlock = none ∨ v.ownBlock ≠ row) : GathP w' B v l := World.ownsRow.kept h hg hne

theorem GathP.snoc {w : World} {B : Nat} {v : Value} {l : List Spot} {p : Spot} (h : w.ownsRow B 245 2 v (l.length + 1) (scells l ++ [.int .i64 (p.1 : Int), .int .i64 (p.2 : Int)])) : GathP w B v (l ++ [p]) := by
  unfold GathP
  rw [scells_append, List.length_append]
  exact h

open Classical in
theorem GrpS.put {w w1 w2 : World} {B b n : Nat} {D : DataW Value} {V : ByteArray → Value} {S : ByteArray → List Spot} (h : GrpS w B b n D V S) (s : ByteArray) (p : Spot) {v' : Value} (hg : w.grownBy w1 (V s).ownBlock)
    (ho : w1.ownsRow B 245 2 v' ((S s).length + 1) (scells (S s) ++ [.int .i64 (p.1 : Int), .int .i64 (p.2 : Int)])) (hloc : v'.ownBlock = (V s).ownBlock ∨ ∃ g, v'.ownBlock = some g ∧ w.heap.size ≤ g)
    (h2 : w2.ownsMap Tryz.prog 9 heldE b (n + 1) (D.put (litS s) (.held v'))) (hg2 : w1.grownBy w2 (some b)) :
    GrpS w2 B b (n + 1) (D.put (litS s) (.held v')) (fun t => if t = s then v' else V t) (fun t => if t = s then S s ++ [p] else S t) := by
  have hb : ∀ {u : World} {v : Value} {l : List Spot}, GathP u B v l → v.ownBlock = none ∨ v.ownBlock ≠ some b := fun {u v l} hv => by
    cases hk : v.ownBlock with
    | none => exact .inl rfl
    | some k =>
      have := (World.ownsRow.lt hv k hk).1
      have := h.lt
      exact .inr (fun e => by cases e; omega)
  have hnew : ∀ t, t ≠ s → (V t).ownBlock = none ∨ (V t).ownBlock ≠ v'.ownBlock := fun t ht => by
    rcases hloc with e | ⟨g, e, hle⟩
    · rw [e]; exact h.far t s ht
    · cases hk : (V t).ownBlock with
      | none => exact .inl rfl
      | some k =>
        have := (World.ownsRow.lt (h.row t) k hk).2
        exact .inr (fun e' => by rw [e] at e'; cases e'; omega)
  refine ⟨h2, h.lt, fun t => ?_, fun t => ?_, fun t => ?_, fun t u htu => ?_⟩
  · by_cases e : t = s
    · subst e
      rw [if_pos rfl, Maps.atKey_put_same h.own.isMap (litS_key t)]
    · rw [if_neg e, Maps.atKey_put_other (fun h => e (litS_inj h)), h.eq t]
  · by_cases e : t = s
    · subst e
      rw [if_pos rfl, Maps.has_put_same h.own.isMap (litS_key t)]
      simp
    · rw [if_neg e, Maps.has_put_other (fun h => e (litS_inj h)), h.has t]
  · by_cases e : t = s
    · subst e
      simp only [↓reduceIte]
      have h3 := GathP.snoc (p := p) ho
      exact h3.kept hg2 (hb h3)
    · simp only [if_neg e]
      have h3 := (h.row t).kept hg (h.far t s e)
      exact h3.kept hg2 (hb h3)
  · by_cases e : t = s
    · subst e
      have hu : u ≠ t := fun h => htu h.symm
      simp only [↓reduceIte, if_neg hu]
      rcases hnew u hu with e1 | e1
      · cases hv : v'.ownBlock with
        | none => exact .inl rfl
        | some k => exact .inr (fun e2 => by rw [e1] at e2; cases e2)
      · exact .inr (fun e2 => e1 e2.symm)
    · simp only [if_neg e]
      by_cases e2 : u = s
      · subst e2
        simp only [↓reduceIte]
        exact hnew t e
      · simp only [if_neg e2]
        exact h.far t u htu

/-- The look-up at the operation. -/
theorem wpList_lookup_held {P : Program} (w : World) {ops : Array Oper} {rest : List Oper} {o : Oper} {a : Act} {Q : Exit → Act → World → Prop}
    (hg : o.guard = none) (m x : Operand) (t : TypeId) (hop : o.op = Op.lookup t m x false) (k e : TypeId) (K : Maps.Keyed P k) (ht : P.underlying t = some (.map k e)) (hz : (zeroValue e).run P w = .ok (.slice none 0 0) w) (b n : Nat) (D : DataW Value)
    (hm : a.eval m = .map (some b)) (hown : w.ownsMap P k heldE b n D) (key : Value) (kl : Lit) (hx : a.eval x = key) (hkey : keyOf P k key = some kl)
    (hK : ∀ v, D.atKey kl (.held (.slice none 0 0)) = .held v → wpList P ops Q rest (a.put o.dst v) w) : wpList P ops Q (o :: rest) a w := by
  refine wpList_plain hg fun K' hK' => ?_
  obtain ⟨v, ps, hrun, hv⟩ := hown.lookup K ht hz (zd := .held (.slice none 0 0)) (zp := []) rfl hkey
  have hat : D.atKey kl (.held (.slice none 0 0)) = .held v := by
    unfold heldE at hv
    simp only [Option.some.injEq, Prod.mk.injEq] at hv
    exact hv.1.symm
  unfold Oper.wp
  simp [execOp, hop, hm, hx, hrun, Result.andThen]
  exact hK' _ _ (hK v hat)

end Go.Proofs.YtpfhegengmlkmacGreatDoor
/- Windows that the call itself gathers, ten cells a window; rows of lists of spots. -/
namespace Go.Proofs.YtpfhegengmlkmacGreatDoor
open Go.RowKit Go.BigFrame

/-- The ten cells of a window's value. -/
def WinC (W0 : World) (c : List Value) (l : List ItemL) : Prop := c.length = 10 ∧ l.length ≤ 4 ∧ c[8]? = some (.int .i64 0) ∧ c[9]? = some (.int .i64 l.length) ∧
  ∀ k, (h : k < l.length) → c[k * 2]? = some (.int .i64 l[k].1) ∧ ∃ v, c[k * 2 + 1]? = some v ∧ IsSl W0 v l[k].2

theorem WinV.cells {W0 : World} {v : Value} {l : List ItemL} (h : WinV W0 v l) : ∃ (x0 x1 x2 x3 : Int) (a0 a1 a2 a3 : Option Addr) (n0 n1 n2 n3 c0 c1 c2 c3 : Nat), v = .agg #[.int .i64 x0, .slice a0 n0 c0, .int .i64 x1, .slice a1 n1 c1, .int .i64 x2, .slice a2 n2 c2, .int .i64 x3, .slice a3 n3 c3, .int .i64 0, .int .i64 l.length] ∧
    WinC W0 [.int .i64 x0, .slice a0 n0 c0, .int .i64 x1, .slice a1 n1 c1, .int .i64 x2, .slice a2 n2 c2, .int .i64 x3, .slice a3 n3 c3, .int .i64 0, .int .i64 l.length] l := by
  obtain ⟨x0, x1, x2, x3, a0, a1, a2, a3, n0, n1, n2, n3, c0, c1, c2, c3, rfl, h4, hk⟩ := h
  refine ⟨x0, x1, x2, x3, a0, a1, a2, a3, n0, n1, n2, n3, c0, c1, c2, c3, rfl, rfl, h4, rfl, rfl, fun k h => ?_⟩
  rcases (by omega : k = 0 ∨ k = 1 ∨ k = 2 ∨ k = 3) with rfl | rfl | rfl | rfl
  · obtain ⟨q1, a, n, c, q2, q3⟩ := hk 0 h
    obtain ⟨rfl, rfl, rfl⟩ : a0 = a ∧ n0 = n ∧ c0 = c := by simpa using q2
    have e1 : x0 = l[0].1 := by simpa using q1
    exact ⟨by rw [← e1]; rfl, _, rfl, q3⟩
  · obtain ⟨q1, a, n, c, q2, q3⟩ := hk 1 h
    obtain ⟨rfl, rfl, rfl⟩ : a1 = a ∧ n1 = n ∧ c1 = c := by simpa using q2
    have e1 : x1 = l[1].1 := by simpa using q1
    exact ⟨by rw [← e1]; rfl, _, rfl, q3⟩
  · obtain ⟨q1, a, n, c, q2, q3⟩ := hk 2 h
    obtain ⟨rfl, rfl, rfl⟩ : a2 = a ∧ n2 = n ∧ c2 = c := by simpa using q2
    have e1 : x2 = l[2].1 := by simpa using q1
    exact ⟨by rw [← e1]; rfl, _, rfl, q3⟩
  · obtain ⟨q1, a, n, c, q2, q3⟩ := hk 3 h
    obtain ⟨rfl, rfl, rfl⟩ : a3 = a ∧ n3 = n ∧ c3 = c := by simpa using q2
    have e1 : x3 = l[3].1 := by simpa using q1
    exact ⟨by rw [← e1]; rfl, _, rfl, q3⟩

/-- The cells of gathered windows. -/
def vcells (L : List (List ItemL × List Value)) : List Value := L.flatMap (·.2)
theorem vcells_at : ∀ (L : List (List ItemL × List Value)), (∀ p ∈ L, p.2.length = 10) → ∀ (k : Nat) (h : k < L.length) (j : Nat), j < 10 → (vcells L)[k * 10 + j]? = L[k].2[j]?
  | p :: r, hL, 0, _, j, hj => by
    have h10 := hL p (by simp)
    simp only [vcells, List.flatMap_cons, Nat.zero_mul, Nat.zero_add, List.getElem_cons_zero]
    rw [List.getElem?_append_left (by omega)]
  | p :: r, hL, k + 1, h, j, hj => by
    have h10 := hL p (by simp)
    have := vcells_at r (fun q hq => hL q (by simp [hq])) k (by simpa using h) j hj
    simp only [vcells, List.flatMap_cons, List.getElem_cons_succ] at this ⊢
    rw [List.getElem?_append_right (by omega), ← this]
    congr 1
    omega
theorem vcells_length : ∀ (L : List (List ItemL × List Value)), (∀ p ∈ L, p.2.length = 10) → (vcells L).length = L.length * 10
  | [], _ => rfl
  | p :: r, hL => by
    have h10 := hL p (by simp)
    have := vcells_length r (fun q hq => hL q (by simp [hq]))
    simp only [vcells, List.flatMap_cons, List.length_append, List.length_cons] at this ⊢
    omega
/-- The slice value 'v' holds the windows 'L', in a row of the call's own; their items' marks lie in W0. -/
def GathW (W0 w : World) (B : Nat) (v : Value) (L : List (List ItemL × List Value)) : Prop := w.ownsRow B 190 10 v L.length (vcells L) ∧ ∀ p ∈ L, WinC W0 p.2 p.1
theorem GathW.snoc {W0 w w' : World} {B : Nat} {v v' : Value} {L : List (List ItemL × List Value)} {l : List ItemL} {c : List Value} (h : GathW W0 w B v L) (hc : WinC W0 c l) (h' : w'.ownsRow B 190 10 v' (L.length + 1) (vcells L ++ c)) : GathW W0 w' B v' (L ++ [(l, c)]) := by
  refine ⟨?_, fun p hp => ?_⟩
  · have e : vcells (L ++ [(l, c)]) = vcells L ++ c := by simp [vcells]
    rw [e, List.length_append]
    exact h'
  · rcases List.mem_append.1 hp with hp | hp
    · exact h.2 p hp
    · obtain rfl : p = (l, c) := by simpa using hp
      exact hc
theorem GathW.keep {W0 w w' : World} {B : Nat} {v : Value} {L : List (List ItemL × List Value)} (h : GathW W0 w B v L) (hb : Below w.heap.size w w') : GathW W0 w' B v L := ⟨own_keep h.1 hb, h.2⟩

/-- The slice at address 'a' holds the windows 'ws', ten cells a window, their items' marks in W0. -/
def RowV (W0 w : World) (a : Option Addr) (ws : List (List ItemL)) : Prop := ∀ k, (h : k < ws.length) → ∃ b o, a = some ⟨b, o, none⟩ ∧ WinO W0 w b (o + k * 10) ws[k]
theorem RowV.below {W0 w w' : World} {a : Option Addr} {ws : List (List ItemL)} (h : RowV W0 w a ws) (hb : Below w.heap.size w w') : RowV W0 w' a ws := fun k hk => by
  obtain ⟨b, o, e, h1⟩ := h k hk
  exact ⟨b, o, e, h1.below hb⟩
theorem GathW.row {W0 w : World} {B : Nat} {v : Value} {L : List (List ItemL × List Value)} (h : GathW W0 w B v L) : ∃ a cap, v = .slice a L.length cap ∧ L.length ≤ cap ∧ RowV W0 w a (L.map (·.1)) := by
  rcases h.1.2 with ⟨rfl, h0⟩ | ⟨g, cap, cur, rfl, hB, hh, hn, _⟩
  · exact ⟨none, 0, by rw [h0], by omega, fun k hk => by rw [List.length_map] at hk; omega⟩
  · have hlt : g < w.heap.size := (Array.getElem?_eq_some_iff.1 hh).1
    refine ⟨_, cap, rfl, hn, fun k hk => ⟨g, 0, rfl, ?_⟩⟩
    rw [List.length_map] at hk
    have hc := h.2 L[k] (List.getElem_mem hk)
    have hat : ∀ j, j < 10 → w.cell? ⟨g, 0 + k * 10 + j, none⟩ = L[k].2[j]? := fun j hj => by
      rw [Nat.zero_add, World.ownsRow.cellAt h.1 _ (by omega), vcells_at L (fun p hp => (h.2 p hp).1) k hk j hj]
    simp only [List.getElem_map]
    refine ⟨hlt, hc.2.1, (hat 8 (by omega)).trans hc.2.2.1, (hat 9 (by omega)).trans hc.2.2.2.1, fun j hj => ?_⟩
    obtain ⟨h1, v, h2, h3⟩ := hc.2.2.2.2 j hj
    have := hc.2.1
    exact ⟨(hat (j * 2) (by omega)).trans h1, v, (hat (j * 2 + 1) (by omega)).trans h2, h3⟩

/-- The slice at address 'a' holds the spots 'l'. -/
def RowP (w : World) (a : Option Addr) (l : List Spot) : Prop := ∀ k, (h : k < l.length) → ∃ b o, a = some ⟨b, o, none⟩ ∧ b < w.heap.size ∧ w.cell? ⟨b, o + k * 2, none⟩ = some (.int .i64 (l[k].1 : Int)) ∧ w.cell? ⟨b, o + k * 2 + 1, none⟩ = some (.int .i64 (l[k].2 : Int))
theorem RowP.below {w w' : World} {a : Option Addr} {l : List Spot} (h : RowP w a l) (hb : Below w.heap.size w w') : RowP w' a l := fun k hk => by
  obtain ⟨b, o, e, h1, h2, h3⟩ := h k hk
  exact ⟨b, o, e, Nat.lt_of_lt_of_le h1 hb.size, cell_on hb h1 h2, cell_on hb h1 h3⟩
theorem GathP.row {w : World} {B : Nat} {v : Value} {l : List Spot} (h : GathP w B v l) : ∃ a cap, v = .slice a l.length cap ∧ l.length ≤ cap ∧ RowP w a l := by
  rcases h.2 with ⟨rfl, h0⟩ | ⟨g, cap, cur, rfl, hB, hh, hn, _⟩
  · exact ⟨none, 0, by rw [h0], by omega, fun k hk => by omega⟩
  · have hlt : g < w.heap.size := (Array.getElem?_eq_some_iff.1 hh).1
    refine ⟨_, cap, rfl, hn, fun k hk => ⟨g, 0, rfl, hlt, ?_, ?_⟩⟩
    · rw [Nat.zero_add, World.ownsRow.cellAt h _ (by omega), (scells_at l k hk).1]
    · rw [Nat.zero_add, World.ownsRow.cellAt h _ (by omega), (scells_at l k hk).2]
/-- The slice at address 'a' holds the lists of spots 'sh'. -/
def RowG (w : World) (a : Option Addr) (sh : List (List Spot)) : Prop := ∀ k, (h : k < sh.length) → ∃ b o, a = some ⟨b, o, none⟩ ∧ b < w.heap.size ∧ ∃ s c, w.cell? ⟨b, o + k, none⟩ = some (.slice s sh[k].length c) ∧ sh[k].length ≤ c ∧ RowP w s sh[k]
theorem RowG.below {w w' : World} {a : Option Addr} {sh : List (List Spot)} (h : RowG w a sh) (hb : Below w.heap.size w w') : RowG w' a sh := fun k hk => by
  obtain ⟨b, o, e, h1, s, c, h2, h3, h4⟩ := h k hk
  exact ⟨b, o, e, Nat.lt_of_lt_of_le h1 hb.size, s, c, cell_on hb h1 h2, h3, h4.below hb⟩

/-- Block 'b' holds the windows 'ws' and the spots 'sh'. -/
def ChB (W0 w : World) (b : Nat) (ws : List (List ItemL)) (sh : List (List Spot)) : Prop :=
  b < w.heap.size ∧ ∃ a c a' c', w.cell? ⟨b, 0, none⟩ = some (.slice a ws.length c) ∧ ws.length ≤ c ∧ w.cell? ⟨b, 1, none⟩ = some (.slice a' sh.length c') ∧ sh.length ≤ c' ∧ RowV W0 w a ws ∧ RowG w a' sh
theorem ChB.below {W0 w w' : World} {b : Nat} {ws : List (List ItemL)} {sh : List (List Spot)} (h : ChB W0 w b ws sh) (hb : Below w.heap.size w w') : ChB W0 w' b ws sh := by
  obtain ⟨h0, a, c, a', c', h1, h2, h3, h4, h5, h6⟩ := h
  exact ⟨Nat.lt_of_lt_of_le h0 hb.size, a, c, a', c', cell_on hb h0 h1, h2, cell_on hb h0 h3, h4, h5.below hb, h6.below hb⟩

end Go.Proofs.YtpfhegengmlkmacGreatDoor
/- Walks: has, version, agrees of choices. -/
namespace Go.Proofs.YtpfhegengmlkmacGreatDoor
open Go.RowKit Go.BigFrame
set_option maxRecDepth 100000

set_option maxHeartbeats 1600000 in
theorem has_any (W0 w : World) (b : Nat) (ws : List (List ItemL)) (sh : List (List Spot)) (a' : Option Addr) (cap' : Nat) (ps : List Int) (h : ChB W0 w b ws sh) (h6 : ws.length ≤ 6) (hp : ps.length ≤ maxLen) (hr' : RowZ w a' ps) :
    Calls Tryz.prog 139 #[.pointer (some ⟨b, 0, none⟩), .slice a' ps.length cap'] w fun e w' => IsB (ps.length = ws.length ∧ InW ws ps) e ∧ Below w.heap.size w w' := by
  have hpl : ps.length ≤ 2 ^ 63 - 1 := hp
  clear hp
  obtain ⟨hb, a, c, a2, c2, e0, hc, e1, hc2, hv, hg⟩ := h
  by_cases hlen : ps.length = ws.length
  · have hlen' : ((ps.length : Int) != (ws.length : Int)) = false := by rw [bne_eq_false_iff_eq]; omega
    have HL : Hid (ps.length = ws.length) := hlen
    have hle1 : ps.length ≤ ws.length := by omega
    clear hlen
    go_enter Tryz.func139, Tryz.ntmps139
    go_wp2_with fail
    go_loopw [17] (fun i wr => ∃ k : Nat, k ≤ ps.length ∧ i = .int .i64 k ∧ Hid (∀ j, (h : j < ps.length) → j < k → 0 ≤ ps[j] ∧ ps[j] < ((ws.getD j []).length : Int)) ∧ wr = w) (fun i _ => ps.length - (intOf i).toNat)
    case atStart => exact ⟨0, Nat.zero_le _, rfl, fun _ _ h => absurd h (Nat.not_lt_zero _), rfl⟩
    case round =>
      obtain ⟨k, hk, rfl, HI, rfl⟩ := hrel
      by_cases hlt : k < ps.length
      · have hwk : k < ws.length := by omega
        obtain ⟨g, o, rfl, hwo⟩ := hv k hwk
        obtain ⟨c1, p1, rfl, gc, z1⟩ := hr' k hlt
        have k0 : (0 : Int) ≤ (k : Int) := by omega
        have k1 : (k : Int) < (ps.length : Int) := by omega
        have k2 : (k : Int) < (ws.length : Int) := by omega
        have HG : Hid (ws.getD k [] = ws[k]) := getD_at hwk
        by_cases hn : ps[k] < 0
        · have HN : Hid (¬ (ps.length = ws.length ∧ InW ws ps)) := fun h => by have := (h.2.2 k hlt).1; omega
          clear HG
          go_wp2_with fail
          go_ret
          exact ⟨isB_false HN.out, Below.refl _ _⟩
        have hn' : decide (ps[k] < 0) = false := decide_eq_false hn
        go_wp2_with fail
        refine (size_off W0 _ g (o + k * 10) ws[k] hwo).mono ?_
        rintro e w2 ⟨rfl, rfl⟩
        by_cases hq : ps[k] < (ws[k].length : Int)
        · have HST : Hid (∀ j, (h : j < ps.length) → j < k + 1 → 0 ≤ ps[j] ∧ ps[j] < ((ws.getD j []).length : Int)) := fun j hj hlt' => by
            by_cases e : j = k
            · subst e; rw [HG.out]; exact ⟨by omega, hq⟩
            · exact HI.out j hj (by omega)
          have hq' : decide ((ws[k].length : Int) ≤ ps[k]) = false := decide_eq_false (by omega)
          clear HG
          go_wp2_with fail
          exact ⟨⟨k + 1, by omega, by go_num, HST, by trivial⟩, by simp [intOf]; omega⟩
        · have HN : Hid (¬ (ps.length = ws.length ∧ InW ws ps)) := fun h => by have h3 := (h.2.2 k hlt).2; rw [HG.out] at h3; omega
          have hq' : decide ((ws[k].length : Int) ≤ ps[k]) = true := decide_eq_true (by omega)
          clear HG
          go_wp2_with fail
          go_ret
          exact ⟨isB_false HN.out, Below.refl _ _⟩
      · have HF : Hid (ps.length = ws.length ∧ InW ws ps) := ⟨HL.out, hle1, fun j hj => HI.out j hj (by omega)⟩
        go_wp2_with fail
        go_ret
        exact ⟨isB_true HF.out, Below.refl _ _⟩
  · have hlen' : ((ps.length : Int) != (ws.length : Int)) = true := by rw [bne_iff_ne]; omega
    go_enter Tryz.func139, Tryz.ntmps139
    go_wp2_with fail
    go_ret
    exact ⟨isB_false (fun h => hlen h.1), Below.refl _ _⟩

theorem ver_facts {ws : List (List ItemL)} {ps : List Int} (hok : OkW ws) (hl : ps.length = ws.length) (hin : InW ws ps) {s : ByteArray} {p : Spot} (hs : SpotOf ws s p) : ∃ (hw : p.1 < ws.length) (_ : p.1 < ps.length) (q : Nat) (hq : q < ws[p.1].length) (hm : p.2 < ws[p.1][q].2.length), ps[p.1] = (q : Int) ∧ verM ws ps p = (ws[p.1][q].2[p.2]).2 := by
  have hpw := hs.1
  have hpp : p.1 < ps.length := by omega
  obtain ⟨hmk, _, hver, _, _⟩ := verM_eq hok hl hin hs
  obtain ⟨_, q, hqe, hq, hpk⟩ := in_nat hin hpp
  have hm : p.2 < ws[p.1][q].2.length := by rw [← hpk]; exact hmk
  refine ⟨hpw, hpp, q, hq, hm, hqe, ?_⟩
  rw [hver]
  congr 1
  simp only [hpk]

set_option maxHeartbeats 1600000 in
theorem version_any (W0 w : World) (b : Nat) (ws : List (List ItemL)) (sh : List (List Spot)) (a' : Option Addr) (cap' : Nat) (ps : List Int) (p : Spot) (s : ByteArray) (h : ChB W0 w b ws sh) (hW : Below W0.heap.size W0 w) (hok : OkW ws) (hl : ps.length = ws.length) (hin : InW ws ps) (hr' : RowZ w a' ps) (hs : SpotOf ws s p) :
    Calls Tryz.prog 176 #[.pointer (some ⟨b, 0, none⟩), .slice a' ps.length cap', .agg #[.int .i64 (p.1 : Int), .int .i64 (p.2 : Int)]] w fun e w' => e = .returned (.int .i64 (verM ws ps p)) ∧ Below w.heap.size w w' := by
  obtain ⟨hb, a, c, a2, c2, e0, hc, e1, hc2, hv, hg⟩ := h
  obtain ⟨hpw, hpp, q, hq, hmk2, hqe, hver⟩ := ver_facts hok hl hin hs
  have HV : Hid (verM ws ps p = (ws[p.1][q].2[p.2]).2) := hver
  have h6 := hok.2.1
  obtain ⟨g, o, rfl, hwo⟩ := hv p.1 hpw
  obtain ⟨c1, p1, rfl, gc, z1⟩ := hr' p.1 hpp
  have h4 := hwo.2.1
  obtain ⟨y0, yv, y1, sa, sc, rfl, hcap, hrow⟩ := hwo.2.2.2.2 q hq
  rw [hqe] at z1
  obtain ⟨bm, om, rfl, hbm, _, m1⟩ := hrow p.2 hmk2
  clear hver hqe hv hg hs hin
  have hgl := hwo.1
  have c8 := hwo.2.2.1
  have hz0 := hW.size
  go_enter Tryz.func176, Tryz.ntmps176
  go_wp2_with fail
  have hb0 : Below w.heap.size w (w.alloc (.cells #[.int .i64 (p.1 : Int), .int .i64 (p.2 : Int)] 245)) := (Below.refl _ _).alloc (Nat.le_refl _) _
  have hlt0 := box_lt w (.cells #[.int .i64 (p.1 : Int), .int .i64 (p.2 : Int)] 245)
  have d0 := box0 w (.int .i64 (p.1 : Int)) (.int .i64 (p.2 : Int)) 245
  have d1 := box1 w (.int .i64 (p.1 : Int)) (.int .i64 (p.2 : Int)) 245
  generalize w.alloc (.cells #[.int .i64 (p.1 : Int), .int .i64 (p.2 : Int)] 245) = W at *
  have hne := Lat.some W
  have n0 : ∀ n : Lat W, n.w.cell? ⟨b, 0, none⟩ = some (.slice (some ⟨g, o, none⟩) ws.length c) := fun n => n.cell (Nat.lt_of_lt_of_le hb hb0.size) (cell_on hb0 hb e0)
  have n1 : ∀ n : Lat W, n.w.cell? ⟨w.heap.size, 0, none⟩ = some (.int .i64 (p.1 : Int)) := fun n => n.cell hlt0 d0
  have n2 : ∀ n : Lat W, n.w.cell? ⟨w.heap.size, 1, none⟩ = some (.int .i64 (p.2 : Int)) := fun n => n.cell hlt0 d1
  have n3 : ∀ n : Lat W, n.w.cell? ⟨c1, p1 + p.1, none⟩ = some (.int .i64 (q : Int)) := fun n => n.cell (Nat.lt_of_lt_of_le gc hb0.size) (cell_on hb0 gc z1)
  have hbm' : bm < w.heap.size := Nat.lt_of_lt_of_le hbm hz0
  have n4 : ∀ n : Lat W, n.w.cell? ⟨bm, om + p.2 * 2 + 1, none⟩ = some (.int .i64 ((ws[p.1][q]).2[p.2]).2) := fun n => n.cell (Nat.lt_of_lt_of_le hbm' hb0.size) (cell_on hb0 hbm' (cell_on hW hbm m1))
  have ce : ∀ n : Lat W, Calls Tryz.prog 142 #[.pointer (some ⟨g, o + p.1 * 10, none⟩), .int .i64 q] n.w fun e w'' => e = .returned (.agg #[.int .i64 (ws[p.1][q]).1, .slice (some ⟨bm, om, none⟩) (ws[p.1][q]).2.length sc]) ∧ Below n.w.heap.size n.w w'' := fun n => by
    have hx : ∀ {i : Nat} {v : Value}, w.cell? ⟨g, i, none⟩ = some v → n.w.cell? ⟨g, i, none⟩ = some v := fun h => n.cell (Nat.lt_of_lt_of_le hgl hb0.size) (cell_on hb0 hgl h)
    exact at_val n.w g (o + p.1 * 10) q _ _ _ _ (Nat.lt_of_lt_of_le (Nat.lt_of_lt_of_le hgl hb0.size) n.h.size) (by omega) (hx c8) (hx y0) (hx y1)
  have i0 : (0 : Int) ≤ (p.1 : Int) := by omega
  have i1 : (p.1 : Int) < (ws.length : Int) := by omega
  have i2 : (p.1 : Int) < (ps.length : Int) := by omega
  have i3 : (0 : Int) ≤ (p.2 : Int) := by omega
  have i4 : (p.2 : Int) < ((ws[p.1][q]).2.length : Int) := by omega
  have hfd := field_stamp (ws[p.1][q]).1 (some ⟨bm, om, none⟩) (ws[p.1][q]).2.length sc
  clear e0 e1 z1 m1 y0 y1 d0 d1 hrow hwo c8
  refine wp_region_lat (by kernel_rfl) (by kernel_rfl) ?_
  repeat (go_big_quiet_step ((go_at_call 142; exact Calls.lat_of (ce _))))
  refine wpQuiet_nil ?_
  rintro _ ⟨nq, rfl⟩
  go_wp2_with fail
  go_ret
  exact ⟨by rw [HV.out]; rfl, hb0.trans (nq.h.mono hb0.size)⟩

end Go.Proofs.YtpfhegengmlkmacGreatDoor
/- Walks: agrees, least of choices. -/
namespace Go.Proofs.YtpfhegengmlkmacGreatDoor
open Go.RowKit Go.BigFrame
set_option maxRecDepth 100000

/-- The lists of spots are such as sources have, each of two at least. -/
def ShW (ws : List (List ItemL)) (sh : List (List Spot)) : Prop := SharedP ws sh ∧ (∀ src ∈ sh, 1 < src.length ∧ src.length ≤ 1000) ∧ sh.length ≤ 1000

/-- The first spots of a source have what its first spot has. -/
def SameTo (ws : List (List ItemL)) (ps : List Int) (src : List Spot) (n : Nat) : Prop := ∀ i, (h : i < src.length) → i < n → ∀ h0 : 0 < src.length, verM ws ps src[i] = verM ws ps src[0]
theorem sameTo_step {ws : List (List ItemL)} {ps : List Int} {src : List Spot} {n : Nat} (H : SameTo ws ps src n) (hn : n < src.length) (h0 : 0 < src.length) (h : verM ws ps src[n] = verM ws ps src[0]) : SameTo ws ps src (n + 1) := fun i hi hlt _ => by
  by_cases e : i = n
  · subst e; exact h
  · exact H i hi (by omega) h0
theorem agW_same {ws : List (List ItemL)} {ps : List Int} {sh : List (List Spot)} (hok : OkW ws) (hl : ps.length = ws.length) (hin : InW ws ps) (hsh : SharedP ws sh) (H : ∀ j, (h : j < sh.length) → SameTo ws ps sh[j] sh[j].length) : AgW ws ps := by
  rw [agW_iff hok hl hin hsh]
  intro src hs p hp q hq
  obtain ⟨j, hj, rfl⟩ := List.mem_iff_getElem.1 hs
  obtain ⟨x, hx, rfl⟩ := List.mem_iff_getElem.1 hp
  obtain ⟨y, hy, rfl⟩ := List.mem_iff_getElem.1 hq
  rw [H j hj x hx hx (by omega), H j hj y hy hy (by omega)]
theorem agW_not {ws : List (List ItemL)} {ps : List Int} {sh : List (List Spot)} (hok : OkW ws) (hl : ps.length = ws.length) (hin : InW ws ps) (hsh : SharedP ws sh) {j i : Nat} (hj : j < sh.length) (hi : i < sh[j].length) (h0 : 0 < sh[j].length) (h : verM ws ps sh[j][i] ≠ verM ws ps sh[j][0]) : ¬ AgW ws ps := fun hA =>
  h ((agW_iff hok hl hin hsh).1 hA sh[j] (List.getElem_mem hj) _ (List.getElem_mem hi) _ (List.getElem_mem h0))

/-- What version answers at a spot of the shared ones, at any world behind. -/
theorem version_lat {W0 W : World} {b : Nat} {ws : List (List ItemL)} {sh : List (List Spot)} {a' : Option Addr} {cap' : Nat} {ps : List Int} (h : ChB W0 W b ws sh) (hW : Below W0.heap.size W0 W) (hok : OkW ws) (hl : ps.length = ws.length) (hin : InW ws ps) (hr' : RowZ W a' ps) (hsh : SharedP ws sh) {src : List Spot} (hs : src ∈ sh) {p : Spot} (hp : p ∈ src) (n : Lat W) :
    Calls Tryz.prog 176 #[.pointer (some ⟨b, 0, none⟩), .slice a' ps.length cap', .agg #[.int .i64 (p.1 : Int), .int .i64 (p.2 : Int)]] n.w fun e w' => e = .returned (.int .i64 (verM ws ps p)) ∧ Below n.w.heap.size n.w w' := by
  obtain ⟨s, hall⟩ := hsh.1 src hs
  exact version_any W0 n.w b ws sh a' cap' ps p s (h.below n.h) (hW.trans (n.h.mono hW.size)) hok hl hin (hr'.below n.h) (hall p hp)

set_option maxHeartbeats 1200000 in
theorem agrees_any (W0 w : World) (b : Nat) (ws : List (List ItemL)) (sh : List (List Spot)) (a' : Option Addr) (cap' : Nat) (ps : List Int) (h : ChB W0 w b ws sh) (hW : Below W0.heap.size W0 w) (hok : OkW ws) (hl : ps.length = ws.length) (hin : InW ws ps) (hr' : RowZ w a' ps) (hsh : ShW ws sh) :
    Calls Tryz.prog 140 #[.pointer (some ⟨b, 0, none⟩), .slice a' ps.length cap'] w fun e w' => IsB (AgW ws ps) e ∧ Below w.heap.size w w' := by
  have HIN : Hid (InW ws ps) := hin
  have HOK : Hid (OkW ws) := hok
  have HSH : Hid (ShW ws sh) := hsh
  have HC : Hid (ChB W0 w b ws sh) := h
  have HL : Hid (ps.length = ws.length) := hl
  have HZ : Hid (RowZ w a' ps) := hr'
  have hshl := hsh.2.2
  obtain ⟨hb, a, c, a2, c2, e0, hc, e1, hc2, hv, hg⟩ := h
  clear hin hok hsh hv hc hl hr'
  go_enter Tryz.func140, Tryz.ntmps140
  go_wp2_with fail
  go_loopw [14] (fun i wr => ∃ k : Nat, k ≤ sh.length ∧ i = .int .i64 k ∧ Hid (∀ j, (h : j < sh.length) → j < k → SameTo ws ps sh[j] sh[j].length) ∧ Below w.heap.size w wr) (fun i _ => sh.length - (intOf i).toNat)
  case atStart => exact ⟨0, Nat.zero_le _, rfl, fun _ _ h => absurd h (Nat.not_lt_zero _), Below.refl _ _⟩
  case round =>
    obtain ⟨k, hk, rfl, HI, hbl⟩ := hrel
    by_cases hlt : k < sh.length
    · obtain ⟨b1, o1, rfl, hb1, s1, t1, f1, ht1, hp⟩ := hg.below hbl k hlt
      have k0 : (0 : Int) ≤ (k : Int) := by omega
      have k1 : (k : Int) < (sh.length : Int) := by omega
      have hsrc := HSH.out.2.1 sh[k] (List.getElem_mem hlt)
      have hs1 := hsrc.1
      have hs2 := hsrc.2
      have hmem : sh[k] ∈ sh := List.getElem_mem hlt
      clear hsrc
      go_wp2_with fail
      go_loopw [20] (fun i2 wr2 => ∃ j : Nat, j ≤ sh[k].length ∧ i2 = .int .i64 j ∧ Hid (SameTo ws ps sh[k] j) ∧ Below wr.heap.size wr wr2) (fun i2 _ => sh[k].length - (intOf i2).toNat)
      case atStart => exact ⟨0, Nat.zero_le _, rfl, fun _ _ h => absurd h (Nat.not_lt_zero _), Below.refl _ _⟩
      case round =>
        obtain ⟨j, hj, rfl, HJ, hbl2⟩ := hrel
        have B2 : Below w.heap.size w wr := hbl.trans (hbl2.mono hbl.size)
        by_cases hjlt : j < sh[k].length
        · obtain ⟨b2, o2, rfl, hb2, f2, f3⟩ := hp.below hbl2 j hjlt
          obtain ⟨b3, o3, e3, _, f4, f5⟩ := hp.below hbl2 0 (by omega)
          cases e3
          have j0 : (0 : Int) ≤ (j : Int) := by omega
          have j1 : (j : Int) < (sh[k].length : Int) := by omega
          have j2 : (0 : Int) < (sh[k].length : Int) := by omega
          go_wp2_with fail
          simp only [Nat.zero_mul, Nat.add_zero] at f4 f5
          have hb0 : Below wr.heap.size wr (wr.alloc (.cells #[.int .i64 (sh[k][j].1 : Int), .int .i64 (sh[k][j].2 : Int)] 245)) := (Below.refl _ _).alloc (Nat.le_refl _) _
          have hlt0 := box_lt wr (.cells #[.int .i64 (sh[k][j].1 : Int), .int .i64 (sh[k][j].2 : Int)] 245)
          have d0 := box0 wr (.int .i64 (sh[k][j].1 : Int)) (.int .i64 (sh[k][j].2 : Int)) 245
          have d1 := box1 wr (.int .i64 (sh[k][j].1 : Int)) (.int .i64 (sh[k][j].2 : Int)) 245
          generalize wr.alloc (.cells #[.int .i64 (sh[k][j].1 : Int), .int .i64 (sh[k][j].2 : Int)] 245) = W at *
          have B3 : Below w.heap.size w W := B2.trans (hb0.mono B2.size)
          have hne := Lat.some W
          have n0 : ∀ n : Lat W, n.w.cell? ⟨wr.heap.size, 0, none⟩ = some (.int .i64 (sh[k][j].1 : Int)) := fun n => n.cell hlt0 d0
          have n1 : ∀ n : Lat W, n.w.cell? ⟨wr.heap.size, 1, none⟩ = some (.int .i64 (sh[k][j].2 : Int)) := fun n => n.cell hlt0 d1
          have n2 : ∀ n : Lat W, n.w.cell? ⟨b2, o2, none⟩ = some (.int .i64 (sh[k][0].1 : Int)) := fun n => n.cell (Nat.lt_of_lt_of_le hb2 hb0.size) (cell_on hb0 hb2 f4)
          have n3 : ∀ n : Lat W, n.w.cell? ⟨b2, o2 + 1, none⟩ = some (.int .i64 (sh[k][0].2 : Int)) := fun n => n.cell (Nat.lt_of_lt_of_le hb2 hb0.size) (cell_on hb0 hb2 f5)
          have c1 : ∀ n : Lat W, Calls Tryz.prog 176 #[.pointer (some ⟨b, 0, none⟩), .slice a' ps.length cap', .agg #[.int .i64 (sh[k][j].1 : Int), .int .i64 (sh[k][j].2 : Int)]] n.w fun e w' => e = .returned (.int .i64 (verM ws ps sh[k][j])) ∧ Below n.w.heap.size n.w w' :=
            fun n => version_lat (HC.out.below B3) (hW.trans (B3.mono hW.size)) HOK.out HL.out HIN.out (HZ.out.below B3) HSH.out.1 hmem (List.getElem_mem hjlt) n
          have c3 : ∀ n : Lat W, Calls Tryz.prog 176 #[.pointer (some ⟨b, 0, none⟩), .slice a' ps.length cap', .agg #[.int .i64 (sh[k][0].1 : Int), .int .i64 (sh[k][0].2 : Int)]] n.w fun e w' => e = .returned (.int .i64 (verM ws ps sh[k][0])) ∧ Below n.w.heap.size n.w w' :=
            fun n => version_lat (HC.out.below B3) (hW.trans (B3.mono hW.size)) HOK.out HL.out HIN.out (HZ.out.below B3) HSH.out.1 hmem (List.getElem_mem (by omega)) n
          clear f2 f3 f4 f5 d0 d1
          have HE : Hid (verM ws ps sh[k][j] = verM ws ps sh[k][0] → SameTo ws ps sh[k] (j + 1)) := fun he => sameTo_step HJ.out hjlt (by omega) he
          have HNE : Hid (¬ verM ws ps sh[k][j] = verM ws ps sh[k][0] → ¬ AgW ws ps) := fun he => agW_not HOK.out HL.out HIN.out HSH.out.1 hlt hjlt (by omega) he
          clear HIN HOK HSH HC HL HZ HJ hp f1 hmem hg
          generalize verM ws ps sh[k][j] = va at *
          generalize verM ws ps sh[k][0] = vb at *
          generalize (sh[k][j].1 : Int) = pa at *
          generalize (sh[k][j].2 : Int) = pb at *
          generalize (sh[k][0].1 : Int) = qa at *
          generalize (sh[k][0].2 : Int) = qb at *
          by_cases he : va = vb
          · have HST : Hid (SameTo ws ps sh[k] (j + 1)) := HE.out he
            clear HE HNE
            have he' : (va != vb) = false := by rw [bne_eq_false_iff_eq]; exact he
            refine wp_region_lat (by kernel_rfl) (by kernel_rfl) ?_
            iterate 4 (go_big_quiet_step ((go_at_call 176; exact Calls.lat_of (c1 _))))
            iterate 7 (go_big_quiet_step ((go_at_call 176; exact Calls.lat_of (c3 _))))
            refine wpQuiet_nil ?_
            rintro _ ⟨nq, rfl⟩
            go_wp2_with fail
            exact ⟨⟨j + 1, by omega, by go_num, HST, (hbl2.trans (hb0.mono hbl2.size)).trans (nq.h.mono (Nat.le_trans hbl2.size hb0.size))⟩, by simp [intOf]; omega⟩
          · have HN : Hid (¬ AgW ws ps) := HNE.out he
            clear HE HNE
            have he' : (va != vb) = true := by rw [bne_iff_ne]; exact he
            refine wp_region_lat (by kernel_rfl) (by kernel_rfl) ?_
            iterate 4 (go_big_quiet_step ((go_at_call 176; exact Calls.lat_of (c1 _))))
            iterate 7 (go_big_quiet_step ((go_at_call 176; exact Calls.lat_of (c3 _))))
            refine wpQuiet_nil ?_
            rintro _ ⟨nq, rfl⟩
            go_wp2_with fail
            go_ret
            exact ⟨isB_false HN.out, B3.trans (nq.h.mono B3.size)⟩
        · have HST : Hid (∀ q, (h : q < sh.length) → q < k + 1 → SameTo ws ps sh[q] sh[q].length) := fun q hq hlt' => by
            by_cases e : q = k
            · subst e
              exact fun i hi _ h0 => HJ.out i hi (by omega) h0
            · exact HI.out q hq (by omega)
          go_wp2_with fail
          exact ⟨⟨k + 1, by omega, by go_num, HST, B2⟩, by simp [intOf]; omega⟩
    · have HF : Hid (AgW ws ps) := agW_same HOK.out HL.out HIN.out HSH.out.1 (fun j hj => HI.out j hj (by omega))
      go_wp2_with fail
      go_ret
      exact ⟨isB_true HF.out, hbl⟩

end Go.Proofs.YtpfhegengmlkmacGreatDoor
/- One spot more in the map of spots: the operations of a drawn region. -/
namespace Go.Proofs.YtpfhegengmlkmacGreatDoor
open Go.RowKit Go.BigFrame

theorem GrpS.keep {w w' : World} {B b n : Nat} {D : DataW Value} {V : ByteArray → Value} {S : ByteArray → List Spot} (h : GrpS w B b n D V S) (hb : Below w.heap.size w w') : GrpS w' B b n D V S :=
  ⟨h.own.kept (grown_below hb none) (by simp), h.lt, h.eq, h.has, fun s => own_keep (h.row s) hb, h.far⟩

theorem Tryz.infoP : (Tryz.prog.info? 245).map (fun i => (i.zero, i.size, i.bytes)) = some (some (.agg #[.int .i64 0, .int .i64 0]), 2, 16) := by kernel_rfl

theorem wp_append_spot {o : Oper} {a : Act} {w : World} {K : Act → World → Prop} {Q : Exit → Act → World → Prop} (s x : Operand)
    (ho : o.op = .call { callee := .builtin .append, args := #[s, x], argTypes := #[242, 242] }) (base : Nat) (v : Value) (l : List Spot) (hs : a.eval s = v) (hg : GathP w base v l) (hbase : base ≤ w.heap.size)
    (ad : Nat) (p : Spot) (hx : a.eval x = .slice (some ⟨ad, 0, none⟩) 1 1) (c0 : w.cell? ⟨ad, 0, none⟩ = some (.int .i64 (p.1 : Int))) (c1 : w.cell? ⟨ad, 1, none⟩ = some (.int .i64 (p.2 : Int))) (hl : l.length ≤ 1048576)
    (h : ∀ v' w', w'.ownsRow base 245 2 v' (l.length + 1) (scells l ++ [.int .i64 (p.1 : Int), .int .i64 (p.2 : Int)]) → w.grownBy w' v.ownBlock → (v'.ownBlock = v.ownBlock ∨ v'.ownBlock = some w.heap.size) → K (a.put o.dst v') w') : o.wp Tryz.prog a w K Q := by
  obtain ⟨i0, hi, hz0, hz1, hz2⟩ := info_parts Tryz.infoP
  obtain ⟨v', w', hr, h2, h3, _, h5⟩ := run_append_own_at (P := Tryz.prog) w base 242 o.type 245 i0 (.agg #[.int .i64 0, .int .i64 0]) 2 16 Tryz.underlying242 hi hz0 hz1 hz2 rfl (by decide) v l.length (scells l) hg ⟨ad, 0, none⟩ 1 1 [.int .i64 (p.1 : Int), .int .i64 (p.2 : Int)] rfl (by
      intro j u hj
      match j, hj with
      | 0, hj => simp at hj; subst hj; exact c0
      | 1, hj => simp at hj; subst hj; exact c1) (by simp [Value.oneCell']) (by unfold maxLen; omega) (by omega) hbase
  unfold Oper.wp execOp
  simp only [ho, resolve, invoke, builtin, Sem.run_bind, Sem.run_pure, Result.andThen_ok, List.map_toArray, List.map_cons, List.map_nil, hs, hx, hr]
  exact h _ w' h2 h3 h5

theorem Tryz.keyed : Maps.Keyed Tryz.prog 9 := Maps.string_keyed Tryz.underlying9

theorem key_text (s : ByteArray) (hs : s.size ≤ maxLen) : keyOf Tryz.prog 9 (.string s) = some (litS s) := by
  rw [keyOf_string Tryz.underlying9]
  simp [mapKey, Tryz.underlying9, litS, hs]

theorem Tryz.zeroSp (w : World) : (zeroValue 242).run Tryz.prog w = .ok (.slice none 0 0) w := by kernel_rfl

theorem wp_update_spot {o : Oper} {a : Act} {w : World} {K : Act → World → Prop} {Q : Exit → Act → World → Prop} (m x y : Operand) (hop : o.op = Op.mapUpdate 261 m x y) (b n : Nat) (D : DataW Value) (hm : a.eval m = .map (some b)) (hown : w.ownsMap Tryz.prog 9 heldE b n D) (hn : n < maxLen) (s : ByteArray) (hs : s.size ≤ maxLen) (v : Value) (hx : a.eval x = .string s) (hy : a.eval y = v)
    (h : ∀ w', w'.ownsMap Tryz.prog 9 heldE b (n + 1) (D.put (litS s) (.held v)) → w.grownBy w' (some b) → K (a.put o.dst undef) w') : o.wp Tryz.prog a w K Q := by
  obtain ⟨w', hrun, r1, r2⟩ := hown.update Tryz.keyed Tryz.underlying261 hn (key := .string s) (val := v) (kl := litS s) (d := .held v) (ps := []) (key_text s hs) rfl
  unfold Oper.wp
  simp [execOp, hop, hm, hx, hy, hrun, Result.andThen]
  exact h w' r1 r2

theorem lookup_spot {w : World} {b n : Nat} {D : DataW Value} {V : ByteArray → Value} {S : ByteArray → List Spot} {B : Nat} (h : GrpS w B b n D V S) (s : ByteArray) (hs : s.size ≤ maxLen) : (Instr.lookup 261 (.map (some b)) (.string s) false).run Tryz.prog w = .ok (V s) w := by
  obtain ⟨v, ps, hrun, hv⟩ := h.own.lookup Tryz.keyed Tryz.underlying261 (Tryz.zeroSp w) (zd := .held (.slice none 0 0)) (zp := []) rfl (key_text s hs)
  unfold heldE at hv
  simp only [Option.some.injEq, Prod.mk.injEq] at hv
  rw [h.eq s] at hv
  obtain rfl : v = V s := by simpa using hv.1
  exact hrun

/-- All spots ahead of place (k, j) are in S; and S has no others than spots. -/
def SpotsTo (ws : List (List ItemL)) (k j : Nat) (S : ByteArray → List Spot) : Prop := (∀ s p, p ∈ S s → SpotOf ws s p) ∧ ∀ s p, SpotOf ws s p → (p.1 < k ∨ (p.1 = k ∧ p.2 < j)) → p ∈ S s
theorem spotsTo_start (ws : List (List ItemL)) : SpotsTo ws 0 0 (fun _ => []) := ⟨fun s p h => by simp at h, fun s p _ h => by omega⟩
theorem SpotsTo.empty {ws : List (List ItemL)} {k : Nat} {S : ByteArray → List Spot} (h : SpotsTo ws k 0 S) (hk : k < ws.length) (h0 : ws[k].length = 0) : SpotsTo ws (k + 1) 0 S := ⟨h.1, fun s p hp hlt => by
  rcases Nat.lt_or_ge p.1 k with hl | hl
  · exact h.2 s p hp (.inl hl)
  · obtain ⟨_, h3, _⟩ := hp
    have e : p.1 = k := by omega
    exfalso
    simp only [e] at h3
    omega⟩
theorem SpotsTo.whole {ws : List (List ItemL)} {k : Nat} {S : ByteArray → List Spot} (hk : k < ws.length) (h0 : 0 < ws[k].length) (h : SpotsTo ws k (ws[k][ws[k].length - 1]).2.length S) : SpotsTo ws (k + 1) 0 S := ⟨h.1, fun s p hp hlt => by
  rcases Nat.lt_or_ge p.1 k with hl | hl
  · exact h.2 s p hp (.inl hl)
  · have e : p.1 = k := by omega
    have hp2 := hp
    obtain ⟨_, _, h4, _⟩ := hp2
    refine h.2 s p hp (.inr ⟨e, ?_⟩)
    simp only [e] at h4
    exact h4⟩
open Classical in
theorem SpotsTo.step {ws : List (List ItemL)} {k j : Nat} {S : ByteArray → List Spot} (h : SpotsTo ws k j S) (hk : k < ws.length) (h0 : 0 < ws[k].length) (hj : j < (ws[k][ws[k].length - 1]).2.length) {s : ByteArray} (hs : ((ws[k][ws[k].length - 1]).2[j]).1 = s) : SpotsTo ws k (j + 1) (fun t => if t = s then S s ++ [(k, j)] else S t) := by
  have hnew : SpotOf ws s (k, j) := ⟨hk, h0, hj, hs⟩
  refine ⟨fun t p hp => ?_, fun t p hp hlt => ?_⟩
  · by_cases e : t = s
    · subst e
      simp only [↓reduceIte] at hp
      rcases List.mem_append.1 hp with hp | hp
      · exact h.1 _ p hp
      · obtain rfl : p = (k, j) := by simpa using hp
        exact hnew
    · simp only [if_neg e] at hp
      exact h.1 t p hp
  · by_cases hq : p.1 < k ∨ (p.1 = k ∧ p.2 < j)
    · have hm := h.2 t p hp hq
      by_cases e : t = s
      · subst e
        simp only [↓reduceIte]
        exact List.mem_append_left _ hm
      · simp only [if_neg e]
        exact hm
    · have e1 : p = (k, j) := Prod.ext (by show p.1 = k; omega) (by show p.2 = j; omega)
      subst e1
      obtain ⟨_, _, _, hs'⟩ := hp
      simp only at hs'
      have e : t = s := by rw [← hs', hs]
      simp only [if_pos e]
      exact List.mem_append_right _ (by simp)

end Go.Proofs.YtpfhegengmlkmacGreatDoor
/- The sources that two windows or more have: gathered off the map of spots. -/
namespace Go.Proofs.YtpfhegengmlkmacGreatDoor
open Go.RowKit Go.BigFrame

/-- The texts of some lists of bytes. -/
def textsL (ss : List (List UInt8)) : List ByteArray := ss.map fun l => ⟨l.toArray⟩
theorem textsL_cells (ss : List (List UInt8)) : ss.map encStr = (textsL ss).map .string := by simp [textsL, Function.comp_def]

theorem GrpS.listed {w : World} {B b n : Nat} {D : DataW Value} {V : ByteArray → Value} {S : ByteArray → List Spot} (h : GrpS w B b n D V S) {ss : List (List UInt8)} (hp : ss.Perm (strKeys D)) {s : ByteArray} (hs : S s ≠ []) : s ∈ textsL (ss.mergeSort (fun x y => decide (x ≤ y))) := by
  have h1 := (h.has s).2 hs
  obtain ⟨es, rfl, _⟩ := World.ownsMap.keysOf h.own
  rw [Maps.has_eq, List.any_eq_true] at h1
  obtain ⟨p, hm, hk⟩ := h1
  have e : p.1 = litS s := by
    by_cases e : p.1 = litS s
    · exact e
    · rw [Maps.sameKey_ne e] at hk
      cases hk
  have h2 : s.data.toList ∈ strKeys (DataW.map es) := List.mem_map.2 ⟨p, hm, by rw [e]; rfl⟩
  have h3 := (List.mergeSort_perm ss (fun x y => decide (x ≤ y))).mem_iff.2 (hp.mem_iff.2 h2)
  exact List.mem_map.2 ⟨_, h3, by simp⟩

/-- Lists of spots that the call itself gathers, with the slices that they lie in. -/
def GathG (w : World) (B : Nat) (v : Value) (L : List (List Spot × Value)) : Prop := w.ownsRow B 242 1 v L.length (L.map (·.2)) ∧ ∀ p ∈ L, GathP w B p.2 p.1
theorem gathG_none (w : World) (B : Nat) : GathG w B (.slice none 0 0) [] := ⟨World.ownsRow_nil _ _ _ _, by simp⟩
theorem GathG.keep {w w' : World} {B : Nat} {v : Value} {L : List (List Spot × Value)} (h : GathG w B v L) (hb : Below w.heap.size w w') : GathG w' B v L := ⟨own_keep h.1 hb, fun p hp => own_keep (h.2 p hp) hb⟩
theorem GathG.snoc {w w' : World} {B : Nat} {v v' y : Value} {L : List (List Spot × Value)} {l : List Spot} (h : GathG w B v L) (hl : GathP w B y l) (hne : 245 ≠ 242)
    (h' : w'.ownsRow B 242 1 v' (L.length + 1) ((L.map (·.2)) ++ [y])) (hg : w.grownBy w' v.ownBlock) : GathG w' B v' (L ++ [(l, y)]) := by
  refine ⟨?_, fun p hp => ?_⟩
  · rw [List.length_append, List.map_append]
    exact h'
  · rcases List.mem_append.1 hp with hp | hp
    · exact World.ownsRow.kept (h.2 p hp) hg (own_types (h.2 p hp) h.1 hne)
    · obtain rfl : p = (l, y) := by simpa using hp
      exact World.ownsRow.kept hl hg (own_types hl h.1 hne)
theorem GrpS.kept {w w' : World} {B b n k : Nat} {D : DataW Value} {V : ByteArray → Value} {S : ByteArray → List Spot} {v : Value} {xs : List Value} (h : GrpS w B b n D V S) (hv : w.ownsRow B 242 1 v k xs) (hg : w.grownBy w' v.ownBlock) (hne : 245 ≠ 242) : GrpS w' B b n D V S :=
  ⟨h.own.kept hg (fun e => by have := own_from hv _ e.symm; have := h.lt; omega), h.lt, h.eq, h.has, fun s => World.ownsRow.kept (h.row s) hg (own_types (h.row s) hv hne), h.far⟩
theorem GathG.row {w : World} {B : Nat} {v : Value} {L : List (List Spot × Value)} (h : GathG w B v L) : ∃ a cap, v = .slice a L.length cap ∧ L.length ≤ cap ∧ RowG w a (L.map (·.1)) := by
  rcases h.1.2 with ⟨rfl, h0⟩ | ⟨g, cap, cur, rfl, hB, hh, hn, _⟩
  · exact ⟨none, 0, by rw [h0], by omega, fun k hk => by rw [List.length_map] at hk; omega⟩
  · have hlt : g < w.heap.size := (Array.getElem?_eq_some_iff.1 hh).1
    refine ⟨_, cap, rfl, hn, fun k hk => ⟨g, 0, rfl, hlt, ?_⟩⟩
    rw [List.length_map] at hk
    obtain ⟨a, c, e, hc, hr⟩ := (h.2 L[k] (List.getElem_mem hk)).row
    refine ⟨a, c, ?_, by simpa using hc, by simpa using hr⟩
    rw [Nat.zero_add, World.ownsRow.cellAt h.1 _ (by omega)]
    simp [hk, e]

theorem Tryz.infoQ : (Tryz.prog.info? 242).map (fun i => (i.zero, i.size, i.bytes)) = some (some (.slice none 0 0), 1, 24) := by kernel_rfl
theorem spot_unlike : 245 ≠ 242 := by decide
theorem text_unlike : 9 ≠ 242 := by decide

theorem GathP.keep {w w' : World} {B : Nat} {v : Value} {l : List Spot} (h : GathP w B v l) (hb : Below w.heap.size w w') : GathP w' B v l := own_keep h hb
theorem GathS.beside {w w' : World} {B k : Nat} {v y : Value} {l : List ByteArray} {xs : List Value} (h : GathS w B v l) (hv : w.ownsRow B 242 1 y k xs) (hg : w.grownBy w' y.ownBlock) : GathS w' B v l := World.ownsRow.kept h hg (own_types h hv text_unlike)

/-- Of the first i texts those that have two spots or more are in L, and no others. -/
def SharedTo (S : ByteArray → List Spot) (names : List ByteArray) (i : Nat) (L : List (List Spot × Value)) : Prop :=
  (∀ p ∈ L, ∃ s, p.1 = S s ∧ 1 < (S s).length) ∧ ∀ q, (hq : q < names.length) → q < i → 1 < (S names[q]).length → ∃ p ∈ L, p.1 = S names[q]
theorem SharedTo.skip {S : ByteArray → List Spot} {names : List ByteArray} {i : Nat} {L : List (List Spot × Value)} (h : SharedTo S names i L) (hi : i < names.length) (hn : ¬ 1 < (S names[i]).length) : SharedTo S names (i + 1) L := ⟨h.1, fun q hq hlt h1 => by
  by_cases e : q = i
  · subst e; exact absurd h1 hn
  · exact h.2 q hq (by omega) h1⟩
theorem SharedTo.take {S : ByteArray → List Spot} {names : List ByteArray} {i : Nat} {L : List (List Spot × Value)} (h : SharedTo S names i L) (hi : i < names.length) (hn : 1 < (S names[i]).length) (y : Value) : SharedTo S names (i + 1) (L ++ [(S names[i], y)]) := by
  refine ⟨fun p hp => ?_, fun q hq hlt h1 => ?_⟩
  · rcases List.mem_append.1 hp with hp | hp
    · exact h.1 p hp
    · obtain rfl : p = (S names[i], y) := by simpa using hp
      exact ⟨names[i], rfl, hn⟩
  · by_cases e : q = i
    · subst e
      exact ⟨(S names[q], y), by simp, rfl⟩
    · obtain ⟨p, hp, he⟩ := h.2 q hq (by omega) h1
      exact ⟨p, List.mem_append_left _ hp, he⟩
theorem SharedTo.shared {ws : List (List ItemL)} {S : ByteArray → List Spot} {names : List ByteArray} {L : List (List Spot × Value)} (h : SharedTo S names names.length L) (hS : SpotsTo ws ws.length 0 S) (hn : ∀ s, S s ≠ [] → s ∈ names) (h72 : ∀ s, (S s).length ≤ 1000) (hL : L.length ≤ 1000) : ShW ws (L.map (·.1)) := by
  refine ⟨⟨fun src hs => ?_, fun s i k j l hik h1 h2 => ?_⟩, fun src hs => ?_, by rw [List.length_map]; exact hL⟩
  · obtain ⟨p, hp, rfl⟩ := List.mem_map.1 hs
    obtain ⟨s, e, _⟩ := h.1 p hp
    exact ⟨s, fun q hq => hS.1 s q (by rw [← e]; exact hq)⟩
  · have m1 := hS.2 s _ h1 (.inl h1.1)
    have m2 := hS.2 s _ h2 (.inl h2.1)
    have hlen : 1 < (S s).length := by
      match hS' : S s, m1, m2 with
      | [], m1, _ => simp at m1
      | [x], m1, m2 =>
        have e1 : (i, j) = x := by simpa using m1
        have e2 : (k, l) = x := by simpa using m2
        rw [← e1] at e2
        exact absurd (Prod.mk.inj e2).1.symm hik
      | _ :: _ :: _, _, _ => simp
    obtain ⟨q, hq, e⟩ := List.mem_iff_getElem.1 (hn s (fun e => by rw [e] at hlen; simp at hlen))
    obtain ⟨p, hp, he⟩ := h.2 q hq hq (by rw [e]; exact hlen)
    rw [e] at he
    exact ⟨p.1, List.mem_map.2 ⟨p, hp, rfl⟩, by rw [he]; exact m1, by rw [he]; exact m2⟩
  · obtain ⟨p, hp, rfl⟩ := List.mem_map.1 hs
    obtain ⟨s, e, h1⟩ := h.1 p hp
    rw [e]
    exact ⟨h1, h72 s⟩

end Go.Proofs.YtpfhegengmlkmacGreatDoor
/- Walk: sharedSpots. -/
namespace Go.Proofs.YtpfhegengmlkmacGreatDoor
open Go.RowKit Go.BigFrame
set_option maxRecDepth 100000

open Classical in
set_option maxHeartbeats 1600000 in
theorem sharedSpots_any (W0 w : World) (a : Option Addr) (c : Nat) (ws : List (List ItemL)) (hr : RowV W0 w a ws) (hW : Below W0.heap.size W0 w) (hok : OkW ws) :
    Calls Tryz.prog 173 #[.slice a ws.length c] w fun e w' => (∃ v L, e = .returned v ∧ GathG w' (w.heap.size + 1) v L ∧ ShW ws (L.map (·.1))) ∧ Below w.heap.size w w' := by
  have h6 := hok.2.1
  have hmm := @run_makeMap Tryz.prog
  go_enter Tryz.func173, Tryz.ntmps173
  go_wp2_with fail
  have HOK : Hid (OkW ws) := hok
  have hz0 := hW.size
  clear hok hmm
  go_loopw [13] (fun i wr => ∃ (k n : Nat) (D : DataW Value) (V : ByteArray → Value) (S : ByteArray → List Spot), k ≤ ws.length ∧ i = .int .i64 k ∧ n ≤ k * 12 ∧ GrpS wr (w.heap.size + 1) w.heap.size n D V S ∧ Hid (SpotsTo ws k 0 S) ∧ Hid (∀ s, (S s).length ≤ n) ∧ Below w.heap.size w wr) (fun i _ => ws.length - (intOf i).toNat)
  case atStart => exact ⟨0, 0, _, _, _, Nat.zero_le _, rfl, by omega, grpS_made w, spotsTo_start ws, fun s => Nat.le_refl _, (Below.refl _ _).alloc (Nat.le_refl _) _⟩
  case round =>
    obtain ⟨k, n, D, V, S, hk, rfl, hn, hg, HS, HL, hbl⟩ := hrel
    by_cases hlt : k < ws.length
    · obtain ⟨g, o, rfl, hwo⟩ := hr.below hbl k hlt
      have k0 : (0 : Int) ≤ (k : Int) := by omega
      have k1 : (k : Int) < (ws.length : Int) := by omega
      go_wp2_with fail
      refine (size_off W0 _ g (o + k * 10) ws[k] hwo).mono ?_
      rintro e w2 ⟨rfl, rfl⟩
      by_cases h0 : ws[k].length = 0
      · have HST : Hid (SpotsTo ws (k + 1) 0 S) := HS.out.empty hlt h0
        have h0' : ((ws[k].length : Int) == 0) = true := by rw [beq_iff_eq]; omega
        go_wp2_with fail
        exact ⟨⟨k + 1, n, D, V, S, by omega, by go_num, by omega, hg, HST, HL, hbl⟩, by simp [intOf]; omega⟩
      · have h0' : ((ws[k].length : Int) == 0) = false := by rw [beq_eq_false_iff_ne]; omega
        go_wp2_with fail
        refine (last_off W0 _ g (o + k * 10) ws[k] hwo (by omega)).mono ?_
        rintro e w3 ⟨⟨v, rfl, hv⟩, b3⟩
        obtain ⟨sa, sc, rfl, hcap, hrow⟩ := hv
        have B3 : Below w.heap.size w w3 := hbl.trans (b3.mono hbl.size)
        replace hg := hg.keep b3
        have hst := (HOK.out.2.2 k hlt).2.1 (ws[k].length - 1) (by omega)
        have HST : Hid (StampP (ws[k][ws[k].length - 1]).2) := hst.1
        have h12 := hst.1.1
        clear hst
        have hfd := field_stamp (ws[k][ws[k].length - 1]).1 sa (ws[k][ws[k].length - 1]).2.length sc
        go_wp2_with fail
        go_loopw [29] (fun i2 wr2 => ∃ (j n : Nat) (D : DataW Value) (V : ByteArray → Value) (S : ByteArray → List Spot), j ≤ (ws[k][ws[k].length - 1]).2.length ∧ i2 = .int .i64 j ∧ n ≤ k * 12 + j ∧ GrpS wr2 (w.heap.size + 1) w.heap.size n D V S ∧ Hid (SpotsTo ws k j S) ∧ Hid (∀ s, (S s).length ≤ n) ∧ Below w.heap.size w wr2) (fun i2 _ => (ws[k][ws[k].length - 1]).2.length - (intOf i2).toNat)
        case atStart => exact ⟨0, n, D, V, S, Nat.zero_le _, rfl, by omega, hg, HS, HL, B3⟩
        case round =>
          clear hg HS HL hn
          obtain ⟨j, n, D, V, S, hj, rfl, hn, hg, HS, HL, B4⟩ := hrel
          by_cases hjlt : j < (ws[k][ws[k].length - 1]).2.length
          · obtain ⟨bm, om, rfl, hbm, m0, m1⟩ := hrow j hjlt
            have j0 : (0 : Int) ≤ (j : Int) := by omega
            have j1 : (j : Int) < ((ws[k][ws[k].length - 1]).2.length : Int) := by omega
            have hbm' : bm < w.heap.size := by omega
            replace m0 := cell_on B4 hbm' (cell_on hW hbm m0)
            replace m1 := cell_on B4 hbm' (cell_on hW hbm m1)
            have hname := (HST.out.2.1 j hjlt).1
            have hss : ((ws[k][ws[k].length - 1]).2[j]).1.size ≤ maxLen := by have := hname.2.1; unfold maxLen; omega
            clear hname
            obtain ⟨s, hsn⟩ : ∃ s, ((ws[k][ws[k].length - 1]).2[j]).1 = s := ⟨_, rfl⟩
            obtain ⟨x, hxn⟩ : ∃ x, ((ws[k][ws[k].length - 1]).2[j]).2 = x := ⟨_, rfl⟩
            rw [hsn] at m0 hss
            rw [hxn] at m1
            have HSN : Hid (((ws[k][ws[k].length - 1]).2[j]).1 = s) := hsn
            clear hsn hxn
            go_wp2_with fail
            have hb0 : Below wr.heap.size wr (wr.alloc (.cells #[.string s, .int .i64 x] 144)) := (Below.refl _ _).alloc (Nat.le_refl _) _
            have hlt0 := box_lt wr (.cells #[.string s, .int .i64 x] 144)
            have d0 := box0 wr (.string s) (.int .i64 x) 144
            generalize wr.alloc (.cells #[.string s, .int .i64 x] 144) = W at *
            have hgd : GrpS W.drew (w.heap.size + 1) w.heap.size n D V S := (hg.keep hb0).keep (Below.refl _ _).drew
            have hl1 := lookup_spot hgd s hss
            have hb1 : Below W.heap.size W ((W.alloc (.cells #[.int .i64 (k : Int), .int .i64 (j : Int)] 245)).drew) := ((Below.refl _ _).alloc (Nat.le_refl _) _).drew
            have hga := (hg.keep hb0).keep hb1
            have hl2 := lookup_spot hga s hss
            have SW : (W.drew).cell? ⟨wr.heap.size, 0, none⟩ = some (.string s) := d0
            have S2 : ((W.alloc (.cells #[.int .i64 (k : Int), .int .i64 (j : Int)] 245)).drew).cell? ⟨wr.heap.size, 0, none⟩ = some (.string s) := cell_on hb1 hlt0 d0
            have z4 := B4.size
            have zm := hg.own.lt
            have zx := hb0.size
            have BX : Below w.heap.size w ((W.alloc (.cells #[.int .i64 (k : Int), .int .i64 (j : Int)] 245)).drew) := (B4.trans (hb0.mono z4)).trans (hb1.mono (Nat.le_trans z4 zx))
            have hXs := BX.size
            have hfar : some wr.heap.size ≠ (V s).ownBlock := fun e => by have := (World.ownsRow.lt (hg.row s) _ e.symm).2; omega
            have hown : some w.heap.size ≠ (V s).ownBlock := fun e => by have := own_from (hg.row s) _ e.symm; omega
            have HST2 : Hid (SpotsTo ws k (j + 1) (fun t => if t = s then S s ++ [(k, j)] else S t)) := HS.out.step hlt (by omega) hjlt HSN.out
            have HL2 : Hid (∀ t, (if t = s then S s ++ [(k, j)] else S t).length ≤ n + 1) := fun t => by
              by_cases e : t = s
              · rw [if_pos e, List.length_append]
                have := HL.out s
                simp only [List.length_singleton]
                omega
              · rw [if_neg e]
                have := HL.out t
                omega
            refine wp_region_held_drew (S := fun u => u.cell? ⟨wr.heap.size, 0, none⟩ = some (.string s)) (by kernel_rfl) SW (fun _ => ?_)
            refine wpAnyH_take (i := 0) (v := .map (some w.heap.size)) rfl (by kernel_rfl) (by kernel_rfl) (by kernel_rfl) (fun _ _ _ h => h) (Or.inl ⟨by rfl, ?_⟩) SW ?_
            · rintro u q1
              go_simp
            simp only [Act.put, List.setIfInBounds_toArray]
            refine wpAnyH_take (i := 1) (v := .pointer (some ⟨wr.heap.size, 0, none⟩)) rfl (by kernel_rfl) (by kernel_rfl) (by kernel_rfl) (fun _ _ _ h => h) (Or.inl ⟨by rfl, ?_⟩) SW ?_
            · rintro u q1
              go_simp
            simp only [Act.put]
            refine wpAnyH_take (i := 2) (v := .string s) rfl (by kernel_rfl) (by kernel_rfl) (by kernel_rfl) (fun _ _ _ h => h) (Or.inl ⟨by rfl, ?_⟩) SW ?_
            · rintro u q1
              go_simp
            simp only [Act.put]
            refine wpAnyH_take (i := 3) (v := .map (some w.heap.size)) rfl (by kernel_rfl) (by kernel_rfl) (by kernel_rfl) (fun _ _ _ h => h) (Or.inl ⟨by rfl, ?_⟩) SW ?_
            · rintro u q1
              go_simp
            simp only [Act.put]
            refine wpAnyH_take (i := 4) (v := .pointer (some ⟨wr.heap.size, 0, none⟩)) rfl (by kernel_rfl) (by kernel_rfl) (by kernel_rfl) (fun _ _ _ h => h) (Or.inl ⟨by rfl, ?_⟩) SW ?_
            · rintro u q1
              go_simp
            simp only [Act.put]
            refine wpAnyH_take (i := 5) (v := .string s) rfl (by kernel_rfl) (by kernel_rfl) (by kernel_rfl) (fun _ _ _ h => h) (Or.inl ⟨by rfl, ?_⟩) SW ?_
            · rintro u q1
              go_simp
            simp only [Act.put]
            refine wpAnyH_take (i := 7) (v := .int .i64 k) rfl (by kernel_rfl) (by kernel_rfl) (by kernel_rfl) (fun _ _ _ h => h) (Or.inl ⟨by rfl, ?_⟩) SW ?_
            · rintro u q1
              go_simp
            simp only [Act.put]
            refine wpAnyH_take (i := 8) (v := .int .i64 j) rfl (by kernel_rfl) (by kernel_rfl) (by kernel_rfl) (fun _ _ _ h => h) (Or.inl ⟨by rfl, ?_⟩) SW ?_
            · rintro u q1
              go_simp
            simp only [Act.put]
            refine wpAnyH_take (i := 9) (v := .agg #[.int .i64 k, .int .i64 j]) rfl (by kernel_rfl) (by kernel_rfl) (by kernel_rfl) (fun _ _ _ h => h) (Or.inl ⟨by rfl, ?_⟩) SW ?_
            · rintro u q1
              go_simp
            simp only [Act.put]
            refine wpAnyH_ready (rs := [6, 10]) (by kernel_rfl) (by simp) ?_
            refine AllReadyH.cons rfl (fun K hK => ?_) (AllReadyH.cons rfl (fun K hK => ?_) AllReadyH.nil)
            · rw [if_pos (by rfl)]
              go_simp
              refine hK.out _ _ SW (fun _ => ?_)
              clear hK K
              refine wpAnyH_ready (rs := [10]) (by kernel_rfl) (by simp) ?_
              refine AllReadyH.cons rfl (fun K hK => ?_) AllReadyH.nil
              rw [if_pos (by rfl)]
              go_simp
              refine hK.out _ _ S2 (fun _ => ?_)
              clear hK K
              refine wpAnyH_ready (rs := [11]) (by kernel_rfl) (by simp) ?_
              refine AllReadyH.cons rfl (fun K hK => ?_) AllReadyH.nil
              rw [if_pos (by rfl)]
              refine wp_append_spot _ _ rfl (w.heap.size + 1) (V s) (S s) rfl (hga.row s) (by have := hb1.size; omega) W.heap.size (k, j) rfl (by simp [go_sem]) (by simp [go_sem]) (by have := HL.out s; omega) ?_
              intro v' w4 ho hgb hloc
              have S4 : w4.cell? ⟨wr.heap.size, 0, none⟩ = some (.string s) := grown_cell hgb hfar S2
              refine hK.out _ _ S4 (fun _ => ?_)
              clear hK K
              refine wpAnyH_ready (rs := [12]) (by kernel_rfl) (by simp) ?_
              refine AllReadyH.cons rfl (fun K hK => ?_) AllReadyH.nil
              rw [if_pos (by rfl)]
              refine wp_update_spot _ _ _ rfl w.heap.size n D rfl (hga.own.kept hgb hown) (by unfold maxLen; omega) s hss v' rfl rfl ?_
              intro w5 h2 hg2
              have S5 : w5.cell? ⟨wr.heap.size, 0, none⟩ = some (.string s) := grown_cell hg2 (fun q => by have := Option.some.inj q; omega) S4
              refine hK.out _ _ S5 (fun _ => ?_)
              clear hK K
              refine wpAnyH_done (by kernel_rfl) ?_ _
              go_wp2_with fail
              exact ⟨⟨j + 1, n + 1, _, _, _, by omega, by go_num, by omega, hga.put s (k, j) hgb ho (hloc.imp_right fun e => ⟨_, e, Nat.le_refl _⟩) h2 hg2, HST2, HL2, (BX.grown hgb hXs (fun q hq => by have := own_from (hga.row s) q hq; omega)).grown hg2 (Nat.le_trans hXs hgb.size) (fun q hq => by cases hq; exact Nat.le_refl _)⟩, by simp [intOf]; omega⟩
            · rw [if_pos (by rfl)]
              go_simp
              refine hK.out _ _ S2 (fun _ => ?_)
              clear hK K
              refine wpAnyH_ready (rs := [6]) (by kernel_rfl) (by simp) ?_
              refine AllReadyH.cons rfl (fun K hK => ?_) AllReadyH.nil
              rw [if_pos (by rfl)]
              go_simp
              refine hK.out _ _ S2 (fun _ => ?_)
              clear hK K
              refine wpAnyH_ready (rs := [11]) (by kernel_rfl) (by simp) ?_
              refine AllReadyH.cons rfl (fun K hK => ?_) AllReadyH.nil
              rw [if_pos (by rfl)]
              refine wp_append_spot _ _ rfl (w.heap.size + 1) (V s) (S s) rfl (hga.row s) (by have := hb1.size; omega) W.heap.size (k, j) rfl (by simp [go_sem]) (by simp [go_sem]) (by have := HL.out s; omega) ?_
              intro v' w4 ho hgb hloc
              have S4 : w4.cell? ⟨wr.heap.size, 0, none⟩ = some (.string s) := grown_cell hgb hfar S2
              refine hK.out _ _ S4 (fun _ => ?_)
              clear hK K
              refine wpAnyH_ready (rs := [12]) (by kernel_rfl) (by simp) ?_
              refine AllReadyH.cons rfl (fun K hK => ?_) AllReadyH.nil
              rw [if_pos (by rfl)]
              refine wp_update_spot _ _ _ rfl w.heap.size n D rfl (hga.own.kept hgb hown) (by unfold maxLen; omega) s hss v' rfl rfl ?_
              intro w5 h2 hg2
              have S5 : w5.cell? ⟨wr.heap.size, 0, none⟩ = some (.string s) := grown_cell hg2 (fun q => by have := Option.some.inj q; omega) S4
              refine hK.out _ _ S5 (fun _ => ?_)
              clear hK K
              refine wpAnyH_done (by kernel_rfl) ?_ _
              go_wp2_with fail
              exact ⟨⟨j + 1, n + 1, _, _, _, by omega, by go_num, by omega, hga.put s (k, j) hgb ho (hloc.imp_right fun e => ⟨_, e, Nat.le_refl _⟩) h2 hg2, HST2, HL2, (BX.grown hgb hXs (fun q hq => by have := own_from (hga.row s) q hq; omega)).grown hg2 (Nat.le_trans hXs hgb.size) (fun q hq => by cases hq; exact Nat.le_refl _)⟩, by simp [intOf]; omega⟩
          · have HX : Hid (SpotsTo ws (k + 1) 0 S) := SpotsTo.whole hlt (by omega) (by
              have e : j = (ws[k][ws[k].length - 1]).2.length := by omega
              rw [← e]; exact HS.out)
            go_wp2_with fail
            exact ⟨⟨k + 1, n, D, V, S, by omega, by go_num, by omega, hg, HX, HL, B4⟩, by simp [intOf]; omega⟩
    · clear hr
      have HOW : Hid (∃ n0, n0 ≤ 72 ∧ GrpS wr (w.heap.size + 1) w.heap.size n0 D V S ∧ ∀ s, (S s).length ≤ n0) := ⟨n, by omega, hg, HL.out⟩
      go_wp2_with fail
      refine (callsIn_wide.1 (Tryz.maps_Keys_199 (some w.heap.size) _)).mono ?_
      rintro e w1 ⟨rfl, rfl⟩
      go_wp2_with fail
      have hsz := hg.own.size_le
      refine (callsIn_wide.1 (Tryz.slices_Sorted_keys_198_199 w.heap.size n D heldE _ hg.own (by unfold maxLen; omega) (by omega))).mono ?_
      rintro e w2 ⟨v, ss, rfl, hperm, hsown, _, b2⟩
      obtain ⟨names, hnm⟩ : ∃ l, l = textsL (ss.mergeSort (fun x y => decide (x ≤ y))) := ⟨_, rfl⟩
      have hnl : names.length = ss.length := by rw [hnm]; simp [textsL]
      have hgs : GathS w2 (wr.alloc (.cells #[.map (some w.heap.size)] 261)).heap.size v names := by
        unfold GathS
        rw [hnl, hnm, ← textsL_cells]
        exact hsown
      obtain ⟨sa, sc, rfl, hnrow⟩ := hgs.shape
      have HN : Hid (∀ s, S s ≠ [] → s ∈ names) := fun s hs => by rw [hnm]; exact hg.listed hperm hs
      have hn72 : names.length ≤ 72 := by
        rw [hnl, hperm.length_eq]
        have e : (strKeys D).length = Maps.size D := by
          obtain ⟨es, rfl, _⟩ := World.ownsMap.keysOf hg.own
          simp [strKeys, Maps.size]
        omega
      have HSZ : Hid (∀ q, (h : q < names.length) → names[q].size ≤ maxLen) := fun q hq => by
        subst hnm
        have hm := (List.mergeSort_perm ss (fun x y => decide (x ≤ y))).mem_iff.1 (List.getElem_mem (by simpa [textsL] using hq : q < (ss.mergeSort (fun x y => decide (x ≤ y))).length))
        have := strKeys_le hg.own Tryz.underlying9 _ (hperm.mem_iff.1 hm)
        simpa [textsL, ByteArray.size] using this
      have hb2 : Below wr.heap.size wr w2 := ((Below.refl _ _).alloc (Nat.le_refl _) _).trans (b2.mono (by simp))
      have B2 : Below w.heap.size w w2 := hbl.trans (hb2.mono hbl.size)
      have hg2 := hg.keep hb2
      have hgn : GathS w2 (w.heap.size + 1) (.slice sa names.length sc) names := hgs.lower (by have := hg.own.lt; simp; omega)
      have hmlt := hg2.own.lt
      clear hg hsown hgs hperm hnm hnl b2 hsz HOW hnrow
      obtain ⟨i0, hi, hy0, hy1, hy2⟩ := info_parts Tryz.infoQ
      go_wp2_with fail
      go_loopw [7, 52] (fun vs i wr3 => ∃ (q : Nat) (L : List (List Spot × Value)), q ≤ names.length ∧ i = .int .i64 q ∧ L.length ≤ q ∧ GathG wr3 (w.heap.size + 1) vs L ∧ Hid (SharedTo S names q L) ∧ GrpS wr3 (w.heap.size + 1) w.heap.size n D V S ∧ GathS wr3 (w.heap.size + 1) (.slice sa names.length sc) names ∧ Below w.heap.size w wr3) (fun _ i _ => names.length - (intOf i).toNat)
      case atStart => exact ⟨0, [], Nat.zero_le _, rfl, Nat.le_refl _, gathG_none _ _, ⟨fun p hp => by simp at hp, fun q _ h => by omega⟩, hg2, hgn, B2⟩
      case round =>
        clear hg2 hgn B2 hb2
        obtain ⟨q, L, hq, rfl, hLq, hL, HSH, hg, hgn, B3⟩ := hrel
        have hmlt := hg.own.lt
        by_cases hqlt : q < names.length
        · have hnrow : RowS wr sa names := by
            obtain ⟨a9, c9, e9, h9⟩ := hgn.shape
            cases e9
            exact h9
          obtain ⟨bn, on, rfl, hbn, n0⟩ := hnrow q hqlt
          have q0 : (0 : Int) ≤ (q : Int) := by omega
          have q1 : (q : Int) < (names.length : Int) := by omega
          have hlk := lookup_spot hg names[q] (HSZ.out q hqlt)
          have hgp := hg.row names[q]
          obtain ⟨va, vc, ev, hvc, _⟩ := GathP.row hgp
          rw [ev] at hlk hgp
          by_cases h1 : 1 < (S names[q]).length
          · have HX : Hid (SharedTo S names (q + 1) (L ++ [(S names[q], .slice va (S names[q]).length vc)])) := HSH.out.take hqlt h1 _
            have h1' : decide (1 < ((S names[q]).length : Int)) = true := decide_eq_true (by omega)
            go_wp2_with (first | (at_builtin; refine wpList_append_own_at _ rfl _ _ 211 rfl (w.heap.size + 1) 242 i0 (.slice none 0 0) 1 24 Tryz.underlying211 hi hy0 hy1 hy2 rfl (by decide) _ L.length (L.map (·.2)) rfl (own_keep hL.1 ((Below.refl _ _).alloc (Nat.le_refl _) _)) ⟨wr.heap.size, 0, none⟩ 1 1 [.slice va (S names[q]).length vc] rfl rfl (one_new _ _ _) (by simp [Value.oneCell']) (by unfold maxLen; omega) (by omega) (by simp; omega) ?_; intro v' w5 hown' hgrow _ hloc))
            have hbx : Below wr.heap.size wr (wr.alloc (.cells #[.slice va (S names[q]).length vc] 242)) := (Below.refl _ _).alloc (Nat.le_refl _) _
            have hkL := hL.keep hbx
            exact ⟨⟨q + 1, L ++ [(S names[q], .slice va (S names[q]).length vc)], by omega, by go_num, by simp; omega, hkL.snoc (hgp.keep hbx) spot_unlike hown' hgrow, HX, (hg.keep hbx).kept hkL.1 hgrow spot_unlike, (hgn.keep hbx).beside hkL.1 hgrow, ((B3.trans (hbx.mono B3.size)).grown hgrow (by simp; omega) (fun k hk => by have := own_from hkL.1 k hk; omega))⟩, by simp [intOf]; omega⟩
          · have HX : Hid (SharedTo S names (q + 1) L) := HSH.out.skip hqlt h1
            have h1' : decide (1 < ((S names[q]).length : Int)) = false := decide_eq_false (by omega)
            go_wp2_with fail
            exact ⟨⟨q + 1, L, by omega, by go_num, by omega, hL, HX, hg, hgn, B3⟩, by simp [intOf]; omega⟩
        · have HF : Hid (ShW ws (L.map (·.1))) := SharedTo.shared (by have e : q = names.length := by omega
                                                                      rw [← e]; exact HSH.out) (by have e : ws.length = k := by omega
                                                                                                   rw [e]; exact HS.out) HN.out (fun s => by have := HL.out s; omega) (by omega)
          obtain ⟨fa, fc, rfl, _, _⟩ := hL.row
          go_wp2_with fail
          go_ret
          exact ⟨⟨_, L, rfl, hL, HF.out⟩, B3⟩

end Go.Proofs.YtpfhegengmlkmacGreatDoor
/- readWindow once more: the items lie in an older world. -/
namespace Go.Proofs.YtpfhegengmlkmacGreatDoor
open Go.RowKit Go.BigFrame
set_option maxRecDepth 100000

set_option maxHeartbeats 3200000 in
theorem readWindow_from (W0 : World) (a : Option Addr) (cap : Nat) (l : List ItemL) (w : World) (hf : FitI l) (hr : RowI W0 a l) (h0 : Below W0.heap.size W0 w) :
    Calls Tryz.prog 127 #[.slice a l.length cap] w fun e w' => ReadE W0 l e ∧ Below w.heap.size w w' := by
  have hl := hf.1
  unfold maxLen at hl
  by_cases h4 : 4 < l.length
  · have HN : Hid (¬ WinP l) := fun h => by have := h.1; omega
    go_enter Tryz.func127, Tryz.ntmps127
    go_wp2_with fail
    exact bodyPost_ret (v := .tuple #[.agg zero10, .bool false]) (by simp [results, Tryz.results127, go_sem]) rfl ⟨.inr ⟨_, rfl, HN.out, winV_zero _⟩, ((Below.refl _ _).alloc (Nat.le_refl _) _).alloc (by simp) _⟩
  go_enter Tryz.func127, Tryz.ntmps127
  go_wp2_with fail
  have hA1 : Below w.heap.size w (w.alloc (.cells zero10 190)) := (Below.refl _ _).alloc (Nat.le_refl _) _
  have hA2 : Below w.heap.size w ((w.alloc (.cells zero10 190)).alloc (.cells zero10 190)) := hA1.alloc hA1.size _
  have hZ : ZeroB ((w.alloc (.cells zero10 190)).alloc (.cells zero10 190)) w.heap.size := (zeroB_new w).below ((Below.refl _ _).alloc (Nat.le_refl _) _)
  have hWn : WinB W0 ((w.alloc (.cells zero10 190)).alloc (.cells zero10 190)) (w.heap.size + 1) 0 [] := by
    have h := winB_new W0 (w.alloc (.cells zero10 190)) (Nat.le_trans h0.size hA1.size)
    rw [World.size_alloc] at h
    exact h
  go_loopw [13] (fun i wr => ∃ k : Nat, k ≤ l.length ∧ i = .int .i64 k ∧ WinB W0 wr (w.heap.size + 1) 0 (l.take k) ∧ Hid (WinTo l k) ∧ ZeroB wr w.heap.size ∧ Below w.heap.size w wr) (fun i _ => l.length - (intOf i).toNat)
  case atStart => exact ⟨0, Nat.zero_le _, rfl, hWn, winTo_zero l, hZ, hA2⟩
  case round =>
    obtain ⟨k, hk, rfl, hW, HTO, hz, hb⟩ := hrel
    clear hA1 hA2 hZ hWn
    by_cases hlt : k < l.length
    · obtain ⟨b1, o1, rfl, g1, e0, v1, e1, ⟨s1, t1, rfl, hc1, r1⟩⟩ := hr k hlt
      have k0 : (0 : Int) ≤ (k : Int) := by omega
      have k1 : (k : Int) < (l.length : Int) := by omega
      have x0 := cell_on (h0.trans (hb.mono h0.size)) g1 e0
      have x1 := cell_on (h0.trans (hb.mono h0.size)) g1 e1
      have fk := hf.2 k hlt
      clear e0 e1
      go_wp2_with fail
      have hb0 : Below wr.heap.size wr (wr.alloc (.cells #[.int .i64 l[k].1, .slice s1 l[k].2.length t1] 44)) := (Below.refl _ _).alloc (Nat.le_refl _) _
      have d0 := box0 wr (.int .i64 l[k].1) (.slice s1 l[k].2.length t1) 44
      have d1 := box1 wr (.int .i64 l[k].1) (.slice s1 l[k].2.length t1) 44
      have hlt0 := box_lt wr (.cells #[.int .i64 l[k].1, .slice s1 l[k].2.length t1] 44)
      replace hW := hW.below hb0
      replace hz := hz.below hb0
      have B1 : Below w.heap.size w (wr.alloc (.cells #[.int .i64 l[k].1, .slice s1 l[k].2.length t1] 44)) := hb.trans (hb0.mono hb.size)
      generalize hq : wr.heap.size = q at *
      generalize wr.alloc (.cells #[.int .i64 l[k].1, .slice s1 l[k].2.length t1] 44) = W1 at *
      clear hb0 x0 x1 hq hb
      refine (itemOk_any l[k].1 s1 t1 l[k].2 W1 (r1.below (h0.trans (B1.mono h0.size))) fk).mono ?_
      rintro e w2 ⟨⟨r, rfl, hr2⟩, b2⟩
      replace hW := hW.below b2
      replace hz := hz.below b2
      replace d0 := cell_on b2 hlt0 d0
      replace d1 := cell_on b2 hlt0 d1
      have B2 : Below w.heap.size w w2 := B1.trans (b2.mono B1.size)
      have hlt2 : q < w2.heap.size := Nat.lt_of_lt_of_le hlt0 b2.size
      have HR2 : Hid (r = true ↔ StampP l[k].2 ∧ l[k].2 ≠ []) := hr2
      clear hr2 b2 B1 hlt0
      cases r
      · have HN : Hid (¬ WinP l) := fun h => by simpa using HR2.out.2 (h.2.1 k hlt)
        obtain ⟨z0, z1, z2, z3, z4, z5, z6, z7, z8, z9⟩ := hz.cells
        obtain ⟨y0, y1, y2, y3, y4, y5, y6, y7, y8, y9⟩ := hz.free
        have HY : Hid _ := put10_cells hz (.int .i64 0) (.slice none 0 0) (.int .i64 0) (.slice none 0 0) (.int .i64 0) (.slice none 0 0) (.int .i64 0) (.slice none 0 0) (.int .i64 0) (.int .i64 0)
        clear HR2 hz hW
        go_wp2_with fail
        obtain ⟨Y0, Y1, Y2, Y3, Y4, Y5, Y6, Y7, Y8, Y9⟩ := HY.out
        unfold put10 at Y0 Y1 Y2 Y3 Y4 Y5 Y6 Y7 Y8 Y9
        exact bodyPost_ret (v := .tuple #[.agg zero10, .bool false]) (by simp [results, Tryz.results127, go_sem, Y0, Y1, Y2, Y3, Y4, Y5, Y6, Y7, Y8, Y9]) rfl ⟨.inr ⟨_, rfl, HN.out, winV_zero _⟩, put10_below B2 (Nat.le_refl _) _ _ _ _ _ _ _ _ _ _⟩
      · go_wp2_with fail
        refine (takes_any W0 w2 _ 0 (l.take k) l[k].1 _ l[k].2 hW (h0.trans (B2.mono h0.size)) (stamps_take HTO.out) ⟨s1, t1, rfl, hc1, r1⟩ (HR2.out.1 (by trivial)).1).mono ?_
        rintro e w3 ⟨⟨r, rfl, hr3⟩, b3⟩
        replace hW := hW.below b3
        replace hz := hz.below b3
        replace d0 := cell_on b3 hlt2 d0
        replace d1 := cell_on b3 hlt2 d1
        have B3 : Below w.heap.size w w3 := B2.trans (b3.mono B2.size)
        have HR3 : Hid (r = true ↔ ∀ h : 0 < (l.take k).length, AboveP ((l.take k)[(l.take k).length - 1]'(by omega)).2 l[k].2) := hr3
        clear hr3 b3 B2 hlt2
        cases r
        · have HN : Hid (¬ WinP l) := fun h => by
            have h3 := HR3.out.2 (take_above h hlt)
            simp at h3
          obtain ⟨z0, z1, z2, z3, z4, z5, z6, z7, z8, z9⟩ := hz.cells
          obtain ⟨y0, y1, y2, y3, y4, y5, y6, y7, y8, y9⟩ := hz.free
          have HY : Hid _ := put10_cells hz (.int .i64 0) (.slice none 0 0) (.int .i64 0) (.slice none 0 0) (.int .i64 0) (.slice none 0 0) (.int .i64 0) (.slice none 0 0) (.int .i64 0) (.int .i64 0)
          clear HR2 HR3 hz hW
          go_wp2_with fail
          obtain ⟨Y0, Y1, Y2, Y3, Y4, Y5, Y6, Y7, Y8, Y9⟩ := HY.out
          unfold put10 at Y0 Y1 Y2 Y3 Y4 Y5 Y6 Y7 Y8 Y9
          exact bodyPost_ret (v := .tuple #[.agg zero10, .bool false]) (by simp [results, Tryz.results127, go_sem, Y0, Y1, Y2, Y3, Y4, Y5, Y6, Y7, Y8, Y9]) rfl ⟨.inr ⟨_, rfl, HN.out, winV_zero _⟩, put10_below B3 (Nat.le_refl _) _ _ _ _ _ _ _ _ _ _⟩
        · have HST : Hid (WinTo l (k + 1)) := winTo_step HTO.out hlt (HR2.out.1 (by trivial)) (fun h => above_take hlt h (HR3.out.1 (by trivial)))
          have HT : Hid (l.take (k + 1) = l.take k ++ [(l[k].1, l[k].2)]) := List.take_succ_eq_append_getElem hlt
          clear HR2 HR3 HTO
          go_wp2_with fail
          refine (push_room W0 w3 _ 0 (l.take k) l[k].1 _ l[k].2 hW ⟨s1, t1, rfl, hc1, r1⟩ (by rw [List.length_take]; omega)).mono ?_
          rintro e w4 ⟨rfl, hW4, b4⟩
          have hz4 := hz.but b4 (by omega)
          have B4 : Below w.heap.size w w4 := B3.trans (b4.below (by omega) B3.size)
          clear hW hz d0 d1 b4
          go_wp2_with fail
          exact ⟨⟨k + 1, by omega, by go_num, by rw [HT.out]; exact hW4, HST, hz4, B4⟩, by simp [intOf]; omega⟩
    · have HF : Hid (WinP l) := winP_of HTO.out hlt (by omega)
      rw [List.take_of_length_le (by omega)] at hW
      obtain ⟨z0, z1, z2, z3, z4, z5, z6, z7, z8, z9⟩ := hz.cells
      obtain ⟨y0, y1, y2, y3, y4, y5, y6, y7, y8, y9⟩ := hz.free
      obtain ⟨_, _, _, f, ⟨hrow, hsh⟩, e8, e9, hf'⟩ := hW
      obtain ⟨x0, a0, n0, c0, p0, p1⟩ := hsh 0 (by omega)
      obtain ⟨x1, a1, n1, c1, p2, p3⟩ := hsh 1 (by omega)
      obtain ⟨x2, a2, n2, c2, p4, p5⟩ := hsh 2 (by omega)
      obtain ⟨x3, a3, n3, c3, p6, p7⟩ := hsh 3 (by omega)
      have HV : Hid (WinV W0 (.agg #[.int .i64 x0, .slice a0 n0 c0, .int .i64 x1, .slice a1 n1 c1, .int .i64 x2, .slice a2 n2 c2, .int .i64 x3, .slice a3 n3 c3, .int .i64 0, .int .i64 l.length]) l) := winV_of (by omega) p0 p1 p2 p3 p4 p5 p6 p7 hf'
      have r0 : wr.cell? ⟨w.heap.size + 1, 0, none⟩ = some (.int .i64 x0) := by rw [hrow.cell (by omega), ← p0]
      have r1 : wr.cell? ⟨w.heap.size + 1, 1, none⟩ = some (.slice a0 n0 c0) := by rw [hrow.cell (by omega), ← p1]
      have r2 : wr.cell? ⟨w.heap.size + 1, 2, none⟩ = some (.int .i64 x1) := by rw [hrow.cell (by omega), ← p2]
      have r3 : wr.cell? ⟨w.heap.size + 1, 3, none⟩ = some (.slice a1 n1 c1) := by rw [hrow.cell (by omega), ← p3]
      have r4 : wr.cell? ⟨w.heap.size + 1, 4, none⟩ = some (.int .i64 x2) := by rw [hrow.cell (by omega), ← p4]
      have r5 : wr.cell? ⟨w.heap.size + 1, 5, none⟩ = some (.slice a2 n2 c2) := by rw [hrow.cell (by omega), ← p5]
      have r6 : wr.cell? ⟨w.heap.size + 1, 6, none⟩ = some (.int .i64 x3) := by rw [hrow.cell (by omega), ← p6]
      have r7 : wr.cell? ⟨w.heap.size + 1, 7, none⟩ = some (.slice a3 n3 c3) := by rw [hrow.cell (by omega), ← p7]
      have r8 : wr.cell? ⟨w.heap.size + 1, 8, none⟩ = some (.int .i64 0) := by rw [hrow.cell (by omega), e8]; rfl
      have r9 : wr.cell? ⟨w.heap.size + 1, 9, none⟩ = some (.int .i64 l.length) := by rw [hrow.cell (by omega), e9]
      have HY : Hid _ := put10_cells hz (.int .i64 x0) (.slice a0 n0 c0) (.int .i64 x1) (.slice a1 n1 c1) (.int .i64 x2) (.slice a2 n2 c2) (.int .i64 x3) (.slice a3 n3 c3) (.int .i64 0) (.int .i64 l.length)
      clear HTO hz hrow hsh e8 e9 hf' p0 p1 p2 p3 p4 p5 p6 p7 f
      go_wp2_with fail
      obtain ⟨Y0, Y1, Y2, Y3, Y4, Y5, Y6, Y7, Y8, Y9⟩ := HY.out
      unfold put10 at Y0 Y1 Y2 Y3 Y4 Y5 Y6 Y7 Y8 Y9
      exact bodyPost_ret (v := .tuple #[.agg #[.int .i64 x0, .slice a0 n0 c0, .int .i64 x1, .slice a1 n1 c1, .int .i64 x2, .slice a2 n2 c2, .int .i64 x3, .slice a3 n3 c3, .int .i64 0, .int .i64 l.length], .bool true]) (by simp [results, Tryz.results127, go_sem, Y0, Y1, Y2, Y3, Y4, Y5, Y6, Y7, Y8, Y9]) rfl ⟨.inl ⟨_, rfl, HF.out, HV.out⟩, put10_below hb (Nat.le_refl _) _ _ _ _ _ _ _ _ _ _⟩

end Go.Proofs.YtpfhegengmlkmacGreatDoor
/- Walk: readChoices. -/
namespace Go.Proofs.YtpfhegengmlkmacGreatDoor
open Go.RowKit Go.BigFrame
set_option maxRecDepth 100000

theorem Tryz.infoV : (Tryz.prog.info? 190).map (fun i => (i.zero, i.size, i.bytes)) = some (some (.agg zero10), 10, 144) := by kernel_rfl
theorem block_new (w : World) (cs : Array Value) (t : TypeId) : ∀ j u, cs.toList[j]? = some u → (w.alloc (.cells cs t)).cell? ((⟨w.heap.size, 0, none⟩ : Addr).add j) = some u := by
  intro j u hj
  have e : (⟨w.heap.size, 0, none⟩ : Addr).add j = ⟨w.heap.size, j, none⟩ := by unfold Addr.add; split <;> simp_all
  rw [e, World.cell?_alloc_new]
  simpa using hj

/-- What readChoices answers. -/
def ChoE (w w' : World) (ws : List (List ItemL)) (e : Ending) : Prop := (∃ a1 c1 a2 c2 sh, e = .returned (.tuple #[.agg #[.slice a1 ws.length c1, .slice a2 sh.length c2], .bool true]) ∧ OkW ws ∧ ws.length ≤ c1 ∧ sh.length ≤ c2 ∧ RowV w w' a1 ws ∧ RowG w' a2 sh ∧ ShW ws sh) ∨ (e = .returned (.tuple #[.agg #[.slice none 0 0, .slice none 0 0], .bool false]) ∧ ¬ OkW ws)
/-- Two cells of a block of the call's own. -/
def Two (w : World) (b : Nat) (x y : Value) : Prop := w.cell? ⟨b, 0, none⟩ = some x ∧ w.cell? ⟨b, 1, none⟩ = some y ∧ w.frozen? ⟨b, 0, none⟩ = false ∧ w.frozen? ⟨b, 1, none⟩ = false
theorem Two.keep {w w' : World} {b : Nat} {x y : Value} (h : Two w b x y) (hb : Below w.heap.size w w') : Two w' b x y := by
  have hlt := block_lt_of_cell h.1
  exact ⟨cell_on hb hlt h.1, cell_on hb hlt h.2.1, (hb.frozen (p := ⟨b, 0, none⟩) hlt).trans h.2.2.1, (hb.frozen (p := ⟨b, 1, none⟩) hlt).trans h.2.2.2⟩

theorem Two.grown {w w' : World} {b : Nat} {x y : Value} {r : Option Nat} (h : Two w b x y) (hg : w.grownBy w' r) (hne : some b ≠ r) : Two w' b x y := by
  have hlt := block_lt_of_cell h.1
  exact ⟨grown_cell hg hne h.1, grown_cell hg hne h.2.1, (hg.frozen_far ⟨b, 0, none⟩ hlt hne).trans h.2.2.1, (hg.frozen_far ⟨b, 1, none⟩ hlt hne).trans h.2.2.2⟩
theorem Two.set0 {w : World} {b : Nat} {x y : Value} (h : Two w b x y) (z : Value) : Two (w.setCell ⟨b, 0, none⟩ z) b z y := by
  obtain ⟨h0, h1, h2, h3⟩ := h
  exact ⟨by simp [go_sem, h0], by simp [go_sem, h1], by simp [go_sem, h2], by simp [go_sem, h3]⟩
theorem Two.far {w : World} {b q : Nat} {x y : Value} (h : Two w b x y) (hq : b ≠ q) (i : Nat) (z : Value) : Two (w.setCell ⟨q, i, none⟩ z) b x y := by
  obtain ⟨h0, h1, h2, h3⟩ := h
  exact ⟨by rw [set_far _ _ _ _ hq]; exact h0, by rw [set_far _ _ _ _ hq]; exact h1, by simp [go_sem, h2], by simp [go_sem, h3]⟩

theorem own_far {w : World} {B e size n q : Nat} {v : Value} {xs : List Value} (h : w.ownsRow B e size v n xs) (hq : q < B) (i : Nat) (z : Value) : (w.setCell ⟨q, i, none⟩ z).ownsRow B e size v n xs := by
  obtain ⟨hl, h | ⟨g, cap, cur, hv, hgB, hh, r⟩⟩ := h
  · exact ⟨hl, .inl h⟩
  · exact ⟨hl, .inr ⟨g, cap, cur, hv, hgB, (Below.heap_setCell _ _ _ _ (by simp only; omega)).trans hh, r⟩⟩

theorem GathW.far {W0 w : World} {B q : Nat} {v : Value} {L : List (List ItemL × List Value)} (h : GathW W0 w B v L) (hq : q < B) (i : Nat) (z : Value) : GathW W0 (w.setCell ⟨q, i, none⟩ z) B v L := ⟨own_far h.1 hq i z, h.2⟩
theorem GathG.far {w : World} {B q : Nat} {v : Value} {L : List (List Spot × Value)} (h : GathG w B v L) (hq : q < B) (i : Nat) (z : Value) : GathG (w.setCell ⟨q, i, none⟩ z) B v L := ⟨own_far h.1 hq i z, fun p hp => own_far (h.2 p hp) hq i z⟩

set_option maxHeartbeats 3200000 in
theorem readChoices_any (a : Option Addr) (cap : Nat) (ws : List (List ItemL)) (w : World) (hf : FitW ws) (hr : RowW w a ws) :
    Calls Tryz.prog 137 #[.slice a ws.length cap] w fun e w' => ChoE w w' ws e ∧ Below w.heap.size w w' := by
  have hl := hf.1
  unfold maxLen at hl
  obtain ⟨i0, hi, hy0, hy1, hy2⟩ := info_parts Tryz.infoV
  by_cases h1 : ws.length < 1
  · go_enter Tryz.func137, Tryz.ntmps137
    go_wp2_with fail
    exact bodyPost_ret (v := .tuple #[.agg #[.slice none 0 0, .slice none 0 0], .bool false]) (by simp [results, Tryz.results137, go_sem]) rfl ⟨.inr ⟨rfl, fun h => by have := h.1; omega⟩, ((Below.refl _ _).alloc (Nat.le_refl _) _).alloc (by simp) _⟩
  by_cases h6 : 6 < ws.length
  · go_enter Tryz.func137, Tryz.ntmps137
    go_wp2_with fail
    exact bodyPost_ret (v := .tuple #[.agg #[.slice none 0 0, .slice none 0 0], .bool false]) (by simp [results, Tryz.results137, go_sem]) rfl ⟨.inr ⟨rfl, fun h => by have := h.2.1; omega⟩, ((Below.refl _ _).alloc (Nat.le_refl _) _).alloc (by simp) _⟩
  have B0 : Below w.heap.size w ((w.alloc (.cells #[.slice none 0 0, .slice none 0 0] 213)).alloc (.cells #[.slice none 0 0, .slice none 0 0] 213)) := ((Below.refl _ _).alloc (Nat.le_refl _) _).alloc (by simp) _
  have T0 : Two ((w.alloc (.cells #[.slice none 0 0, .slice none 0 0] 213)).alloc (.cells #[.slice none 0 0, .slice none 0 0] 213)) w.heap.size (.slice none 0 0) (.slice none 0 0) := ⟨by simp [go_sem], by simp [go_sem], by simp [go_sem], by simp [go_sem]⟩
  have T1 : Two ((w.alloc (.cells #[.slice none 0 0, .slice none 0 0] 213)).alloc (.cells #[.slice none 0 0, .slice none 0 0] 213)) (w.heap.size + 1) (.slice none 0 0) (.slice none 0 0) := ⟨by simp [go_sem], by simp [go_sem], by simp [go_sem], by simp [go_sem]⟩
  have hsz : w.heap.size + 2 ≤ ((w.alloc (.cells #[.slice none 0 0, .slice none 0 0] 213)).alloc (.cells #[.slice none 0 0, .slice none 0 0] 213)).heap.size := by simp
  go_enter Tryz.func137, Tryz.ntmps137
  go_wp2_with fail
  go_loopw [20] (fun i wr => ∃ (k : Nat) (L : List (List ItemL × List Value)) (v : Value), k ≤ ws.length ∧ i = .int .i64 k ∧ L.length = k ∧ Hid (L.map (·.1) = ws.take k) ∧ GathW w wr (w.heap.size + 2) v L ∧ Two wr w.heap.size (.slice none 0 0) (.slice none 0 0) ∧ Two wr (w.heap.size + 1) v (.slice none 0 0) ∧ Hid (∀ j, (h : j < ws.length) → j < k → WinP ws[j]) ∧ w.heap.size + 2 ≤ wr.heap.size ∧ Below w.heap.size w wr) (fun i _ => ws.length - (intOf i).toNat)
  case atStart => exact ⟨0, [], _, Nat.zero_le _, rfl, rfl, by simp [Hid], ⟨World.ownsRow_nil _ _ _ _, by simp⟩, T0, T1, fun _ _ h => absurd h (Nat.not_lt_zero _), hsz, B0⟩
  case round =>
    clear B0 T0 T1 hsz
    obtain ⟨k, L, v, hk, rfl, hLk, HLT, hL, T0, T1, HI, hsz, hbl⟩ := hrel
    by_cases hlt : k < ws.length
    · obtain ⟨b1, o1, rfl, g1, s1, t1, f1, hc1, q1⟩ := hr k hlt
      have f1' := cell_on hbl g1 f1
      have k0 : (0 : Int) ≤ (k : Int) := by omega
      have k1 : (k : Int) < (ws.length : Int) := by omega
      obtain ⟨fy0, fy1, fy2, fy3⟩ := id T1
      go_wp2_with fail
      refine (readWindow_from w s1 t1 ws[k] _ (hf.2 k hlt) q1 hbl).mono ?_
      rintro e w1 ⟨hE, b1'⟩
      have B1 : Below w.heap.size w w1 := hbl.trans (b1'.mono hbl.size)
      replace T0 := T0.keep b1'
      replace T1 := T1.keep b1'
      replace hL := hL.keep b1'
      have z1 := b1'.size
      rcases hE with ⟨vv, rfl, hp, hv⟩ | ⟨vv, rfl, hp, hv⟩
      · have HP : Hid (WinP ws[k]) := hp
        clear hp
        obtain ⟨x0, x1, x2, x3, a0, a1, a2, a3, n0, n1, n2, n3, c0, c1, c2, c3, rfl, hwc⟩ := hv.cells
        have hbw : Below w1.heap.size w1 (w1.alloc (.cells #[.int .i64 x0, .slice a0 n0 c0, .int .i64 x1, .slice a1 n1 c1, .int .i64 x2, .slice a2 n2 c2, .int .i64 x3, .slice a3 n3 c3, .int .i64 0, .int .i64 ws[k].length] 190)) := (Below.refl _ _).alloc (Nat.le_refl _) _
        have T1w := T1.keep hbw
        obtain ⟨u0, u1, u2, u3⟩ := T1w
        have hbx : Below w1.heap.size w1 ((w1.alloc (.cells #[.int .i64 x0, .slice a0 n0 c0, .int .i64 x1, .slice a1 n1 c1, .int .i64 x2, .slice a2 n2 c2, .int .i64 x3, .slice a3 n3 c3, .int .i64 0, .int .i64 ws[k].length] 190)).alloc (.cells #[.int .i64 x0, .slice a0 n0 c0, .int .i64 x1, .slice a1 n1 c1, .int .i64 x2, .slice a2 n2 c2, .int .i64 x3, .slice a3 n3 c3, .int .i64 0, .int .i64 ws[k].length] 190)) := hbw.alloc hbw.size _
        have hL2 := hL.keep hbx
        have T02 := T0.keep hbx
        have T12 := T1.keep hbx
        have hfar0 : some w.heap.size ≠ v.ownBlock := fun e => by have := own_from hL.1 _ e.symm; omega
        have hfar1 : some (w.heap.size + 1) ≠ v.ownBlock := fun e => by have := own_from hL.1 _ e.symm; omega
        have hzz : w.heap.size + 2 ≤ ((w1.alloc (.cells #[.int .i64 x0, .slice a0 n0 c0, .int .i64 x1, .slice a1 n1 c1, .int .i64 x2, .slice a2 n2 c2, .int .i64 x3, .slice a3 n3 c3, .int .i64 0, .int .i64 ws[k].length] 190)).alloc (.cells #[.int .i64 x0, .slice a0 n0 c0, .int .i64 x1, .slice a1 n1 c1, .int .i64 x2, .slice a2 n2 c2, .int .i64 x3, .slice a3 n3 c3, .int .i64 0, .int .i64 ws[k].length] 190)).heap.size := by simp; omega
        clear hv
        go_wp2_with (first | (at_builtin; refine Hid.out ?_))
        unfold Hid
        refine wpList_append_lies _ rfl _ _ 210 rfl (w.heap.size + 2) 190 i0 (.agg zero10) 10 144 Tryz.underlying210 hi hy0 hy1 hy2 rfl (by decide) _ L.length (vcells L) rfl hL2.1 ⟨w1.heap.size + 1, 0, none⟩ 1 1 #[.int .i64 x0, .slice a0 n0 c0, .int .i64 x1, .slice a1 n1 c1, .int .i64 x2, .slice a2 n2 c2, .int .i64 x3, .slice a3 n3 c3, .int .i64 0, .int .i64 ws[k].length].toList rfl rfl (by have h := block_new (w1.alloc (.cells #[.int .i64 x0, .slice a0 n0 c0, .int .i64 x1, .slice a1 n1 c1, .int .i64 x2, .slice a2 n2 c2, .int .i64 x3, .slice a3 n3 c3, .int .i64 0, .int .i64 ws[k].length] 190)) #[.int .i64 x0, .slice a0 n0 c0, .int .i64 x1, .slice a1 n1 c1, .int .i64 x2, .slice a2 n2 c2, .int .i64 x3, .slice a3 n3 c3, .int .i64 0, .int .i64 ws[k].length] 190; rw [World.size_alloc] at h; exact h) (by simp [Value.oneCell']) (by decide) (by unfold maxLen; omega) (by omega) hzz _ rfl ?_
        intro g' cap' w5 hown' hgrow _ hloc
        have T15 := T12.grown hgrow hfar1
        have T05 := T02.grown hgrow hfar0
        have p0 := T15.1
        have p1 := T15.2.2.1
        go_wp2_with fail
        have BX : Below w.heap.size w ((w1.alloc (.cells #[.int .i64 x0, .slice a0 n0 c0, .int .i64 x1, .slice a1 n1 c1, .int .i64 x2, .slice a2 n2 c2, .int .i64 x3, .slice a3 n3 c3, .int .i64 0, .int .i64 ws[k].length] 190)).alloc (.cells #[.int .i64 x0, .slice a0 n0 c0, .int .i64 x1, .slice a1 n1 c1, .int .i64 x2, .slice a2 n2 c2, .int .i64 x3, .slice a3 n3 c3, .int .i64 0, .int .i64 ws[k].length] 190)) := B1.trans (hbx.mono B1.size)
        have B5 := BX.grown hgrow BX.size (fun q hq => by have := own_from hL.1 q hq; omega)
        rw [hLk] at hown'
        have HT : Hid (ws.take (k + 1) = ws.take k ++ [ws[k]]) := List.take_succ_eq_append_getElem hlt
        have HST : Hid (∀ j, (h : j < ws.length) → j < k + 1 → WinP ws[j]) := win_step HI.out hlt HP.out
        have hG5 := hL2.snoc hwc (by rw [hLk]; exact hown')
        have z5 := hgrow.size
        exact ⟨⟨k + 1, _, _, by omega, by go_num, by simp [hLk], by rw [HT.out, List.map_append, HLT.out]; rfl, ⟨own_far hG5.1 (by omega) _ _, hG5.2⟩, T05.far (by omega) _ _, T15.set0 _, HST, by simp only [World.size_setCell]; omega, B5.setCell (by simp only; omega) _⟩, by simp [intOf]; omega⟩
      · have HN : Hid (¬ OkW ws) := fun h => hp (h.2.2 k hlt)
        clear hp
        obtain ⟨x0, x1, x2, x3, a0, a1, a2, a3, n0, n1, n2, n3, c0, c1, c2, c3, rfl, _⟩ := hv.laid
        have hbw : Below w1.heap.size w1 (w1.alloc (.cells #[.int .i64 x0, .slice a0 n0 c0, .int .i64 x1, .slice a1 n1 c1, .int .i64 x2, .slice a2 n2 c2, .int .i64 x3, .slice a3 n3 c3, .int .i64 0, .int .i64 0] 190)) := (Below.refl _ _).alloc (Nat.le_refl _) _
        have T0w := T0.keep hbw
        obtain ⟨u0, u1, u2, u3⟩ := T0w
        have BW := B1.trans (hbw.mono B1.size)
        go_wp2_with fail
        generalize w1.alloc (.cells #[.int .i64 x0, .slice a0 n0 c0, .int .i64 x1, .slice a1 n1 c1, .int .i64 x2, .slice a2 n2 c2, .int .i64 x3, .slice a3 n3 c3, .int .i64 0, .int .i64 0] 190) = WX at *
        have e0 : ((WX.setCell ⟨w.heap.size, 0, none⟩ (.slice none 0 0)).setCell ⟨w.heap.size, 1, none⟩ (.slice none 0 0)).cell? ⟨w.heap.size, 0, none⟩ = some (.slice none 0 0) := by simp [go_sem, u0]
        have e1 : ((WX.setCell ⟨w.heap.size, 0, none⟩ (.slice none 0 0)).setCell ⟨w.heap.size, 1, none⟩ (.slice none 0 0)).cell? ⟨w.heap.size, 1, none⟩ = some (.slice none 0 0) := by simp [go_sem, u1]
        exact bodyPost_ret (v := .tuple #[.agg #[.slice none 0 0, .slice none 0 0], .bool false]) (by simp [results, Tryz.results137, go_sem, e0, e1]) rfl ⟨.inr ⟨rfl, HN.out⟩, (BW.setCell (Nat.le_refl _) _).setCell (Nat.le_refl _) _⟩
    · obtain ⟨va, vc, rfl, hvc, hrow⟩ := hL.row
      have HOK : Hid (OkW ws) := ⟨by omega, by omega, fun j hj => HI.out j hj (by omega)⟩
      have hLw : L.length = ws.length := by omega
      replace HLT : Hid (L.map (·.1) = ws) := by unfold Hid; rw [HLT.out, List.take_of_length_le (by omega)]
      rw [HLT.out] at hrow
      rw [hLw] at hvc T1 hL
      obtain ⟨u0, u1, u2, u3⟩ := id T1
      clear HI
      go_wp2_with fail
      refine (sharedSpots_any w wr va vc ws hrow hbl HOK.out).mono ?_
      rintro e w1 ⟨⟨vs, M, rfl, hM, hsw⟩, b1⟩
      obtain ⟨sa, sc, rfl, hsc, _⟩ := hM.row
      have HSW : Hid (ShW ws (M.map (·.1))) := hsw
      clear hsw
      have B1 : Below w.heap.size w w1 := hbl.trans (b1.mono hbl.size)
      have hL1 := hL.keep b1
      have T01 := T0.keep b1
      have T11 := T1.keep b1
      have z1 := b1.size
      clear u0 u1 u2 u3 hrow T0 T1
      obtain ⟨u0, u1, u2, u3⟩ := id T11
      obtain ⟨y0, y1, y2, y3⟩ := id T01
      go_wp2_with fail
      have hLf := ((hL1.far (q := w.heap.size + 1) (by omega) 1 (.slice sa M.length sc)).far (q := w.heap.size) (by omega) 0 (.slice va ws.length vc)).far (q := w.heap.size) (by omega) 1 (.slice sa M.length sc)
      have hMf := ((hM.far (q := w.heap.size + 1) (by omega) 1 (.slice sa M.length sc)).far (q := w.heap.size) (by omega) 0 (.slice va ws.length vc)).far (q := w.heap.size) (by omega) 1 (.slice sa M.length sc)
      have BF := ((B1.setCell (p := ⟨w.heap.size + 1, 1, none⟩) (by simp only; omega) (.slice sa M.length sc)).setCell (p := ⟨w.heap.size, 0, none⟩) (Nat.le_refl _) (.slice va ws.length vc)).setCell (p := ⟨w.heap.size, 1, none⟩) (Nat.le_refl _) (.slice sa M.length sc)
      have e0 : (((w1.setCell ⟨w.heap.size + 1, 1, none⟩ (.slice sa M.length sc)).setCell ⟨w.heap.size, 0, none⟩ (.slice va ws.length vc)).setCell ⟨w.heap.size, 1, none⟩ (.slice sa M.length sc)).cell? ⟨w.heap.size, 0, none⟩ = some (.slice va ws.length vc) := by simp [go_sem, y0]
      have e1 : (((w1.setCell ⟨w.heap.size + 1, 1, none⟩ (.slice sa M.length sc)).setCell ⟨w.heap.size, 0, none⟩ (.slice va ws.length vc)).setCell ⟨w.heap.size, 1, none⟩ (.slice sa M.length sc)).cell? ⟨w.heap.size, 1, none⟩ = some (.slice sa M.length sc) := by simp [go_sem, y1]
      generalize ((w1.setCell ⟨w.heap.size + 1, 1, none⟩ (.slice sa M.length sc)).setCell ⟨w.heap.size, 0, none⟩ (.slice va ws.length vc)).setCell ⟨w.heap.size, 1, none⟩ (.slice sa M.length sc) = WF at *
      obtain ⟨a8, c8, q8, _, r8⟩ := hLf.row
      obtain ⟨a9, c9, q9, _, r9⟩ := hMf.row
      rw [hLw] at q8
      cases q8
      cases q9
      rw [HLT.out] at r8
      exact bodyPost_ret (v := .tuple #[.agg #[.slice va ws.length vc, .slice sa M.length sc], .bool true]) (by simp [results, Tryz.results137, go_sem, e0, e1]) rfl ⟨.inl ⟨va, vc, sa, sc, M.map (·.1), by simp, HOK.out, hvc, by rw [List.length_map]; exact hsc, r8, r9, HSW.out⟩, BF⟩

end Go.Proofs.YtpfhegengmlkmacGreatDoor
/- Walk: impl.ChoiceAgrees. -/
namespace Go.Proofs.YtpfhegengmlkmacGreatDoor
open Go.RowKit Go.BigFrame
set_option maxRecDepth 100000

theorem chB_new {W0 w : World} {a1 a2 : Option Addr} {c1 c2 : Nat} {ws : List (List ItemL)} {sh : List (List Spot)} (hv : RowV W0 w a1 ws) (hg : RowG w a2 sh) (h1 : ws.length ≤ c1) (h2 : sh.length ≤ c2) : ChB W0 (w.alloc (.cells #[.slice a1 ws.length c1, .slice a2 sh.length c2] 213)) w.heap.size ws sh :=
  have hb : Below w.heap.size w (w.alloc (.cells #[.slice a1 ws.length c1, .slice a2 sh.length c2] 213)) := (Below.refl _ _).alloc (Nat.le_refl _) _
  ⟨box_lt _ _, a1, c1, a2, c2, box0 _ _ _ _, h1, box1 _ _ _ _, h2, hv.below hb, hg.below hb⟩

end Go.Proofs.YtpfhegengmlkmacGreatDoor
/- Walks: lasts, least, greatest of choices; impl.ChoiceBest. -/
namespace Go.Proofs.YtpfhegengmlkmacGreatDoor
open Go.RowKit Go.BigFrame
set_option maxRecDepth 100000

/-- The places of the last items. -/
def lastsM (ws : List (List ItemL)) : List Int := ws.map fun l => (l.length : Int) - 1
theorem lastsM_len (ws : List (List ItemL)) : (lastsM ws).length = ws.length := by simp [lastsM]

theorem GathN.snoc {w : World} {B : Nat} {v : Value} {l : List Int} {x : Int} (h : w.ownsRow B 3 1 v (l.length + 1) ((l.map fun y => .int .i64 y) ++ [.int .i64 x])) : GathN w B v (l ++ [x]) := by
  unfold GathN
  rw [List.length_append, List.map_append]
  exact h

set_option maxHeartbeats 1600000 in
theorem lasts_any (W0 w : World) (b : Nat) (ws : List (List ItemL)) (sh : List (List Spot)) (h : ChB W0 w b ws sh) (hok : OkW ws) :
    Calls Tryz.prog 174 #[.pointer (some ⟨b, 0, none⟩)] w fun e w' => (∃ g c ok, e = .returned (.tuple #[.slice (some ⟨g, 0, none⟩) ws.length c, .bool ok]) ∧ (ok = true ↔ InW ws (lastsM ws)) ∧ w.heap.size ≤ g ∧ NumB w' g (lastsM ws)) ∧ Below w.heap.size w w' := by
  have h6 := hok.2.1
  have HC : Hid (ChB W0 w b ws sh) := h
  obtain ⟨hb, a, c, a2, c2, e0, hc, e1, hc2, hv, hg⟩ := h
  obtain ⟨i0, hi, hy0, hy1, hy2⟩ := info_parts Tryz.infoZ
  have hmk : ∀ u : World, (Instr.makeSlice 37 (.int .i64 0) (.int .i64 (ws.length : Int))).run Tryz.prog u = .ok (.slice (some ⟨u.heap.size, 0, none⟩) 0 ws.length) (u.alloc (.cells (madeCells #[.int .i64 0] ws.length) 3)) := fun u => by
    have h := run_make (P := Tryz.prog) u 37 3 i0 (.int .i64 0) Tryz.underlying37 hi hy0 .i64 .i64 0 (ws.length : Int) (by omega) (by omega) (by rw [hy2]; omega) (by omega)
    simpa [hy1, Value.cells] using h
  have hg0 : GathN (w.alloc (.cells (madeCells #[.int .i64 0] ws.length) 3)) w.heap.size (.slice (some ⟨w.heap.size, 0, none⟩) 0 ws.length) [] :=
    ⟨rfl, .inr ⟨w.heap.size, ws.length, madeCells #[.int .i64 0] ws.length, rfl, Nat.le_refl _, heap_alloc_new w _, Nat.zero_le _, by unfold maxLen; omega, by rw [size_madeCells]; omega, rfl⟩⟩
  have hb0 : Below w.heap.size w (w.alloc (.cells (madeCells #[.int .i64 0] ws.length) 3)) := (Below.refl _ _).alloc (Nat.le_refl _) _
  have e0' := cell_on hb0 hb e0
  go_enter Tryz.func174, Tryz.ntmps174
  go_wp2_with fail
  generalize (w.alloc (.cells (madeCells #[.int .i64 0] ws.length) 3)) = WA at *
  clear hmk
  go_loopw [4, 17] (fun pv i wr => ∃ k : Nat, k ≤ ws.length ∧ i = .int .i64 k ∧ (∃ g cap, pv = .slice (some ⟨g, 0, none⟩) k cap ∧ GathN wr w.heap.size (.slice (some ⟨g, 0, none⟩) k cap) ((lastsM ws).take k)) ∧ Below w.heap.size w wr) (fun _ i _ => ws.length - (intOf i).toNat)
  case atStart => exact ⟨0, Nat.zero_le _, rfl, ⟨_, _, rfl, hg0⟩, hb0⟩
  case round =>
    obtain ⟨k, hk, rfl, ⟨g, cap, rfl, hgn⟩, hbl⟩ := hrel
    have hz := hbl.size
    have htl : ((lastsM ws).take k).length = k := by rw [List.length_take, lastsM_len]; omega
    by_cases hlt : k < ws.length
    · obtain ⟨gv, ov, rfl, hwo⟩ := (hv.below hbl) k hlt
      have f0 := cell_on hbl hb e0
      have k0 : (0 : Int) ≤ (k : Int) := by omega
      have k1 : (k : Int) < (ws.length : Int) := by omega
      have h4 := hwo.2.1
      have HT : Hid ((lastsM ws).take (k + 1) = (lastsM ws).take k ++ [(ws[k].length : Int) - 1]) := by
        unfold Hid
        rw [List.take_succ_eq_append_getElem (by rw [lastsM_len]; exact hlt)]
        simp [lastsM]
      go_wp2_with fail
      refine (size_off W0 _ gv (ov + k * 10) ws[k] hwo).mono ?_
      rintro e w2 ⟨rfl, rfl⟩
      go_wp2_with (at_builtin; refine wpList_append_lies _ rfl _ _ 37 rfl w.heap.size 3 i0 (.int .i64 0) 1 8 Tryz.underlying37 hi hy0 hy1 hy2 rfl (by decide) _ _ _ rfl (own_keep (show World.ownsRow _ _ _ _ _ _ _ from hgn) ((Below.refl _ _).alloc (Nat.le_refl _) _)) ⟨w2.heap.size, 0, none⟩ 1 1 [.int .i64 ((ws[k].length : Int) - 1)] rfl rfl (one_new w2 _ _) (by simp [Value.oneCell']) (by decide) (by unfold maxLen; omega) (by omega) (by simp; omega) _ rfl ?_; intro g' cap' w5 hown' hgrow _ _)
      have hgs := GathN.snoc hown'
      rw [← HT.out, htl] at hgs
      have hB5 : Below w.heap.size w w5 := (hbl.alloc hz _).grown hgrow (by simp; omega) (fun q hq => by have := own_from (show World.ownsRow _ _ _ _ _ _ _ from hgn) q hq; omega)
      exact ⟨⟨k + 1, by omega, by go_num, ⟨g', cap', rfl, hgs⟩, hB5⟩, by simp [intOf]; omega⟩
    · obtain rfl : k = ws.length := by omega
      have hfull : (lastsM ws).take ws.length = lastsM ws := List.take_of_length_le (by rw [lastsM_len]; omega)
      rw [hfull] at hgn
      obtain ⟨hgB, hnb⟩ := GathN.block hgn
      have hhas := has_any W0 wr b ws sh (some ⟨g, 0, none⟩) cap (lastsM ws) (HC.out.below hbl) h6 (by rw [lastsM_len]; unfold maxLen; omega) hnb.row
      rw [lastsM_len] at hhas
      clear htl hfull hgn
      go_wp2_with fail
      refine hhas.mono ?_
      rintro e w2 ⟨⟨r, rfl, hr2⟩, b2⟩
      have HR : Hid (r = true ↔ InW ws (lastsM ws)) := hr2.trans ⟨fun h => h.2, fun h => ⟨trivial, h⟩⟩
      clear hr2
      go_wp2_with fail
      exact bodyPost_ret (v := .tuple #[.slice (some ⟨g, 0, none⟩) ws.length cap, .bool r]) (by simp [results, Tryz.results174, go_sem]) rfl ⟨⟨g, cap, r, rfl, HR.out, hgB, hnb.below b2⟩, hbl.trans (b2.mono hbl.size)⟩

theorem ver_le {ws : List (List ItemL)} {ps : List Int} (hok : OkW ws) (hl : ps.length = ws.length) (hin : InW ws ps) {s : ByteArray} {p : Spot} (hs : SpotOf ws s p) : verM ws ps p ≤ 1099511627776 := by
  obtain ⟨hw, _, q, hq, hm, _, e⟩ := ver_facts hok hl hin hs
  rw [e]
  exact ((((hok.2.2 p.1 hw).2.1 q hq).1).2.1 p.2 hm).2.2

set_option maxHeartbeats 1600000 in
theorem least_any (W0 w : World) (b : Nat) (ws : List (List ItemL)) (sh : List (List Spot)) (a' s' : Option Addr) (cap' cs : Nat) (ps : List Int) (src : List Spot) (h : ChB W0 w b ws sh) (hW : Below W0.heap.size W0 w) (hok : OkW ws) (hl : ps.length = ws.length) (hin : InW ws ps) (hr' : RowZ w a' ps) (hsh : ShW ws sh) (hs : src ∈ sh) (hrow : RowP w s' src) :
    Calls Tryz.prog 175 #[.pointer (some ⟨b, 0, none⟩), .slice a' ps.length cap', .slice s' src.length cs] w fun e w' => (∃ x : Int, e = .returned (.int .i64 x) ∧ (∀ p ∈ src, x ≤ verM ws ps p) ∧ ∃ p ∈ src, x = verM ws ps p) ∧ Below w.heap.size w w' := by
  have HIN : Hid (InW ws ps) := hin
  have HOK : Hid (OkW ws) := hok
  have HSH : Hid (ShW ws sh) := hsh
  have HC : Hid (ChB W0 w b ws sh) := h
  have HL : Hid (ps.length = ws.length) := hl
  have HZ : Hid (RowZ w a' ps) := hr'
  have hs1 := hsh.2.1 src hs
  have hsl := hs1.2
  have hs0 := hs1.1
  clear hin hok hsh h hl hr' hs1
  go_enter Tryz.func175, Tryz.ntmps175
  go_wp2_with fail
  go_loopw [7, 12] (fun lv i wr => ∃ (k : Nat) (x : Int), k ≤ src.length ∧ i = .int .i64 k ∧ lv = .int .i64 x ∧ Hid ((∀ j, (h : j < src.length) → j < k → x ≤ verM ws ps src[j]) ∧ (x = 1099511627776 ∨ ∃ j, ∃ h : j < src.length, x = verM ws ps src[j])) ∧ Below w.heap.size w wr) (fun _ i _ => src.length - (intOf i).toNat)
  case atStart => exact ⟨0, _, Nat.zero_le _, rfl, rfl, ⟨fun _ _ h => absurd h (Nat.not_lt_zero _), .inl rfl⟩, Below.refl _ _⟩
  case round =>
    obtain ⟨k, x, hk, rfl, rfl, HI, hbl⟩ := hrel
    by_cases hlt : k < src.length
    · obtain ⟨b2, o2, rfl, hb2, f2, f3⟩ := hrow.below hbl k hlt
      have k0 : (0 : Int) ≤ (k : Int) := by omega
      have k1 : (k : Int) < (src.length : Int) := by omega
      go_wp2_with fail
      have hb0 : Below wr.heap.size wr (wr.alloc (.cells #[.int .i64 (src[k].1 : Int), .int .i64 (src[k].2 : Int)] 245)) := (Below.refl _ _).alloc (Nat.le_refl _) _
      have B3 : Below w.heap.size w (wr.alloc (.cells #[.int .i64 (src[k].1 : Int), .int .i64 (src[k].2 : Int)] 245)) := hbl.trans (hb0.mono hbl.size)
      obtain ⟨sn, hall⟩ := HSH.out.1.1 src hs
      refine (version_any W0 _ b ws sh a' cap' ps src[k] sn (HC.out.below B3) (hW.trans (B3.mono hW.size)) HOK.out HL.out HIN.out (HZ.out.below B3) (hall _ (List.getElem_mem hlt))).mono ?_
      rintro e w2 ⟨rfl, b2'⟩
      have B4 : Below w.heap.size w w2 := B3.trans (b2'.mono B3.size)
      go_wp2_with fail
      have HX : Hid ((∀ j, (h : j < src.length) → j < k + 1 → min x (verM ws ps src[k]) ≤ verM ws ps src[j]) ∧ (min x (verM ws ps src[k]) = 1099511627776 ∨ ∃ j, ∃ h : j < src.length, min x (verM ws ps src[k]) = verM ws ps src[j])) := by
        obtain ⟨h1, h2⟩ := HI.out
        refine ⟨fun j hj hlt' => ?_, ?_⟩
        · by_cases e : j = k
          · subst e; omega
          · have := h1 j hj (by omega); omega
        · by_cases e : x ≤ verM ws ps src[k]
          · rw [Int.min_eq_left e]; exact h2
          · exact .inr ⟨k, hlt, by rw [Int.min_eq_right (by omega)]⟩
      exact ⟨⟨k + 1, _, by omega, by go_num, rfl, HX, B4⟩, by simp [intOf]; omega⟩
    · have HX : Hid ((∀ p ∈ src, x ≤ verM ws ps p) ∧ ∃ p ∈ src, x = verM ws ps p) := by
        obtain ⟨h1, h2⟩ := HI.out
        obtain ⟨sn, hall⟩ := HSH.out.1.1 src hs
        refine ⟨fun p hp => ?_, ?_⟩
        · obtain ⟨j, hj, rfl⟩ := List.mem_iff_getElem.1 hp
          exact h1 j hj (by omega)
        · rcases h2 with h2 | ⟨j, hj, h2⟩
          · have h3 := h1 0 (by omega) (by omega)
            have h4 := ver_le HOK.out HL.out HIN.out (hall _ (List.getElem_mem (show 0 < src.length by omega)))
            exact ⟨src[0], List.getElem_mem _, by omega⟩
          · exact ⟨_, List.getElem_mem hj, h2⟩
      go_wp2_with fail
      go_ret
      exact ⟨⟨x, rfl, HX.out⟩, hbl⟩

end Go.Proofs.YtpfhegengmlkmacGreatDoor
/- Walks: greatest of choices; impl.ChoiceBest. -/
namespace Go.Proofs.YtpfhegengmlkmacGreatDoor
open Go.RowKit Go.BigFrame
set_option maxRecDepth 100000

/-- No choice that agrees is ahead of these places. -/
def UpP (ws : List (List ItemL)) (ps : List Int) : Prop := ∀ q, ChP ws q → ∀ i, (hq : i < q.length) → (ho : i < ps.length) → q[i] ≤ ps[i]
/-- How far there is to go back. -/
def farM : List Int → Nat
  | [] => 0
  | x :: r => x.toNat + farM r
theorem farM_set : ∀ (l : List Int) (i : Nat) (h : i < l.length), 0 < l[i] → farM (l.set i (l[i] - 1)) < farM l
  | x :: r, 0, _, h0 => by
    simp only [List.getElem_cons_zero] at h0
    simp only [List.set_cons_zero, farM, List.getElem_cons_zero]
    omega
  | x :: r, i + 1, h, h0 => by
    have := farM_set r i (by simpa using h) (by simpa using h0)
    simp only [List.getElem_cons_succ, List.set_cons_succ, farM]
    omega
theorem lasts_up {ws : List (List ItemL)} : UpP ws (lastsM ws) := fun q hc i hq ho => by
  have h1 := hc.2.2.1.2 i hq
  have hw : i < ws.length := by rw [← hc.2.1]; exact hq
  have e : ws.getD i [] = ws[i] := by simp [List.getD, hw]
  rw [e] at h1
  simp only [lastsM, List.getElem_map]
  omega
theorem up_back {ws : List (List ItemL)} {ps : List Int} {sh : List (List Spot)} (hok : OkW ws) (hl : ps.length = ws.length) (hin : InW ws ps) (hsh : SharedP ws sh) (hub : UpP ws ps) {src : List Spot} (hs : src ∈ sh) {p : Spot} (hp : p ∈ src) {x : Int} (hx : ∃ r ∈ src, x = verM ws ps r) (hle : x ≤ verM ws ps p) (hne : ¬ verM ws ps p = x) (hw : p.1 < ps.length) :
    (ps[p.1] = 0 → ∀ q, ¬ ChP ws q) ∧ (¬ ps[p.1] = 0 → InW ws (ps.set p.1 (ps[p.1] - 1)) ∧ UpP ws (ps.set p.1 (ps[p.1] - 1)) ∧ farM (ps.set p.1 (ps[p.1] - 1)) < farM ps) := by
  obtain ⟨r, hr, e⟩ := hx
  have key := step_back hok hl hin hsh hub hs hp hr (by omega)
  have h0 := hin.2 p.1 hw
  refine ⟨fun hz q hq => ?_, fun hz => ⟨⟨by rw [List.length_set]; exact hin.1, fun i hi => ?_⟩, fun q hq i hiq hio => ?_, farM_set ps p.1 hw (by omega)⟩⟩
  · have h1 := key q hq (by rw [hq.2.1]; omega) hw
    have h2 := hq.2.2.1.2 p.1 (by rw [hq.2.1]; omega)
    omega
  · have hi' : i < ps.length := by simpa using hi
    by_cases e2 : i = p.1
    · subst e2
      rw [List.getElem_set_self]
      omega
    · rw [List.getElem_set_ne (fun h => e2 h.symm)]
      exact hin.2 i hi'
  · have hi' : i < ps.length := by simpa using hio
    by_cases e2 : i = p.1
    · subst e2
      rw [List.getElem_set_self]
      have := key q hq hiq hw
      omega
    · rw [List.getElem_set_ne (fun h => e2 h.symm)]
      exact hub q hq i hiq hi'

/-- What greatest answers. -/
def BesE (w w' : World) (ws : List (List ItemL)) (e : Ending) : Prop := (∃ g c out, e = .returned (.tuple #[.slice (some ⟨g, 0, none⟩) out.length c, .bool true]) ∧ BestP ws out true ∧ w.heap.size ≤ g ∧ NumB w' g out) ∨ (e = .returned (.tuple #[.slice none 0 0, .bool false]) ∧ BestP ws [] false)

set_option maxHeartbeats 3200000 in
theorem greatest_any (W0 w : World) (b : Nat) (ws : List (List ItemL)) (sh : List (List Spot)) (h : ChB W0 w b ws sh) (hW : Below W0.heap.size W0 w) (hok : OkW ws) (hsh : ShW ws sh) :
    Calls Tryz.prog 138 #[.pointer (some ⟨b, 0, none⟩)] w fun e w' => BesE w w' ws e ∧ Below w.heap.size w w' := by
  have HOK : Hid (OkW ws) := hok
  have HSH : Hid (ShW ws sh) := hsh
  have HC : Hid (ChB W0 w b ws sh) := h
  have h6 := hok.2.1
  have hshl := hsh.2.2
  clear hok hsh
  go_enter Tryz.func138, Tryz.ntmps138
  go_wp2_with fail
  go_step3
  go_wp2_with fail
  refine (lasts_any W0 w b ws sh HC.out HOK.out).mono ?_
  rintro e w1 ⟨⟨g, c, ok, rfl, hok2, hge, hnb⟩, b1⟩
  have HR : Hid (ok = true ↔ InW ws (lastsM ws)) := hok2
  clear hok2
  cases ok with
  | false =>
    have HN : Hid (BestP ws [] false) := .inr ⟨rfl, rfl, fun q hq => by
      have : InW ws (lastsM ws) := ⟨by rw [lastsM_len]; exact Nat.le_refl _, fun i hi => by
        have hi' : i < ws.length := by simpa [lastsM_len] using hi
        have h1 := hq.2.2.1.2 i (by rw [hq.2.1]; exact hi')
        have e : ws.getD i [] = ws[i] := by simp [List.getD, hi']
        rw [e] at h1 ⊢
        simp only [lastsM, List.getElem_map]
        omega⟩
      have := HR.out.2 this
      simp at this⟩
    go_wp2_with fail
    try rw [Exit.noGoto_ret]
    exact bodyPost_ret (v := .tuple #[.slice none 0 0, .bool false]) (by simp [results, Tryz.results138, go_sem]) rfl ⟨.inr ⟨rfl, HN.out⟩, b1⟩
  | true =>
    have HIN : Hid (InW ws (lastsM ws)) := HR.out.1 rfl
    clear HR
    go_wp2_with fail
    go_step3
    go_wp2_with fail
    go_loopg [23] (farM (lastsM ws)) (fun gk u wr => ∃ ps : List Int, farM ps ≤ gk ∧ ps.length = ws.length ∧ Hid (InW ws ps) ∧ Hid (UpP ws ps) ∧ NumB wr g ps ∧ Below w.heap.size w wr)
    case atStart => exact ⟨lastsM ws, Nat.le_refl _, lastsM_len ws, HIN, lasts_up, hnb, b1⟩
    case round =>
      clear HIN hnb b1
      obtain ⟨ps, hfar, hlen, HIN, HUP, hnb, hbl⟩ := hrel
      have HLEN : Hid (ps.length = ws.length) := hlen
      clear hlen
      have hcb := HC.out.below hbl
      obtain ⟨hbb, va, vc, va', vc', e0, _, e1, _, _, hg⟩ := id hcb
      have hWr : Below W0.heap.size W0 wr := hW.trans (hbl.mono hW.size)
      go_wp2_with fail
      go_loopw [23] (fun i wr2 => ∃ k : Nat, k ≤ sh.length ∧ i = .int .i64 k ∧ Hid (∀ j, (h : j < sh.length) → j < k → SameTo ws ps sh[j] sh[j].length) ∧ Below wr.heap.size wr wr2) (fun i _ => sh.length - (intOf i).toNat)
      case atStart => exact ⟨0, Nat.zero_le _, rfl, fun _ _ h => absurd h (Nat.not_lt_zero _), Below.refl _ _⟩
      case round =>
        obtain ⟨k, hk, rfl, HI, hbl2⟩ := hrel
        by_cases hlt : k < sh.length
        · obtain ⟨b1, o1, rfl, hb1, s1, t1, f1, ht1, hpr⟩ := hg.below hbl2 k hlt
          have k0 : (0 : Int) ≤ (k : Int) := by omega
          have k1 : (k : Int) < (sh.length : Int) := by omega
          have hsrc := HSH.out.2.1 sh[k] (List.getElem_mem hlt)
          have hs1 := hsrc.1
          have hs2 := hsrc.2
          have hmem : sh[k] ∈ sh := List.getElem_mem hlt
          have hnb2 := hnb.below hbl2
          have hle := least_any W0 _ b ws sh (some ⟨g, 0, none⟩) s1 c t1 ps sh[k] (hcb.below hbl2) (hWr.trans (hbl2.mono hWr.size)) HOK.out HLEN.out HIN.out hnb2.row HSH.out hmem hpr
          rw [HLEN.out] at hle
          clear hsrc
          go_wp2_with fail
          refine hle.mono ?_
          rintro e w3 ⟨⟨x, rfl, hx1, hx2⟩, b3⟩
          have HX : Hid ((∀ p ∈ sh[k], x ≤ verM ws ps p) ∧ ∃ p ∈ sh[k], x = verM ws ps p) := ⟨hx1, hx2⟩
          have B3 := hbl2.trans (b3.mono hbl2.size)
          clear hle hx1 hx2 hnb2
          go_wp2_with fail
          have hpr3 := hpr.below b3
          have hnb3 := hnb.below B3
          have hcb3 := hcb.below B3
          have BW3 := hbl.trans (B3.mono hbl.size)
          clear hnb hcb hpr b3 hbl2 f1 hg e0 e1
          go_loopw [33] (fun i3 wr3 => ∃ j : Nat, j ≤ sh[k].length ∧ i3 = .int .i64 j ∧ Hid (∀ i, (h : i < sh[k].length) → i < j → verM ws ps sh[k][i] = x) ∧ Below w3.heap.size w3 wr3) (fun i3 _ => sh[k].length - (intOf i3).toNat)
          case atStart => exact ⟨0, Nat.zero_le _, rfl, fun _ _ h => absurd h (Nat.not_lt_zero _), Below.refl _ _⟩
          case round =>
            obtain ⟨j, hj, rfl, HJ, hbl3⟩ := hrel
            by_cases hjlt : j < sh[k].length
            · obtain ⟨b2, o2, rfl, hb2, f2, f3⟩ := hpr3.below hbl3 j hjlt
              have j0 : (0 : Int) ≤ (j : Int) := by omega
              have j1 : (j : Int) < (sh[k].length : Int) := by omega
              obtain ⟨sn, hall⟩ := HSH.out.1.1 sh[k] hmem
              have hspot := hall sh[k][j] (List.getElem_mem hjlt)
              obtain ⟨hpw, hpp, _⟩ := ver_facts HOK.out HLEN.out HIN.out hspot
              have hback := up_back HOK.out HLEN.out HIN.out HSH.out.1 HUP.out hmem (List.getElem_mem hjlt) HX.out.2 (HX.out.1 _ (List.getElem_mem hjlt))
              have HBK : Hid (∀ hne : ¬ verM ws ps sh[k][j] = x, (ps[sh[k][j].1] = 0 → ∀ q, ¬ ChP ws q) ∧ (¬ ps[sh[k][j].1] = 0 → InW ws (ps.set sh[k][j].1 (ps[sh[k][j].1] - 1)) ∧ UpP ws (ps.set sh[k][j].1 (ps[sh[k][j].1] - 1)) ∧ farM (ps.set sh[k][j].1 (ps[sh[k][j].1] - 1)) < farM ps)) := fun hne => hback hne hpp
              clear hback
              have hb0 : Below wr.heap.size wr (wr.alloc (.cells #[.int .i64 (sh[k][j].1 : Int), .int .i64 (sh[k][j].2 : Int)] 245)) := (Below.refl _ _).alloc (Nat.le_refl _) _
              have hlt0 := box_lt wr (.cells #[.int .i64 (sh[k][j].1 : Int), .int .i64 (sh[k][j].2 : Int)] 245)
              have d0 := box0 wr (.int .i64 (sh[k][j].1 : Int)) (.int .i64 (sh[k][j].2 : Int)) 245
              have hcb4 := (hcb3.below hbl3).below hb0
              have hnb4 := (hnb3.below hbl3).below hb0
              have BW := (BW3.trans (hbl3.mono BW3.size))
              have BW4 := BW.trans (hb0.mono BW.size)
              have hver := version_any W0 _ b ws sh (some ⟨g, 0, none⟩) c ps sh[k][j] sn hcb4 (hW.trans (BW4.mono hW.size)) HOK.out HLEN.out HIN.out hnb4.row hspot
              rw [HLEN.out] at hver
              clear hcb4
              go_wp2_with fail
              generalize wr.alloc (.cells #[.int .i64 (sh[k][j].1 : Int), .int .i64 (sh[k][j].2 : Int)] 245) = W at *
              refine hver.mono ?_
              rintro e w5 ⟨rfl, b5⟩
              have hnb5 := hnb4.below b5
              have d5 := cell_on b5 hlt0 d0
              have BW5 := BW4.trans (b5.mono BW4.size)
              have hbl5 := (hbl3.trans (hb0.mono hbl3.size)).trans (b5.mono (Nat.le_trans hbl3.size hb0.size))
              clear hver hnb4 d0
              by_cases he : verM ws ps sh[k][j] = x
              · have HJ2 : Hid (∀ i, (h : i < sh[k].length) → i < j + 1 → verM ws ps sh[k][i] = x) := fun i hi hlt' => by
                  by_cases e : i = j
                  · subst e; exact he
                  · exact HJ.out i hi (by omega)
                have he' : (verM ws ps sh[k][j] == x) = true := by rw [beq_iff_eq]; exact he
                clear he HBK
                go_wp2_with fail
                exact ⟨⟨j + 1, by omega, by go_num, HJ2, hbl5⟩, by simp [intOf]; omega⟩
              · have hb2k := HBK.out he
                have he' : (verM ws ps sh[k][j] == x) = false := by rw [beq_eq_false_iff_ne]; exact he
                have p0 := hnb5.cell hpp
                have p1 := hnb5.frozen sh[k][j].1
                have i0 : (0 : Int) ≤ (sh[k][j].1 : Int) := by omega
                have i1 : (sh[k][j].1 : Int) < (ws.length : Int) := by omega
                clear HBK he
                by_cases hz : ps[sh[k][j].1] = 0
                · have HN : Hid (BestP ws [] false) := .inr ⟨rfl, rfl, hb2k.1 hz⟩
                  have hz' : (ps[sh[k][j].1] == 0) = true := by rw [beq_iff_eq]; exact hz
                  clear hb2k hz
                  go_wp2_with fail
                  try rw [Exit.noGoto_ret]
                  exact bodyPost_ret (v := .tuple #[.slice none 0 0, .bool false]) (by simp [results, Tryz.results138, go_sem]) rfl ⟨.inr ⟨rfl, HN.out⟩, BW5⟩
                · have HBB : Hid (InW ws (ps.set sh[k][j].1 (ps[sh[k][j].1] - 1)) ∧ UpP ws (ps.set sh[k][j].1 (ps[sh[k][j].1] - 1)) ∧ farM (ps.set sh[k][j].1 (ps[sh[k][j].1] - 1)) < farM ps) := hb2k.2 hz
                  have hz' : (ps[sh[k][j].1] == 0) = false := by rw [beq_eq_false_iff_ne]; exact hz
                  have hpos : 0 ≤ ps[sh[k][j].1] ∧ ps[sh[k][j].1] ≤ 4 := by
                    have h3 := HIN.out.2 _ hpp
                    have e3 : ws.getD sh[k][j].1 [] = ws[sh[k][j].1] := by simp [List.getD, hpw]
                    rw [e3] at h3
                    have := (HOK.out.2.2 _ hpw).1
                    omega
                  have q0 := hpos.1
                  have q1 := hpos.2
                  clear hb2k hz hpos
                  go_wp2_with fail
                  go_roundg (farM (ps.set sh[k][j].1 (ps[sh[k][j].1] - 1)))
                  case measure => have := HBB.out.2.2; omega
                  case rel => exact ⟨ps.set sh[k][j].1 (ps[sh[k][j].1] - 1), Nat.le_refl _, by rw [List.length_set]; exact HLEN.out, HBB.out.1, HBB.out.2.1, hnb5.set _ _, BW5.setCell hge _⟩
            · have HI2 : Hid (∀ q, (h : q < sh.length) → q < k + 1 → SameTo ws ps sh[q] sh[q].length) := fun q hq hlt' => by
                by_cases e : q = k
                · subst e
                  exact fun i hi _ h0 => by rw [HJ.out i hi (by omega), HJ.out 0 h0 (by omega)]
                · exact HI.out q hq (by omega)
              go_wp2_with fail
              exact ⟨⟨k + 1, by omega, by go_num, HI2, B3.trans (hbl3.mono B3.size)⟩, by simp [intOf]; omega⟩
        · have HA : Hid (AgW ws ps) := agW_same HOK.out HLEN.out HIN.out HSH.out.1 (fun j hj => HI.out j hj (by omega))
          have HB : Hid (BestP ws ps true) := .inl ⟨rfl, ⟨HOK.out, HLEN.out, HIN.out, HA.out⟩, HUP.out⟩
          go_wp2_with fail
          try rw [Exit.noGoto_ret]
          exact bodyPost_ret (v := .tuple #[.slice (some ⟨g, 0, none⟩) ps.length c, .bool true]) (by simp [results, Tryz.results138, go_sem, HLEN.out]) rfl ⟨.inl ⟨g, c, ps, rfl, HB.out, hge, hnb.below hbl2⟩, hbl.trans (hbl2.mono hbl.size)⟩

set_option maxHeartbeats 800000 in
theorem implCB_any (a : Option Addr) (cap : Nat) (ws : List (List ItemL)) (w : World) (hf : FitW ws) (hr : RowW w a ws) :
    Calls Tryz.prog 96 #[.slice a ws.length cap] w fun e w' => BesE w w' ws e ∧ Below w.heap.size w w' := by
  go_enter Tryz.func96, Tryz.ntmps96
  go_wp2_with fail
  refine (readChoices_any a cap ws _ hf hr).mono ?_
  rintro e w1 ⟨hE, b1⟩
  rcases hE with ⟨a1, c1, a2, c2, sh, rfl, hok, hc1, hc2, hrv, hrg, hsw⟩ | ⟨rfl, hno⟩
  · have HOK : Hid (OkW ws) := hok
    have HSW : Hid (ShW ws sh) := hsw
    clear hok hsw
    have hcb := chB_new hrv hrg hc1 hc2
    have hbx : Below w1.heap.size w1 (w1.alloc (.cells #[.slice a1 ws.length c1, .slice a2 sh.length c2] 213)) := (Below.refl _ _).alloc (Nat.le_refl _) _
    have BX : Below w.heap.size w (w1.alloc (.cells #[.slice a1 ws.length c1, .slice a2 sh.length c2] 213)) := b1.trans (hbx.mono b1.size)
    go_wp2_with fail
    generalize w1.alloc (.cells #[.slice a1 ws.length c1, .slice a2 sh.length c2] 213) = W at *
    refine (greatest_any w W w1.heap.size ws sh hcb BX HOK.out HSW.out).mono ?_
    rintro e w2 ⟨hB, b2⟩
    have B2 : Below w.heap.size w w2 := BX.trans (b2.mono BX.size)
    rcases hB with ⟨g, c, out, rfl, hbest, hge, hnb⟩ | ⟨rfl, hbest⟩
    · have HB : Hid (BestP ws out true) := hbest
      clear hbest
      go_wp2_with fail
      exact bodyPost_ret (v := .tuple #[.slice (some ⟨g, 0, none⟩) out.length c, .bool true]) (by simp [results, Tryz.results96, go_sem]) rfl ⟨.inl ⟨g, c, out, rfl, HB.out, Nat.le_trans BX.size hge, hnb⟩, B2⟩
    · have HB : Hid (BestP ws [] false) := hbest
      clear hbest
      go_wp2_with fail
      exact bodyPost_ret (v := .tuple #[.slice none 0 0, .bool false]) (by simp [results, Tryz.results96, go_sem]) rfl ⟨.inr ⟨rfl, HB.out⟩, B2⟩
  · have HN : Hid (BestP ws [] false) := none_best (.inl hno)
    clear hno
    go_wp2_with fail
    exact bodyPost_ret (v := .tuple #[.slice none 0 0, .bool false]) (by simp [results, Tryz.results96, go_sem]) rfl ⟨.inr ⟨rfl, HN.out⟩, b1.alloc b1.size _⟩

end Go.Proofs.YtpfhegengmlkmacGreatDoor
/- Walks: spec.l1Set, spec.StampJoin. -/
namespace Go.Proofs.YtpfhegengmlkmacGreatDoor
open Go.RowKit Go.BigFrame

theorem setT_true_eq {m : ByteArray × Int} {o R l : List (ByteArray × Int)} {k : Nat} (hk : k < l.length) (h : o ++ setT m true (l.drop k) = R) (e : l[k].1 = m.1) : o ++ setT m true (l.drop (k + 1)) = R := by
  rw [List.drop_eq_getElem_cons hk] at h
  simp only [setT, if_true] at h ⊢
  rwa [List.filter_cons_of_neg (by simp [e])] at h
theorem setT_true_ne {m : ByteArray × Int} {o R l : List (ByteArray × Int)} {k : Nat} (hk : k < l.length) (h : o ++ setT m true (l.drop k) = R) (e : l[k].1 ≠ m.1) : (o ++ [(l[k].1, l[k].2)]) ++ setT m true (l.drop (k + 1)) = R := by
  rw [List.drop_eq_getElem_cons hk] at h
  simp only [setT, if_true] at h ⊢
  rw [List.filter_cons_of_pos (by simp [e])] at h
  rw [← h]; simp
theorem le_of_not {x m : ByteArray} (h : Op.bytesLess x.toList m.toList = false) : (Op.bytesLess m.toList x.toList || m.toList == x.toList) = true := by
  by_cases k : Op.bytesLess m.toList x.toList = true
  · simp [k]
  · have e := bl_tri (Bool.not_eq_true _ ▸ k) h
    simp [e]
theorem setT_lt {m : ByteArray × Int} {o R l : List (ByteArray × Int)} {k : Nat} (hk : k < l.length) (h : o ++ setT m false (l.drop k) = R) (e : Op.bytesLess l[k].1.toList m.1.toList = true) : (o ++ [(l[k].1, l[k].2)]) ++ setT m false (l.drop (k + 1)) = R := by
  rw [List.drop_eq_getElem_cons hk] at h
  simp only [setT, setR, e, if_true, Bool.false_eq_true, if_false] at h ⊢
  rw [← h]; simp
theorem setT_put {m : ByteArray × Int} {o R l : List (ByteArray × Int)} {k : Nat} (hk : k < l.length) (h : o ++ setT m false (l.drop k) = R) (e : Op.bytesLess l[k].1.toList m.1.toList = false) : (o ++ [(m.1, m.2)]) ++ setT m true (l.drop k) = R := by
  rw [List.drop_eq_getElem_cons hk] at h ⊢
  simp only [setT, setR, e, if_true, Bool.false_eq_true, if_false] at h ⊢
  rw [← h]; simp
theorem setT_end {m : ByteArray × Int} {o R l : List (ByteArray × Int)} {k : Nat} (hk : ¬ k < l.length) (h : o ++ setT m false (l.drop k) = R) : o ++ [(m.1, m.2)] = R := by
  rw [List.drop_of_length_le (by omega)] at h
  simpa [setT, setR] using h
theorem setT_end' {m : ByteArray × Int} {o R l : List (ByteArray × Int)} {k : Nat} (hk : ¬ k < l.length) (h : o ++ setT m true (l.drop k) = R) : o = R := by
  rw [List.drop_of_length_le (by omega)] at h
  simpa [setT] using h
theorem pre_len {o t R : List (ByteArray × Int)} (h : o ++ t = R) : o.length ≤ R.length := by rw [← h]; simp
/-- A world behind another by draws alone, named. -/
theorem drewN_named {W1 wr : World} {B B' n : Nat} {v : Value} {o : List (ByteArray × Int)} (hb : Below B W1 wr) (hg : Gath wr B' v o) : ∃ v1, wr.drewN n = v1 ∧ Below B W1 v1 ∧ Gath v1 B' v o := ⟨_, rfl, below_drewN hb n, hg⟩

set_option maxHeartbeats 3200000 in
theorem l1Set_any (a : Option Addr) (cap : Nat) (l : List (ByteArray × Int)) (m : ByteArray × Int) (w : World) (hl : l.length ≤ 1048576) (hr : Row w a l) :
    Calls Tryz.prog 123 #[.slice a l.length cap, .agg #[.string m.1, .int .i64 m.2]] w fun e w' => (∃ v, e = .returned v ∧ Gath w' w.heap.size v (setR m l)) ∧ Below w.heap.size w w' := by
  obtain ⟨i0, hi, hz0, hz1, hz2⟩ := info_parts Tryz.infoM
  have hRl := setR_length (m := m) (l := l)
  go_enter Tryz.func123, Tryz.ntmps123
  go_wp2_with fail
  have b0 := box0 w (.string m.1) (.int .i64 m.2) 144
  have b1 := box1 w (.string m.1) (.int .i64 m.2) 144
  have hbx := box_lt w (.cells #[.string m.1, .int .i64 m.2] 144)
  have hba : Below w.heap.size w (w.alloc (.cells #[.string m.1, .int .i64 m.2] 144)) := (Below.refl _ _).alloc (Nat.le_refl _) _
  have hra := hr.below hba
  generalize (w.alloc (.cells #[.string m.1, .int .i64 m.2] 144)) = W1 at *
  go_loopw [5, 6, 7] (fun out put i wr => ∃ k : Nat, k ≤ l.length ∧ i = .int .i64 k ∧ ∃ (o : List (ByteArray × Int)) (p : Bool), Gath wr W1.heap.size out o ∧ put = .bool p ∧ o ++ setT m p (l.drop k) = setR m l ∧ Below W1.heap.size W1 wr) (fun _ _ i _ => l.length - (intOf i).toNat)
  case atStart => exact ⟨0, Nat.zero_le _, rfl, [], false, Gath.none _ _, rfl, by simp [setT], Below.refl _ _⟩
  case round =>
    obtain ⟨k, hk, rfl, o, p, hg, rfl, hinv, hb⟩ := hrel
    have holen := pre_len hinv
    by_cases hlt : k < l.length
    · obtain ⟨b, ob, rfl, hblt, c0, c1⟩ := hra k hlt
      have x0 := cell_on hb hbx b0
      have x1 := cell_on hb hbx b1
      have e0 := cell_on hb hblt c0
      have e1 := cell_on hb hblt c1
      cases p
      · by_cases hA : Op.bytesLess l[k].1.toList m.1.toList = true
        · have hb' : (l[k].1.toList == m.1.toList) = false := toList_bne.2 (asc_ne hA)
          have HI : Hid _ := setT_lt hlt hinv hA
          have hb1' : Op.bytesLess m.1.toList l[k].1.toList = false := by simpa [Asc] using asc_not hA
          have hb2' : (m.1.toList == l[k].1.toList) = false := toList_bne.2 (Ne.symm (asc_ne hA))
          go_wp2_with fail
          go_quiet (fail)
          obtain ⟨u1, hvv, hb8, hg8⟩ := drewN_named (n := nq) hb hg
          rw [hvv]
          clear hvv
          have x0 := cell_on hb8 hbx b0
          have x1 := cell_on hb8 hbx b1
          have e0 := cell_on hb8 hblt c0
          have e1 := cell_on hb8 hblt c1
          have zz := hb8.size
          go_wp2_with fail
          go_quiet (fail)
          obtain ⟨u2, hvv, hb9, hg9⟩ := drewN_named (n := nq) hb8 hg8
          rw [hvv]
          clear hvv
          have x0 := cell_on hb9 hbx b0
          have x1 := cell_on hb9 hbx b1
          have e0 := cell_on hb9 hblt c0
          have e1 := cell_on hb9 hblt c1
          have zz := hb9.size
          go_wp2_with (at_builtin; refine wpList_append_lies _ rfl _ _ 34 rfl W1.heap.size 144 i0 (.agg #[.string .empty, .int .i64 0]) 2 24 Tryz.underlying34 hi hz0 hz1 hz2 rfl (by decide) _ _ _ rfl (hg9.alloc _) ⟨u2.heap.size, 0, none⟩ 1 1 [.string l[k].1, .int .i64 l[k].2] rfl rfl (two_new u2 _ _ _) (by simp [Value.oneCell']) (by decide) (by unfold maxLen; first | omega | (simp only [List.length_append, List.length_cons, List.length_nil]; omega)) (by first | omega | (simp only [List.length_append, List.length_cons, List.length_nil]; omega)) (by simp; omega) _ rfl ?_; intro g' cap' wx hown' hgrow _ _)
          have hb10 := Gath.grown (W := W1) (B := W1.heap.size) (w := u2.alloc (.cells #[.string l[k].1, .int .i64 l[k].2] 144)) (hg9.alloc _) (hb9.alloc hb9.size _) (by simp; omega) hgrow
          have hg10 := Gath.snoc hown'
          exact ⟨⟨k + 1, by omega, by go_num, _, _, (by first | exact hg10 | (have q := hg10; simp only [List.length_append, List.length_cons, List.length_nil, Nat.zero_add] at q; exact q)), rfl, HI.out, hb10⟩, by simp [intOf]; omega⟩
        · have hA : Op.bytesLess l[k].1.toList m.1.toList = false := by simpa using hA
          have hput := setT_put hlt hinv hA
          have hle' := le_of_not hA
          have HPL := pre_len hput
          simp only [List.length_append, List.length_cons, List.length_nil] at HPL
          go_wp2_with fail
          go_quiet (fail)
          obtain ⟨u1, hvv, hb8, hg8⟩ := drewN_named (n := nq) hb hg
          rw [hvv]
          clear hvv
          have x0 := cell_on hb8 hbx b0
          have x1 := cell_on hb8 hbx b1
          have e0 := cell_on hb8 hblt c0
          have e1 := cell_on hb8 hblt c1
          have zz := hb8.size
          go_wp2_with (at_builtin; refine wpList_append_lies _ rfl _ _ 34 rfl W1.heap.size 144 i0 (.agg #[.string .empty, .int .i64 0]) 2 24 Tryz.underlying34 hi hz0 hz1 hz2 rfl (by decide) _ _ _ rfl (hg8.alloc _) ⟨u1.heap.size, 0, none⟩ 1 1 [.string m.1, .int .i64 m.2] rfl rfl (two_new u1 _ _ _) (by simp [Value.oneCell']) (by decide) (by unfold maxLen; first | omega | (simp only [List.length_append, List.length_cons, List.length_nil]; omega)) (by first | omega | (simp only [List.length_append, List.length_cons, List.length_nil]; omega)) (by simp; omega) _ rfl ?_; intro g' cap' wx hown' hgrow _ _)
          have hb7 := Gath.grown (W := W1) (B := W1.heap.size) (w := u1.alloc (.cells #[.string m.1, .int .i64 m.2] 144)) (hg8.alloc _) (hb8.alloc hb8.size _) (by simp; omega) hgrow
          have hg7 := Gath.snoc hown'
          clear x0 x1 e0 e1
          have x0 := cell_on hb7 hbx b0
          have x1 := cell_on hb7 hbx b1
          have e0 := cell_on hb7 hblt c0
          have e1 := cell_on hb7 hblt c1
          by_cases he : l[k].1 = m.1
          · have hb' : (l[k].1.toList == m.1.toList) = true := toList_beq.2 he
            have HI : Hid _ := setT_true_eq hlt hput he
            clear he
            go_wp2_with fail
            go_quiet (fail)
            obtain ⟨u2, hvv, hb9, hg9⟩ := drewN_named (n := nq) hb7 hg7
            rw [hvv]
            clear hvv
            have x0 := cell_on hb9 hbx b0
            have x1 := cell_on hb9 hbx b1
            have e0 := cell_on hb9 hblt c0
            have e1 := cell_on hb9 hblt c1
            have zz := hb9.size
            go_wp2_with fail
            exact ⟨⟨k + 1, by omega, by go_num, _, _, hg9, rfl, HI.out, hb9⟩, by simp [intOf]; omega⟩
          · have hb' : (l[k].1.toList == m.1.toList) = false := toList_bne.2 he
            have HI : Hid _ := setT_true_ne hlt hput he
            clear he
            go_wp2_with fail
            go_quiet (fail)
            obtain ⟨u2, hvv, hb9, hg9⟩ := drewN_named (n := nq) hb7 hg7
            rw [hvv]
            clear hvv
            have x0 := cell_on hb9 hbx b0
            have x1 := cell_on hb9 hbx b1
            have e0 := cell_on hb9 hblt c0
            have e1 := cell_on hb9 hblt c1
            have zz := hb9.size
            go_wp2_with (at_builtin; refine wpList_append_lies _ rfl _ _ 34 rfl W1.heap.size 144 i0 (.agg #[.string .empty, .int .i64 0]) 2 24 Tryz.underlying34 hi hz0 hz1 hz2 rfl (by decide) _ _ _ rfl (hg9.alloc _) ⟨u2.heap.size, 0, none⟩ 1 1 [.string l[k].1, .int .i64 l[k].2] rfl rfl (two_new u2 _ _ _) (by simp [Value.oneCell']) (by decide) (by unfold maxLen; first | omega | (simp only [List.length_append, List.length_cons, List.length_nil]; omega)) (by first | omega | (simp only [List.length_append, List.length_cons, List.length_nil]; omega)) (by simp; omega) _ rfl ?_; intro g' cap' wx hown' hgrow _ _)
            have hb10 := Gath.grown (W := W1) (B := W1.heap.size) (w := u2.alloc (.cells #[.string l[k].1, .int .i64 l[k].2] 144)) (hg9.alloc _) (hb9.alloc hb9.size _) (by simp; omega) hgrow
            have hg10 := Gath.snoc hown'
            exact ⟨⟨k + 1, by omega, by go_num, _, _, (by first | exact hg10 | (have q := hg10; simp only [List.length_append, List.length_cons, List.length_nil, Nat.zero_add] at q; exact q)), rfl, HI.out, hb10⟩, by simp [intOf]; omega⟩
      · go_wp2_with fail
        go_quiet (fail)
        obtain ⟨u1, hvv, hb8, hg8⟩ := drewN_named (n := nq) hb hg
        rw [hvv]
        clear hvv
        have x0 := cell_on hb8 hbx b0
        have x1 := cell_on hb8 hbx b1
        have e0 := cell_on hb8 hblt c0
        have e1 := cell_on hb8 hblt c1
        have zz := hb8.size
        by_cases he : l[k].1 = m.1
        · have hb' : (l[k].1.toList == m.1.toList) = true := toList_beq.2 he
          have HI : Hid _ := setT_true_eq hlt hinv he
          clear he
          go_wp2_with fail
          go_quiet (fail)
          obtain ⟨u2, hvv, hb9, hg9⟩ := drewN_named (n := nq) hb8 hg8
          rw [hvv]
          clear hvv
          have x0 := cell_on hb9 hbx b0
          have x1 := cell_on hb9 hbx b1
          have e0 := cell_on hb9 hblt c0
          have e1 := cell_on hb9 hblt c1
          have zz := hb9.size
          go_wp2_with fail
          exact ⟨⟨k + 1, by omega, by go_num, _, _, hg9, rfl, HI.out, hb9⟩, by simp [intOf]; omega⟩
        · have hb' : (l[k].1.toList == m.1.toList) = false := toList_bne.2 he
          have HI : Hid _ := setT_true_ne hlt hinv he
          clear he
          go_wp2_with fail
          go_quiet (fail)
          obtain ⟨u2, hvv, hb9, hg9⟩ := drewN_named (n := nq) hb8 hg8
          rw [hvv]
          clear hvv
          have x0 := cell_on hb9 hbx b0
          have x1 := cell_on hb9 hbx b1
          have e0 := cell_on hb9 hblt c0
          have e1 := cell_on hb9 hblt c1
          have zz := hb9.size
          go_wp2_with (at_builtin; refine wpList_append_lies _ rfl _ _ 34 rfl W1.heap.size 144 i0 (.agg #[.string .empty, .int .i64 0]) 2 24 Tryz.underlying34 hi hz0 hz1 hz2 rfl (by decide) _ _ _ rfl (hg9.alloc _) ⟨u2.heap.size, 0, none⟩ 1 1 [.string l[k].1, .int .i64 l[k].2] rfl rfl (two_new u2 _ _ _) (by simp [Value.oneCell']) (by decide) (by unfold maxLen; first | omega | (simp only [List.length_append, List.length_cons, List.length_nil]; omega)) (by first | omega | (simp only [List.length_append, List.length_cons, List.length_nil]; omega)) (by simp; omega) _ rfl ?_; intro g' cap' wx hown' hgrow _ _)
          have hb10 := Gath.grown (W := W1) (B := W1.heap.size) (w := u2.alloc (.cells #[.string l[k].1, .int .i64 l[k].2] 144)) (hg9.alloc _) (hb9.alloc hb9.size _) (by simp; omega) hgrow
          have hg10 := Gath.snoc hown'
          exact ⟨⟨k + 1, by omega, by go_num, _, _, (by first | exact hg10 | (have q := hg10; simp only [List.length_append, List.length_cons, List.length_nil, Nat.zero_add] at q; exact q)), rfl, HI.out, hb10⟩, by simp [intOf]; omega⟩
    · cases p
      · have HE : Hid _ := setT_end hlt hinv
        have x0 := cell_on hb hbx b0
        have x1 := cell_on hb hbx b1
        have zz := hb.size
        go_wp2_with (at_builtin; refine wpList_append_lies _ rfl _ _ 34 rfl W1.heap.size 144 i0 (.agg #[.string .empty, .int .i64 0]) 2 24 Tryz.underlying34 hi hz0 hz1 hz2 rfl (by decide) _ _ _ rfl (hg.alloc _) ⟨wr.heap.size, 0, none⟩ 1 1 [.string m.1, .int .i64 m.2] rfl rfl (two_new wr _ _ _) (by simp [Value.oneCell']) (by decide) (by unfold maxLen; first | omega | (simp only [List.length_append, List.length_cons, List.length_nil]; omega)) (by first | omega | (simp only [List.length_append, List.length_cons, List.length_nil]; omega)) (by simp; omega) _ rfl ?_; intro g' cap' wx hown' hgrow _ _)
        have hb10 := Gath.grown (W := W1) (B := W1.heap.size) (w := wr.alloc (.cells #[.string m.1, .int .i64 m.2] 144)) (hg.alloc _) (hb.alloc hb.size _) (by simp; omega) hgrow
        have hg10 := Gath.snoc hown'
        go_ret
        exact ⟨⟨_, rfl, by rw [← HE.out]; exact hg10.lower (Nat.le_of_lt hbx)⟩, hba.trans (hb10.mono hba.size)⟩
      · have HE : Hid _ := setT_end' hlt hinv
        go_wp2_with fail
        go_ret
        exact ⟨⟨_, rfl, by rw [← HE.out]; exact hg.lower (Nat.le_of_lt hbx)⟩, hba.trans (hb.mono hba.size)⟩

end Go.Proofs.YtpfhegengmlkmacGreatDoor
/- Walk: spec.StampJoin. -/
namespace Go.Proofs.YtpfhegengmlkmacGreatDoor
open Go.RowKit Go.BigFrame

set_option maxHeartbeats 1600000 in
theorem specJoin_any (aa ab : Option Addr) (ca cb : Nat) (la lb : List (ByteArray × Int)) (w : World) (hla : la.length ≤ maxLen) (hlb : lb.length ≤ maxLen) (ha : Row w aa la) (hb : Row w ab lb)
    (hsa : ∀ j, (h : j < la.length) → la[j].1.size ≤ maxLen) (hsb : ∀ j, (h : j < lb.length) → lb[j].1.size ≤ maxLen) :
    Calls Tryz.prog 85 #[.slice aa la.length ca, .slice ab lb.length cb] w fun e w' => (∃ v m ok, e = .returned (.tuple #[v, .bool ok]) ∧ Gath w' w.heap.size v m ∧ IsJ la lb m ok) ∧ Below w.heap.size w w' := by
  go_enter Tryz.func85, Tryz.ntmps85
  go_wp2_with fail
  refine (specOk_b aa ca la _ hla ha hsa).mono ?_
  rintro e w1 ⟨⟨r, rfl, hr1⟩, hb1⟩
  cases r
  · have hn : ¬ StampP la := fun h => by simpa using hr1.2 h
    clear hr1
    go_wp2_with fail
    exact bodyPost_ret (v := .tuple #[.slice none 0 0, .bool false]) (by simp [results, Tryz.results85, go_sem]) rfl ⟨⟨_, [], false, rfl, Gath.none _ _, .inl ⟨fun h => hn h.1, rfl, rfl⟩⟩, hb1⟩
  have hya : StampP la := hr1.1 rfl
  clear hr1
  go_wp2_with fail
  refine (specOk_b ab cb lb _ hlb (hb.below hb1) hsb).mono ?_
  rintro e w2 ⟨⟨r, rfl, hr2⟩, hb2⟩
  have hb12 : Below w.heap.size w w2 := hb1.trans (hb2.mono hb1.size)
  cases r
  · have hn : ¬ StampP lb := fun h => by simpa using hr2.2 h
    clear hr2
    go_wp2_with fail
    exact bodyPost_ret (v := .tuple #[.slice none 0 0, .bool false]) (by simp [results, Tryz.results85, go_sem]) rfl ⟨⟨_, [], false, rfl, Gath.none _ _, .inl ⟨fun h => hn h.2, rfl, rfl⟩⟩, hb12⟩
  have hyb : StampP lb := hr2.1 rfl
  clear hr2
  have sa := stamp_sorted hya
  have sb := stamp_sorted hyb
  have la12 := hya.1
  have lb12 := hyb.1
  go_wp2_with fail
  go_loopw [6, 7] (fun out i wr => ∃ k : Nat, k ≤ la.length ∧ i = .int .i64 k ∧ Gath wr w.heap.size out (la.take k) ∧ Below w.heap.size w wr) (fun _ i _ => la.length - (intOf i).toNat)
  case atStart => exact ⟨0, Nat.zero_le _, rfl, Gath.none _ _, hb12⟩
  case round =>
    obtain ⟨k, hk, rfl, hg, hbl⟩ := hrel
    by_cases hlt : k < la.length
    · obtain ⟨b, ob, rfl, hblt, c0, c1⟩ := ha k hlt
      have e0 := cell_on hbl hblt c0
      have e1 := cell_on hbl hblt c1
      obtain ⟨ag, capg, rfl, hrow⟩ := hg.shape
      have hk1 : (la.take k).length ≤ 1048576 := by rw [List.length_take]; omega
      have HS := setR_snoc (take_low sa hlt)
      rw [← List.take_succ_eq_append_getElem hlt] at HS
      have HS' : Hid _ := HS
      clear HS
      generalize la.take k = o at *
      go_wp2_with (go_at_call 123; refine (l1Set_any _ _ o la[k] _ hk1 hrow).mono ?_; rintro e w3 ⟨⟨v, rfl, hg3⟩, hb3⟩)
      exact ⟨⟨k + 1, by omega, by go_num, by rw [← HS'.out]; exact hg3.lower hbl.size, hbl.trans (hb3.mono hbl.size)⟩, by simp [intOf]; omega⟩
    · have hg' : Gath wr w.heap.size u6 la := by rw [List.take_of_length_le (by omega)] at hg; exact hg
      clear hg
      go_wp2_with fail
      go_loopw [6, 8] (fun out i wr => ∃ (k : Nat) (o : List (ByteArray × Int)), k ≤ lb.length ∧ i = .int .i64 k ∧ Gath wr w.heap.size out o ∧ o.length ≤ la.length + k ∧ JoinOf la (lb.take k) o ∧ Below w.heap.size w wr) (fun _ i _ => lb.length - (intOf i).toNat)
      case atStart => exact ⟨0, la, Nat.zero_le _, rfl, hg', by omega, joinOf_start sa, hbl⟩
      case round =>
        obtain ⟨k, o, hk, rfl, hg, hol, hj, hbl⟩ := hrel
        by_cases hlt : k < lb.length
        · obtain ⟨b, ob, rfl, hblt, c0, c1⟩ := hb k hlt
          have e0 := cell_on hbl hblt c0
          have e1 := cell_on hbl hblt c1
          have g1 : b < wr.heap.size := Nat.lt_of_lt_of_le hblt hbl.size
          obtain ⟨ag, capg, rfl, hrow⟩ := hg.shape
          have HRB : Hid (∀ n : Lat wr, Row n.w ag o) := fun n => hrow.below n.h
          by_cases hc : getM o lb[k].1 < lb[k].2
          · have HJ : Hid _ := joinOf_set sb hlt hj hc
            have HL := setR_length (m := lb[k]) (l := o)
            go_wp2_with fail
            refine wp_region_lat (by kernel_rfl) (by kernel_rfl) ?_
            have hne := Lat.some wr
            have q0 : ∀ n : Lat wr, n.w.cell? ⟨b, ob + k * 2, none⟩ = some (.string lb[k].1) := fun n => n.cell g1 e0
            have q1 : ∀ n : Lat wr, n.w.cell? ⟨b, ob + k * 2 + 1, none⟩ = some (.int .i64 lb[k].2) := fun n => n.cell g1 e1
            repeat (go_big_quiet_step ((go_at_call 124; exact Calls.lat_same (l1Get_any _ _ o _ _ (by unfold maxLen; omega) (HRB.out _)))))
            refine wpQuiet_nil ?_
            rintro _ ⟨nq, rfl⟩
            have e0 := q0 nq
            have e1 := q1 nq
            have B3 := hbl.trans (nq.h.mono hbl.size)
            go_wp2_with (go_at_call 123; refine (l1Set_any _ _ o lb[k] _ (by omega) (HRB.out nq)).mono ?_; rintro e w3 ⟨⟨v, rfl, hg3⟩, hb3⟩)
            exact ⟨⟨k + 1, _, by omega, by go_num, hg3.lower B3.size, by omega, HJ.out, B3.trans (hb3.mono B3.size)⟩, by simp [intOf]; omega⟩
          · have HJ : Hid _ := joinOf_keep sb hlt hj hc
            go_wp2_with fail
            refine wp_region_lat (by kernel_rfl) (by kernel_rfl) ?_
            have hne := Lat.some wr
            have q0 : ∀ n : Lat wr, n.w.cell? ⟨b, ob + k * 2, none⟩ = some (.string lb[k].1) := fun n => n.cell g1 e0
            have q1 : ∀ n : Lat wr, n.w.cell? ⟨b, ob + k * 2 + 1, none⟩ = some (.int .i64 lb[k].2) := fun n => n.cell g1 e1
            repeat (go_big_quiet_step ((go_at_call 124; exact Calls.lat_same (l1Get_any _ _ o _ _ (by unfold maxLen; omega) (HRB.out _)))))
            refine wpQuiet_nil ?_
            rintro _ ⟨nq, rfl⟩
            go_wp2_with fail
            exact ⟨⟨k + 1, o, by omega, by go_num, hg.keep nq.h, by omega, HJ.out, hbl.trans (nq.h.mono hbl.size)⟩, by simp [intOf]; omega⟩
        · have hj' : JoinOf la lb o := by rw [List.take_of_length_le (by omega)] at hj; exact hj
          have HJ : Hid (JoinOf la lb o) := hj'
          clear hj hj'
          obtain ⟨ag, capg, rfl, hrow⟩ := hg.shape
          by_cases h12 : 12 < o.length
          · go_wp2_with fail
            exact bodyPost_ret (v := .tuple #[.slice none 0 0, .bool false]) (by simp [results, Tryz.results85, go_sem]) rfl ⟨⟨_, [], false, rfl, Gath.none _ _, .inr ⟨hya, hyb, o, HJ.out, .inr ⟨h12, rfl, rfl⟩⟩⟩, hbl⟩
          · go_wp2_with fail
            exact bodyPost_ret (v := .tuple #[.slice ag o.length capg, .bool true]) (by simp [results, Tryz.results85, go_sem]) rfl ⟨⟨_, o, true, rfl, hg, .inr ⟨hya, hyb, o, HJ.out, .inl ⟨by omega, rfl, rfl⟩⟩⟩, hbl⟩

end Go.Proofs.YtpfhegengmlkmacGreatDoor
