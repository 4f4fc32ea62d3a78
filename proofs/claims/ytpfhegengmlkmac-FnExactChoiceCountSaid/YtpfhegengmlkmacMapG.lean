/- A map of slices that the call itself makes: at each text its spots, each list in a row of its own. -/
import Derived.Test.YtpfhegengmlkmacChM
import Derived.Test.YtpfhegengmlkmacGath
import Derived.Maps.OwnOps
import Derived.Maps.OwnSet
import Derived.Maps.AppendAt
namespace Go.Proofs.Ytpfhegengmlkmac
open Go.RowKit Go.BigFrame

/-- An element reads as itself. -/
def heldE (v : Value) : Option (DataW Value × List MemPlace) := some (.held v, [])
/-- A text as a key. -/
def litS (s : ByteArray) : Lit := .string s.data.toList
theorem litS_inj {s t : ByteArray} (h : litS s = litS t) : s = t := by
  unfold litS at h
  have h1 : s.data.toList = t.data.toList := by simpa using h
  cases s
  cases t
  simp only at h1
  congr 1
  exact Array.toList_inj.1 h1
theorem litS_key (s : ByteArray) : WideAt.IsKeyLit (litS s) := by unfold litS WideAt.IsKeyLit; trivial

/-- The cells of spots, two a spot. -/
def scells : List Spot → List Value
  | [] => []
  | p :: r => .int .i64 (p.1 : Int) :: .int .i64 (p.2 : Int) :: scells r
theorem scells_length : ∀ L, (scells L).length = L.length * 2
  | [] => rfl
  | p :: r => by simp [scells, scells_length r]; omega
theorem scells_append : ∀ L r, scells (L ++ r) = scells L ++ scells r
  | [], _ => rfl
  | p :: L, r => by simp [scells, scells_append L r]
theorem scells_at : ∀ (L : List Spot) (k : Nat) (h : k < L.length), (scells L)[k * 2]? = some (.int .i64 (L[k].1 : Int)) ∧ (scells L)[k * 2 + 1]? = some (.int .i64 (L[k].2 : Int))
  | p :: r, 0, _ => by simp [scells]
  | p :: r, k + 1, h => by
    have := scells_at r k (by simpa using h)
    have e0 : (k + 1) * 2 = k * 2 + 1 + 1 := by omega
    rw [e0]
    simp only [scells, List.getElem?_cons_succ, List.getElem_cons_succ]
    exact this

/-- The slice value 'v' holds the spots 'l', in a row of the call's own. -/
def GathP (w : World) (B : Nat) (v : Value) (l : List Spot) : Prop := w.ownsRow B 119 2 v l.length (scells l)

/-- Block 'b' is a map: at each text the spots that S has of it, in the slice that V has of it; no two slices lie in one row. -/
structure GrpS (w : World) (B b n : Nat) (D : DataW Value) (V : ByteArray → Value) (S : ByteArray → List Spot) : Prop where
  own : w.ownsMap Try.prog 9 heldE b n D
  lt : b < B
  eq : ∀ s, D.atKey (litS s) (.held (.slice none 0 0)) = .held (V s)
  has : ∀ s, Maps.has D (litS s) = true ↔ S s ≠ []
  row : ∀ s, GathP w B (V s) (S s)
  far : ∀ s t, s ≠ t → (V s).ownBlock = none ∨ (V s).ownBlock ≠ (V t).ownBlock

theorem grpS_made (w : World) : GrpS (w.alloc (.map #[] 0)) (w.heap.size + 1) w.heap.size 0 (.map []) (fun _ => .slice none 0 0) (fun _ => []) where
  own := World.ownsMap_made _ _ _ _
  lt := Nat.lt_succ_self _
  eq := fun s => rfl
  has := fun s => by simp [Maps.has]
  row := fun s => World.ownsRow_nil _ _ _ _
  far := fun s t _ => .inl rfl

theorem GathP.kept {w w' : World} {B : Nat} {v : Value} {l : List Spot} {row : Option Nat} (h : GathP w B v l) (hg : w.grownBy w' row) (hne : v.ownBlock = none ∨ v.ownBlock ≠ row) : GathP w' B v l := World.ownsRow.kept h hg hne

theorem GathP.snoc {w : World} {B : Nat} {v : Value} {l : List Spot} {p : Spot} (h : w.ownsRow B 119 2 v (l.length + 1) (scells l ++ [.int .i64 (p.1 : Int), .int .i64 (p.2 : Int)])) : GathP w B v (l ++ [p]) := by
  unfold GathP
  rw [scells_append, List.length_append]
  exact h

open Classical in
theorem GrpS.put {w w1 w2 : World} {B b n : Nat} {D : DataW Value} {V : ByteArray → Value} {S : ByteArray → List Spot} (h : GrpS w B b n D V S) (s : ByteArray) (p : Spot) {v' : Value} (hg : w.grownBy w1 (V s).ownBlock)
    (ho : w1.ownsRow B 119 2 v' ((S s).length + 1) (scells (S s) ++ [.int .i64 (p.1 : Int), .int .i64 (p.2 : Int)])) (hloc : v'.ownBlock = (V s).ownBlock ∨ ∃ g, v'.ownBlock = some g ∧ w.heap.size ≤ g)
    (h2 : w2.ownsMap Try.prog 9 heldE b (n + 1) (D.put (litS s) (.held v'))) (hg2 : w1.grownBy w2 (some b)) :
    GrpS w2 B b (n + 1) (D.put (litS s) (.held v')) (fun t => if t = s then v' else V t) (fun t => if t = s then S s ++ [p] else S t) := by
  have hb : ∀ {u : World} {v : Value} {l : List Spot}, GathP u B v l → v.ownBlock = none ∨ v.ownBlock ≠ some b := fun {u v l} hv => by
    cases hk : v.ownBlock with
    | none => exact .inl rfl
    | some k =>
      have := (World.ownsRow.lt hv k hk).1
      have := h.lt
      exact .inr (fun e => by cases e; omega)
  have hnew : ∀ t, t ≠ s → (V t).ownBlock = none ∨ (V t).ownBlock ≠ v'.ownBlock := fun t ht => by
    rcases hloc with e | ⟨g, e, hle⟩
    · rw [e]; exact h.far t s ht
    · cases hk : (V t).ownBlock with
      | none => exact .inl rfl
      | some k =>
        have := (World.ownsRow.lt (h.row t) k hk).2
        exact .inr (fun e' => by rw [e] at e'; cases e'; omega)
  refine ⟨h2, h.lt, fun t => ?_, fun t => ?_, fun t => ?_, fun t u htu => ?_⟩
  · by_cases e : t = s
    · subst e
      rw [if_pos rfl, Maps.atKey_put_same h.own.isMap (litS_key t)]
    · rw [if_neg e, Maps.atKey_put_other (fun h => e (litS_inj h)), h.eq t]
  · by_cases e : t = s
    · subst e
      rw [if_pos rfl, Maps.has_put_same h.own.isMap (litS_key t)]
      simp
    · rw [if_neg e, Maps.has_put_other (fun h => e (litS_inj h)), h.has t]
  · by_cases e : t = s
    · subst e
      simp only [↓reduceIte]
      have h3 := GathP.snoc (p := p) ho
      exact h3.kept hg2 (hb h3)
    · simp only [if_neg e]
      have h3 := (h.row t).kept hg (h.far t s e)
      exact h3.kept hg2 (hb h3)
  · by_cases e : t = s
    · subst e
      have hu : u ≠ t := fun h => htu h.symm
      simp only [↓reduceIte, if_neg hu]
      rcases hnew u hu with e1 | e1
      · cases hv : v'.ownBlock with
        | none => exact .inl rfl
        | some k => exact .inr (fun e2 => by rw [e1] at e2; cases e2)
      · exact .inr (fun e2 => e1 e2.symm)
    · simp only [if_neg e]
      by_cases e2 : u = s
      · subst e2
        simp only [↓reduceIte]
        exact hnew t e
      · simp only [if_neg e2]
        exact h.far t u htu

/-- The look-up at the operation. -/
theorem wpList_lookup_held {P : Program} (w : World) {ops : Array Oper} {rest : List Oper} {o : Oper} {a : Act} {Q : Exit → Act → World → Prop}
    (hg : o.guard = none) (m x : Operand) (t : TypeId) (hop : o.op = Op.lookup t m x false) (k e : TypeId) (K : Maps.Keyed P k) (ht : P.underlying t = some (.map k e)) (hz : (zeroValue e).run P w = .ok (.slice none 0 0) w) (b n : Nat) (D : DataW Value)
    (hm : a.eval m = .map (some b)) (hown : w.ownsMap P k heldE b n D) (key : Value) (kl : Lit) (hx : a.eval x = key) (hkey : keyOf P k key = some kl)
    (hK : ∀ v, D.atKey kl (.held (.slice none 0 0)) = .held v → wpList P ops Q rest (a.put o.dst v) w) : wpList P ops Q (o :: rest) a w := by
  refine wpList_plain hg fun K' hK' => ?_
  obtain ⟨v, ps, hrun, hv⟩ := hown.lookup K ht hz (zd := .held (.slice none 0 0)) (zp := []) rfl hkey
  have hat : D.atKey kl (.held (.slice none 0 0)) = .held v := by
    unfold heldE at hv
    simp only [Option.some.injEq, Prod.mk.injEq] at hv
    exact hv.1.symm
  unfold Oper.wp
  simp [execOp, hop, hm, hx, hrun, Result.andThen]
  exact hK' _ _ (hK v hat)

end Go.Proofs.Ytpfhegengmlkmac
