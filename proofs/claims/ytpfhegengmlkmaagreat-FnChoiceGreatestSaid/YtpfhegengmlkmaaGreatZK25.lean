/- Texts of this claim, one behind the other. -/
import Derived.Maps.OwnOps
import Derived.Maps.OwnSet
import Derived.Maps.AppendAt
import Derived.Test.YtpfhegengmlkmaaGreatZK1
import Derived.Test.YtpfhegengmlkmaaGreatZK7
import Derived.Test.YtpfhegengmlkmaaGreatZK11
import Derived.Test.YtpfhegengmlkmaaGreatZK16
import Derived.Test.YtpfhegengmlkmaaGreatZK19
namespace Go.Proofs.YtpfhegengmlkmaaGreat
open Go.RowKit Go.BigFrame

/-- From cell 'o' of block 'b' on lies a ring that begins at slot 0 and holds the items 'l', whose marks lie in W0. -/
def WinO (W0 w : World) (b o : Nat) (l : List ItemL) : Prop :=
  b < w.heap.size ∧ l.length ≤ 4 ∧ w.cell? ⟨b, o + 8, none⟩ = some (.int .i64 0) ∧ w.cell? ⟨b, o + 9, none⟩ = some (.int .i64 l.length) ∧
    ∀ k, (h : k < l.length) → w.cell? ⟨b, o + k * 2, none⟩ = some (.int .i64 l[k].1) ∧ ∃ v, w.cell? ⟨b, o + k * 2 + 1, none⟩ = some v ∧ IsSl W0 v l[k].2
theorem WinO.below {W0 w w' : World} {b o : Nat} {l : List ItemL} (h : WinO W0 w b o l) (hb : Below w.heap.size w w') : WinO W0 w' b o l := by
  obtain ⟨h0, h1, h2, h3, h4⟩ := h
  refine ⟨Nat.lt_of_lt_of_le h0 hb.size, h1, cell_on hb h0 h2, cell_on hb h0 h3, fun k hk => ?_⟩
  obtain ⟨e1, v, e2, e3⟩ := h4 k hk
  exact ⟨cell_on hb h0 e1, v, cell_on hb h0 e2, e3⟩

set_option maxHeartbeats 400000 in
theorem slot_off (w : World) (b o k : Nat) (c8 : w.cell? ⟨b, o + 8, none⟩ = some (.int .i64 0)) (hk : k < 4) :
    Calls Tryz.prog 54 #[.pointer (some ⟨b, o, none⟩), .int .i64 k] w fun e w' => e = .returned (.int .i64 (k : Int)) ∧ w' = w := by
  have HM : Hid ((k : Int) % 4 = (k : Int)) := by unfold Hid; omega
  go_enter Tryz.func54, Tryz.ntmps54
  go_wp2_with fail
  go_ret
  exact ⟨by rw [HM.out]; rfl, rfl⟩

set_option maxHeartbeats 400000 in
theorem size_off (W0 w : World) (b o : Nat) (l : List ItemL) (h : WinO W0 w b o l) :
    Calls Tryz.prog 50 #[.pointer (some ⟨b, o, none⟩)] w fun e w' => e = .returned (.int .i64 (l.length : Int)) ∧ w' = w := by
  have c9 := h.2.2.2.1
  go_enter Tryz.func50, Tryz.ntmps50
  go_wp2_with fail
  go_ret
  exact ⟨rfl, rfl⟩

set_option maxHeartbeats 400000 in
theorem at_val (w : World) (b o k : Nat) (x : Int) (sa : Option Addr) (n sc : Nat) (hwl : b < w.heap.size) (hk : k < 4) (c8 : w.cell? ⟨b, o + 8, none⟩ = some (.int .i64 0)) (c0 : w.cell? ⟨b, o + k * 2, none⟩ = some (.int .i64 x)) (c1 : w.cell? ⟨b, o + k * 2 + 1, none⟩ = some (.slice sa n sc)) :
    Calls Tryz.prog 31 #[.pointer (some ⟨b, o, none⟩), .int .i64 k] w fun e w' => e = .returned (.agg #[.int .i64 x, .slice sa n sc]) ∧ Below w.heap.size w w' := by
  have e8 := cell_on ((Below.refl w.heap.size w).alloc (Nat.le_refl _) (.cells #[.int .i64 0, .slice none 0 0] 40)) hwl c8
  have e0 := cell_on ((Below.refl w.heap.size w).alloc (Nat.le_refl _) (.cells #[.int .i64 0, .slice none 0 0] 40)) hwl c0
  have e1 := cell_on ((Below.refl w.heap.size w).alloc (Nat.le_refl _) (.cells #[.int .i64 0, .slice none 0 0] 40)) hwl c1
  have d0 : (w.alloc (.cells #[.int .i64 0, .slice none 0 0] 40)).cell? ⟨w.heap.size, 0, none⟩ = some (.int .i64 0) := box0 _ _ _ _
  have d1 : (w.alloc (.cells #[.int .i64 0, .slice none 0 0] 40)).cell? ⟨w.heap.size, 1, none⟩ = some (.slice none 0 0) := box1 _ _ _ _
  have f0 : (w.alloc (.cells #[.int .i64 0, .slice none 0 0] 40)).frozen? ⟨w.heap.size, 0, none⟩ = false := by simp [go_sem]
  have f1 : (w.alloc (.cells #[.int .i64 0, .slice none 0 0] 40)).frozen? ⟨w.heap.size, 1, none⟩ = false := by simp [go_sem]
  have hb0 : Below w.heap.size w (w.alloc (.cells #[.int .i64 0, .slice none 0 0] 40)) := (Below.refl w.heap.size w).alloc (Nat.le_refl _) _
  have hWl : b < (w.alloc (.cells #[.int .i64 0, .slice none 0 0] 40)).heap.size := Nat.lt_of_lt_of_le hwl hb0.size
  have hm1 : (0 : Int) ≤ (k : Int) := by omega
  have hm2 : (k : Int) < 4 := by omega
  go_enter Tryz.func31, Tryz.ntmps31
  go_wp2_with fail
  generalize hW : w.alloc (.cells #[.int .i64 0, .slice none 0 0] 40) = W at *
  clear hW
  have HS : ∀ u, Below W.heap.size W u → Calls Tryz.prog 54 #[.pointer (some ⟨b, o, none⟩), .int .i64 k] u fun e w' => e = .returned (.int .i64 (k : Int)) ∧ w' = u := fun u hu => slot_off u b o k (cell_on hu hWl e8) (by omega)
  clear c0 c1 c8 e8
  have hne : b ≠ w.heap.size := by omega
  go_region_held3 (fun w' => w'.cell? ⟨b, o + k * 2, none⟩ = some (.int .i64 x) ∧ w'.cell? ⟨b, o + k * 2 + 1, none⟩ = some (.slice sa n sc)) (first | exact ⟨e0, e1⟩ | (simp only [World.cell?_drew, set_far _ _ _ _ hne, e0, e1, and_self]; done))
    (first | (go_at_call 54; refine (HS _ (by first | exact Below.refl _ _ | exact (Below.refl _ _).drew | exact below_drewN (Below.refl _ _) _)).mono ?_; rintro e w1 ⟨rfl, rfl⟩))
  go_wp2_with fail
  exact bodyPost_ret (v := .agg #[.int .i64 x, .slice sa n sc]) (by simp [results, Tryz.results31, go_sem, d0, d1]) rfl ⟨rfl, ((hb0.setCell (Nat.le_refl _) _).setCell (Nat.le_refl _) _).drew⟩

theorem at_off (W0 w : World) (b o : Nat) (l : List ItemL) (k : Nat) (h : WinO W0 w b o l) (hk : k < l.length) :
    Calls Tryz.prog 31 #[.pointer (some ⟨b, o, none⟩), .int .i64 k] w fun e w' => (∃ v, e = .returned (.agg #[.int .i64 l[k].1, v]) ∧ IsSl W0 v l[k].2) ∧ Below w.heap.size w w' := by
  have h4 := h.2.1
  obtain ⟨c0, v, c1, hv⟩ := h.2.2.2.2 k hk
  obtain ⟨sa, sc, rfl, hcap, hrow⟩ := hv
  exact (at_val w b o k l[k].1 sa l[k].2.length sc h.1 (by omega) h.2.2.1 c0 c1).mono fun e w' ⟨he, hb⟩ => ⟨⟨_, he, sa, sc, rfl, hcap, hrow⟩, hb⟩

set_option maxHeartbeats 400000 in
theorem last_off (W0 w : World) (b o : Nat) (l : List ItemL) (h : WinO W0 w b o l) (h0 : 0 < l.length) :
    Calls Tryz.prog 73 #[.pointer (some ⟨b, o, none⟩)] w fun e w' => (∃ v, e = .returned (.agg #[.int .i64 (l[l.length - 1]'(by omega)).1, v]) ∧ IsSl W0 v (l[l.length - 1]'(by omega)).2) ∧ Below w.heap.size w w' := by
  have h4 := h.2.1
  have c9 := h.2.2.2.1
  have hwl := h.1
  have d0 : (w.alloc (.cells #[.int .i64 0, .slice none 0 0] 40)).cell? ⟨w.heap.size, 0, none⟩ = some (.int .i64 0) := box0 _ _ _ _
  have d1 : (w.alloc (.cells #[.int .i64 0, .slice none 0 0] 40)).cell? ⟨w.heap.size, 1, none⟩ = some (.slice none 0 0) := box1 _ _ _ _
  have f0 : (w.alloc (.cells #[.int .i64 0, .slice none 0 0] 40)).frozen? ⟨w.heap.size, 0, none⟩ = false := by simp [go_sem]
  have f1 : (w.alloc (.cells #[.int .i64 0, .slice none 0 0] 40)).frozen? ⟨w.heap.size, 1, none⟩ = false := by simp [go_sem]
  have hb0 : Below w.heap.size w (w.alloc (.cells #[.int .i64 0, .slice none 0 0] 40)) := (Below.refl w.heap.size w).alloc (Nat.le_refl _) _
  have hWl : w.heap.size < (w.alloc (.cells #[.int .i64 0, .slice none 0 0] 40)).heap.size := box_lt _ _
  have hkm : ((l.length : Int) - 1) = ((l.length - 1 : Nat) : Int) := by omega
  go_enter Tryz.func73, Tryz.ntmps73
  go_wp2_with fail
  generalize hW : w.alloc (.cells #[.int .i64 0, .slice none 0 0] 40) = W at *
  clear hW
  refine (at_off W0 W b o l (l.length - 1) (h.below hb0) (by omega)).mono ?_
  rintro e w1 ⟨⟨v, rfl, hv⟩, b1⟩
  obtain ⟨sa, sc, rfl, hcap, hrow⟩ := hv
  replace d0 := cell_on b1 hWl d0
  replace d1 := cell_on b1 hWl d1
  replace f0 := (b1.frozen (p := ⟨w.heap.size, 0, none⟩) hWl).trans f0
  replace f1 := (b1.frozen (p := ⟨w.heap.size, 1, none⟩) hWl).trans f1
  have B1 : Below w.heap.size w w1 := hb0.trans (b1.mono hb0.size)
  clear b1 hb0 c9
  go_wp2_with fail
  exact bodyPost_ret (v := .agg #[.int .i64 (l[l.length - 1]'(by omega)).1, .slice sa (l[l.length - 1]'(by omega)).2.length sc]) (by simp [results, Tryz.results73, go_sem, d0, d1]) rfl ⟨⟨_, rfl, sa, sc, rfl, hcap, hrow⟩, (B1.setCell (Nat.le_refl _) _).setCell (Nat.le_refl _) _⟩

end Go.Proofs.YtpfhegengmlkmaaGreat

namespace Go.Proofs.YtpfhegengmlkmaaGreat
open Go.RowKit Go.BigFrame

/-- An element reads as itself. -/
def heldE (v : Value) : Option (DataW Value × List MemPlace) := some (.held v, [])
/-- A text as a key. -/
def litS (s : ByteArray) : Lit := .string s.data.toList
theorem litS_inj {s t : ByteArray} (h : litS s = litS t) : s = t := by
  unfold litS at h
  have h1 : s.data.toList = t.data.toList := by simpa using h
  cases s
  cases t
  simp only at h1
  congr 1
  exact Array.toList_inj.1 h1
theorem litS_key (s : ByteArray) : WideAt.IsKeyLit (litS s) := by unfold litS WideAt.IsKeyLit; trivial

/-- The cells of spots, two a spot. -/
def scells : List Spot → List Value
  | [] => []
  | p :: r => .int .i64 (p.1 : Int) :: .int .i64 (p.2 : Int) :: scells r
theorem scells_append : ∀ L r, scells (L ++ r) = scells L ++ scells r
  | [], _ => rfl
  | p :: L, r => by simp [scells, scells_append L r]
theorem scells_at : ∀ (L : List Spot) (k : Nat) (h : k < L.length), (scells L)[k * 2]? = some (.int .i64 (L[k].1 : Int)) ∧ (scells L)[k * 2 + 1]? = some (.int .i64 (L[k].2 : Int))
  | p :: r, 0, _ => by simp [scells]
  | p :: r, k + 1, h => by
    have := scells_at r k (by simpa using h)
    have e0 : (k + 1) * 2 = k * 2 + 1 + 1 := by omega
    rw [e0]
    simp only [scells, List.getElem?_cons_succ, List.getElem_cons_succ]
    exact this

/-- The slice value 'v' holds the spots 'l', in a row of the call's own. -/
def GathP (w : World) (B : Nat) (v : Value) (l : List Spot) : Prop := w.ownsRow B 100 2 v l.length (scells l)

/-- Block 'b' is a map: at each text the spots that S has of it, in the slice that V has of it; no two slices lie in one row. -/
structure GrpS (w : World) (B b n : Nat) (D : DataW Value) (V : ByteArray → Value) (S : ByteArray → List Spot) : Prop where
  own : w.ownsMap Tryz.prog 9 heldE b n D
  lt : b < B
  eq : ∀ s, D.atKey (litS s) (.held (.slice none 0 0)) = .held (V s)
  has : ∀ s, Maps.has D (litS s) = true ↔ S s ≠ []
  row : ∀ s, GathP w B (V s) (S s)
  far : ∀ s t, s ≠ t → (V s).ownBlock = none ∨ (V s).ownBlock ≠ (V t).ownBlock

theorem grpS_made (w : World) : GrpS (w.alloc (.map #[] 0)) (w.heap.size + 1) w.heap.size 0 (.map []) (fun _ => .slice none 0 0) (fun _ => []) where
  own := World.ownsMap_made _ _ _ _
  lt := Nat.lt_succ_self _
  eq := fun s => rfl
  has := fun s => by simp [Maps.has]
  row := fun s => World.ownsRow_nil _ _ _ _
  far := fun s t _ => .inl rfl

theorem GathP.kept {w w' : World} {B : Nat} {v : Value} {l : List Spot} {row : Option Nat} (h : GathP w B v l) (hg : w.grownBy w' row) (hne : v.ownBlock = none ∨ v.ownBlock ≠ row) : GathP w' B v l := World.ownsRow.kept h hg hne

theorem GathP.snoc {w : World} {B : Nat} {v : Value} {l : List Spot} {p : Spot} (h : w.ownsRow B 100 2 v (l.length + 1) (scells l ++ [.int .i64 (p.1 : Int), .int .i64 (p.2 : Int)])) : GathP w B v (l ++ [p]) := by
  unfold GathP
  rw [scells_append, List.length_append]
  exact h

open Classical in
theorem GrpS.put {w w1 w2 : World} {B b n : Nat} {D : DataW Value} {V : ByteArray → Value} {S : ByteArray → List Spot} (h : GrpS w B b n D V S) (s : ByteArray) (p : Spot) {v' : Value} (hg : w.grownBy w1 (V s).ownBlock)
    (ho : w1.ownsRow B 100 2 v' ((S s).length + 1) (scells (S s) ++ [.int .i64 (p.1 : Int), .int .i64 (p.2 : Int)])) (hloc : v'.ownBlock = (V s).ownBlock ∨ ∃ g, v'.ownBlock = some g ∧ w.heap.size ≤ g)
    (h2 : w2.ownsMap Tryz.prog 9 heldE b (n + 1) (D.put (litS s) (.held v'))) (hg2 : w1.grownBy w2 (some b)) :
    GrpS w2 B b (n + 1) (D.put (litS s) (.held v')) (fun t => if t = s then v' else V t) (fun t => if t = s then S s ++ [p] else S t) := by
  have hb : ∀ {u : World} {v : Value} {l : List Spot}, GathP u B v l → v.ownBlock = none ∨ v.ownBlock ≠ some b := fun {u v l} hv => by
    cases hk : v.ownBlock with
    | none => exact .inl rfl
    | some k =>
      have := (World.ownsRow.lt hv k hk).1
      have := h.lt
      exact .inr (fun e => by cases e; omega)
  have hnew : ∀ t, t ≠ s → (V t).ownBlock = none ∨ (V t).ownBlock ≠ v'.ownBlock := fun t ht => by
    rcases hloc with e | ⟨g, e, hle⟩
    · rw [e]; exact h.far t s ht
    · cases hk : (V t).ownBlock with
      | none => exact .inl rfl
      | some k =>
        have := (World.ownsRow.lt (h.row t) k hk).2
        exact .inr (fun e' => by rw [e] at e'; cases e'; omega)
  refine ⟨h2, h.lt, fun t => ?_, fun t => ?_, fun t => ?_, fun t u htu => ?_⟩
  · by_cases e : t = s
    · subst e
      rw [if_pos rfl, Maps.atKey_put_same h.own.isMap (litS_key t)]
    · rw [if_neg e, Maps.atKey_put_other (fun h => e (litS_inj h)), h.eq t]
  · by_cases e : t = s
    · subst e
      rw [if_pos rfl, Maps.has_put_same h.own.isMap (litS_key t)]
      simp
    · rw [if_neg e, Maps.has_put_other (fun h => e (litS_inj h)), h.has t]
  · by_cases e : t = s
    · subst e
      simp only [↓reduceIte]
      have h3 := GathP.snoc (p := p) ho
      exact h3.kept hg2 (hb h3)
    · simp only [if_neg e]
      have h3 := (h.row t).kept hg (h.far t s e)
      exact h3.kept hg2 (hb h3)
  · by_cases e : t = s
    · subst e
      have hu : u ≠ t := fun h => htu h.symm
      simp only [↓reduceIte, if_neg hu]
      rcases hnew u hu with e1 | e1
      · cases hv : v'.ownBlock with
        | none => exact .inl rfl
        | some k => exact .inr (fun e2 => by rw [e1] at e2; cases e2)
      · exact .inr (fun e2 => e1 e2.symm)
    · simp only [if_neg e]
      by_cases e2 : u = s
      · subst e2
        simp only [↓reduceIte]
        exact hnew t e
      · simp only [if_neg e2]
        exact h.far t u htu

end Go.Proofs.YtpfhegengmlkmaaGreat

namespace Go.Proofs.YtpfhegengmlkmaaGreat
open Go.RowKit Go.BigFrame

/-- The ten cells of a window's value. -/
def WinC (W0 : World) (c : List Value) (l : List ItemL) : Prop := c.length = 10 ∧ l.length ≤ 4 ∧ c[8]? = some (.int .i64 0) ∧ c[9]? = some (.int .i64 l.length) ∧
  ∀ k, (h : k < l.length) → c[k * 2]? = some (.int .i64 l[k].1) ∧ ∃ v, c[k * 2 + 1]? = some v ∧ IsSl W0 v l[k].2

theorem WinV.cells {W0 : World} {v : Value} {l : List ItemL} (h : WinV W0 v l) : ∃ (x0 x1 x2 x3 : Int) (a0 a1 a2 a3 : Option Addr) (n0 n1 n2 n3 c0 c1 c2 c3 : Nat), v = .agg #[.int .i64 x0, .slice a0 n0 c0, .int .i64 x1, .slice a1 n1 c1, .int .i64 x2, .slice a2 n2 c2, .int .i64 x3, .slice a3 n3 c3, .int .i64 0, .int .i64 l.length] ∧
    WinC W0 [.int .i64 x0, .slice a0 n0 c0, .int .i64 x1, .slice a1 n1 c1, .int .i64 x2, .slice a2 n2 c2, .int .i64 x3, .slice a3 n3 c3, .int .i64 0, .int .i64 l.length] l := by
  obtain ⟨x0, x1, x2, x3, a0, a1, a2, a3, n0, n1, n2, n3, c0, c1, c2, c3, rfl, h4, hk⟩ := h
  refine ⟨x0, x1, x2, x3, a0, a1, a2, a3, n0, n1, n2, n3, c0, c1, c2, c3, rfl, rfl, h4, rfl, rfl, fun k h => ?_⟩
  rcases (by omega : k = 0 ∨ k = 1 ∨ k = 2 ∨ k = 3) with rfl | rfl | rfl | rfl
  · obtain ⟨q1, a, n, c, q2, q3⟩ := hk 0 h
    obtain ⟨rfl, rfl, rfl⟩ : a0 = a ∧ n0 = n ∧ c0 = c := by simpa using q2
    have e1 : x0 = l[0].1 := by simpa using q1
    exact ⟨by rw [← e1]; rfl, _, rfl, q3⟩
  · obtain ⟨q1, a, n, c, q2, q3⟩ := hk 1 h
    obtain ⟨rfl, rfl, rfl⟩ : a1 = a ∧ n1 = n ∧ c1 = c := by simpa using q2
    have e1 : x1 = l[1].1 := by simpa using q1
    exact ⟨by rw [← e1]; rfl, _, rfl, q3⟩
  · obtain ⟨q1, a, n, c, q2, q3⟩ := hk 2 h
    obtain ⟨rfl, rfl, rfl⟩ : a2 = a ∧ n2 = n ∧ c2 = c := by simpa using q2
    have e1 : x2 = l[2].1 := by simpa using q1
    exact ⟨by rw [← e1]; rfl, _, rfl, q3⟩
  · obtain ⟨q1, a, n, c, q2, q3⟩ := hk 3 h
    obtain ⟨rfl, rfl, rfl⟩ : a3 = a ∧ n3 = n ∧ c3 = c := by simpa using q2
    have e1 : x3 = l[3].1 := by simpa using q1
    exact ⟨by rw [← e1]; rfl, _, rfl, q3⟩

/-- The cells of gathered windows. -/
def vcells (L : List (List ItemL × List Value)) : List Value := L.flatMap (·.2)
theorem vcells_at : ∀ (L : List (List ItemL × List Value)), (∀ p ∈ L, p.2.length = 10) → ∀ (k : Nat) (h : k < L.length) (j : Nat), j < 10 → (vcells L)[k * 10 + j]? = L[k].2[j]?
  | p :: r, hL, 0, _, j, hj => by
    have h10 := hL p (by simp)
    simp only [vcells, List.flatMap_cons, Nat.zero_mul, Nat.zero_add, List.getElem_cons_zero]
    rw [List.getElem?_append_left (by omega)]
  | p :: r, hL, k + 1, h, j, hj => by
    have h10 := hL p (by simp)
    have := vcells_at r (fun q hq => hL q (by simp [hq])) k (by simpa using h) j hj
    simp only [vcells, List.flatMap_cons, List.getElem_cons_succ] at this ⊢
    rw [List.getElem?_append_right (by omega), ← this]
    congr 1
    omega
/-- The slice value 'v' holds the windows 'L', in a row of the call's own; their items' marks lie in W0. -/
def GathW (W0 w : World) (B : Nat) (v : Value) (L : List (List ItemL × List Value)) : Prop := w.ownsRow B 69 10 v L.length (vcells L) ∧ ∀ p ∈ L, WinC W0 p.2 p.1
theorem GathW.snoc {W0 w w' : World} {B : Nat} {v v' : Value} {L : List (List ItemL × List Value)} {l : List ItemL} {c : List Value} (h : GathW W0 w B v L) (hc : WinC W0 c l) (h' : w'.ownsRow B 69 10 v' (L.length + 1) (vcells L ++ c)) : GathW W0 w' B v' (L ++ [(l, c)]) := by
  refine ⟨?_, fun p hp => ?_⟩
  · have e : vcells (L ++ [(l, c)]) = vcells L ++ c := by simp [vcells]
    rw [e, List.length_append]
    exact h'
  · rcases List.mem_append.1 hp with hp | hp
    · exact h.2 p hp
    · obtain rfl : p = (l, c) := by simpa using hp
      exact hc
theorem GathW.keep {W0 w w' : World} {B : Nat} {v : Value} {L : List (List ItemL × List Value)} (h : GathW W0 w B v L) (hb : Below w.heap.size w w') : GathW W0 w' B v L := ⟨own_keep h.1 hb, h.2⟩

/-- The slice at address 'a' holds the windows 'ws', ten cells a window, their items' marks in W0. -/
def RowV (W0 w : World) (a : Option Addr) (ws : List (List ItemL)) : Prop := ∀ k, (h : k < ws.length) → ∃ b o, a = some ⟨b, o, none⟩ ∧ WinO W0 w b (o + k * 10) ws[k]
theorem RowV.below {W0 w w' : World} {a : Option Addr} {ws : List (List ItemL)} (h : RowV W0 w a ws) (hb : Below w.heap.size w w') : RowV W0 w' a ws := fun k hk => by
  obtain ⟨b, o, e, h1⟩ := h k hk
  exact ⟨b, o, e, h1.below hb⟩
theorem GathW.row {W0 w : World} {B : Nat} {v : Value} {L : List (List ItemL × List Value)} (h : GathW W0 w B v L) : ∃ a cap, v = .slice a L.length cap ∧ L.length ≤ cap ∧ RowV W0 w a (L.map (·.1)) := by
  rcases h.1.2 with ⟨rfl, h0⟩ | ⟨g, cap, cur, rfl, hB, hh, hn, _⟩
  · exact ⟨none, 0, by rw [h0], by omega, fun k hk => by rw [List.length_map] at hk; omega⟩
  · have hlt : g < w.heap.size := (Array.getElem?_eq_some_iff.1 hh).1
    refine ⟨_, cap, rfl, hn, fun k hk => ⟨g, 0, rfl, ?_⟩⟩
    rw [List.length_map] at hk
    have hc := h.2 L[k] (List.getElem_mem hk)
    have hat : ∀ j, j < 10 → w.cell? ⟨g, 0 + k * 10 + j, none⟩ = L[k].2[j]? := fun j hj => by
      rw [Nat.zero_add, World.ownsRow.cellAt h.1 _ (by omega), vcells_at L (fun p hp => (h.2 p hp).1) k hk j hj]
    simp only [List.getElem_map]
    refine ⟨hlt, hc.2.1, (hat 8 (by omega)).trans hc.2.2.1, (hat 9 (by omega)).trans hc.2.2.2.1, fun j hj => ?_⟩
    obtain ⟨h1, v, h2, h3⟩ := hc.2.2.2.2 j hj
    have := hc.2.1
    exact ⟨(hat (j * 2) (by omega)).trans h1, v, (hat (j * 2 + 1) (by omega)).trans h2, h3⟩

/-- The slice at address 'a' holds the spots 'l'. -/
def RowP (w : World) (a : Option Addr) (l : List Spot) : Prop := ∀ k, (h : k < l.length) → ∃ b o, a = some ⟨b, o, none⟩ ∧ b < w.heap.size ∧ w.cell? ⟨b, o + k * 2, none⟩ = some (.int .i64 (l[k].1 : Int)) ∧ w.cell? ⟨b, o + k * 2 + 1, none⟩ = some (.int .i64 (l[k].2 : Int))
theorem RowP.below {w w' : World} {a : Option Addr} {l : List Spot} (h : RowP w a l) (hb : Below w.heap.size w w') : RowP w' a l := fun k hk => by
  obtain ⟨b, o, e, h1, h2, h3⟩ := h k hk
  exact ⟨b, o, e, Nat.lt_of_lt_of_le h1 hb.size, cell_on hb h1 h2, cell_on hb h1 h3⟩
theorem GathP.row {w : World} {B : Nat} {v : Value} {l : List Spot} (h : GathP w B v l) : ∃ a cap, v = .slice a l.length cap ∧ l.length ≤ cap ∧ RowP w a l := by
  rcases h.2 with ⟨rfl, h0⟩ | ⟨g, cap, cur, rfl, hB, hh, hn, _⟩
  · exact ⟨none, 0, by rw [h0], by omega, fun k hk => by omega⟩
  · have hlt : g < w.heap.size := (Array.getElem?_eq_some_iff.1 hh).1
    refine ⟨_, cap, rfl, hn, fun k hk => ⟨g, 0, rfl, hlt, ?_, ?_⟩⟩
    · rw [Nat.zero_add, World.ownsRow.cellAt h _ (by omega), (scells_at l k hk).1]
    · rw [Nat.zero_add, World.ownsRow.cellAt h _ (by omega), (scells_at l k hk).2]
/-- The slice at address 'a' holds the lists of spots 'sh'. -/
def RowG (w : World) (a : Option Addr) (sh : List (List Spot)) : Prop := ∀ k, (h : k < sh.length) → ∃ b o, a = some ⟨b, o, none⟩ ∧ b < w.heap.size ∧ ∃ s c, w.cell? ⟨b, o + k, none⟩ = some (.slice s sh[k].length c) ∧ sh[k].length ≤ c ∧ RowP w s sh[k]
theorem RowG.below {w w' : World} {a : Option Addr} {sh : List (List Spot)} (h : RowG w a sh) (hb : Below w.heap.size w w') : RowG w' a sh := fun k hk => by
  obtain ⟨b, o, e, h1, s, c, h2, h3, h4⟩ := h k hk
  exact ⟨b, o, e, Nat.lt_of_lt_of_le h1 hb.size, s, c, cell_on hb h1 h2, h3, h4.below hb⟩

/-- Block 'b' holds the windows 'ws' and the spots 'sh'. -/
def ChB (W0 w : World) (b : Nat) (ws : List (List ItemL)) (sh : List (List Spot)) : Prop :=
  b < w.heap.size ∧ ∃ a c a' c', w.cell? ⟨b, 0, none⟩ = some (.slice a ws.length c) ∧ ws.length ≤ c ∧ w.cell? ⟨b, 1, none⟩ = some (.slice a' sh.length c') ∧ sh.length ≤ c' ∧ RowV W0 w a ws ∧ RowG w a' sh
theorem ChB.below {W0 w w' : World} {b : Nat} {ws : List (List ItemL)} {sh : List (List Spot)} (h : ChB W0 w b ws sh) (hb : Below w.heap.size w w') : ChB W0 w' b ws sh := by
  obtain ⟨h0, a, c, a', c', h1, h2, h3, h4, h5, h6⟩ := h
  exact ⟨Nat.lt_of_lt_of_le h0 hb.size, a, c, a', c', cell_on hb h0 h1, h2, cell_on hb h0 h3, h4, h5.below hb, h6.below hb⟩

end Go.Proofs.YtpfhegengmlkmaaGreat

namespace Go.Proofs.YtpfhegengmlkmaaGreat
open Go.RowKit Go.BigFrame
set_option maxRecDepth 100000

set_option maxHeartbeats 1600000 in
theorem has_any (W0 w : World) (b : Nat) (ws : List (List ItemL)) (sh : List (List Spot)) (a' : Option Addr) (cap' : Nat) (ps : List Int) (h : ChB W0 w b ws sh) (h6 : ws.length ≤ 6) (hp : ps.length ≤ maxLen) (hr' : RowZ w a' ps) :
    Calls Tryz.prog 27 #[.pointer (some ⟨b, 0, none⟩), .slice a' ps.length cap'] w fun e w' => IsB (ps.length = ws.length ∧ InW ws ps) e ∧ Below w.heap.size w w' := by
  have hpl : ps.length ≤ 2 ^ 63 - 1 := hp
  clear hp
  obtain ⟨hb, a, c, a2, c2, e0, hc, e1, hc2, hv, hg⟩ := h
  by_cases hlen : ps.length = ws.length
  · have hlen' : ((ps.length : Int) != (ws.length : Int)) = false := by rw [bne_eq_false_iff_eq]; omega
    have HL : Hid (ps.length = ws.length) := hlen
    have hle1 : ps.length ≤ ws.length := by omega
    clear hlen
    go_enter Tryz.func27, Tryz.ntmps27
    go_wp2_with fail
    go_loopw [17] (fun i wr => ∃ k : Nat, k ≤ ps.length ∧ i = .int .i64 k ∧ Hid (∀ j, (h : j < ps.length) → j < k → 0 ≤ ps[j] ∧ ps[j] < ((ws.getD j []).length : Int)) ∧ wr = w) (fun i _ => ps.length - (intOf i).toNat)
    case atStart => exact ⟨0, Nat.zero_le _, rfl, fun _ _ h => absurd h (Nat.not_lt_zero _), rfl⟩
    case round =>
      obtain ⟨k, hk, rfl, HI, rfl⟩ := hrel
      by_cases hlt : k < ps.length
      · have hwk : k < ws.length := by omega
        obtain ⟨g, o, rfl, hwo⟩ := hv k hwk
        obtain ⟨c1, p1, rfl, gc, z1⟩ := hr' k hlt
        have k0 : (0 : Int) ≤ (k : Int) := by omega
        have k1 : (k : Int) < (ps.length : Int) := by omega
        have k2 : (k : Int) < (ws.length : Int) := by omega
        have HG : Hid (ws.getD k [] = ws[k]) := getD_at hwk
        by_cases hn : ps[k] < 0
        · have HN : Hid (¬ (ps.length = ws.length ∧ InW ws ps)) := fun h => by have := (h.2.2 k hlt).1; omega
          clear HG
          go_wp2_with fail
          go_ret
          exact ⟨isB_false HN.out, Below.refl _ _⟩
        have hn' : decide (ps[k] < 0) = false := decide_eq_false hn
        go_wp2_with fail
        refine (size_off W0 _ g (o + k * 10) ws[k] hwo).mono ?_
        rintro e w2 ⟨rfl, rfl⟩
        by_cases hq : ps[k] < (ws[k].length : Int)
        · have HST : Hid (∀ j, (h : j < ps.length) → j < k + 1 → 0 ≤ ps[j] ∧ ps[j] < ((ws.getD j []).length : Int)) := fun j hj hlt' => by
            by_cases e : j = k
            · subst e; rw [HG.out]; exact ⟨by omega, hq⟩
            · exact HI.out j hj (by omega)
          have hq' : decide ((ws[k].length : Int) ≤ ps[k]) = false := decide_eq_false (by omega)
          clear HG
          go_wp2_with fail
          exact ⟨⟨k + 1, by omega, by go_num, HST, by trivial⟩, by simp [intOf]; omega⟩
        · have HN : Hid (¬ (ps.length = ws.length ∧ InW ws ps)) := fun h => by have h3 := (h.2.2 k hlt).2; rw [HG.out] at h3; omega
          have hq' : decide ((ws[k].length : Int) ≤ ps[k]) = true := decide_eq_true (by omega)
          clear HG
          go_wp2_with fail
          go_ret
          exact ⟨isB_false HN.out, Below.refl _ _⟩
      · have HF : Hid (ps.length = ws.length ∧ InW ws ps) := ⟨HL.out, hle1, fun j hj => HI.out j hj (by omega)⟩
        go_wp2_with fail
        go_ret
        exact ⟨isB_true HF.out, Below.refl _ _⟩
  · have hlen' : ((ps.length : Int) != (ws.length : Int)) = true := by rw [bne_iff_ne]; omega
    go_enter Tryz.func27, Tryz.ntmps27
    go_wp2_with fail
    go_ret
    exact ⟨isB_false (fun h => hlen h.1), Below.refl _ _⟩

theorem ver_facts {ws : List (List ItemL)} {ps : List Int} (hok : OkW ws) (hl : ps.length = ws.length) (hin : InW ws ps) {s : ByteArray} {p : Spot} (hs : SpotOf ws s p) : ∃ (hw : p.1 < ws.length) (_ : p.1 < ps.length) (q : Nat) (hq : q < ws[p.1].length) (hm : p.2 < ws[p.1][q].2.length), ps[p.1] = (q : Int) ∧ verM ws ps p = (ws[p.1][q].2[p.2]).2 := by
  have hpw := hs.1
  have hpp : p.1 < ps.length := by omega
  obtain ⟨hmk, _, hver, _, _⟩ := verM_eq hok hl hin hs
  obtain ⟨_, q, hqe, hq, hpk⟩ := in_nat hin hpp
  have hm : p.2 < ws[p.1][q].2.length := by rw [← hpk]; exact hmk
  refine ⟨hpw, hpp, q, hq, hm, hqe, ?_⟩
  rw [hver]
  congr 1
  simp only [hpk]

set_option maxHeartbeats 1600000 in
theorem version_any (W0 w : World) (b : Nat) (ws : List (List ItemL)) (sh : List (List Spot)) (a' : Option Addr) (cap' : Nat) (ps : List Int) (p : Spot) (s : ByteArray) (h : ChB W0 w b ws sh) (hW : Below W0.heap.size W0 w) (hok : OkW ws) (hl : ps.length = ws.length) (hin : InW ws ps) (hr' : RowZ w a' ps) (hs : SpotOf ws s p) :
    Calls Tryz.prog 46 #[.pointer (some ⟨b, 0, none⟩), .slice a' ps.length cap', .agg #[.int .i64 (p.1 : Int), .int .i64 (p.2 : Int)]] w fun e w' => e = .returned (.int .i64 (verM ws ps p)) ∧ Below w.heap.size w w' := by
  obtain ⟨hb, a, c, a2, c2, e0, hc, e1, hc2, hv, hg⟩ := h
  obtain ⟨hpw, hpp, q, hq, hmk2, hqe, hver⟩ := ver_facts hok hl hin hs
  have HV : Hid (verM ws ps p = (ws[p.1][q].2[p.2]).2) := hver
  have h6 := hok.2.1
  obtain ⟨g, o, rfl, hwo⟩ := hv p.1 hpw
  obtain ⟨c1, p1, rfl, gc, z1⟩ := hr' p.1 hpp
  have h4 := hwo.2.1
  obtain ⟨y0, yv, y1, sa, sc, rfl, hcap, hrow⟩ := hwo.2.2.2.2 q hq
  rw [hqe] at z1
  obtain ⟨bm, om, rfl, hbm, _, m1⟩ := hrow p.2 hmk2
  clear hver hqe hv hg hs hin
  have hgl := hwo.1
  have c8 := hwo.2.2.1
  have hz0 := hW.size
  go_enter Tryz.func46, Tryz.ntmps46
  go_wp2_with fail
  have hb0 : Below w.heap.size w (w.alloc (.cells #[.int .i64 (p.1 : Int), .int .i64 (p.2 : Int)] 100)) := (Below.refl _ _).alloc (Nat.le_refl _) _
  have hlt0 := box_lt w (.cells #[.int .i64 (p.1 : Int), .int .i64 (p.2 : Int)] 100)
  have d0 := box0 w (.int .i64 (p.1 : Int)) (.int .i64 (p.2 : Int)) 100
  have d1 := box1 w (.int .i64 (p.1 : Int)) (.int .i64 (p.2 : Int)) 100
  generalize w.alloc (.cells #[.int .i64 (p.1 : Int), .int .i64 (p.2 : Int)] 100) = W at *
  have hne := Lat.some W
  have n0 : ∀ n : Lat W, n.w.cell? ⟨b, 0, none⟩ = some (.slice (some ⟨g, o, none⟩) ws.length c) := fun n => n.cell (Nat.lt_of_lt_of_le hb hb0.size) (cell_on hb0 hb e0)
  have n1 : ∀ n : Lat W, n.w.cell? ⟨w.heap.size, 0, none⟩ = some (.int .i64 (p.1 : Int)) := fun n => n.cell hlt0 d0
  have n2 : ∀ n : Lat W, n.w.cell? ⟨w.heap.size, 1, none⟩ = some (.int .i64 (p.2 : Int)) := fun n => n.cell hlt0 d1
  have n3 : ∀ n : Lat W, n.w.cell? ⟨c1, p1 + p.1, none⟩ = some (.int .i64 (q : Int)) := fun n => n.cell (Nat.lt_of_lt_of_le gc hb0.size) (cell_on hb0 gc z1)
  have hbm' : bm < w.heap.size := Nat.lt_of_lt_of_le hbm hz0
  have n4 : ∀ n : Lat W, n.w.cell? ⟨bm, om + p.2 * 2 + 1, none⟩ = some (.int .i64 ((ws[p.1][q]).2[p.2]).2) := fun n => n.cell (Nat.lt_of_lt_of_le hbm' hb0.size) (cell_on hb0 hbm' (cell_on hW hbm m1))
  have ce : ∀ n : Lat W, Calls Tryz.prog 31 #[.pointer (some ⟨g, o + p.1 * 10, none⟩), .int .i64 q] n.w fun e w'' => e = .returned (.agg #[.int .i64 (ws[p.1][q]).1, .slice (some ⟨bm, om, none⟩) (ws[p.1][q]).2.length sc]) ∧ Below n.w.heap.size n.w w'' := fun n => by
    have hx : ∀ {i : Nat} {v : Value}, w.cell? ⟨g, i, none⟩ = some v → n.w.cell? ⟨g, i, none⟩ = some v := fun h => n.cell (Nat.lt_of_lt_of_le hgl hb0.size) (cell_on hb0 hgl h)
    exact at_val n.w g (o + p.1 * 10) q _ _ _ _ (Nat.lt_of_lt_of_le (Nat.lt_of_lt_of_le hgl hb0.size) n.h.size) (by omega) (hx c8) (hx y0) (hx y1)
  have i0 : (0 : Int) ≤ (p.1 : Int) := by omega
  have i1 : (p.1 : Int) < (ws.length : Int) := by omega
  have i2 : (p.1 : Int) < (ps.length : Int) := by omega
  have i3 : (0 : Int) ≤ (p.2 : Int) := by omega
  have i4 : (p.2 : Int) < ((ws[p.1][q]).2.length : Int) := by omega
  have hfd := field_stamp (ws[p.1][q]).1 (some ⟨bm, om, none⟩) (ws[p.1][q]).2.length sc
  clear e0 e1 z1 m1 y0 y1 d0 d1 hrow hwo c8
  refine wp_region_lat (by kernel_rfl) (by kernel_rfl) ?_
  repeat (go_big_quiet_step ((go_at_call 31; exact Calls.lat_of (ce _))))
  refine wpQuiet_nil ?_
  rintro _ ⟨nq, rfl⟩
  go_wp2_with fail
  go_ret
  exact ⟨by rw [HV.out]; rfl, hb0.trans (nq.h.mono hb0.size)⟩

end Go.Proofs.YtpfhegengmlkmaaGreat
