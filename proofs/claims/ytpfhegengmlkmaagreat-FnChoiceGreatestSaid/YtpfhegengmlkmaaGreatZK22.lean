/- Texts of this claim, one behind the other. -/
import Derived.Laws.IdiomStrings
import Derived.Test.YtpfhegengmlkmaaGreatZK1
import Derived.Test.YtpfhegengmlkmaaGreatZK5
import Derived.Test.YtpfhegengmlkmaaGreatZK6
import Derived.Test.YtpfhegengmlkmaaGreatZK7
import Derived.Test.YtpfhegengmlkmaaGreatZK17
import Derived.Test.YtpfhegengmlkmaaGreatZK18
import Derived.Test.YtpfhegengmlkmaaGreatZK19
import Derived.Test.YtpfhegengmlkmaaGreatZK21
namespace Go.Proofs.YtpfhegengmlkmaaGreat
open Go.RowKit Go.BigFrame
set_option maxRecDepth 100000

/-- A feed: the input that it names, and its item. -/
abbrev FeedV := Int × ItemL
/-- The slice at address 'a' holds the feeds 'l', each in three cells. -/
def RowF (w : World) (a : Option Addr) (l : List FeedV) : Prop :=
  ∀ k, (h : k < l.length) → ∃ b o, a = some ⟨b, o, none⟩ ∧ b < w.heap.size ∧ w.cell? ⟨b, o + k * 3, none⟩ = some (.int .i64 l[k].1) ∧ w.cell? ⟨b, o + k * 3 + 1, none⟩ = some (.int .i64 l[k].2.1) ∧ ∃ v, w.cell? ⟨b, o + k * 3 + 2, none⟩ = some v ∧ IsSl w v l[k].2.2
def FitF (l : List FeedV) : Prop := l.length ≤ maxLen ∧ ∀ j, (h : j < l.length) → FitM l[j].2.2
theorem RowF.below {w w' : World} {a : Option Addr} {l : List FeedV} (h : RowF w a l) (hb : Below w.heap.size w w') : RowF w' a l := fun k hk => by
  obtain ⟨b, o, ha, hlt, h0, h1, v, h2, h3⟩ := h k hk
  exact ⟨b, o, ha, Nat.lt_of_lt_of_le hlt hb.size, by rw [hb.cell hlt]; exact h0, by rw [hb.cell hlt]; exact h1, v, by rw [hb.cell hlt]; exact h2, h3.below hb⟩
/-- The first 'k' feeds of 'l' lie in block 'g', which has room for all; their marks lie each in a block of its own, from 'lo' on and ahead of 'T'. -/
def PartF (w : World) (lo T g : Nat) (l : List FeedV) (k : Nat) : Prop :=
  ∃ (G C : Nat → Nat) (m : Nat) (f : Nat → Value), w.rowIs g 91 m f ∧ l.length * 3 ≤ m ∧
    (∀ j, (h : j < l.length) → j < k → f (j * 3) = .int .i64 l[j].1 ∧ f (j * 3 + 1) = .int .i64 l[j].2.1 ∧ f (j * 3 + 2) = .slice (some ⟨G j, 0, none⟩) l[j].2.2.length (C j) ∧ l[j].2.2.length ≤ C j ∧ Own w (G j) l[j].2.2 ∧ lo ≤ G j ∧ G j < T ∧ G j ≠ g) ∧ ∀ i j, i < k → j < k → i ≠ j → G i ≠ G j
theorem PartF.lt {w : World} {lo T g k : Nat} {l : List FeedV} (h : PartF w lo T g l k) : g < w.heap.size := by
  obtain ⟨_, _, _, _, h, _⟩ := h
  exact h.lt
theorem PartF.below {w w' : World} {lo T g k : Nat} {l : List FeedV} (h : PartF w lo T g l k) (hb : Below w.heap.size w w') : PartF w' lo T g l k := by
  have hlt := h.lt
  obtain ⟨G, C, m, f, h, hm, hf, hd⟩ := h
  refine ⟨G, C, m, f, h.of_block (hb.block g hlt), hm, fun j hj hk => ?_, hd⟩
  obtain ⟨h1, h2, h3, h4, h5, h6⟩ := hf j hj hk
  exact ⟨h1, h2, h3, h4, h5.below hb, h6⟩
theorem PartF.grow {w : World} {lo T T' g k : Nat} {l : List FeedV} (h : PartF w lo T g l k) (hT : T ≤ T') : PartF w lo T' g l k := by
  obtain ⟨G, C, m, f, h, hm, hf, hd⟩ := h
  refine ⟨G, C, m, f, h, hm, fun j hj hk => ?_, hd⟩
  obtain ⟨h1, h2, h3, h4, h5, h6, h7, h8⟩ := hf j hj hk
  exact ⟨h1, h2, h3, h4, h5, h6, by omega, h8⟩
theorem PartF.made (w : World) (lo : Nat) (l : List FeedV) (z : Array Value) : PartF (w.alloc (.cells (madeCells z (l.length * 3)) 91)) lo (w.heap.size + 1) w.heap.size l 0 := by
  refine ⟨fun _ => 0, fun _ => 0, l.length * 3, fun i => z[i % z.size]!, ?_, Nat.le_refl _, fun j _ h => by omega, fun i j h => by omega⟩
  have h := World.rowIs_alloc w (madeCells z (l.length * 3)) 91 (fun i => z[i % z.size]!) (fun i hi => by
    rw [size_madeCells] at hi
    simp [madeCells, hi])
  rwa [size_madeCells] at h
theorem PartF.cell {w : World} {lo T g k : Nat} {l : List FeedV} (h : PartF w lo T g l k) {i : Nat} (hi : i < l.length * 3) : ∃ v, w.cell? ⟨g, i, none⟩ = some v := by
  obtain ⟨_, _, m, f, h, hm, _⟩ := h
  exact ⟨_, h.cell (by omega)⟩
theorem PartF.frozen {w : World} {lo T g k : Nat} {l : List FeedV} (h : PartF w lo T g l k) (i : Nat) : w.frozen? ⟨g, i, none⟩ = false := by
  obtain ⟨_, _, m, f, h, _⟩ := h
  exact h.frozen i
theorem PartF.step {w : World} {lo T g k : Nat} {l : List FeedV} (h : PartF w lo T g l k) (hk : k < l.length) {b c : Nat} (hT : T ≤ b) (hlo : lo ≤ b) (hg : b ≠ g) (hc : l[k].2.2.length ≤ c) (ho : Own w b l[k].2.2) :
    PartF (((w.setCell ⟨g, k * 3, none⟩ (.int .i64 l[k].1)).setCell ⟨g, k * 3 + 1, none⟩ (.int .i64 l[k].2.1)).setCell ⟨g, k * 3 + 2, none⟩ (.slice (some ⟨b, 0, none⟩) l[k].2.2.length c)) lo (b + 1) g l (k + 1) := by
  obtain ⟨G, C, m, f, h, hm, hf, hd⟩ := h
  refine ⟨fun j => if j = k then b else G j, fun j => if j = k then c else C j, m, _, ((h.set _ _).set _ _).set _ _, hm, fun j hj hlt => ?_, fun i j hi hj hne => ?_⟩
  · by_cases e : j = k
    · subst e
      simp only [if_true]
      refine ⟨by simp, by simp, by simp, hc, ((ho.setOther hg _ _).setOther hg _ _).setOther hg _ _, hlo, by omega, hg⟩
    · obtain ⟨h1, h2, h3, h4, h5, h6, h7, h8⟩ := hf j hj (by omega)
      have e0 : j * 3 ≠ k * 3 + 1 := by omega
      have e1 : j * 3 ≠ k * 3 := by omega
      have e2 : j * 3 ≠ k * 3 + 2 := by omega
      have e3 : j * 3 + 1 ≠ k * 3 := by omega
      have e4 : j * 3 + 1 ≠ k * 3 + 1 := by omega
      have e5 : j * 3 + 1 ≠ k * 3 + 2 := by omega
      have e6 : j * 3 + 2 ≠ k * 3 := by omega
      have e7 : j * 3 + 2 ≠ k * 3 + 1 := by omega
      have e8 : j * 3 + 2 ≠ k * 3 + 2 := by omega
      simp only [if_neg e, if_neg e0, if_neg e1, if_neg e2, if_neg e3, if_neg e4, if_neg e5, if_neg e6, if_neg e7, if_neg e8]
      exact ⟨h1, h2, h3, h4, ((h5.setOther h8 _ _).setOther h8 _ _).setOther h8 _ _, h6, by omega, h8⟩
  · by_cases e : i = k
    · subst e
      have hj' : j < i := by omega
      have := (hf j (by omega) hj').2.2.2.2.2.2.1
      simp only [if_true, if_neg (by omega : ¬ j = i)]
      omega
    · by_cases e' : j = k
      · subst e'
        have hi' : i < j := by omega
        have := (hf i (by omega) hi').2.2.2.2.2.2.1
        simp only [if_true, if_neg e]
        omega
      · simp only [if_neg e, if_neg e']
        exact hd i j (by omega) (by omega) hne
theorem PartF.row {w : World} {lo T g : Nat} {l : List FeedV} (h : PartF w lo T g l l.length) : RowF w (some ⟨g, 0, none⟩) l := fun k hk => by
  obtain ⟨G, C, m, f, h, hm, hf, _⟩ := h
  obtain ⟨h1, h2, h3, h4, h5, _⟩ := hf k hk hk
  exact ⟨g, 0, rfl, h.lt, by rw [Nat.zero_add, h.cell (by omega), h1], by rw [Nat.zero_add, h.cell (by omega), h2], _, by rw [Nat.zero_add, h.cell (by omega), h3], _, _, rfl, h4, h5.row⟩
/-- From the 'k'-th on the feeds' marks lie each in a block of its own. -/
def RestF (w : World) (lo T g : Nat) (l : List FeedV) (k : Nat) : Prop :=
  ∃ (G C : Nat → Nat) (m : Nat) (f : Nat → Value), w.rowIs g 91 m f ∧ l.length * 3 ≤ m ∧
    (∀ j, (h : j < l.length) → k ≤ j → f (j * 3 + 2) = .slice (some ⟨G j, 0, none⟩) l[j].2.2.length (C j) ∧ Own w (G j) l[j].2.2 ∧ lo ≤ G j ∧ G j < T ∧ G j ≠ g) ∧ ∀ i j, i < l.length → j < l.length → i ≠ j → G i ≠ G j
theorem PartF.rest {w : World} {lo T g : Nat} {l : List FeedV} (h : PartF w lo T g l l.length) : RestF w lo T g l 0 := by
  obtain ⟨G, C, m, f, h, hm, hf, hd⟩ := h
  refine ⟨G, C, m, f, h, hm, fun j hj _ => ?_, hd⟩
  obtain ⟨h1, h2, h3, h4, h5, h6, h7, h8⟩ := hf j hj hj
  exact ⟨h3, h5, h6, h7, h8⟩
theorem RestF.turn {w : World} {lo T g : Nat} {l : List FeedV} {j : Nat} (h : RestF w lo T g l j) (hj : j < l.length) :
    ∃ b c, w.cell? ⟨g, j * 3 + 2, none⟩ = some (.slice (some ⟨b, 0, none⟩) l[j].2.2.length c) ∧ Own w b l[j].2.2 ∧ lo ≤ b ∧ b < T ∧ b ≠ g ∧ (∃ v, w.cell? ⟨g, j * 3, none⟩ = some v) ∧ (∃ v, w.cell? ⟨g, j * 3 + 1, none⟩ = some v) ∧ (∀ i, w.frozen? ⟨g, i, none⟩ = false) ∧ g < w.heap.size ∧
      ∀ (x y : Value) (w2 : World), But b ((w.setCell ⟨g, j * 3, none⟩ x).setCell ⟨g, j * 3 + 1, none⟩ y) w2 → RestF w2 lo T g l (j + 1) := by
  obtain ⟨G, C, m0, f, h, hm, hf, hd⟩ := h
  obtain ⟨f1, f2, f3, f4, f5⟩ := hf j hj (Nat.le_refl _)
  refine ⟨G j, C j, by rw [h.cell (by omega), f1], f2, f3, f4, f5, ⟨_, h.cell (by omega)⟩, ⟨_, h.cell (by omega)⟩, h.frozen, h.lt, fun x y w2 hb => ?_⟩
  have hg := h.lt
  refine ⟨G, C, m0, _, ((h.set (j * 3) x).set (j * 3 + 1) y).of_block (hb.block g (by simpa [World.setCell] using hg) (Ne.symm f5)), hm, fun i hi hk => ?_, hd⟩
  obtain ⟨i1, i2, i3, i4, i5⟩ := hf i hi (by omega)
  have e1 : i * 3 + 2 ≠ j * 3 := by omega
  have e2 : i * 3 + 2 ≠ j * 3 + 1 := by omega
  simp only [if_neg e1, if_neg e2]
  exact ⟨i1, hb.own ((i2.setOther i5 _ _).setOther i5 _ _) (hd i j hi hj (by omega)), i3, i4, i5⟩

end Go.Proofs.YtpfhegengmlkmaaGreat

namespace Go.Proofs.YtpfhegengmlkmaaGreat

theorem isJ_stamp {a b m : List (ByteArray × Int)} {ok : Bool} (h : IsJ a b m ok) : StampP m := by
  cases ok
  · rw [h.none]; exact stampP_nil
  · exact h.fits.2.2.2

/-- The join of the stamps of the first k of a choice. -/
def JoinsTo (ws : List (List ItemL)) (ps : List Int) : Nat → List (ByteArray × Int) → Prop
  | 0, m => m = []
  | k + 1, m => ∃ q, JoinsTo ws ps k q ∧ IsJ q (pkM ws ps k) m true
theorem JoinsTo.one {ws : List (List ItemL)} {ps : List Int} : ∀ {k : Nat} {a b : List (ByteArray × Int)}, JoinsTo ws ps k a → JoinsTo ws ps k b → a = b
  | 0, a, b, h1, h2 => by rw [show a = [] from h1, show b = [] from h2]
  | k + 1, a, b, ⟨q, h1, h2⟩, ⟨q', h3, h4⟩ => by
    obtain rfl := h1.one h3
    exact (h2.one h4).1
theorem JoinsTo.pre {ws : List (List ItemL)} {ps : List Int} : ∀ {n : Nat} {m : List (ByteArray × Int)}, JoinsTo ws ps n m → ∀ k, k < n → ∃ q r, JoinsTo ws ps k q ∧ IsJ q (pkM ws ps k) r true
  | n + 1, m, ⟨q, h1, h2⟩, k, hk => by
    by_cases e : k = n
    · subst e; exact ⟨q, m, h1, h2⟩
    · exact h1.pre k (by omega)
theorem JoinsTo.stamp {ws : List (List ItemL)} {ps : List Int} : ∀ {k : Nat} {m : List (ByteArray × Int)}, JoinsTo ws ps k m → StampP m
  | 0, m, h => by rw [show m = [] from h]; exact stampP_nil
  | k + 1, m, ⟨q, _, h2⟩ => isJ_stamp h2
/-- Some stamp does not fit. -/
def JoinsNot (ws : List (List ItemL)) (ps : List Int) : Prop := ∃ k q m, k < ps.length ∧ JoinsTo ws ps k q ∧ IsJ q (pkM ws ps k) m false
/-- What the join of a choice is. -/
def IsCJ (ws : List (List ItemL)) (ps : List Int) (m : List (ByteArray × Int)) (ok : Bool) : Prop :=
  (ok = true ∧ ChP ws ps ∧ JoinsTo ws ps ps.length m) ∨ (ok = false ∧ m = [] ∧ (¬ ChP ws ps ∨ JoinsNot ws ps))
theorem joinsNot_not {ws : List (List ItemL)} {ps : List Int} {m : List (ByteArray × Int)} (h : JoinsNot ws ps) (hj : JoinsTo ws ps ps.length m) : False := by
  obtain ⟨k, q, r, hk, h1, h2⟩ := h
  obtain ⟨q', r', h3, h4⟩ := hj.pre k hk
  obtain rfl := h1.one h3
  have := (h2.one h4).2
  cases this
theorem IsCJ.one {ws : List (List ItemL)} {ps : List Int} {m m' : List (ByteArray × Int)} {ok ok' : Bool} (h : IsCJ ws ps m ok) (k : IsCJ ws ps m' ok') : m = m' ∧ ok = ok' := by
  rcases h with ⟨rfl, h1, h2⟩ | ⟨rfl, rfl, h2⟩
  · rcases k with ⟨rfl, k1, k2⟩ | ⟨rfl, rfl, k2⟩
    · exact ⟨h2.one k2, rfl⟩
    · rcases k2 with k2 | k2
      · exact absurd h1 k2
      · exact (joinsNot_not k2 h2).elim
  · rcases k with ⟨rfl, k1, k2⟩ | ⟨rfl, rfl, k2⟩
    · rcases h2 with h2 | h2
      · exact absurd k1 h2
      · exact (joinsNot_not h2 k2).elim
    · exact ⟨rfl, rfl⟩
theorem IsCJ.stamp {ws : List (List ItemL)} {ps : List Int} {m : List (ByteArray × Int)} {ok : Bool} (h : IsCJ ws ps m ok) : StampP m := by
  rcases h with ⟨rfl, _, h2⟩ | ⟨rfl, rfl, _⟩
  · exact h2.stamp
  · exact stampP_nil

end Go.Proofs.YtpfhegengmlkmaaGreat

namespace Go.Proofs.YtpfhegengmlkmaaGreat

/-- The value of the item that a choice has from window k. -/
def pkV (ws : List (List ItemL)) (ps : List Int) (k : Nat) : Int := ((ws.getD k []).getD (ps.getD k 0).toNat (0, [])).1
def valsM (ws : List (List ItemL)) (ps : List Int) : List Int := (List.range ps.length).map (pkV ws ps)
theorem valsM_len (ws : List (List ItemL)) (ps : List Int) : (valsM ws ps).length = ps.length := by simp [valsM]
def emptyG : GatL := ⟨[], [], []⟩
/-- The gather may be, and the input is one of its own. -/
def InG (g : GatL) (i : Int) : Prop := GatP g ∧ 0 ≤ i ∧ i < (g.ins.length : Int)
/-- What comes of the windows as they are. -/
def ComeP (ws : List (List ItemL)) (sh : List (ByteArray × Int)) (sh' : List (ByteArray × Int)) (sv : List Int) (ss : List (ByteArray × Int)) (code : Int) : Prop :=
  ∃ out ok, BestP ws out ok ∧ ((ok = false ∧ sh' = sh ∧ sv = [] ∧ ss = [] ∧ code = 0) ∨ (ok = true ∧ ∃ j okj, IsCJ ws out j okj ∧
    ((okj = false ∧ sh' = sh ∧ sv = [] ∧ ss = [] ∧ code = 4) ∨ (okj = true ∧ ∃ o, IsOrd sh j o ∧
      ((o ≠ 1 ∧ sh' = sh ∧ sv = [] ∧ ss = [] ∧ code = 0) ∨ (o = 1 ∧ sh' = j ∧ sv = valsM ws out ∧ ss = j ∧ code = 1))))))
theorem ComeP.one {ws : List (List ItemL)} {sh s1 s2 t1 t2 : List (ByteArray × Int)} {v1 v2 : List Int} {c1 c2 : Int} (h : ComeP ws sh s1 v1 t1 c1) (k : ComeP ws sh s2 v2 t2 c2) : s1 = s2 ∧ v1 = v2 ∧ t1 = t2 ∧ c1 = c2 := by
  obtain ⟨o1, k1, b1, h⟩ := h
  obtain ⟨o2, k2, b2, k⟩ := k
  obtain ⟨rfl, rfl⟩ := b1.one b2
  rcases h with ⟨rfl, rfl, rfl, rfl, rfl⟩ | ⟨rfl, j1, x1, i1, h⟩
  · rcases k with ⟨_, rfl, rfl, rfl, rfl⟩ | ⟨e, _⟩
    · exact ⟨rfl, rfl, rfl, rfl⟩
    · cases e
  · rcases k with ⟨e, _⟩ | ⟨_, j2, x2, i2, k⟩
    · cases e
    · obtain ⟨rfl, rfl⟩ := i1.one i2
      rcases h with ⟨rfl, rfl, rfl, rfl, rfl⟩ | ⟨rfl, p1, q1, h⟩
      · rcases k with ⟨_, rfl, rfl, rfl, rfl⟩ | ⟨e, _⟩
        · exact ⟨rfl, rfl, rfl, rfl⟩
        · cases e
      · rcases k with ⟨e, _⟩ | ⟨_, p2, q2, k⟩
        · cases e
        · obtain rfl := q1.one q2
          rcases h with ⟨h1, rfl, rfl, rfl, rfl⟩ | ⟨h1, rfl, rfl, rfl, rfl⟩
          · rcases k with ⟨_, rfl, rfl, rfl, rfl⟩ | ⟨k1, _⟩
            · exact ⟨rfl, rfl, rfl, rfl⟩
            · exact absurd k1 h1
          · rcases k with ⟨k1, _⟩ | ⟨_, rfl, rfl, rfl, rfl⟩
            · exact absurd h1 k1
            · exact ⟨rfl, rfl, rfl, rfl⟩
/-- What the feed comes to. -/
def PutG (g : GatL) (i x : Int) (m : List (ByteArray × Int)) (g' : GatL) (sv : List Int) (ss : List (ByteArray × Int)) (code : Int) : Prop :=
  (¬ InG g i ∧ g' = emptyG ∧ sv = [] ∧ ss = [] ∧ code = 2) ∨ (InG g i ∧ ∃ r c, IsP (g.wins.getD i.toNat []) x m r c ∧
    ((c = 1 ∧ g' = emptyG ∧ sv = [] ∧ ss = [] ∧ code = 2) ∨ (c = 2 ∧ g' = g ∧ sv = [] ∧ ss = [] ∧ code = 3) ∨
      (c = 0 ∧ ∃ sh, ComeP (g.wins.set i.toNat r) g.shown sh sv ss code ∧ g' = ⟨g.ins, g.wins.set i.toNat r, sh⟩)))
theorem PutG.one {g g1 g2 : GatL} {i x c1 c2 : Int} {m s1 s2 : List (ByteArray × Int)} {v1 v2 : List Int} (h : PutG g i x m g1 v1 s1 c1) (k : PutG g i x m g2 v2 s2 c2) : g1 = g2 ∧ v1 = v2 ∧ s1 = s2 ∧ c1 = c2 := by
  rcases h with ⟨h0, rfl, rfl, rfl, rfl⟩ | ⟨h0, r1, d1, p1, h⟩
  · rcases k with ⟨_, rfl, rfl, rfl, rfl⟩ | ⟨k0, _⟩
    · exact ⟨rfl, rfl, rfl, rfl⟩
    · exact absurd k0 h0
  · rcases k with ⟨k0, _⟩ | ⟨_, r2, d2, p2, k⟩
    · exact absurd h0 k0
    · obtain ⟨rfl, rfl⟩ := p1.one p2
      rcases h with ⟨rfl, rfl, rfl, rfl, rfl⟩ | ⟨rfl, rfl, rfl, rfl, rfl⟩ | ⟨rfl, sh1, q1, rfl⟩
      · rcases k with ⟨_, rfl, rfl, rfl, rfl⟩ | ⟨e, _⟩ | ⟨e, _⟩
        · exact ⟨rfl, rfl, rfl, rfl⟩
        · omega
        · omega
      · rcases k with ⟨e, _⟩ | ⟨_, rfl, rfl, rfl, rfl⟩ | ⟨e, _⟩
        · omega
        · exact ⟨rfl, rfl, rfl, rfl⟩
        · omega
      · rcases k with ⟨e, _⟩ | ⟨e, _⟩ | ⟨_, sh2, q2, rfl⟩
        · omega
        · omega
        · obtain ⟨rfl, rfl, rfl, rfl⟩ := q1.one q2
          exact ⟨rfl, rfl, rfl, rfl⟩

theorem getD_get {α : Type} (l : List α) (d : α) {k : Nat} (h : k < l.length) : l.getD k d = l[k] := by simp [List.getD, h]
theorem winP_stamps {l : List ItemL} (h : WinP l) : StampsP l := ⟨by have := h.1; omega, fun j hj => (h.2.1 j hj).1⟩
theorem set_stamps {ws : List (List ItemL)} {k : Nat} {r : List ItemL} (h : ∀ l ∈ ws, StampsP l) (hr : StampsP r) : ∀ l ∈ ws.set k r, StampsP l := fun l hl => by
  rcases List.mem_or_eq_of_mem_set hl with h1 | h1
  · exact h l h1
  · exact h1 ▸ hr
theorem stamps_fitW {ws : List (List ItemL)} (h6 : ws.length ≤ 6) (h : ∀ l ∈ ws, StampsP l) : FitW ws := ⟨by unfold maxLen; omega, fun j hj => (h _ (List.getElem_mem hj)).fit⟩
/-- What an answer is like: few names, few windows, stamps alone. -/
structure NiceG (g : GatL) : Prop where
  ins : g.ins.length ≤ 6
  names : ∀ j, (h : j < g.ins.length) → g.ins[j].size ≤ 8
  wins : g.wins.length ≤ 6
  items : ∀ l ∈ g.wins, StampsP l
  shown : StampP g.shown
theorem emptyG_nice : NiceG emptyG := ⟨by simp [emptyG], fun j hj => by simp [emptyG] at hj, by simp [emptyG], fun l hl => by simp [emptyG] at hl, stampP_nil⟩
theorem GatP.nice {g : GatL} (h : GatP g) : NiceG g := by
  refine ⟨h.ins.2.1, fun j hj => (h.ins.2.2 j hj).1.2.1, ?_, fun l hl => ?_, h.shown⟩
  · have := h.ins.2.1; have := h.len; omega
  · obtain ⟨j, hj, rfl⟩ := List.mem_iff_getElem.1 hl
    exact winP_stamps (h.wins.2.2 j hj)
theorem best_in {ws : List (List ItemL)} {out : List Int} (h : BestP ws out true) : ChP ws out := by
  rcases h with ⟨_, h, _⟩ | ⟨e, _⟩
  · exact h
  · cases e
theorem ComeP.nice {ws : List (List ItemL)} {sh s1 t1 : List (ByteArray × Int)} {v1 : List Int} {c1 : Int} (h : ComeP ws sh s1 v1 t1 c1) (hs : StampP sh) : StampP s1 ∧ v1.length ≤ 6 ∧ StampP t1 := by
  obtain ⟨o1, k1, b1, h⟩ := h
  rcases h with ⟨rfl, rfl, rfl, rfl, rfl⟩ | ⟨rfl, j1, x1, i1, h⟩
  · exact ⟨hs, by simp, stampP_nil⟩
  · have hc := best_in b1
    have hl : o1.length ≤ 6 := by have := hc.2.1; have := hc.1.2.1; omega
    rcases h with ⟨rfl, rfl, rfl, rfl, rfl⟩ | ⟨rfl, p1, q1, h⟩
    · exact ⟨hs, by simp, stampP_nil⟩
    · rcases h with ⟨h1, rfl, rfl, rfl, rfl⟩ | ⟨h1, rfl, rfl, rfl, rfl⟩
      · exact ⟨hs, by simp, stampP_nil⟩
      · exact ⟨i1.stamp, by rw [valsM_len]; exact hl, i1.stamp⟩
theorem PutG.nice {g g1 : GatL} {i x c1 : Int} {m s1 : List (ByteArray × Int)} {v1 : List Int} (h : PutG g i x m g1 v1 s1 c1) : NiceG g1 ∧ v1.length ≤ 6 ∧ StampP s1 := by
  rcases h with ⟨h0, rfl, rfl, rfl, rfl⟩ | ⟨h0, r1, d1, p1, h⟩
  · exact ⟨emptyG_nice, by simp, stampP_nil⟩
  · have hn := h0.1.nice
    rcases h with ⟨rfl, rfl, rfl, rfl, rfl⟩ | ⟨rfl, rfl, rfl, rfl, rfl⟩ | ⟨rfl, sh1, q1, rfl⟩
    · exact ⟨emptyG_nice, by simp, stampP_nil⟩
    · exact ⟨hn, by simp, stampP_nil⟩
    · have hc := q1.nice hn.shown
      exact ⟨⟨hn.ins, hn.names, by simpa using hn.wins, set_stamps hn.items (isP_stamps p1), hc.1⟩, hc.2⟩

end Go.Proofs.YtpfhegengmlkmaaGreat

namespace Go.Proofs.YtpfhegengmlkmaaGreat
open Go.RowKit Go.BigFrame
set_option maxRecDepth 100000

theorem Tri.span {w w' : World} {b lo hi : Nat} {x y z : Value} (h : Tri w b x y z) (hs : Span lo hi w w') (hd : b < lo ∨ hi ≤ b) : Tri w' b x y z := by
  have hlt : b < w.heap.size := block_lt_of_cell h.c0
  have e := hs.block b hlt hd
  exact ⟨(World.cell?_of_block (a := ⟨b, 0, none⟩) e).trans h.c0, (World.cell?_of_block (a := ⟨b, 1, none⟩) e).trans h.c1, (World.cell?_of_block (a := ⟨b, 2, none⟩) e).trans h.c2, (World.frozen?_of_block (a := ⟨b, 0, none⟩) e).trans h.f0, (World.frozen?_of_block (a := ⟨b, 1, none⟩) e).trans h.f1, (World.frozen?_of_block (a := ⟨b, 2, none⟩) e).trans h.f2⟩

end Go.Proofs.YtpfhegengmlkmaaGreat

namespace Go.Proofs.YtpfhegengmlkmaaGreat
open Go.RowKit Go.BigFrame
set_option maxRecDepth 100000

/-- The feeds so far, from g0 on: the gather, the shows, and the codes. -/
inductive PlayTo (g0 : GatL) : List FeedV → GatL → List ShowV → List Int → Prop
  | nil : PlayTo g0 [] g0 [] []
  | snoc {fs : List FeedV} {g g1 : GatL} {sh : List ShowV} {cs : List Int} {f : FeedV} {sv : List Int} {ss : List (ByteArray × Int)} {c : Int} (h : PlayTo g0 fs g sh cs) (hp : PutG g f.1 f.2.1 f.2.2 g1 sv ss c) :
      PlayTo g0 (fs ++ [f]) (if c = 2 then g else g1) (if c = 1 then sh ++ [(sv, ss)] else sh) (cs ++ [c])
theorem PlayTo.inv {g0 : GatL} {l : List FeedV} {g : GatL} {sh : List ShowV} {cs : List Int} (h : PlayTo g0 l g sh cs) :
    (l = [] ∧ g = g0 ∧ sh = [] ∧ cs = []) ∨ ∃ fs f gp shp csp g1 sv ss c, l = fs ++ [f] ∧ PlayTo g0 fs gp shp csp ∧ PutG gp f.1 f.2.1 f.2.2 g1 sv ss c ∧ g = (if c = 2 then gp else g1) ∧ sh = (if c = 1 then shp ++ [(sv, ss)] else shp) ∧ cs = csp ++ [c] := by
  cases h with
  | nil => exact .inl ⟨rfl, rfl, rfl, rfl⟩
  | snoc h hp => exact .inr ⟨_, _, _, _, _, _, _, _, _, rfl, h, hp, rfl, rfl, rfl⟩
/-- It comes to one thing alone. -/
theorem PlayTo.one {g0 : GatL} {l : List FeedV} {g : GatL} {sh : List ShowV} {cs : List Int} (h : PlayTo g0 l g sh cs) : ∀ {g' : GatL} {sh' : List ShowV} {cs' : List Int}, PlayTo g0 l g' sh' cs' → g = g' ∧ sh = sh' ∧ cs = cs' := by
  induction h with
  | nil =>
    intro g' sh' cs' k
    rcases k.inv with ⟨_, h1, h2, h3⟩ | ⟨fs, f, _, _, _, _, _, _, _, e, _⟩
    · exact ⟨h1.symm, h2.symm, h3.symm⟩
    · simp at e
  | snoc h hp ih =>
    intro g' sh' cs' k
    rcases k.inv with ⟨e, _⟩ | ⟨fs, f, gp, shp, csp, g1, sv, ss, c, e, k1, k2, k3, k4, k5⟩
    · simp at e
    · obtain ⟨e1, e2⟩ := List.append_inj' e rfl
      simp only [List.cons.injEq, and_true] at e2
      subst e1 e2
      obtain ⟨i1, i2, i3⟩ := ih k1
      subst i1 i2 i3
      obtain ⟨j1, j2, j3, j4⟩ := hp.one k2
      subst j1 j2 j3 j4
      exact ⟨k3.symm, k4.symm, k5.symm⟩
theorem PlayTo.nice {g0 : GatL} {l : List FeedV} {g : GatL} {sh : List ShowV} {cs : List Int} (h0 : NiceG g0) (h : PlayTo g0 l g sh cs) : NiceG g ∧ FewH sh ∧ cs.length = l.length ∧ sh.length ≤ l.length := by
  induction h with
  | nil => exact ⟨h0, fun p hp => by simp at hp, rfl, Nat.le_refl _⟩
  | snoc h hp ih =>
    obtain ⟨i1, i2, i3, i4⟩ := ih
    obtain ⟨j1, j2, j3⟩ := hp.nice
    refine ⟨?_, ?_, by simp [i3], ?_⟩
    · split
      · exact i1
      · exact j1
    · split
      · intro p hp'
        rcases List.mem_append.1 hp' with h1 | h1
        · exact i2 p h1
        · obtain rfl : p = _ := by simpa using h1
          exact ⟨j2, j3.1⟩
      · exact i2
    · split
      · simp; omega
      · simp; omega
/-- What GatherPlay answers. -/
def PlayR (ins : List ByteArray) (fs : List FeedV) (sh : List ShowV) (cs : List Int) : Prop :=
  ∃ nm ok, IsN ins nm ok ∧ ((ok = true ∧ fs.length ≤ 60 ∧ ∃ g, PlayTo (newG nm) fs g sh cs) ∨ ((ok = false ∨ 60 < fs.length) ∧ sh = [] ∧ cs = []))
theorem newG_nice {ins nm : List ByteArray} (h : IsN ins nm true) : NiceG (newG nm) := by
  rcases h with ⟨_, h1, rfl⟩ | ⟨e, _, _⟩
  · refine ⟨h1.2.1, fun j hj => (h1.2.2 j hj).1.2.1, by simp [newG]; exact h1.2.1, fun l hl => ?_, stampP_nil⟩
    obtain rfl : l = [] := by
      have := List.eq_of_mem_replicate (show l ∈ List.replicate _ [] from hl)
      exact this
    exact ⟨by simp, fun j hj => by simp at hj⟩
  · cases e
theorem PlayR.one {ins : List ByteArray} {fs : List FeedV} {sh sh' : List ShowV} {cs cs' : List Int} (h : PlayR ins fs sh cs) (k : PlayR ins fs sh' cs') : sh = sh' ∧ cs = cs' := by
  obtain ⟨nm, ok, h1, h2⟩ := h
  obtain ⟨nm', ok', k1, k2⟩ := k
  obtain ⟨e1, e2⟩ := h1.one k1
  subst e1 e2
  rcases h2 with ⟨rfl, hl, g, h2⟩ | ⟨hn, rfl, rfl⟩
  · rcases k2 with ⟨_, _, g', k2⟩ | ⟨kn, _, _⟩
    · exact (h2.one k2).2
    · rcases kn with e | e
      · cases e
      · omega
  · rcases k2 with ⟨rfl, kl, g', k2⟩ | ⟨_, rfl, rfl⟩
    · rcases hn with e | e
      · cases e
      · omega
    · exact ⟨rfl, rfl⟩
theorem PlayR.few {ins : List ByteArray} {fs : List FeedV} {sh : List ShowV} {cs : List Int} (h : PlayR ins fs sh cs) : FewH sh ∧ cs.length ≤ 60 ∧ sh.length ≤ 60 := by
  obtain ⟨nm, ok, h1, h2⟩ := h
  rcases h2 with ⟨rfl, hl, g, h2⟩ | ⟨hn, rfl, rfl⟩
  · obtain ⟨_, i2, i3, i4⟩ := h2.nice (newG_nice h1)
    exact ⟨i2, by omega, by omega⟩
  · exact ⟨fun p hp => by simp at hp, by simp, by simp⟩

/-- The shows and the codes of an answer lie between two blocks. -/
structure PlyA (w : World) (lo hi : Nat) (sa ca : Option Addr) (L : List ShoY) (cs : List Int) : Prop where
  sh : L = [] ∨ ∃ t, sa = some ⟨t, 0, none⟩ ∧ lo ≤ t ∧ t < hi ∧ HW w lo hi t L ∧ (∀ c, ca = some ⟨c, 0, none⟩ → c ≠ t)
  co : cs = [] ∨ ∃ c, ca = some ⟨c, 0, none⟩ ∧ lo ≤ c ∧ c < hi ∧ NumB w c cs ∧ ∀ p ∈ L, c < p.lo ∨ p.hi ≤ c
theorem PlyA.below {w w' : World} {lo hi : Nat} {sa ca : Option Addr} {L : List ShoY} {cs : List Int} (h : PlyA w lo hi sa ca L cs) (hb : Below w.heap.size w w') : PlyA w' lo hi sa ca L cs := by
  refine ⟨?_, ?_⟩
  · rcases h.sh with e | ⟨t, e, h1, h2, h3, h4⟩
    · exact .inl e
    · exact .inr ⟨t, e, h1, h2, h3.below hb, h4⟩
  · rcases h.co with e | ⟨c, e, h1, h2, h3, h4⟩
    · exact .inl e
    · exact .inr ⟨c, e, h1, h2, h3.below hb, h4⟩
theorem PlyA.span {w w' : World} {lo hi lo' hi' : Nat} {sa ca : Option Addr} {L : List ShoY} {cs : List Int} (h : PlyA w lo hi sa ca L cs) (hs : Span lo' hi' w w') (hd : hi ≤ lo' ∨ hi' ≤ lo) : PlyA w' lo hi sa ca L cs := by
  refine ⟨?_, ?_⟩
  · rcases h.sh with e | ⟨t, e, h1, h2, h3, h4⟩
    · exact .inl e
    · exact .inr ⟨t, e, h1, h2, h3.span hs (by omega) (fun p hp => by have := h3.in_ p hp; have := (h3.at_ p hp).o1; have := (h3.at_ p hp).o2; omega), h4⟩
  · rcases h.co with e | ⟨c, e, h1, h2, h3, h4⟩
    · exact .inl e
    · exact .inr ⟨c, e, h1, h2, h3.span hs (by omega), h4⟩
theorem PlyA.rows {w : World} {lo hi : Nat} {sa ca : Option Addr} {L : List ShoY} {cs : List Int} (h : PlyA w lo hi sa ca L cs) : RowH w sa (L.map (·.sv)) ∧ RowZ w ca cs := by
  refine ⟨?_, ?_⟩
  · rcases h.sh with rfl | ⟨t, rfl, _, _, h3, _⟩
    · exact fun k hk => by simp at hk
    · exact h3.row
  · rcases h.co with rfl | ⟨c, rfl, _, _, h3, _⟩
    · exact fun k hk => absurd hk (Nat.not_lt_zero k)
    · exact h3.row
theorem FewH.y {L : List ShoY} (h : FewH (L.map (·.sv))) : FewY L := fun p hp => h p.sv (List.mem_map.2 ⟨p, hp, rfl⟩)

end Go.Proofs.YtpfhegengmlkmaaGreat
