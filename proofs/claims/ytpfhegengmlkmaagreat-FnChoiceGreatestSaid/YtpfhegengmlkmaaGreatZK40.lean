/- Texts of this claim, one behind the other. -/
import Derived.Test.YtpfhegengmlkmaaGreatZK17
import Derived.Test.YtpfhegengmlkmaaGreatZK19
import Derived.Test.YtpfhegengmlkmaaGreatZK21
import Derived.Test.YtpfhegengmlkmaaGreatZK22
import Derived.Test.YtpfhegengmlkmaaGreatZK39
namespace Go.Proofs.YtpfhegengmlkmaaGreat
open Go.RowKit Go.BigFrame
set_option maxRecDepth 100000

/-- How many choices agree. -/
def CntP (ws : List (List ItemL)) (n : Nat) : Prop := (OkW ws ∧ n = (foundL ws ws.length []).length) ∨ (¬ OkW ws ∧ n = 0)
theorem CntP.one {ws : List (List ItemL)} {n m : Nat} (h : CntP ws n) (k : CntP ws m) : n = m := by
  rcases h with ⟨h1, rfl⟩ | ⟨h1, rfl⟩
  · rcases k with ⟨_, rfl⟩ | ⟨k1, _⟩
    · rfl
    · exact absurd h1 k1
  · rcases k with ⟨k1, _⟩ | ⟨_, rfl⟩
    · exact absurd k1 h1
    · rfl

end Go.Proofs.YtpfhegengmlkmaaGreat

namespace Go.Proofs.YtpfhegengmlkmaaGreat
open Go.RowKit Go.BigFrame
set_option maxRecDepth 100000

/-- A choice is counted just where there is a greatest. -/
theorem cnt_ok {ws : List (List ItemL)} {n : Nat} {out : List Int} {ok : Bool} (h : CntP ws n) (k : BestP ws out ok) : (ok = true ↔ 0 < n) := by
  rcases h with ⟨hok, rfl⟩ | ⟨hno, rfl⟩
  · rcases k with ⟨rfl, hc, _⟩ | ⟨rfl, _, hn⟩
    · have := (chP_iff.1 hc).2
      exact ⟨fun _ => List.length_pos_of_mem this, fun _ => rfl⟩
    · refine ⟨(fun e => by cases e), fun hp => ?_⟩
      obtain ⟨q, hq⟩ := List.exists_mem_of_length_pos hp
      exact absurd (chP_iff.2 ⟨hok, hq⟩) (hn q)
  · rcases k with ⟨rfl, hc, _⟩ | ⟨rfl, _, _⟩
    · exact absurd hc.1 hno
    · simp
/-- What DrawChoiceBest answers. -/
def CbE (w' : World) (e : Ending) : Prop := ∃ (ws : List (List ItemL)) (a : Option Addr) (cp : Nat), e = .returned (.slice a ws.length cp) ∧ ws.length ≤ 12 ∧ FewW ws ∧ RowW w' a ws

set_option maxHeartbeats 6400000 in
theorem drawCB_any (ab : Option Addr) (n c : Nat) (w : World) (h : Bytes w ab n c) :
    Calls Tryz.prog 5 #[.slice ab n c] w fun e w' => CbE w' e ∧ Below w.heap.size w w' := by
  go_enter Tryz.func5, Tryz.ntmps5
  go_wp2_with fail
  refine (l1Open_any ab n c w h).mono ?_
  rintro e w1 ⟨⟨m, rfl, hr1⟩, hb1⟩
  obtain ⟨rB, hrB⟩ : ∃ rB, rB = w.heap.size := ⟨_, rfl⟩
  have hrBw : w.heap.size ≤ rB := Nat.le_of_eq hrB.symm
  have Bl1 := hb1
  rw [← hrB] at hr1 ⊢
  clear h hrB hb1
  go_wp2_with fail
  refine (l6Wins_any rB m c 0 ab w1 hr1 (by omega)).mono ?_
  rintro e w2 ⟨hE, hb2⟩
  obtain ⟨W, a, cp, p2, rfl, hW12, hWc, hfew, hrow, hr2, hp2⟩ := hE
  have hWl : W.length = (W.map (·.l)).length := by simp
  rw [hWl] at hW12 ⊢
  have HX : Hid (CbE w2 (.returned (.slice a (W.map (·.l)).length cp)) ∧ Below w.heap.size w w2) := ⟨⟨W.map (·.l), a, cp, rfl, hW12, hfew, hrow w2 (Span.refl _ _ _)⟩, Bl1.trans (hb2.below hrBw Bl1.size)⟩
  clear hWl hr1 hb2 Bl1 hrow hr2 hfew
  generalize W.map (·.l) = ws at *
  go_wp2_with fail
  go_ret
  exact HX.out

end Go.Proofs.YtpfhegengmlkmaaGreat

namespace Go.Proofs.YtpfhegengmlkmaaGreat

theorem above_chain {l : List ItemL} (h : WinP l) {x : Int} {m : List (ByteArray × Int)} (ht : TakeP l m) : ∀ j, (hj : j + 1 < (l ++ [(x, m)]).length) → AboveP (l ++ [(x, m)])[j].2 (l ++ [(x, m)])[j + 1].2 := fun j hj => by
  rw [List.length_append, List.length_singleton] at hj
  by_cases e : j + 1 < l.length
  · rw [List.getElem_append_left (by omega), List.getElem_append_left e]
    exact h.2.2 j e
  · obtain rfl : j = l.length - 1 := by omega
    rw [List.getElem_append_left (by omega), List.getElem_append_right (by omega)]
    simp only [List.getElem_singleton]
    exact ht (by omega)
theorem win_put {l : List ItemL} (h : WinP l) {x : Int} {m : List (ByteArray × Int)} (hm : StampP m ∧ m ≠ []) (ht : TakeP l m) : WinP (putL l (x, m)) := by
  have h4 := h.1
  have hs : ∀ j, (hj : j < (l ++ [(x, m)]).length) → StampP (l ++ [(x, m)])[j].2 ∧ (l ++ [(x, m)])[j].2 ≠ [] := fun j hj => by
    by_cases e : j < l.length
    · rw [List.getElem_append_left e]; exact h.2.1 j e
    · rw [List.getElem_append_right (by omega)]
      simp only [List.getElem_singleton]
      exact hm
  have hc := above_chain h (x := x) ht
  unfold putL
  split
  · exact ⟨by simp; omega, hs, hc⟩
  · rename_i hf
    have e : l.tail ++ [(x, m)] = (l ++ [(x, m)]).tail := by cases l with
      | nil => simp at hf
      | cons y t => rfl
    rw [e]
    refine ⟨by simp; omega, fun j hj => ?_, fun j hj => ?_⟩
    · rw [List.getElem_tail]; exact hs _ _
    · simp only [List.getElem_tail]; exact hc (j + 1) (by simp at hj ⊢; omega)
end Go.Proofs.YtpfhegengmlkmaaGreat

namespace Go.Proofs.YtpfhegengmlkmaaGreat
open Go.RowKit

theorem GatP.put {g : GatL} (h : GatP g) (k : Nat) {r : List ItemL} (hr : WinP r) {sh : List (ByteArray × Int)} (hs : StampP sh) : GatP ⟨g.ins, g.wins.set k r, sh⟩ := by
  refine ⟨h.ins, by simpa using h.len, ⟨by simpa using h.wins.1, by simpa using h.wins.2.1, fun j hj => ?_⟩, hs⟩
  simp only [List.length_set] at hj
  simp only [List.getElem_set]
  split
  · exact hr
  · exact h.wins.2.2 j hj
theorem isP_win {l r : List ItemL} {x : Int} {m : List (ByteArray × Int)} (h : IsP l x m r 0) : WinP r := by
  by_cases hp : WinP l ∧ StampP m ∧ m ≠ []
  · by_cases ht : TakeP l m
    · obtain ⟨rfl, _⟩ := h.2.2 hp ht
      exact win_put hp.1 hp.2 ht
    · have := (h.2.1 hp ht).2; omega
  · have := (h.1 hp).2; omega
end Go.Proofs.YtpfhegengmlkmaaGreat

namespace Go.Proofs.YtpfhegengmlkmaaGreat

/-- The greatest of the first k numbers, 0 at least. -/
def topG (f : Nat → Int) : Nat → Int
  | 0 => 0
  | k + 1 => max (topG f k) (f k)
theorem topG_mono {f g : Nat → Int} : ∀ {k : Nat}, (∀ i, i < k → f i ≤ g i) → topG f k ≤ topG g k
  | 0, _ => Int.le_refl _
  | k + 1, h => by
    have h1 := topG_mono (k := k) fun i hi => h i (by omega)
    have h2 := h k (by omega)
    simp only [topG]; omega
theorem topG_ge {f : Nat → Int} : ∀ {k i : Nat}, i < k → f i ≤ topG f k
  | k + 1, i, h => by
    simp only [topG]
    by_cases e : i = k
    · subst e; omega
    · have := topG_ge (f := f) (k := k) (i := i) (by omega); omega
theorem topG_pos {f : Nat → Int} : ∀ {k : Nat}, 0 < topG f k → ∃ i, i < k ∧ 0 < f i
  | 0, h => by simp [topG] at h
  | k + 1, h => by
    simp only [topG] at h
    by_cases e : 0 < f k
    · exact ⟨k, by omega, e⟩
    · obtain ⟨i, hi, h1⟩ := topG_pos (k := k) (f := f) (by omega)
      exact ⟨i, by omega, h1⟩
theorem joins_get {ws : List (List ItemL)} {ps : List Int} : ∀ {k : Nat} {m : List (ByteArray × Int)}, JoinsTo ws ps k m → ∀ s, getM m s = topG (fun i => getM (pkM ws ps i) s) k
  | 0, m, h, s => by rw [show m = [] from h]; simp [getM, topG]
  | k + 1, m, ⟨q, h1, h2⟩, s => by
    rw [h2.fits.2.2.1.2 s, joins_get h1 s]
    rfl
theorem ch_stamp {ws : List (List ItemL)} {ps : List Int} (hc : ChP ws ps) {i : Nat} (hi : i < ws.length) : StampP (pkM ws ps i) := by
  obtain ⟨q, e⟩ := pk_eq hc.2.2.1 (i := i) (by rw [hc.2.1]; exact hi) hi
  rw [e]
  exact ((hc.1.2.2 i hi).2.1 _ q).1
end Go.Proofs.YtpfhegengmlkmaaGreat

namespace Go.Proofs.YtpfhegengmlkmaaGreat
open Go.RowKit

/-- A stamp of a window, or of what it has forgotten. -/
def OldP (l : List ItemL) (a : List (ByteArray × Int)) : Prop :=
  ∃ h0 : 0 < l.length, namesM a = namesM (l[0]).2 ∧ ((∃ k, ∃ hk : k < l.length, a = (l[k]).2) ∨ ∀ s, getM a s ≤ getM (l[0]).2 s)
/-- What was shown is the join of stamps that agree, one of each window or of what it has forgotten. -/
structure HistP (ws : List (List ItemL)) (sh : List (ByteArray × Int)) (av : Nat → List (ByteArray × Int)) : Prop where
  st : ∀ i, i < ws.length → StampP (av i)
  win : ∀ i, (h : i < ws.length) → OldP ws[i] (av i)
  ag : ∀ i k, k < i → i < ws.length → AgreeP (av i) (av k)
  top : ∀ s, getM sh s = topG (fun i => getM (av i) s) ws.length
/-- No choice that agrees is joined to more than that. -/
def CovP (ws : List (List ItemL)) (sh : List (ByteArray × Int)) : Prop := ∀ ps j, IsCJ ws ps j true → ∀ s, getM j s ≤ getM sh s
structure TopP (g : GatL) : Prop where
  gat : GatP g
  hist : g.shown = [] ∨ ∃ av, HistP g.wins g.shown av
  cov : CovP g.wins g.shown

theorem later_two {A A' B B' : List (ByteArray × Int)} (hA : StampP A) (hA' : StampP A') (hB : StampP B) (hB' : StampP B') (nA : ∀ s, 0 < getM A s ↔ 0 < getM A' s) (nB : ∀ s, 0 < getM B s ↔ 0 < getM B' s)
    (h : AgreeP A B) (h' : AgreeP A' B') (c1 : ∀ s, getM A' s ≤ getM A s) (c2 : ∀ s, getM B s ≤ getM B' s) : AgreeP A B' := by
  rw [agree_get hA hB']
  rw [agree_get hA hB] at h
  rw [agree_get hA' hB'] at h'
  intro s p1 p2
  have e1 := h s p1 ((nB s).2 p2)
  have e2 := h' s ((nA s).1 p1) p2
  have l1 := c1 s
  have l2 := c2 s
  omega
theorem old_place {l : List ItemL} {a : List (ByteArray × Int)} (h : OldP l a) : ∃ k, ∃ hk : k < l.length, (∀ s, getM a s ≤ getM (l[k]).2 s) ∧ (a = (l[k]).2 ∨ k = 0) := by
  obtain ⟨h0, _, ⟨k, hk, e⟩ | h⟩ := h
  · exact ⟨k, hk, fun s => by rw [e]; exact Int.le_refl _, .inl e⟩
  · exact ⟨0, h0, h, .inr rfl⟩
theorem old_same {l : List ItemL} (hw : WinP l) {a : List (ByteArray × Int)} (ha : StampP a) (h : OldP l a) {k : Nat} (hk : k < l.length) (s : ByteArray) : 0 < getM a s ↔ 0 < getM (l[k]).2 s := by
  obtain ⟨h0, hn, _⟩ := h
  exact (names_get ha (hw.2.1 0 h0).1 hn s).trans (hw.same h0 hk s)
/-- The greatest choice never falls, though windows forget. -/
theorem best_above {ws : List (List ItemL)} {out : List Int} {sh : List (ByteArray × Int)} {av : Nat → List (ByteArray × Int)} (hb : BestP ws out true) (hh : HistP ws sh av) : ∀ i, i < ws.length → ∀ s, getM (av i) s ≤ getM (pkM ws out i) s := by
  have hc := best_in hb
  have hbest : ∀ q, ChP ws q → ∀ i, (hq : i < q.length) → (ho : i < out.length) → q[i] ≤ out[i] := by
    rcases hb with ⟨_, _, h⟩ | ⟨e, _⟩
    · exact h
    · cases e
  obtain ⟨hok, hlen, hin, hag⟩ := hc
  obtain ⟨kf, hkf⟩ : ∃ kf : Nat → Nat, ∀ i, (h : i < ws.length) → ∃ hk : kf i < ws[i].length, (∀ s, getM (av i) s ≤ getM (ws[i][kf i]).2 s) ∧ (av i = (ws[i][kf i]).2 ∨ kf i = 0) := by
    refine Classical.axiomOfChoice (r := fun i k => ∀ h : i < ws.length, ∃ hk : k < ws[i].length, (∀ s, getM (av i) s ≤ getM (ws[i][k]).2 s) ∧ (av i = (ws[i][k]).2 ∨ k = 0)) fun i => ?_
    by_cases h : i < ws.length
    · obtain ⟨k, h1⟩ := old_place (hh.win i h)
      exact ⟨k, fun _ => h1⟩
    · exact ⟨0, fun h' => absurd h' h⟩
  obtain ⟨q, hql, hqi⟩ : ∃ q : List Int, ∃ hql : q.length = ws.length, ∀ i, (h : i < ws.length) → q[i]'(by rw [hql]; exact h) = max (kf i : Int) (out[i]'(by omega)) := by
    refine ⟨(List.range ws.length).map fun i => max (kf i : Int) (out.getD i 0), by simp, fun i h => ?_⟩
    have h' : i < out.length := by omega
    simp [List.getD, h']
  have hqin : InW ws q := ⟨by omega, fun i hi => by
    have hi' : i < ws.length := by omega
    have e : ws.getD i [] = ws[i] := by simp [List.getD, hi']
    rw [hqi i hi', e]
    obtain ⟨hk, _⟩ := hkf i hi'
    have h2 := hin.2 i (by omega)
    rw [e] at h2
    omega⟩
  have hpick : ∀ i, i < ws.length → (pkM ws q i = pkM ws out i ∧ ∀ s, getM (av i) s ≤ getM (pkM ws out i) s) ∨ (pkM ws q i = av i ∧ ∀ s, getM (pkM ws out i) s ≤ getM (av i) s) := fun i hi => by
    obtain ⟨p1, e1⟩ := pk_eq hqin (i := i) (by omega) hi
    obtain ⟨p2, e2⟩ := pk_eq hin (i := i) (by omega) hi
    obtain ⟨hk, hle, hor⟩ := hkf i hi
    have hq := hqi i hi
    have h2 := (hin.2 i (by omega)).1
    by_cases hlt : kf i ≤ (out[i]'(by omega)).toNat
    · left
      have e3 : (q[i]'(by omega)).toNat = (out[i]'(by omega)).toNat := by rw [hq]; omega
      refine ⟨by rw [e1, e2]; simp only [e3], fun s => ?_⟩
      rw [e2]
      exact Int.le_trans (hle s) ((hok.2.2 i hi).le hlt p2 s)
    · right
      have e3 : (q[i]'(by omega)).toNat = kf i := by rw [hq]; omega
      have e4 : av i = (ws[i][kf i]).2 := by
        rcases hor with h | h
        · exact h
        · omega
      refine ⟨by rw [e1, e4]; simp only [e3], fun s => ?_⟩
      rw [e2, e4]
      exact (hok.2.2 i hi).le (by omega) hk s
  have hst : ∀ i, i < ws.length → StampP (pkM ws out i) := fun i hi => ch_stamp ⟨hok, hlen, hin, hag⟩ hi
  have hsame : ∀ i, i < ws.length → ∀ s, 0 < getM (av i) s ↔ 0 < getM (pkM ws out i) s := fun i hi s => by
    obtain ⟨p2, e2⟩ := pk_eq hin (i := i) (by omega) hi
    rw [e2]
    exact old_same (hok.2.2 i hi) (hh.st i hi) (hh.win i hi) p2 s
  have hqc : ChP ws q := ⟨hok, hql, hqin, fun i k hk hi => by
    have hi' : i < ws.length := by omega
    have hk' : k < ws.length := by omega
    have A := hh.ag i k hk hi'
    have B := hag i k hk (by omega)
    rcases hpick i hi' with ⟨e1, c1⟩ | ⟨e1, c1⟩ <;> rcases hpick k hk' with ⟨e2, c2⟩ | ⟨e2, c2⟩
    · rw [e1, e2]; exact B
    · rw [e1, e2]
      exact later_two (hst i hi') (hh.st i hi') (hst k hk') (hh.st k hk') (fun s => (hsame i hi' s).symm) (fun s => (hsame k hk' s).symm) B A c1 c2
    · rw [e1, e2]
      exact later_two (hh.st i hi') (hst i hi') (hh.st k hk') (hst k hk') (hsame i hi') (hsame k hk') A B c1 c2
    · rw [e1, e2]; exact A⟩
  intro i hi s
  have hle := hbest q hqc i (by omega) (by omega)
  rw [hqi i hi] at hle
  obtain ⟨p2, e2⟩ := pk_eq hin (i := i) (by omega) hi
  obtain ⟨hk, hk1, _⟩ := hkf i hi
  have h2 := (hin.2 i (by omega)).1
  rw [e2]
  exact Int.le_trans (hk1 s) ((hok.2.2 i hi).le (by omega) p2 s)
/-- Every choice that agrees is below the greatest. -/
theorem choice_below {ws : List (List ItemL)} {out ps : List Int} (hb : BestP ws out true) (hc : ChP ws ps) : ∀ i, i < ws.length → ∀ s, getM (pkM ws ps i) s ≤ getM (pkM ws out i) s := by
  have ho := best_in hb
  have hbest : ∀ q, ChP ws q → ∀ i, (hq : i < q.length) → (ho : i < out.length) → q[i] ≤ out[i] := by
    rcases hb with ⟨_, _, h⟩ | ⟨e, _⟩
    · exact h
    · cases e
  intro i hi s
  have l1 := hc.2.1
  have l2 := ho.2.1
  obtain ⟨p1, e1⟩ := pk_eq hc.2.2.1 (i := i) (by omega) hi
  obtain ⟨p2, e2⟩ := pk_eq ho.2.2.1 (i := i) (by omega) hi
  have hle := hbest ps hc i (by omega) (by omega)
  rw [e1, e2]
  exact (hc.1.2.2 i hi).le (by omega) p2 s
theorem isCJ_parts {ws : List (List ItemL)} {ps : List Int} {j : List (ByteArray × Int)} (h : IsCJ ws ps j true) : ChP ws ps ∧ JoinsTo ws ps ps.length j := by
  rcases h with ⟨_, h1, h2⟩ | ⟨e, _⟩
  · exact ⟨h1, h2⟩
  · cases e
/-- What is joined to is below what the greatest choice is joined to. -/
theorem join_below {ws : List (List ItemL)} {out ps : List Int} {j b : List (ByteArray × Int)} (hb : BestP ws out true) (hj : IsCJ ws ps j true) (hB : IsCJ ws out b true) (s : ByteArray) : getM j s ≤ getM b s := by
  obtain ⟨c1, j1⟩ := isCJ_parts hj
  obtain ⟨c2, j2⟩ := isCJ_parts hB
  rw [joins_get j1, joins_get j2, c1.2.1, c2.2.1]
  exact topG_mono fun i hi => choice_below hb c1 i hi s
/-- Where the greatest choice has too many sources every one has. -/
theorem full_all {ws : List (List ItemL)} {out ps : List Int} {j b : List (ByteArray × Int)} (hb : BestP ws out true) (hB : IsCJ ws out b false) (hj : IsCJ ws ps j true) : False := by
  obtain ⟨c1, j1⟩ := isCJ_parts hj
  have c2 := best_in hb
  rcases hB with ⟨e, _⟩ | ⟨_, _, h | ⟨k, q, m, hk, h1, h2⟩⟩
  · cases e
  · exact h c2
  · have hkw : k < ws.length := by have := c2.2.1; omega
    obtain ⟨q', r, k1, k2⟩ := j1.pre k (by rw [c1.2.1]; exact hkw)
    obtain ⟨_, _, k3, k4⟩ := k2.fits
    have hjt : JoinsTo ws ps (k + 1) r := ⟨q', k1, k2⟩
    rcases h2 with ⟨h3, _⟩ | ⟨h3, h4, o, h5, ⟨_, _, e⟩ | ⟨h6, _, _⟩⟩
    · exact h3 ⟨h1.stamp, ch_stamp c2 hkw⟩
    · cases e
    · have hlen := sorted_len h5.1 (stamp_sorted k4) (fun s hs => by
        have e1 : getM o s = topG (fun i => getM (pkM ws out i) s) (k + 1) := by rw [h5.2 s, joins_get h1 s]; rfl
        rw [e1] at hs
        obtain ⟨i, hi, hp⟩ := topG_pos hs
        have hiw : i < ws.length := by omega
        obtain ⟨p1, e2⟩ := pk_eq c2.2.2.1 (i := i) (by rw [c2.2.1]; exact hiw) hiw
        obtain ⟨p2, e3⟩ := pk_eq c1.2.2.1 (i := i) (by rw [c1.2.1]; exact hiw) hiw
        have hp' : 0 < getM (pkM ws ps i) s := by
          rw [e3]
          rw [e2] at hp
          exact ((c1.1.2.2 i hiw).same p1 p2 s).1 hp
        rw [joins_get hjt s]
        exact Int.lt_of_lt_of_le hp' (topG_ge (f := fun i => getM (pkM ws ps i) s) hi))
      have := k4.1
      omega

theorem old_put {l : List ItemL} (hw : WinP l) {a : List (ByteArray × Int)} (h : OldP l a) {x : Int} {m : List (ByteArray × Int)} : OldP (putL l (x, m)) a := by
  obtain ⟨h0, hn, ho⟩ := h
  by_cases h4 : l.length < 4
  · rw [putL_room h4]
    have e0 : (l ++ [(x, m)])[0]'(by simp) = l[0] := List.getElem_append_left h0
    refine ⟨by simp, by rw [e0]; exact hn, ?_⟩
    rcases ho with ⟨k, hk, e⟩ | h
    · exact .inl ⟨k, by simp; omega, by rw [List.getElem_append_left hk]; exact e⟩
    · exact .inr fun s => by rw [e0]; exact h s
  · rw [putL_full h4]
    have h1 : 1 < l.length := by omega
    have e0 : (l.tail ++ [(x, m)])[0]'(by simp) = l[1] := by
      rw [List.getElem_append_left (by simp; omega), List.getElem_tail]
    have hn1 : namesM (l[0]).2 = namesM (l[1]).2 := hw.names 1 0 (by omega)
    refine ⟨by simp, by rw [e0, hn, hn1], ?_⟩
    rcases ho with ⟨k, hk, e⟩ | h
    · by_cases hk0 : k = 0
      · subst hk0
        right
        intro s
        rw [e0, e]
        exact hw.le (Nat.zero_le 1) h1 s
      · left
        refine ⟨k - 1, by simp; omega, ?_⟩
        rw [List.getElem_append_left (by simp; omega), List.getElem_tail, e]
        congr 2
        omega
    · right
      intro s
      rw [e0]
      exact Int.le_trans (h s) (hw.le (Nat.zero_le 1) h1 s)
theorem HistP.put {ws : List (List ItemL)} {sh : List (ByteArray × Int)} {av : Nat → List (ByteArray × Int)} (h : HistP ws sh av) (hok : OkW ws) {k : Nat} {x : Int} {m : List (ByteArray × Int)} {r : List ItemL} (hP : IsP (ws.getD k []) x m r 0) : HistP (ws.set k r) sh av := by
  refine ⟨fun i hi => h.st i (by simpa using hi), fun i hi => ?_, fun i j hj hi => h.ag i j hj (by simpa using hi), fun s => by rw [h.top s, List.length_set]⟩
  have hi' : i < ws.length := by simpa using hi
  by_cases e : k = i
  · subst e
    have e1 : ws.getD k [] = ws[k] := by simp [List.getD, hi']
    rw [e1] at hP
    have hr : r = putL ws[k] (x, m) := by
      by_cases hp : WinP ws[k] ∧ StampP m ∧ m ≠ []
      · by_cases ht : TakeP ws[k] m
        · exact (hP.2.2 hp ht).1
        · have := (hP.2.1 hp ht).2; omega
      · have := (hP.1 hp).2; omega
    have e2 : (ws.set k r)[k]'hi = r := by simp
    rw [e2, hr]
    exact old_put (hok.2.2 k hi') (h.win k hi')
  · have e2 : (ws.set k r)[i]'hi = ws[i] := by simp [e]
    rw [e2]
    exact h.win i hi'
theorem below_get {a b : List (ByteArray × Int)} (ha : StampP a) (hb : StampP b) : BelowP a b ↔ ∀ s, getM a s ≤ getM b s := belowP_iff (stamp_sorted ha) (stamp_sorted hb)
/-- A feed that is taken keeps the promise; what is shown is made of one item of each window, and is above what was shown. -/
theorem PutG.top {g g1 : GatL} {i x c : Int} {m ss : List (ByteArray × Int)} {sv : List Int} (h : PutG g i x m g1 sv ss c) (hc : c ≠ 2) (hI : TopP g) :
    TopP g1 ∧ (c = 1 → ∃ out, ChP g1.wins out ∧ sv = valsM g1.wins out ∧ JoinsTo g1.wins out out.length ss ∧ g1.shown = ss ∧ IsOrd g.shown ss 1) := by
  rcases h with ⟨_, _, _, _, e⟩ | ⟨hIn, r, cc, hP, h⟩
  · exact absurd e hc
  · rcases h with ⟨_, _, _, _, e⟩ | ⟨_, rfl, _, _, rfl⟩ | ⟨rfl, sh, hC, rfl⟩
    · exact absurd e hc
    · exact ⟨hI, fun e => by omega⟩
    · have hgat : GatP ⟨g.ins, g.wins.set i.toNat r, sh⟩ := hIn.1.put _ (isP_win hP) (hC.nice hIn.1.shown).1
      have hh : g.shown = [] ∨ ∃ av, HistP (g.wins.set i.toNat r) g.shown av := hI.hist.imp id fun ⟨av, h⟩ => ⟨av, h.put hI.gat.wins hP⟩
      obtain ⟨out, ok, hb, hC⟩ := hC
      rcases hC with ⟨rfl, rfl, rfl, rfl, rfl⟩ | ⟨rfl, j, okj, hJ, hC⟩
      · refine ⟨⟨hgat, hh, fun ps j hj => ?_⟩, fun e => by omega⟩
        rcases hb with ⟨e, _⟩ | ⟨_, _, hno⟩
        · cases e
        · exact absurd (isCJ_parts hj).1 (hno ps)
      · rcases hC with ⟨rfl, rfl, rfl, rfl, rfl⟩ | ⟨rfl, o, ho, hC⟩
        · exact ⟨⟨hgat, hh, fun ps q hq => (full_all hb hJ hq).elim⟩, fun e => by omega⟩
        · have hsj := hJ.stamp
          have hss := hI.gat.shown
          have hup : ∀ s, getM g.shown s ≤ getM j s := fun s => by
            rcases hh with e | ⟨av, hh⟩
            · rw [e]; exact getM_nonneg (stamp_sorted hsj)
            · obtain ⟨c2, j2⟩ := isCJ_parts hJ
              rw [hh.top s, joins_get j2 s, c2.2.1]
              exact topG_mono fun k hk => best_above hb hh k hk s
          rcases hC with ⟨h1, rfl, rfl, rfl, rfl⟩ | ⟨rfl, rfl, rfl, rfl, rfl⟩
          · have hdown : ∀ s, getM j s ≤ getM g.shown s := by
              rw [← below_get hsj hss]
              exact Classical.byContradiction fun hn => h1 ((ord_less ho).2 ⟨hss, hsj, (below_get hss hsj).2 hup, hn⟩)
            exact ⟨⟨hgat, hh, fun ps q hq s => Int.le_trans (join_below hb hq hJ s) (hdown s)⟩, fun e => by omega⟩
          · obtain ⟨c2, j2⟩ := isCJ_parts hJ
            refine ⟨⟨hgat, .inr ⟨fun k => pkM (g.wins.set i.toNat r) out k, fun k hk => ch_stamp c2 hk, fun k hk => ?_, fun a b hb' ha => c2.2.2.2 a b hb' (by rw [c2.2.1]; exact ha), fun s => ?_⟩, fun ps q hq s => join_below hb hq hJ s⟩, fun _ => ⟨out, c2, rfl, j2, rfl, ho⟩⟩
            · obtain ⟨p1, e1⟩ := pk_eq c2.2.2.1 (i := k) (by rw [c2.2.1]; exact hk) hk
              have hw := c2.1.2.2 k hk
              refine ⟨Nat.lt_of_le_of_lt (Nat.zero_le _) p1, ?_, .inl ⟨_, p1, e1⟩⟩
              have := hw.names _ 0 (show 0 + _ < _ by rw [Nat.zero_add]; exact p1)
              simp only [Nat.zero_add] at this
              show namesM (pkM (g.wins.set i.toNat r) out k) = _
              rw [e1, ← this]
            · show getM _ s = topG _ _
              rw [joins_get j2 s, c2.2.1]

end Go.Proofs.YtpfhegengmlkmaaGreat

namespace Go.Proofs.YtpfhegengmlkmaaGreat

/-- What a choice counts for, the first window the quickest. -/
def radV : List Nat → List Int → Nat
  | n :: ns, p :: ps => p.toNat + n * radV ns ps
  | _, _ => 0
/-- How many there are. -/
def radC : List Nat → Nat
  | [] => 1
  | n :: ns => n * radC ns
/-- The places are there. -/
def InR (ns : List Nat) (ps : List Int) : Prop := ps.length = ns.length ∧ ∀ i, (h : i < ps.length) → (h' : i < ns.length) → 0 ≤ ps[i] ∧ ps[i] < (ns[i] : Int)
theorem InR.tail {n : Nat} {ns : List Nat} {p : Int} {ps : List Int} (h : InR (n :: ns) (p :: ps)) : InR ns ps := ⟨by simpa using h.1, fun i h1 h2 => by
  have := h.2 (i + 1) (by simpa using h1) (by simpa using h2)
  simpa using this⟩
theorem InR.head {n : Nat} {ns : List Nat} {p : Int} {ps : List Int} (h : InR (n :: ns) (p :: ps)) : 0 ≤ p ∧ p < (n : Int) := by
  have := h.2 0 (by simp) (by simp)
  simpa using this
theorem InR.cons {n : Nat} {ns : List Nat} {p : Int} {ps : List Int} (h0 : 0 ≤ p) (h1 : p < (n : Int)) (h : InR ns ps) : InR (n :: ns) (p :: ps) := ⟨by simpa using h.1, fun i h2 h3 => by
  cases i with
  | zero => simpa using ⟨h0, h1⟩
  | succ i => simpa using h.2 i (by simpa using h2) (by simpa using h3)⟩
theorem radV_lt : ∀ {ns : List Nat} {ps : List Int}, InR ns ps → radV ns ps < radC ns
  | [], [], _ => by simp [radV, radC]
  | [], p :: ps, h => by have := h.1; simp at this
  | n :: ns, [], h => by have := h.1; simp at this
  | n :: ns, p :: ps, h => by
    have h1 := h.head
    have h2 := radV_lt h.tail
    simp only [radV, radC]
    have h3 : n * (radV ns ps + 1) ≤ n * radC ns := Nat.mul_le_mul_left n h2
    rw [Nat.mul_add] at h3
    omega
/-- The choice behind one. -/
theorem rad_next : ∀ {ns : List Nat} {ps : List Int} (k : Nat) (hk : k < ps.length) (hk' : k < ns.length), InR ns ps → (∀ j, (h : j < ps.length) → (h' : j < ns.length) → j < k → (ns[j] : Int) ≤ ps[j] + 1) → ps[k] + 1 < (ns[k] : Int) →
    InR ns (List.replicate k 0 ++ (ps[k] + 1) :: ps.drop (k + 1)) ∧ radV ns (List.replicate k 0 ++ (ps[k] + 1) :: ps.drop (k + 1)) = radV ns ps + 1
  | [], _, k, _, hk', _, _, _ => by simp at hk'
  | n :: ns, [], k, hk, _, _, _, _ => by simp at hk
  | n :: ns, p :: ps, 0, _, _, hI, _, hlt => by
    have h1 := hI.head
    simp only [List.getElem_cons_zero] at hlt
    refine ⟨by simpa using InR.cons (by omega) hlt hI.tail, ?_⟩
    simp only [List.replicate_zero, List.nil_append, List.getElem_cons_zero, List.drop_succ_cons, List.drop_zero, radV]
    omega
  | n :: ns, p :: ps, k + 1, hk, hk', hI, hall, hlt => by
    have h1 := hI.head
    have h0 := hall 0 (by simp) (by simp) (by omega)
    simp only [List.getElem_cons_zero] at h0
    have ih := rad_next (ns := ns) (ps := ps) k (by simpa using hk) (by simpa using hk') hI.tail (fun j a b c => by
      have := hall (j + 1) (by simpa using a) (by simpa using b) (by omega)
      simpa using this) (by simpa using hlt)
    refine ⟨by simpa [List.replicate_succ] using InR.cons (Int.le_refl 0) (by omega) ih.1, ?_⟩
    have e : List.replicate (k + 1) (0 : Int) ++ ((p :: ps)[k + 1] + 1) :: (p :: ps).drop (k + 1 + 1) = 0 :: (List.replicate k 0 ++ (ps[k]'(by simpa using hk) + 1) :: ps.drop (k + 1)) := by
      simp [List.replicate_succ]
    rw [e]
    simp only [radV, ih.2, Nat.mul_add]
    omega

end Go.Proofs.YtpfhegengmlkmaaGreat
