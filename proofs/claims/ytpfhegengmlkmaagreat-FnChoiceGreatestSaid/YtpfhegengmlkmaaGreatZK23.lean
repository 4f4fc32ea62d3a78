/- Texts of this claim, one behind the other. -/
import Derived.OrdersHeld
import Derived.WalkKit
import Derived.LaidEql
import Derived.Stop.Asserts
import Derived.RowKitTokens
import Derived.Test.YtpfhegengmlkmaaGreatZK1
import Derived.Test.YtpfhegengmlkmaaGreatZK17
import Derived.Test.YtpfhegengmlkmaaGreatZK19
import Derived.Test.YtpfhegengmlkmaaGreatZK22
namespace Go.Proofs.YtpfhegengmlkmaaGreat
open Go.RowKit

/-- What operation i waits for. -/
def waits (ops : Array Oper) (i : Nat) : List Nat := match ops[i]? with
  | none => []
  | some o => (o.after.toList.filter (Region.binds .any)).map (·.on)
/-- Each waits for earlier ones alone. -/
def earlier (ops : Array Oper) : Bool := (List.range ops.size).all fun i => (waits ops i).all fun j => decide (j < i)

theorem mem_ready {ops : Array Oper} {listed : Array Bool} {i : Nat} : i ∈ Region.ready .any ops listed ↔ i < ops.size ∧ listed.getD i true = false ∧ ∀ j ∈ waits ops i, listed.getD j false = true := by
  unfold Region.ready waits
  rw [List.mem_filter, List.mem_range]
  refine and_congr_right fun hi => ?_
  rw [Array.getElem?_eq_getElem hi]
  simp only [Option.map_some, Option.getD_some, Bool.and_eq_true, Bool.not_eq_true', List.mem_map, List.mem_filter]
  refine and_congr_right fun _ => ?_
  rw [Array.all_eq_true']
  constructor
  · rintro h j ⟨e, ⟨he, hb⟩, rfl⟩
    have := h e (by simpa using he)
    simpa [hb] using this
  · intro h e he
    by_cases hb : Region.binds .any e = true
    · simpa [hb] using h e.on ⟨e, ⟨by simpa using he, hb⟩, rfl⟩
    · simp [hb]

/-- f, and operation i done. -/
def andDone (f : Nat → Bool) (i : Nat) : Nat → Bool := fun k => if k = i then true else f k
theorem andDone_other (f : Nat → Bool) {i k : Nat} (h : k ≠ i) : andDone f i k = f k := if_neg h
/-- How many are still to come. -/
def toCome (n : Nat) (f : Nat → Bool) : Nat := ((List.range n).filter fun k => !f k).length
theorem toCome_step {n i : Nat} {f : Nat → Bool} (hi : i < n) (h : f i = false) : toCome n (andDone f i) < toCome n f := by
  unfold toCome
  have e : ((List.range n).filter fun k => !andDone f i k) = ((List.range n).filter fun k => !f k).filter fun k => decide (k ≠ i) := by
    rw [List.filter_filter]
    refine List.filter_congr fun k _ => ?_
    by_cases hk : k = i
    · subst hk; simp [andDone]
    · simp [andDone, hk]
  rw [e]
  refine List.length_filter_lt_length_iff_exists.2 ⟨i, ?_, by simp⟩
  simp [List.mem_filter, hi, h]
theorem earlier_spec {ops : Array Oper} (h : earlier ops = true) {i j : Nat} (hi : i < ops.size) (hj : j ∈ waits ops i) : j < i := by
  have h1 := List.all_eq_true.1 h i (List.mem_range.2 hi)
  simpa using List.all_eq_true.1 h1 j hj

/-- One obligation an operation. -/
theorem wpAny_inv {P : Program} {ops : Array Oper} {Q : Exit → Act → World → Prop} (Inv : (Nat → Bool) → Act → World → Prop) (he : earlier ops = true)
    (hstep : ∀ f a w i, Inv f a w → i < ops.size → f i = false → (∀ j ∈ waits ops i, f j = true) → wpOp P ops Q i (Inv (andDone f i)) a w)
    (hend : ∀ f a w, Inv f a w → (∀ i, i < ops.size → f i = true) → Q .normal a w) :
    ∀ (fuel : Nat) (listed : Array Bool) (f : Nat → Bool) (a : Act) (w : World), listed.size = ops.size → (∀ i, (h : i < listed.size) → listed[i] = f i) → toCome ops.size f ≤ fuel → Inv f a w → wpAny P .any ops Q fuel listed a w := by
  have hget : ∀ {listed : Array Bool} {f : Nat → Bool}, listed.size = ops.size → (∀ i, (h : i < listed.size) → listed[i] = f i) → ∀ i d, i < ops.size → listed.getD i d = f i := fun {listed f} hs hl i d hi => by
    rw [Array.getD_eq_getD_getElem?, Array.getElem?_eq_getElem (by omega)]
    exact hl i (by omega)
  have hall : ∀ {listed : Array Bool} {f : Nat → Bool}, listed.size = ops.size → (∀ i, (h : i < listed.size) → listed[i] = f i) → Region.ready .any ops listed = [] → ∀ i, i < ops.size → f i = true := fun {listed f} hs hl hr i => by
    induction i using Nat.strongRecOn with
    | _ i ih =>
      intro hi
      refine Classical.byContradiction fun hn => ?_
      have hm : i ∈ Region.ready .any ops listed := mem_ready.2 ⟨hi, by rw [hget hs hl i true hi]; simpa using hn, fun j hj => by
        have hji := earlier_spec he hi hj
        rw [hget hs hl j false (by omega)]
        exact ih j hji (by omega)⟩
      rw [hr] at hm
      simp at hm
  intro fuel
  induction fuel with
  | zero =>
    intro listed f a w hs hl hc hI
    have hr : Region.ready .any ops listed = [] := by
      refine List.eq_nil_iff_forall_not_mem.2 fun i hi => ?_
      obtain ⟨h1, h2, _⟩ := mem_ready.1 hi
      rw [hget hs hl i true h1] at h2
      have := toCome_step h1 h2
      omega
    exact ⟨hr, hend f a w hI (hall hs hl hr)⟩
  | succ fuel ih =>
    intro listed f a w hs hl hc hI
    refine ⟨fun hr => hend f a w hI (hall hs hl hr), fun i hi => ?_⟩
    obtain ⟨h1, h2, h3⟩ := mem_ready.1 hi
    rw [hget hs hl i true h1] at h2
    have h4 : ∀ j ∈ waits ops i, f j = true := fun j hj => by
      have hji := earlier_spec he h1 hj
      rw [← hget hs hl j false (by omega)]
      exact h3 j hj
    have hlt := toCome_step h1 h2
    have hk : ∀ a' w', Inv (andDone f i) a' w' → wpAny P .any ops Q fuel (listed.setIfInBounds i true) a' w' := fun a' w' h' => ih _ (andDone f i) a' w' (by simpa using hs) (fun k hk' => by
      have hk2 : k < listed.size := by simpa using hk'
      rw [Array.getElem_setIfInBounds (by simpa using hk2)]
      by_cases e : i = k
      · subst e; simp [andDone]
      · rw [if_neg e, andDone_other f (fun h => e h.symm)]
        exact hl k hk2) (by omega) h'
    have hs' := hstep f a w i hI h1 h2 h4
    unfold wpOp at hs' ⊢
    split
    · rename_i ho
      rw [ho] at hs'
      exact hk _ _ hs'
    · rename_i o ho
      rw [ho] at hs'
      simp only at hs'
      split
      · rename_i hw
        rw [if_pos hw] at hs'
        rcases hs' with h | h
        · exact .inl (Oper.wp_mono hk h)
        · exact .inr h
      · rename_i hw
        rw [if_neg hw] at hs'
        exact hk _ _ hs'

theorem wp_region_inv {P : Program} {id : Nat} {ops : Array Oper} {Q : Exit → Act → World → Prop} {a : Act} {w : World} (hm : P.follows .mixedOrders = true) (he : earlier ops = true) (Inv : (Nat → Bool) → Act → World → Prop) (h0 : Inv (fun _ => false) a w.drew)
    (hstep : ∀ f a w i, Inv f a w → i < ops.size → f i = false → (∀ j ∈ waits ops i, f j = true) → wpOp P ops Q i (Inv (andDone f i)) a w)
    (hend : ∀ f a w, Inv f a w → (∀ i, i < ops.size → f i = true) → Q .normal a w) : (Code.region id ops true).wp P Q a w :=
  wp_region_any hm (wpAny_inv Inv he hstep hend ops.size _ (fun _ => false) a _ (by simp) (fun i hi => by simp) (by unfold toCome; exact Nat.le_trans (List.length_filter_le _ _) (by simp)) h0)
/-- An operation without a guard, or whose guard lets it. -/
theorem wpOp_wanted {P : Program} {ops : Array Oper} {Q : Exit → Act → World → Prop} {K : Act → World → Prop} {i : Nat} {a : Act} {w : World} {o : Oper} (ho : ops[i]? = some o) (hw : Region.wanted o (yielded ops a.tmps) = true) (h : o.wp P a w K Q) : wpOp P ops Q i K a w := by
  unfold wpOp
  rw [ho]
  simp only
  rw [if_pos hw]
  exact .inl h

end Go.Proofs.YtpfhegengmlkmaaGreat

namespace Go.Proofs.YtpfhegengmlkmaaGreat
open Go.RowKit Go.BigFrame
set_option maxRecDepth 100000

theorem GathY.blockY {w : World} {B : Nat} {v : Value} {L : List WinY} (h : GathY w B v L) (h0 : 0 < L.length) : ∃ t c, v = .slice (some ⟨t, 0, none⟩) L.length c ∧ L.length ≤ c ∧ B ≤ t ∧ t < w.heap.size ∧ (∀ k, (h : k < L.length) → w.cell? ⟨t, k, none⟩ = some L[k].v) ∧ (∀ k, w.frozen? ⟨t, k, none⟩ = false) ∧ ∀ p ∈ L, t < p.lo ∨ p.hi ≤ t := by
  rcases h.own.2 with ⟨_, e⟩ | ⟨g, cap, cur, rfl, hB, hh, hn, hc, hs, ht⟩
  · omega
  · have hlt : g < w.heap.size := (Array.getElem?_eq_some_iff.1 hh).1
    refine ⟨g, cap, rfl, hn, hB, hlt, fun k hk => ?_, fun k => ?_, fun p hp => h.far p hp g rfl⟩
    · have := World.ownsRow.cellAt h.own k (by omega)
      rw [this]
      simp [hk]
    · simp [World.frozen?, hh]
/-- What fresh answers lies whole. -/
theorem FreG.full {w w' : World} {g : GatL} {e : Ending} (h : FreG w w' g e) (h1 : 1 ≤ g.ins.length) (hlen : g.wins.length = g.ins.length) : ∃ b t c0 c1 gm cm L, e = .returned (.agg #[.slice (some ⟨b, 0, none⟩) g.ins.length c0, .slice (some ⟨t, 0, none⟩) L.length c1, .slice (some ⟨gm, 0, none⟩) g.shown.length cm]) ∧
    FullG w' w.heap.size w'.heap.size b t (some ⟨gm, 0, none⟩) g.ins L g.shown ∧ L.map (·.l) = g.wins ∧ (g.ins.length ≤ c0 ∧ c0 ≤ maxLen) ∧ L.length ≤ c1 ∧ g.shown.length ≤ cm ∧ (∀ k, w'.frozen? ⟨t, k, none⟩ = false) ∧ w.heap.size ≤ gm := by
  obtain ⟨B, v0, v1, L, gm, cm, hB, rfl, hg0, hg1, hLL, hfar, hgm, hgB, hcm, hom⟩ := h
  have hL : L.length = g.ins.length := by have := congrArg List.length hLL; simp only [List.length_map] at this; omega
  obtain ⟨b, c0, rfl, hbB, hsb⟩ := hg0.block (by omega)
  obtain ⟨t, c1, rfl, hc1, htB, htl, hcell, hfz, hft⟩ := hg1.blockY (by omega)
  have hne : b ≠ t := fun e => by
    have hx := own_types (show World.ownsRow _ _ _ _ _ _ _ from hg0) hg1.own str_unlike
    rcases hx with hx | hx
    · simp [Value.ownBlock] at hx
    · exact hx (by rw [e]; rfl)
  have hc0 : g.ins.length ≤ c0 ∧ c0 ≤ maxLen := by
    rcases hg0.2 with ⟨_, e⟩ | ⟨g', cap, cur, e, _, _, hn, hmx, _⟩
    · omega
    · simp only [Value.slice.injEq] at e
      omega
  have hlow : ∀ p ∈ L, gm < p.lo := fun p hp => by have := (hg1.at_ p hp).2.1; omega
  refine ⟨b, t, c0, c1, gm, cm, L, rfl, ⟨hsb, ⟨htl, hcell, fun p hp => (hg1.at_ p hp).1, hft, fun p hp => ?_, hg1.dis.imp fun h => .inl h⟩, hne, ⟨by omega, hsb.lt⟩, ⟨by omega, htl⟩, fun p hp => hfar p hp b rfl, .inr ⟨gm, rfl, hgm, hom.lt, by omega, by omega, hom, fun p hp => .inl (hlow p hp)⟩⟩, hLL, hc0, hc1, hcm, hfz, hgm⟩
  have := (hg1.at_ p hp).2
  omega
theorem FullG.widen {w : World} {lo hi lo' hi' b t : Nat} {a2 : Option Addr} {nm : List ByteArray} {L : List WinY} {m : List (ByteArray × Int)} (h : FullG w lo hi b t a2 nm L m) (h1 : lo' ≤ lo) (h2 : hi ≤ hi') : FullG w lo' hi' b t a2 nm L m :=
  ⟨h.names, ⟨h.wins.lt, h.wins.cell, h.wins.at_, h.wins.far, fun p hp => by have := h.wins.in_ p hp; omega, h.wins.dis⟩, h.bt, by have := h.bin; omega, by have := h.tin; omega, h.bfar, by
    rcases h.stamp with e | ⟨s, e, h3, h4, h5⟩
    · exact .inl e
    · exact .inr ⟨s, e, by omega, by omega, h5⟩⟩
/-- Another window at one place. -/
theorem FullG.setWin {w : World} {lo hi b t : Nat} {a2 : Option Addr} {nm : List ByteArray} {L : List WinY} {m : List (ByteArray × Int)} (h : FullG w lo hi b t a2 nm L m) {k : Nat} (hk : k < L.length) {q : WinY} (hq : ∃ a c, q.v = .slice a q.l.length c ∧ q.l.length ≤ c ∧ SafeI w q.lo q.hi a q.l) (hin : lo ≤ q.lo ∧ q.lo ≤ q.hi ∧ q.hi ≤ hi) (hqb : b < q.lo ∨ q.hi ≤ b) (hqt : t < q.lo ∨ q.hi ≤ t) (hqs : ∀ s, a2 = some ⟨s, 0, none⟩ → s < q.lo ∨ q.hi ≤ s) (hqL : ∀ p ∈ L, p.hi ≤ q.lo ∨ q.hi ≤ p.lo) :
    FullG (w.setCell ⟨t, k, none⟩ q.v) lo hi b t a2 nm (L.set k q) m := by
  have hbut : But t w (w.setCell ⟨t, k, none⟩ q.v) := (But.refl t w).setCell k q.v
  have hsp : Span t (t + 1) w (w.setCell ⟨t, k, none⟩ q.v) := hbut.span (Nat.le_refl _) (Nat.lt_succ_self _)
  have hmem : ∀ p ∈ L.set k q, p ∈ L ∨ p = q := fun p hp => List.mem_or_eq_of_mem_set hp
  refine ⟨h.names.span hsp (by have := h.bt; omega), ⟨by simpa using h.wins.lt, fun j hj => ?_, fun p hp => ?_, fun p hp => ?_, fun p hp => ?_, ?_⟩, h.bt, h.bin, h.tin, fun p hp => ?_, ?_⟩
  · have hj' : j < L.length := by simpa using hj
    rw [List.getElem_set]
    by_cases e : k = j
    · subst e
      rw [if_pos rfl]
      exact World.cell?_setCell_same' _ _ _ (by rw [h.wins.cell k hk]; rfl)
    · rw [if_neg e]
      have := h.wins.cell j hj'
      simp [go_sem, this]
  · rcases hmem p hp with h1 | rfl
    · obtain ⟨a, c, h2, h3, h4⟩ := h.wins.at_ p h1
      exact ⟨a, c, h2, h3, h4.span hsp (by have := h.wins.far p h1; omega)⟩
    · obtain ⟨a, c, h2, h3, h4⟩ := hq
      exact ⟨a, c, h2, h3, h4.span hsp (by omega)⟩
  · rcases hmem p hp with h1 | rfl
    · exact h.wins.far p h1
    · exact hqt
  · rcases hmem p hp with h1 | rfl
    · exact h.wins.in_ p h1
    · exact hin
  · rw [List.pairwise_iff_getElem]
    intro a c ha hc hac
    have ha' : a < L.length := by simpa using ha
    have hc' : c < L.length := by simpa using hc
    have hd := List.pairwise_iff_getElem.1 h.wins.dis a c ha' hc' hac
    rw [List.getElem_set, List.getElem_set]
    split
    · split
      · omega
      · exact (hqL _ (List.getElem_mem hc')).symm
    · split
      · exact hqL _ (List.getElem_mem ha')
      · exact hd
  · rcases hmem p hp with h1 | rfl
    · exact h.bfar p h1
    · exact hqb
  · rcases h.stamp with e | ⟨s, e, h1, h2, h3, h4, h5, h6⟩
    · exact .inl e
    · refine .inr ⟨s, e, h1, h2, h3, h4, hbut.own h5 h4, fun p hp => ?_⟩
      rcases hmem p hp with h1 | rfl
      · exact h6 p h1
      · exact hqs s e

theorem IsP.code {l : List ItemL} {x : Int} {m : List (ByteArray × Int)} {r : List ItemL} {c : Int} (h : IsP l x m r c) : c = 1 ∨ c = 2 ∨ c = 0 := by
  by_cases hw : WinP l ∧ StampP m ∧ m ≠ []
  · by_cases ht : TakeP l m
    · exact .inr (.inr (h.2.2 hw ht).2)
    · exact .inr (.inl (h.2.1 hw ht).2)
  · exact .inl (h.1 hw).2

end Go.Proofs.YtpfhegengmlkmaaGreat
