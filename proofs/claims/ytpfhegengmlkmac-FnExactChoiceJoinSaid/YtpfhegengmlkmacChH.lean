/- The sources that two windows or more have: gathered off the map of spots. -/
import Derived.Test.YtpfhegengmlkmacChG
import Derived.Test.YtpfhegengmlkmacGathS
import Derived.Sort.KeysCollected
namespace Go.Proofs.Ytpfhegengmlkmac
open Go.RowKit Go.BigFrame

/-- The texts of some lists of bytes. -/
def textsL (ss : List (List UInt8)) : List ByteArray := ss.map fun l => ⟨l.toArray⟩
theorem textsL_cells (ss : List (List UInt8)) : ss.map encStr = (textsL ss).map .string := by simp [textsL, Function.comp_def]

theorem GrpS.listed {w : World} {B b n : Nat} {D : DataW Value} {V : ByteArray → Value} {S : ByteArray → List Spot} (h : GrpS w B b n D V S) {ss : List (List UInt8)} (hp : ss.Perm (strKeys D)) {s : ByteArray} (hs : S s ≠ []) : s ∈ textsL (ss.mergeSort (fun x y => decide (x ≤ y))) := by
  have h1 := (h.has s).2 hs
  obtain ⟨es, rfl, _⟩ := World.ownsMap.keysOf h.own
  rw [Maps.has_eq, List.any_eq_true] at h1
  obtain ⟨p, hm, hk⟩ := h1
  have e : p.1 = litS s := by
    by_cases e : p.1 = litS s
    · exact e
    · rw [Maps.sameKey_ne e] at hk
      cases hk
  have h2 : s.data.toList ∈ strKeys (DataW.map es) := List.mem_map.2 ⟨p, hm, by rw [e]; rfl⟩
  have h3 := (List.mergeSort_perm ss (fun x y => decide (x ≤ y))).mem_iff.2 (hp.mem_iff.2 h2)
  exact List.mem_map.2 ⟨_, h3, by simp⟩

/-- Lists of spots that the call itself gathers, with the slices that they lie in. -/
def GathG (w : World) (B : Nat) (v : Value) (L : List (List Spot × Value)) : Prop := w.ownsRow B 117 1 v L.length (L.map (·.2)) ∧ ∀ p ∈ L, GathP w B p.2 p.1
theorem gathG_none (w : World) (B : Nat) : GathG w B (.slice none 0 0) [] := ⟨World.ownsRow_nil _ _ _ _, by simp⟩
theorem GathG.keep {w w' : World} {B : Nat} {v : Value} {L : List (List Spot × Value)} (h : GathG w B v L) (hb : Below w.heap.size w w') : GathG w' B v L := ⟨own_keep h.1 hb, fun p hp => own_keep (h.2 p hp) hb⟩
theorem GathG.snoc {w w' : World} {B : Nat} {v v' y : Value} {L : List (List Spot × Value)} {l : List Spot} (h : GathG w B v L) (hl : GathP w B y l) (hne : 119 ≠ 117)
    (h' : w'.ownsRow B 117 1 v' (L.length + 1) ((L.map (·.2)) ++ [y])) (hg : w.grownBy w' v.ownBlock) : GathG w' B v' (L ++ [(l, y)]) := by
  refine ⟨?_, fun p hp => ?_⟩
  · rw [List.length_append, List.map_append]
    exact h'
  · rcases List.mem_append.1 hp with hp | hp
    · exact World.ownsRow.kept (h.2 p hp) hg (own_types (h.2 p hp) h.1 hne)
    · obtain rfl : p = (l, y) := by simpa using hp
      exact World.ownsRow.kept hl hg (own_types hl h.1 hne)
theorem GrpS.kept {w w' : World} {B b n k : Nat} {D : DataW Value} {V : ByteArray → Value} {S : ByteArray → List Spot} {v : Value} {xs : List Value} (h : GrpS w B b n D V S) (hv : w.ownsRow B 117 1 v k xs) (hg : w.grownBy w' v.ownBlock) (hne : 119 ≠ 117) : GrpS w' B b n D V S :=
  ⟨h.own.kept hg (fun e => by have := own_from hv _ e.symm; have := h.lt; omega), h.lt, h.eq, h.has, fun s => World.ownsRow.kept (h.row s) hg (own_types (h.row s) hv hne), h.far⟩
theorem GathG.row {w : World} {B : Nat} {v : Value} {L : List (List Spot × Value)} (h : GathG w B v L) : ∃ a cap, v = .slice a L.length cap ∧ L.length ≤ cap ∧ RowG w a (L.map (·.1)) := by
  rcases h.1.2 with ⟨rfl, h0⟩ | ⟨g, cap, cur, rfl, hB, hh, hn, _⟩
  · exact ⟨none, 0, by rw [h0], by omega, fun k hk => by rw [List.length_map] at hk; omega⟩
  · have hlt : g < w.heap.size := (Array.getElem?_eq_some_iff.1 hh).1
    refine ⟨_, cap, rfl, hn, fun k hk => ⟨g, 0, rfl, hlt, ?_⟩⟩
    rw [List.length_map] at hk
    obtain ⟨a, c, e, hc, hr⟩ := (h.2 L[k] (List.getElem_mem hk)).row
    refine ⟨a, c, ?_, by simpa using hc, by simpa using hr⟩
    rw [Nat.zero_add, World.ownsRow.cellAt h.1 _ (by omega)]
    simp [hk, e]

theorem Try.infoQ : (Try.prog.info? 117).map (fun i => (i.zero, i.size, i.bytes)) = some (some (.slice none 0 0), 1, 24) := by kernel_rfl
theorem spot_unlike : 119 ≠ 117 := by decide
theorem text_unlike : 9 ≠ 117 := by decide

theorem GathP.keep {w w' : World} {B : Nat} {v : Value} {l : List Spot} (h : GathP w B v l) (hb : Below w.heap.size w w') : GathP w' B v l := own_keep h hb
theorem GathS.beside {w w' : World} {B k : Nat} {v y : Value} {l : List ByteArray} {xs : List Value} (h : GathS w B v l) (hv : w.ownsRow B 117 1 y k xs) (hg : w.grownBy w' y.ownBlock) : GathS w' B v l := World.ownsRow.kept h hg (own_types h hv text_unlike)

/-- Of the first i texts those that have two spots or more are in L, and no others. -/
def SharedTo (S : ByteArray → List Spot) (names : List ByteArray) (i : Nat) (L : List (List Spot × Value)) : Prop :=
  (∀ p ∈ L, ∃ s, p.1 = S s ∧ 1 < (S s).length) ∧ ∀ q, (hq : q < names.length) → q < i → 1 < (S names[q]).length → ∃ p ∈ L, p.1 = S names[q]
theorem SharedTo.skip {S : ByteArray → List Spot} {names : List ByteArray} {i : Nat} {L : List (List Spot × Value)} (h : SharedTo S names i L) (hi : i < names.length) (hn : ¬ 1 < (S names[i]).length) : SharedTo S names (i + 1) L := ⟨h.1, fun q hq hlt h1 => by
  by_cases e : q = i
  · subst e; exact absurd h1 hn
  · exact h.2 q hq (by omega) h1⟩
theorem SharedTo.take {S : ByteArray → List Spot} {names : List ByteArray} {i : Nat} {L : List (List Spot × Value)} (h : SharedTo S names i L) (hi : i < names.length) (hn : 1 < (S names[i]).length) (y : Value) : SharedTo S names (i + 1) (L ++ [(S names[i], y)]) := by
  refine ⟨fun p hp => ?_, fun q hq hlt h1 => ?_⟩
  · rcases List.mem_append.1 hp with hp | hp
    · exact h.1 p hp
    · obtain rfl : p = (S names[i], y) := by simpa using hp
      exact ⟨names[i], rfl, hn⟩
  · by_cases e : q = i
    · subst e
      exact ⟨(S names[q], y), by simp, rfl⟩
    · obtain ⟨p, hp, he⟩ := h.2 q hq (by omega) h1
      exact ⟨p, List.mem_append_left _ hp, he⟩
theorem SharedTo.shared {ws : List (List ItemL)} {S : ByteArray → List Spot} {names : List ByteArray} {L : List (List Spot × Value)} (h : SharedTo S names names.length L) (hS : SpotsTo ws ws.length 0 S) (hn : ∀ s, S s ≠ [] → s ∈ names) (h72 : ∀ s, (S s).length ≤ 1000) (hL : L.length ≤ 1000) : ShW ws (L.map (·.1)) := by
  refine ⟨⟨fun src hs => ?_, fun s i k j l hik h1 h2 => ?_⟩, fun src hs => ?_, by rw [List.length_map]; exact hL⟩
  · obtain ⟨p, hp, rfl⟩ := List.mem_map.1 hs
    obtain ⟨s, e, _⟩ := h.1 p hp
    exact ⟨s, fun q hq => hS.1 s q (by rw [← e]; exact hq)⟩
  · have m1 := hS.2 s _ h1 (.inl h1.1)
    have m2 := hS.2 s _ h2 (.inl h2.1)
    have hlen : 1 < (S s).length := by
      match hS' : S s, m1, m2 with
      | [], m1, _ => simp at m1
      | [x], m1, m2 =>
        have e1 : (i, j) = x := by simpa using m1
        have e2 : (k, l) = x := by simpa using m2
        rw [← e1] at e2
        exact absurd (Prod.mk.inj e2).1.symm hik
      | _ :: _ :: _, _, _ => simp
    obtain ⟨q, hq, e⟩ := List.mem_iff_getElem.1 (hn s (fun e => by rw [e] at hlen; simp at hlen))
    obtain ⟨p, hp, he⟩ := h.2 q hq hq (by rw [e]; exact hlen)
    rw [e] at he
    exact ⟨p.1, List.mem_map.2 ⟨p, hp, rfl⟩, by rw [he]; exact m1, by rw [he]; exact m2⟩
  · obtain ⟨p, hp, rfl⟩ := List.mem_map.1 hs
    obtain ⟨s, e, h1⟩ := h.1 p hp
    rw [e]
    exact ⟨h1, h72 s⟩

end Go.Proofs.Ytpfhegengmlkmac
