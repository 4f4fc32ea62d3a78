/- Texts of this claim, one behind the other. -/
import Derived.Maps.AppendAt
import Derived.Deep.AppendLies
import Derived.Laws.OwnMore
import Derived.Test.YtpfhegengmlkmaaGreatDoorZT1
import Derived.Test.YtpfhegengmlkmaaGreatDoorZT21
namespace Go.Proofs.YtpfhegengmlkmaaGreatDoor
open Go.RowKit Go.BigFrame
set_option maxRecDepth 100000

theorem GathF.grownS {w w' : World} {B B2 : Nat} {v v2 : Value} {L : List FeedL} {n : Nat} {xs : List Value} (h : GathF w B v L) (ho : w.ownsRow B2 9 1 v2 n xs) (hg : w.grownBy w' v2.ownBlock) : GathF w' B v L := by
  refine ⟨owns_grown h.1 hg (fun g e => ?_), fun p hp => ⟨(h.2 p hp).1.grown ho (by decide) hg, (h.2 p hp).2⟩⟩
  have hr : ∃ m f, w.rowIs g 42 m f := by
    rcases h.1.2 with ⟨rfl, _⟩ | ⟨g', cap, cur, rfl, _, hh, _⟩
    · cases e
    · obtain rfl : g' = g := by simpa [Value.ownBlock] using e
      exact ⟨cur.size, fun i => (cur[i]?).getD undef, cur, hh, rfl, fun i hi => by simp [Array.getElem?_eq_getElem hi]⟩
  obtain ⟨m, f, hr⟩ := hr
  exact owns_type ho hr (by decide)

set_option maxHeartbeats 6400000 in
theorem drawPlay_any (ab : Option Addr) (n c : Nat) (w : World) (h : Bytes w ab n c) :
    Calls Tryz.prog 6 #[.slice ab n c] w fun e w' => (∃ vi li vf Lf, e = .returned (.tuple #[vi, vf]) ∧ GathS w' w.heap.size vi li ∧ 1 ≤ li.length ∧ li.length ≤ 5 ∧ (∀ s ∈ li, s.size ≤ 8) ∧ GathF w' w.heap.size vf Lf ∧ Lf.length ≤ 61) ∧ Below w.heap.size w w' := by
  obtain ⟨i0, hi, hz0, hz1, hz2⟩ := info_parts Tryz.infoS
  go_enter Tryz.func6, Tryz.ntmps6
  go_wp2_with fail
  refine (l1Open_any ab n c _ h).mono ?_
  rintro e w1 ⟨⟨m, rfl, hr1⟩, hb1⟩
  have hR := hr1.lt
  go_wp2_with fail
  refine (l6Which_any _ m c 0 ab _ hr1 (by omega)).mono ?_
  rintro e w2 ⟨⟨wv, wl, p2, rfl, hw2, hwl0, hwl1, hr2, hp2⟩, hb2⟩
  obtain ⟨gw, cw, rfl, hgw⟩ := hw2.some (by omega)
  have hz12 := hb2.size
  generalize hnw : wl.length = nw at *
  have hwh2 : ∀ j, j < nw → ∃ x : Int, w2.cell? ⟨gw, j, none⟩ = some (.int .i64 x) := fun j hj => ⟨_, hw2.cells hnw.symm (by omega)⟩
  clear h hr1 hw2 hnw
  go_wp2_with fail
  refine (l6Ins_any nw w2 (by omega)).mono ?_
  rintro e w3 ⟨⟨vi, li, rfl, hg3, hll, hs8⟩, b3⟩
  obtain ⟨ia, ic, rfl, _⟩ := hg3.shape
  have hr3 := hr2.below b3
  have hB3 : But w.heap.size w1 w3 := hb2.trans (But.of_below b3)
  have hwh3 : ∀ j, j < nw → ∃ x : Int, w3.cell? ⟨gw, j, none⟩ = some (.int .i64 x) := fun j hj => by
    obtain ⟨x, e⟩ := hwh2 j hj
    exact ⟨x, cell_on b3 (block_lt_of_cell e) e⟩
  have hz3 := b3.size
  clear b3 hb2 hr2 hwh2
  go_wp2_with fail
  refine (pick_any _ m c p2 ab 30 _ hr3 (by omega) (by omega) (by omega)).mono ?_
  rintro e w4 ⟨⟨y, rfl, hy0, hy1⟩, hr4, hb4⟩
  obtain ⟨y, rfl⟩ := Int.eq_ofNat_of_zero_le hy0
  have hB4 := hB3.trans hb4
  have hg4 := hg3.but hb4 (by omega)
  have hz4 := hb4.size
  have hwh4 : ∀ j, j < nw → ∃ x : Int, w4.cell? ⟨gw, j, none⟩ = some (.int .i64 x) := fun j hj => by
    obtain ⟨x, e⟩ := hwh3 j hj
    exact ⟨x, (hb4.cell (b := gw) j (block_lt_of_cell e) (by omega)).trans e⟩
  clear hr3 hg3 hb4 hB3 hwh3
  go_wp2_with fail
  have hcN : (3 : Int) + (y : Int) = ((3 + y : Nat) : Int) := by omega
  rw [hcN]
  clear hcN
  refine (l6Feeds_any _ m c (p2 + 1) ab gw cw nw (3 + y) w4 hr4 (by omega) (by omega) (by omega) (by omega) (by omega) hwh4).mono ?_
  rintro e w5 ⟨⟨vf, Lf, p5, rfl, hg5, hfl, hr5, hp5⟩, hb5⟩
  have hB5 := hB4.trans hb5
  have hg5i := hg4.but hb5 (by omega)
  have hz5 := hb5.size
  have hwh5 : ∀ j, j < nw → ∃ x : Int, w5.cell? ⟨gw, j, none⟩ = some (.int .i64 x) := fun j hj => by
    obtain ⟨x, e⟩ := hwh4 j hj
    exact ⟨x, (hb5.cell (b := gw) j (block_lt_of_cell e) (by omega)).trans e⟩
  obtain ⟨fa, fc, rfl⟩ : ∃ a cap, vf = .slice a Lf.length cap := by
    rcases hg5.1.2 with ⟨e, h0⟩ | ⟨g, cap, cur, e, _⟩
    · exact ⟨_, _, by rw [h0]; exact e⟩
    · exact ⟨_, _, e⟩
  rw [hll] at hg5i
  rw [hfl] at hg5
  rw [hfl]
  clear hr4 hg4 hb5 hB4 hwh4
  go_wp2_with fail
  refine (pick_any _ m c p5 ab 30 w5 hr5 (by omega) (by omega) (by omega)).mono ?_
  rintro e w6 ⟨⟨z, rfl, hz0', hz1'⟩, hr6, hb6⟩
  have hB6 := hB5.trans hb6
  have hg6 := hg5.but hb6 (by omega)
  have hg6i := hg5i.but hb6 (by omega)
  have hz6 := hb6.size
  have hwh6 : ∀ j, j < nw → ∃ x : Int, w6.cell? ⟨gw, j, none⟩ = some (.int .i64 x) := fun j hj => by
    obtain ⟨x, e⟩ := hwh5 j hj
    exact ⟨x, (hb6.cell (b := gw) j (block_lt_of_cell e) (by omega)).trans e⟩
  clear hr5 hg5 hg5i hb6 hB5 hwh5
  by_cases e0 : z = 0
  · subst e0
    go_wp2_with fail
    refine (l6Feeds_any _ m c (p5 + 1) ab gw cw nw 60 w6 hr6 (by omega) (by omega) (by omega) (by omega) (by omega) hwh6).mono ?_
    rintro e w7 ⟨⟨v7, L7, p7, rfl, hg7, hl7, hr7, hp7⟩, hb7⟩
    have hgi7 := hg6i.but hb7 (by omega)
    have hz7 := hb7.size
    have hB7b : Below w.heap.size w w7 := hb1.trans ((hB6.trans hb7).below (Nat.le_refl _) hb1.size)
    obtain ⟨fa7, fc7, rfl⟩ : ∃ a cap, v7 = .slice a L7.length cap := by
      rcases hg7.1.2 with ⟨e, h0⟩ | ⟨g, cap, cur, e, _⟩
      · exact ⟨_, _, by rw [h0]; exact e⟩
      · exact ⟨_, _, e⟩
    rw [hl7] at hg7
    rw [hl7]
    have HX : Hid _ := And.intro hgi7 (And.intro hg7 hB7b)
    clear hgi7 hg7 hB7b hr7 hb7 hr6 hg6 hg6i hB6
    go_wp2_with fail
    exact bodyPost_ret (v := .tuple #[.slice ia nw ic, .slice fa7 60 fc7]) (by simp [results, Tryz.results6, go_sem]) rfl ⟨⟨_, li, _, L7, rfl, HX.out.1.lower (by omega), by omega, by omega, hs8, HX.out.2.1.lower (by omega), by omega⟩, HX.out.2.2⟩
  by_cases e1 : z = 1
  · subst e1
    go_wp2_with fail
    refine (l6Feeds_any _ m c (p5 + 1) ab gw cw nw 61 w6 hr6 (by omega) (by omega) (by omega) (by omega) (by omega) hwh6).mono ?_
    rintro e w7 ⟨⟨v7, L7, p7, rfl, hg7, hl7, hr7, hp7⟩, hb7⟩
    have hgi7 := hg6i.but hb7 (by omega)
    have hz7 := hb7.size
    have hB7b : Below w.heap.size w w7 := hb1.trans ((hB6.trans hb7).below (Nat.le_refl _) hb1.size)
    obtain ⟨fa7, fc7, rfl⟩ : ∃ a cap, v7 = .slice a L7.length cap := by
      rcases hg7.1.2 with ⟨e, h0⟩ | ⟨g, cap, cur, e, _⟩
      · exact ⟨_, _, by rw [h0]; exact e⟩
      · exact ⟨_, _, e⟩
    rw [hl7] at hg7
    rw [hl7]
    have HX : Hid _ := And.intro hgi7 (And.intro hg7 hB7b)
    clear hgi7 hg7 hB7b hr7 hb7 hr6 hg6 hg6i hB6
    go_wp2_with fail
    exact bodyPost_ret (v := .tuple #[.slice ia nw ic, .slice fa7 61 fc7]) (by simp [results, Tryz.results6, go_sem]) rfl ⟨⟨_, li, _, L7, rfl, HX.out.1.lower (by omega), by omega, by omega, hs8, HX.out.2.1.lower (by omega), by omega⟩, HX.out.2.2⟩
  by_cases e2 : z = 2
  · subst e2
    have hbx : Below w6.heap.size w6 (w6.alloc (.cells #[.string ⟨#[97]⟩] 9)) := (Below.refl _ _).alloc (Nat.le_refl _) _
    have hgi7 : (w6.alloc (.cells #[.string ⟨#[97]⟩] 9)).ownsRow w2.heap.size 9 1 (.slice ia nw ic) li.length (li.map .string) := owns_keep hg6i hbx
    have hg7 := hg6.keep hbx
    have hB7 : But w.heap.size w1 (w6.alloc (.cells #[.string ⟨#[97]⟩] 9)) := hB6.trans (But.of_below hbx)
    have hz6' := hB6.size
    clear hr6 hg6 hg6i hB6 hbx
    go_wp2_with (at_builtin; refine wpList_append_lies _ rfl _ _ 23 rfl w2.heap.size 9 i0 (.string .empty) 1 16 Tryz.underlying23 hi hz0 hz1 hz2 rfl (by decide) _ _ _ rfl hgi7 ⟨w6.heap.size, 0, none⟩ 1 1 [.string ⟨#[97]⟩] rfl rfl (one_new w6 _ _) (by simp [Value.oneCell']) (by decide) (by unfold maxLen; omega) (by omega) (by simp; omega) _ rfl ?_; intro g8 c8 w8 hown hgrow _ _)
    have hB8 : Below w.heap.size w w8 := hb1.trans ((hB7.grown hgrow (fun q e => by have := owns_from hgi7 q e; omega)).below (Nat.le_refl _) hb1.size)
    have hg8 := GathS.snoc hown
    have hf8 : GathF w8 w4.heap.size (.slice fa (3 + y) fc) Lf := hg7.grownS hgi7 hgrow
    exact bodyPost_ret (v := .tuple #[.slice (some ⟨g8, 0, none⟩) (li.length + 1) c8, .slice fa (3 + y) fc]) (by simp [results, Tryz.results6, go_sem, hll]) rfl ⟨⟨_, li ++ [⟨#[97]⟩], _, Lf, rfl, hg8.lower (by omega), by simp, by simp; omega, fun s hs => (List.mem_append.1 hs).elim (hs8 s) fun e => by simp at e; subst e; decide, hf8.lower (by omega), by omega⟩, hB8⟩
  by_cases e3 : z = 3
  · subst e3
    have hbx : Below w6.heap.size w6 (w6.alloc (.cells #[.string ⟨#[108, 111, 110, 101]⟩] 9)) := (Below.refl _ _).alloc (Nat.le_refl _) _
    have hgi7 : (w6.alloc (.cells #[.string ⟨#[108, 111, 110, 101]⟩] 9)).ownsRow w2.heap.size 9 1 (.slice ia nw ic) li.length (li.map .string) := owns_keep hg6i hbx
    have hg7 := hg6.keep hbx
    have hB7 : But w.heap.size w1 (w6.alloc (.cells #[.string ⟨#[108, 111, 110, 101]⟩] 9)) := hB6.trans (But.of_below hbx)
    have hz6' := hB6.size
    clear hr6 hg6 hg6i hB6 hbx
    go_wp2_with (at_builtin; refine wpList_append_lies _ rfl _ _ 23 rfl w2.heap.size 9 i0 (.string .empty) 1 16 Tryz.underlying23 hi hz0 hz1 hz2 rfl (by decide) _ _ _ rfl hgi7 ⟨w6.heap.size, 0, none⟩ 1 1 [.string ⟨#[108, 111, 110, 101]⟩] rfl rfl (one_new w6 _ _) (by simp [Value.oneCell']) (by decide) (by unfold maxLen; omega) (by omega) (by simp; omega) _ rfl ?_; intro g8 c8 w8 hown hgrow _ _)
    have hB8 : Below w.heap.size w w8 := hb1.trans ((hB7.grown hgrow (fun q e => by have := owns_from hgi7 q e; omega)).below (Nat.le_refl _) hb1.size)
    have hg8 := GathS.snoc hown
    have hf8 : GathF w8 w4.heap.size (.slice fa (3 + y) fc) Lf := hg7.grownS hgi7 hgrow
    exact bodyPost_ret (v := .tuple #[.slice (some ⟨g8, 0, none⟩) (li.length + 1) c8, .slice fa (3 + y) fc]) (by simp [results, Tryz.results6, go_sem, hll]) rfl ⟨⟨_, li ++ [⟨#[108, 111, 110, 101]⟩], _, Lf, rfl, hg8.lower (by omega), by simp, by simp; omega, fun s hs => (List.mem_append.1 hs).elim (hs8 s) fun e => by simp at e; subst e; decide, hf8.lower (by omega), by omega⟩, hB8⟩
  have x0 : (z == 0) = false := by rw [beq_eq_false_iff_ne]; exact e0
  have x1 : (z == 1) = false := by rw [beq_eq_false_iff_ne]; exact e1
  have x2 : (z == 2) = false := by rw [beq_eq_false_iff_ne]; exact e2
  have x3 : (z == 3) = false := by rw [beq_eq_false_iff_ne]; exact e3
  have HX : Hid (GathS w6 w.heap.size (.slice ia nw ic) li ∧ GathF w6 w.heap.size (.slice fa (3 + y) fc) Lf ∧ Below w.heap.size w w6) := ⟨hg6i.lower (by omega), hg6.lower (by omega), hb1.trans (hB6.below (Nat.le_refl _) hb1.size)⟩
  clear hr6 hg6 hg6i hB6 e0 e1 e2 e3 hwh6
  go_wp2_with fail
  exact bodyPost_ret (v := .tuple #[.slice ia nw ic, .slice fa (3 + y) fc]) (by simp [results, Tryz.results6, go_sem]) rfl ⟨⟨_, li, _, Lf, rfl, HX.out.1, by omega, by omega, hs8, HX.out.2.1, by omega⟩, HX.out.2.2⟩

end Go.Proofs.YtpfhegengmlkmaaGreatDoor

namespace Go.Proofs.YtpfhegengmlkmaaGreatDoor
open Go.RowKit Go.BigFrame

theorem own_keep {w w' : World} {B e size n : Nat} {v : Value} {xs : List Value} (h : w.ownsRow B e size v n xs) (hb : Below w.heap.size w w') : w'.ownsRow B e size v n xs := by
  obtain ⟨hl, h | ⟨g, cap, cur, hv, hgB, hh, r⟩⟩ := h
  · exact ⟨hl, .inl h⟩
  · exact ⟨hl, .inr ⟨g, cap, cur, hv, hgB, (hb.block g (Array.getElem?_eq_some_iff.1 hh).1).trans hh, r⟩⟩
theorem own_lower {w : World} {B B' e size n : Nat} {v : Value} {xs : List Value} (h : w.ownsRow B e size v n xs) (hB : B' ≤ B) : w.ownsRow B' e size v n xs := by
  obtain ⟨hl, h | ⟨g, cap, cur, hv, hgB, r⟩⟩ := h
  · exact ⟨hl, .inl h⟩
  · exact ⟨hl, .inr ⟨g, cap, cur, hv, Nat.le_trans hB hgB, r⟩⟩
/-- Two rows of unlike types lie in unlike blocks. -/
theorem own_types {w : World} {B B' e e' size size' n n' : Nat} {v v' : Value} {xs xs' : List Value} (h : w.ownsRow B e size v n xs) (h' : w.ownsRow B' e' size' v' n' xs') (hne : e ≠ e') : v.ownBlock = none ∨ v.ownBlock ≠ v'.ownBlock := by
  rcases h.2 with ⟨rfl, _⟩ | ⟨g, cap, cur, rfl, _, hh, _⟩
  · exact .inl rfl
  · rcases h'.2 with ⟨rfl, _⟩ | ⟨g', cap', cur', rfl, _, hh', _⟩
    · exact .inr (by simp [Value.ownBlock])
    · refine .inr fun q => ?_
      obtain rfl : g = g' := by simpa [Value.ownBlock] using q
      rw [hh] at hh'
      simp at hh'
      exact hne hh'.2
theorem own_from {w : World} {B e size n : Nat} {v : Value} {xs : List Value} (h : w.ownsRow B e size v n xs) : ∀ k, v.ownBlock = some k → B ≤ k := fun k q => (h.lt k q).1
theorem grown_below {w w' : World} (hb : Below w.heap.size w w') (row : Option Nat) : w.grownBy w' row := ⟨hb.os, hb.tape, hb.output, hb.size, fun k hk _ => hb.block k hk⟩
/-- First one row, then the row that it has become. -/
theorem grown_then {w w1 w2 : World} {r r1 : Option Nat} (h : w.grownBy w1 r) (k : w1.grownBy w2 r1) (hr : r1 = r ∨ ∃ g, r1 = some g ∧ w.heap.size ≤ g) : w.grownBy w2 r :=
  ⟨k.os.trans h.os, k.tape.trans h.tape, k.output.trans h.output, Nat.le_trans h.size k.size, fun i hi hne => (k.block i (Nat.lt_of_lt_of_le hi h.size) (by
    rcases hr with e | ⟨g, e, hle⟩
    · rw [e]; exact hne
    · rw [e]; intro q; cases q; omega)).trans (h.block i hi hne)⟩
theorem grown_cell {w w' : World} {r : Option Nat} (hg : w.grownBy w' r) {b o : Nat} {v : Value} (hne : some b ≠ r) (h : w.cell? ⟨b, o, none⟩ = some v) : w'.cell? ⟨b, o, none⟩ = some v := hg.cell h hne

/-- The slice value 'v' holds the numbers 'l', in a row of the call's own from block 'B' on. -/
def GathN (w : World) (B : Nat) (v : Value) (l : List Int) : Prop := w.ownsRow B 3 1 v l.length (l.map fun x => .int .i64 x)
theorem GathN.shape {w : World} {B : Nat} {v : Value} {l : List Int} (h : GathN w B v l) (h0 : 0 < l.length) : ∃ g cap, v = .slice (some ⟨g, 0, none⟩) l.length cap ∧ B ≤ g ∧ g < w.heap.size ∧ l.length ≤ cap ∧ ∀ j, (hj : j < l.length) → w.cell? ⟨g, j, none⟩ = some (.int .i64 l[j]) := by
  rcases h.2 with ⟨rfl, e⟩ | ⟨g, cap, cur, rfl, hB, hh, hn, r⟩
  · omega
  · refine ⟨g, cap, rfl, hB, (Array.getElem?_eq_some_iff.1 hh).1, hn, fun j hj => ?_⟩
    rw [World.ownsRow.cellAt h j (by omega)]
    simp [hj]

/-- Lists of numbers that the call itself gathers, each in a row of its own: the lists, their blocks and their room. -/
def GathU (w : World) (B : Nat) (v : Value) (L : List (List Int × Nat × Nat)) : Prop := w.ownsRow B 34 1 v L.length (L.map fun p => .slice (some ⟨p.2.1, 0, none⟩) p.1.length p.2.2) ∧ ∀ p ∈ L, GathN w B (.slice (some ⟨p.2.1, 0, none⟩) p.1.length p.2.2) p.1
theorem gathU_none (w : World) (B : Nat) : GathU w B (.slice none 0 0) [] := ⟨World.ownsRow_nil _ _ _ _, by simp⟩
theorem GathU.keep {w w' : World} {B : Nat} {v : Value} {L : List (List Int × Nat × Nat)} (h : GathU w B v L) (hb : Below w.heap.size w w') : GathU w' B v L := ⟨own_keep h.1 hb, fun p hp => own_keep (h.2 p hp) hb⟩
theorem GathU.snoc {w w' : World} {B g c : Nat} {v v' : Value} {L : List (List Int × Nat × Nat)} {l : List Int} (h : GathU w B v L) (hl : GathN w B (.slice (some ⟨g, 0, none⟩) l.length c) l) (hne : 3 ≠ 34)
    (h' : w'.ownsRow B 34 1 v' (L.length + 1) ((L.map fun p => .slice (some ⟨p.2.1, 0, none⟩) p.1.length p.2.2) ++ [.slice (some ⟨g, 0, none⟩) l.length c])) (hg : w.grownBy w' v.ownBlock) : GathU w' B v' (L ++ [(l, g, c)]) := by
  refine ⟨?_, fun p hp => ?_⟩
  · rw [List.length_append, List.map_append]
    exact h'
  · rcases List.mem_append.1 hp with hp | hp
    · exact World.ownsRow.kept (h.2 p hp) hg (own_types (h.2 p hp) h.1 hne)
    · obtain rfl : p = (l, g, c) := by simpa using hp
      exact World.ownsRow.kept hl hg (own_types hl h.1 hne)

end Go.Proofs.YtpfhegengmlkmaaGreatDoor
