/- Texts of this claim, one behind the other. -/
import Derived.Test.YtpfhegengmlkmaaGreatDoorZT1
import Derived.Test.YtpfhegengmlkmaaGreatDoorZT4
import Derived.Test.YtpfhegengmlkmaaGreatDoorZT5
import Derived.Test.YtpfhegengmlkmaaGreatDoorZT7
import Derived.Test.YtpfhegengmlkmaaGreatDoorZT8
namespace Go.Proofs.YtpfhegengmlkmaaGreatDoor
open Go.RowKit Go.BigFrame
set_option maxRecDepth 100000

/-- The slice (a, c) holds the marks 'm', in a block of the call's own from number 'B' on; or there are none. -/
def SlB (w : World) (B : Nat) (a : Option Addr) (c : Nat) (m : List (ByteArray × Int)) : Prop := m.length ≤ c ∧ (m = [] ∨ ∃ g, a = some ⟨g, 0, none⟩ ∧ B ≤ g ∧ Own w g m)
theorem SlB.row {w : World} {B c : Nat} {a : Option Addr} {m : List (ByteArray × Int)} (h : SlB w B a c m) : Row w a m := by
  rcases h.2 with rfl | ⟨g, rfl, _, ho⟩
  · exact fun k hk => absurd hk (Nat.not_lt_zero k)
  · exact ho.row
theorem SlB.isSl {w : World} {B c : Nat} {a : Option Addr} {m : List (ByteArray × Int)} (h : SlB w B a c m) : IsSl w (.slice a m.length c) m := ⟨a, c, rfl, h.1, h.row⟩
theorem SlB.keep {w w' : World} {B c : Nat} {a : Option Addr} {m : List (ByteArray × Int)} (h : SlB w B a c m) (hb : Below w.heap.size w w') : SlB w' B a c m := ⟨h.1, h.2.imp id fun ⟨g, e, h1, ho⟩ => ⟨g, e, h1, ho.below hb⟩⟩
theorem SlB.but {w w' : World} {R B c : Nat} {a : Option Addr} {m : List (ByteArray × Int)} (h : SlB w B a c m) (hb : But R w w') (hR : R < B) : SlB w' B a c m := ⟨h.1, h.2.imp id fun ⟨g, e, h1, ho⟩ => ⟨g, e, h1, hb.own ho (by omega)⟩⟩
theorem SlB.lower {w : World} {B B' c : Nat} {a : Option Addr} {m : List (ByteArray × Int)} (h : SlB w B a c m) (hB : B' ≤ B) : SlB w B' a c m := ⟨h.1, h.2.imp id fun ⟨g, e, h1, ho⟩ => ⟨g, e, Nat.le_trans hB h1, ho⟩⟩
theorem own_type {w : World} {B e size n b : Nat} {v : Value} {xs : List Value} {l : List (ByteArray × Int)} (h : w.ownsRow B e size v n xs) (ho : Own w b l) (hne : 97 ≠ e) : some b ≠ v.ownBlock := by
  obtain ⟨m, f, hr, _⟩ := ho
  exact owns_type h hr hne
theorem SlB.grown {w w' : World} {B B2 e size n c : Nat} {v : Value} {xs : List Value} {a : Option Addr} {m : List (ByteArray × Int)} (h : SlB w B a c m) (ho : w.ownsRow B2 e size v n xs) (hne : 97 ≠ e) (hg : w.grownBy w' v.ownBlock) : SlB w' B a c m :=
  ⟨h.1, h.2.imp id fun ⟨g, e', h1, hw⟩ => ⟨g, e', h1, hw.grown hg (own_type ho hw hne)⟩⟩
theorem Gath.slB {w : World} {B : Nat} {v : Value} {m : List (ByteArray × Int)} (h : Gath w B v m) : ∃ a c, v = .slice a m.length c ∧ SlB w B a c m := by
  rcases h.form with ⟨hv, rfl⟩ | ⟨g, cap, rfl, hB, ho⟩
  · exact ⟨_, _, hv, Nat.le_refl _, .inl rfl⟩
  · obtain ⟨h1, h2, h3⟩ := gath_own h
    exact ⟨_, _, rfl, h2, .inr ⟨g, rfl, h1, h3⟩⟩

/-- The cells of items, two an item. -/
def jcells : List (ItemL × Option Addr × Nat) → List Value
  | [] => []
  | p :: r => .int .i64 p.1.1 :: .slice p.2.1 p.1.2.length p.2.2 :: jcells r
theorem jcells_length : ∀ L, (jcells L).length = L.length * 2
  | [] => rfl
  | p :: r => by simp [jcells, jcells_length r]; omega
theorem jcells_append : ∀ L r, jcells (L ++ r) = jcells L ++ jcells r
  | [], _ => rfl
  | p :: L, r => by simp [jcells, jcells_append L r]
theorem jcells_at : ∀ (L : List (ItemL × Option Addr × Nat)) (k : Nat) (h : k < L.length), (jcells L)[k * 2]? = some (.int .i64 L[k].1.1) ∧ (jcells L)[k * 2 + 1]? = some (.slice L[k].2.1 L[k].1.2.length L[k].2.2)
  | p :: r, 0, _ => by simp [jcells]
  | p :: r, k + 1, h => by
    have := jcells_at r k (by simpa using h)
    have e0 : (k + 1) * 2 = k * 2 + 1 + 1 := by omega
    rw [e0]
    simp only [jcells, List.getElem?_cons_succ, List.getElem_cons_succ]
    exact this
theorem jcells_set : ∀ (L : List (ItemL × Option Addr × Nat)) (k : Nat) (p : ItemL × Option Addr × Nat), ((jcells L).set (k * 2) (.int .i64 p.1.1)).set (k * 2 + 1) (.slice p.2.1 p.1.2.length p.2.2) = jcells (L.set k p)
  | [], k, p => by simp [jcells]
  | x :: r, 0, p => by simp [jcells]
  | x :: r, k + 1, p => by
    have ih := jcells_set r k p
    have e0 : (k + 1) * 2 = k * 2 + 1 + 1 := by omega
    rw [e0]
    simp only [jcells, List.set_cons_succ, ih]

/-- The slice value 'v' holds the items of 'L', in a block of the call's own from number 'B' on; or it is nil, and there are none. -/
def GathJ (w : World) (B : Nat) (v : Value) (L : List (ItemL × Option Addr × Nat)) : Prop := w.ownsRow B 40 2 v L.length (jcells L) ∧ ∀ p ∈ L, SlB w B p.2.1 p.2.2 p.1.2
theorem GathJ.but {w w' : World} {R B : Nat} {v : Value} {L : List (ItemL × Option Addr × Nat)} (h : GathJ w B v L) (hb : But R w w') (hR : R < B) : GathJ w' B v L := ⟨owns_but h.1 hb hR, fun p hp => (h.2 p hp).but hb hR⟩
theorem GathJ.keep {w w' : World} {B : Nat} {v : Value} {L : List (ItemL × Option Addr × Nat)} (h : GathJ w B v L) (hb : Below w.heap.size w w') : GathJ w' B v L := ⟨owns_keep h.1 hb, fun p hp => (h.2 p hp).keep hb⟩
theorem GathJ.lower {w : World} {B B' : Nat} {v : Value} {L : List (ItemL × Option Addr × Nat)} (h : GathJ w B v L) (hB : B' ≤ B) : GathJ w B' v L := ⟨owns_lower h.1 hB, fun p hp => (h.2 p hp).lower hB⟩
theorem GathJ.snoc {w w' : World} {B : Nat} {v v' : Value} {L : List (ItemL × Option Addr × Nat)} {p : ItemL × Option Addr × Nat} (h : GathJ w B v L) (hp : SlB w B p.2.1 p.2.2 p.1.2)
    (h' : w'.ownsRow B 40 2 v' (L.length + 1) (jcells L ++ [.int .i64 p.1.1, .slice p.2.1 p.1.2.length p.2.2])) (hgr : w.grownBy w' v.ownBlock) : GathJ w' B v' (L ++ [p]) := by
  refine ⟨?_, fun q hq => ?_⟩
  · rw [jcells_append, List.length_append]
    exact h'
  · rcases List.mem_append.1 hq with hq | hq
    · exact (h.2 q hq).grown h.1 (by decide) hgr
    · obtain rfl : q = p := by simpa using hq
      exact hp.grown h.1 (by decide) hgr
/-- What a slice of items looks like. -/
theorem GathJ.form {w : World} {B : Nat} {v : Value} {L : List (ItemL × Option Addr × Nat)} (h : GathJ w B v L) : ∃ a cap, v = .slice a L.length cap ∧ L.length ≤ cap ∧ RowI w a (L.map (·.1)) ∧ (L ≠ [] → ∃ g f m, a = some ⟨g, 0, none⟩ ∧ B ≤ g ∧ w.rowIs g 40 m f ∧ L.length * 2 ≤ m) := by
  obtain ⟨⟨hl, h | ⟨g, cap, cur, hv, hgB, hh, hn, hc, hs, ht⟩⟩, hm⟩ := h
  · obtain rfl : L = [] := List.length_eq_zero_iff.1 h.2
    exact ⟨_, _, h.1, Nat.le_refl _, fun k hk => absurd hk (Nat.not_lt_zero k), fun q => absurd rfl q⟩
  · have hr : w.rowIs g 40 (cap * 2) (fun i => (cur[i]?).getD undef) := ⟨cur, hh, hs, fun i hi => by
      have hi' : i < cur.size := by omega
      simp [Array.getElem?_eq_getElem hi']⟩
    refine ⟨_, cap, hv, hn, fun k hk => ?_, fun _ => ⟨g, _, _, rfl, hgB, hr, by omega⟩⟩
    rw [List.length_map] at hk
    have h2 := jcells_at L k hk
    have hlen := jcells_length L
    rw [← ht] at h2
    rw [List.getElem?_take_of_lt (by omega), List.getElem?_take_of_lt (by omega)] at h2
    simp only [Array.getElem?_toList] at h2
    refine ⟨g, 0, rfl, hr.lt, ?_, .slice L[k].2.1 L[k].1.2.length L[k].2.2, ?_, ?_⟩
    · rw [Nat.zero_add, hr.cell (by omega), h2.1]
      simp
    · rw [Nat.zero_add, hr.cell (by omega), h2.2]
      simp
    · rw [List.getElem_map]
      exact (hm _ (List.getElem_mem hk)).isSl

/-- An item of what was gathered is set anew. -/
theorem GathJ.set {w : World} {B g cap k : Nat} {L : List (ItemL × Option Addr × Nat)} (h : GathJ w B (.slice (some ⟨g, 0, none⟩) L.length cap) L) (p : ItemL × Option Addr × Nat) (hp : SlB w B p.2.1 p.2.2 p.1.2) :
    GathJ ((w.setCell ⟨g, k * 2, none⟩ (.int .i64 p.1.1)).setCell ⟨g, k * 2 + 1, none⟩ (.slice p.2.1 p.1.2.length p.2.2)) B (.slice (some ⟨g, 0, none⟩) L.length cap) (L.set k p) := by
  have h2 := (World.ownsRow.stored (World.ownsRow.stored h.1 (k * 2) (.int .i64 p.1.1)).1 (k * 2 + 1) (.slice p.2.1 p.1.2.length p.2.2)).1
  have hset : ∀ q : ItemL × Option Addr × Nat, SlB w B q.2.1 q.2.2 q.1.2 → SlB ((w.setCell ⟨g, k * 2, none⟩ (.int .i64 p.1.1)).setCell ⟨g, k * 2 + 1, none⟩ (.slice p.2.1 p.1.2.length p.2.2)) B q.2.1 q.2.2 q.1.2 := fun q hq =>
    ⟨hq.1, hq.2.imp id fun ⟨b, e, hb, ho⟩ => ⟨b, e, hb, by
      have hne : b ≠ g := fun e' => own_type h.1 ho (by decide) (by rw [e']; rfl)
      exact (ho.setOther hne _ _).setOther hne _ _⟩⟩
  refine ⟨?_, fun q hq => ?_⟩
  · rw [jcells_set] at h2
    rw [List.length_set]
    exact h2
  · rcases List.mem_or_eq_of_mem_set hq with hq | rfl
    · exact hset q (h.2 q hq)
    · exact hset q hp

/-- Few items, with few marks of short names. -/
def FewI (n : Nat) (l : List ItemL) : Prop := l.length ≤ n ∧ ∀ x ∈ l, x.2.length ≤ 40 ∧ ∀ y ∈ x.2, y.1.size ≤ 2000
theorem FewI.fit {n : Nat} {l : List ItemL} (h : FewI n l) (hn : n ≤ 1000) : FitI l := ⟨by have := h.1; unfold maxLen; omega, fun j hj => ⟨by have := (h.2 _ (List.getElem_mem hj)).1; unfold maxLen; omega, fun i hi => by have := (h.2 _ (List.getElem_mem hj)).2 _ (List.getElem_mem hi); unfold maxLen; omega⟩⟩
theorem FewI.mono {n m : Nat} {l : List ItemL} (h : FewI n l) (hm : n ≤ m) : FewI m l := ⟨Nat.le_trans h.1 hm, h.2⟩
theorem FewI.nil (n : Nat) : FewI n [] := ⟨Nat.zero_le _, by simp⟩
theorem FewI.snoc {n : Nat} {l : List ItemL} {x : ItemL} (h : FewI n l) (hx : x.2.length ≤ 40 ∧ ∀ y ∈ x.2, y.1.size ≤ 2000) : FewI (n + 1) (l ++ [x]) := by
  refine ⟨by have := h.1; simp; omega, fun y hy => ?_⟩
  rcases List.mem_append.1 hy with hy | hy
  · exact h.2 y hy
  · obtain rfl : y = x := by simpa using hy
    exact hx
theorem FewI.set {n k : Nat} {l : List ItemL} {x : ItemL} (h : FewI n l) (hx : x.2.length ≤ 40 ∧ ∀ y ∈ x.2, y.1.size ≤ 2000) : FewI n (l.set k x) := by
  refine ⟨by rw [List.length_set]; exact h.1, fun y hy => ?_⟩
  rcases List.mem_or_eq_of_mem_set hy with hy | rfl
  · exact h.2 y hy
  · exact hx

end Go.Proofs.YtpfhegengmlkmaaGreatDoor

namespace Go.Proofs.YtpfhegengmlkmaaGreatDoor
open Go.RowKit Go.BigFrame

theorem lat_below {w wr : World} {o : Obj} (hb : Below w.heap.size w wr) (n : Lat (wr.alloc o)) : Below w.heap.size w n.w :=
  (hb.alloc hb.size o).trans (n.h.mono (Nat.le_trans hb.size (Nat.le_of_lt (box_lt _ _))))
theorem box_old (w : World) (o : Obj) {b i : Nat} (h : b < w.heap.size) : (w.alloc o).cell? ⟨b, i, none⟩ = w.cell? ⟨b, i, none⟩ :=
  ((Below.refl w.heap.size w).alloc (Nat.le_refl _) o).cell h

theorem ok_yes (s : ByteArray) (v : Int) (w : World) (hs : s.size ≤ maxLen) (h : MarkP (s, v)) :
    Calls Tryz.prog 79 #[.agg #[.string s, .int .i64 v]] w fun e w' => e = .returned (.bool true) ∧ Below w.heap.size w w' :=
  (ok_any s v w hs).mono fun e w' ⟨⟨r, he, hr⟩, hb⟩ => ⟨by rw [he, hr.2 h], hb⟩
theorem ok_no (s : ByteArray) (v : Int) (w : World) (hs : s.size ≤ maxLen) (h : ¬ MarkP (s, v)) :
    Calls Tryz.prog 79 #[.agg #[.string s, .int .i64 v]] w fun e w' => e = .returned (.bool false) ∧ Below w.heap.size w w' :=
  (ok_any s v w hs).mono fun e w' ⟨⟨r, he, hr⟩, hb⟩ => ⟨by rw [he]; cases r; rfl; exact absurd (hr.1 rfl) h, hb⟩

set_option maxHeartbeats 800000 in
theorem implStampOk_any (a : Option Addr) (cap : Nat) (l : List (ByteArray × Int)) (w : World) (hl : l.length ≤ maxLen) (hr : Row w a l) (hs : ∀ j, (h : j < l.length) → l[j].1.size ≤ maxLen) :
    Calls Tryz.prog 44 #[.slice a l.length cap] w fun e w' => IsB (StampP l) e ∧ Below w.heap.size w w' := by
  unfold maxLen at hl
  by_cases h12 : 12 < l.length
  · go_enter Tryz.func44, Tryz.ntmps44
    go_wp2_with fail
    go_ret
    exact ⟨isB_false (fun h => by have := h.1; omega), Below.refl _ _⟩
  go_enter Tryz.func44, Tryz.ntmps44
  go_wp2_with fail
  go_loopw [10] (fun i wr => ∃ k : Nat, k ≤ l.length ∧ i = .int .i64 k ∧ StampTo l k ∧ Below w.heap.size w wr) (fun i _ => l.length - (intOf i).toNat)
  case atStart => exact ⟨0, Nat.zero_le _, rfl, stampTo_zero l, Below.refl _ _⟩
  case round =>
    obtain ⟨k, hk, rfl, hall, hb⟩ := hrel
    by_cases hlt : k < l.length
    · obtain ⟨b, o, rfl, hblt, c0, c1⟩ := hr k hlt
      have HS := hs k hlt
      have HST := stampTo_step hall hlt
      have e0 := cell_on hb hblt c0
      have e1 := cell_on hb hblt c1
      have g1 : b < wr.heap.size := Nat.lt_of_lt_of_le hblt hb.size
      have k0 : (0 : Int) ≤ (k : Int) := by omega
      have k1 : (k : Int) < (l.length : Int) := by omega
      by_cases hm : MarkP l[k]
      · by_cases hk0 : k < 1
        · have hd : decide (0 < k) = false := by simp; omega
          go_wp2_with fail
          refine wp_region_lat (by kernel_rfl) (by kernel_rfl) ?_
          have hne := Lat.some (wr.alloc (.cells #[.string l[k].1, .int .i64 l[k].2] 97))
          have q0 : ∀ n : Lat (wr.alloc (.cells #[.string l[k].1, .int .i64 l[k].2] 97)), n.w.cell? ⟨wr.heap.size, 0, none⟩ = some (.string l[k].1) := fun n => n.cell (box_lt _ _) (box0 _ _ _ _)
          have q1 : ∀ n : Lat (wr.alloc (.cells #[.string l[k].1, .int .i64 l[k].2] 97)), n.w.cell? ⟨wr.heap.size, 1, none⟩ = some (.int .i64 l[k].2) := fun n => n.cell (box_lt _ _) (box1 _ _ _ _)
          repeat (go_big_quiet_step ((go_at_call 79; exact Calls.lat_of (ok_yes _ _ _ HS hm))))
          refine wpQuiet_nil ?_
          rintro _ ⟨nq, rfl⟩
          go_wp2_with fail
          exact ⟨⟨k + 1, by omega, by go_num, HST hm (fun h => by omega), lat_below hb nq⟩, by simp [intOf]; omega⟩
        · obtain ⟨b', o', he, _, d0, _⟩ := hr (k - 1) (by omega)
          obtain ⟨rfl, rfl⟩ : b' = b ∧ o' = o := by simp at he; exact ⟨he.1.symm, he.2.symm⟩
          have hd : decide (0 < k) = true := by simp; omega
          have f0 := cell_on hb hblt d0
          go_wp2_with fail
          refine wp_region_lat (by kernel_rfl) (by kernel_rfl) ?_
          have hne := Lat.some (wr.alloc (.cells #[.string l[k].1, .int .i64 l[k].2] 97))
          have q0 : ∀ n : Lat (wr.alloc (.cells #[.string l[k].1, .int .i64 l[k].2] 97)), n.w.cell? ⟨wr.heap.size, 0, none⟩ = some (.string l[k].1) := fun n => n.cell (box_lt _ _) (box0 _ _ _ _)
          have q1 : ∀ n : Lat (wr.alloc (.cells #[.string l[k].1, .int .i64 l[k].2] 97)), n.w.cell? ⟨wr.heap.size, 1, none⟩ = some (.int .i64 l[k].2) := fun n => n.cell (box_lt _ _) (box1 _ _ _ _)
          have q2 : ∀ n : Lat (wr.alloc (.cells #[.string l[k].1, .int .i64 l[k].2] 97)), n.w.cell? ⟨b', o' + (k - 1) * 2, none⟩ = some (.string l[k - 1].1) := fun n => n.cell (Nat.lt_trans g1 (box_lt _ _)) (by rw [box_old _ _ g1]; exact f0)
          repeat (go_big_quiet_step ((go_at_call 79; exact Calls.lat_of (ok_yes _ _ _ HS hm))))
          refine wpQuiet_nil ?_
          rintro _ ⟨nq, rfl⟩
          go_wp2_with fail
          · go_ret
            exact ⟨isB_false (fun h => by have := asc_at h hk0 hlt; unfold Asc at this; simp_all), lat_below hb nq⟩
          · exact ⟨⟨k + 1, by omega, by go_num, HST hm (fun _ => by unfold Asc; simp_all), lat_below hb nq⟩, by simp [intOf]; omega⟩
      · go_wp2_with fail
        refine wp_region_lat (by kernel_rfl) (by kernel_rfl) ?_
        have hne := Lat.some (wr.alloc (.cells #[.string l[k].1, .int .i64 l[k].2] 97))
        have q0 : ∀ n : Lat (wr.alloc (.cells #[.string l[k].1, .int .i64 l[k].2] 97)), n.w.cell? ⟨wr.heap.size, 0, none⟩ = some (.string l[k].1) := fun n => n.cell (box_lt _ _) (box0 _ _ _ _)
        have q1 : ∀ n : Lat (wr.alloc (.cells #[.string l[k].1, .int .i64 l[k].2] 97)), n.w.cell? ⟨wr.heap.size, 1, none⟩ = some (.int .i64 l[k].2) := fun n => n.cell (box_lt _ _) (box1 _ _ _ _)
        repeat (go_big_quiet_step ((go_at_call 79; exact Calls.lat_of (ok_no _ _ _ HS hm))))
        refine wpQuiet_nil ?_
        rintro _ ⟨nq, rfl⟩
        go_wp2_with fail
        go_ret
        exact ⟨isB_false (fun h => hm (h.2.1 k hlt)), lat_below hb nq⟩
    · go_wp2_with fail
      go_ret
      exact ⟨isB_true (stampP_of hall hlt (by omega)), hb⟩

end Go.Proofs.YtpfhegengmlkmaaGreatDoor

namespace Go.Proofs.YtpfhegengmlkmaaGreatDoor
open Go.RowKit Go.BigFrame

set_option maxHeartbeats 400000 in
theorem l1Get_any (a : Option Addr) (cap : Nat) (l : List (ByteArray × Int)) (s : ByteArray) (w : World) (hl : l.length ≤ maxLen) (hr : Row w a l) :
    Calls Tryz.prog 109 #[.slice a l.length cap, .string s] w fun e w' => e = .returned (.int .i64 (getM l s)) ∧ w' = w := by
  unfold maxLen at hl
  go_enter Tryz.func109, Tryz.ntmps109
  go_wp2_with fail
  go_loop [5] (fun i => ∃ k : Nat, k ≤ l.length ∧ i = .int .i64 k ∧ (∀ j, (h : j < l.length) → j < k → l[j].1 ≠ s)) (fun i => l.length - (intOf i).toNat)
  case atStart => exact ⟨0, Nat.zero_le _, rfl, fun j _ h => by omega⟩
  case round =>
    obtain ⟨k, hk, rfl, hall⟩ := hrel
    by_cases hlt : k < l.length
    · obtain ⟨b, o, rfl, hblt, c0, c1⟩ := hr k hlt
      have HST := ne_step hall hlt
      by_cases he : l[k].1 = s
      · have H : Hid (getM l s = l[k].2) := getM_at hlt hall he
        have hb : (l[k].1.toList == s.toList) = true := toList_beq.2 he
        clear HST hall he
        go_wp2_with fail
        go_ret
        exact ⟨by rw [H.out]; rfl, rfl⟩
      · have hb : (l[k].1.toList == s.toList) = false := toList_bne.2 he
        have HN := HST he
        clear HST hall he
        go_wp2_with fail
        exact ⟨⟨k + 1, by omega, by go_num, HN⟩, by simp [intOf]; omega⟩
    · have H : Hid (getM l s = 0) := getM_none fun j hj => hall j hj (by omega)
      go_wp2_with fail
      go_ret
      exact ⟨by rw [H.out]; rfl, rfl⟩

/-- What StampGet answers. -/
def IsG (l : List (ByteArray × Int)) (s : ByteArray) (v : Int) : Prop := (StampP l → v = getM l s) ∧ (¬ StampP l → v = 0)
theorem IsG.one {l : List (ByteArray × Int)} {s : ByteArray} {u v : Int} (h : IsG l s u) (h' : IsG l s v) : u = v := by
  by_cases hp : StampP l
  · rw [h.1 hp, h'.1 hp]
  · rw [h.2 hp, h'.2 hp]

end Go.Proofs.YtpfhegengmlkmaaGreatDoor

namespace Go.Proofs.YtpfhegengmlkmaaGreatDoor
open Go.RowKit Go.BigFrame

/-- Both are stamps, and have the same version of what both have. -/
def AgreeP (a b : List (ByteArray × Int)) : Prop := StampP a ∧ StampP b ∧ ∀ i, (h : i < a.length) → getM b a[i].1 = 0 ∨ getM b a[i].1 = a[i].2
/-- Each mark of the first is in the second, with at least its version. -/
def BelowP (a b : List (ByteArray × Int)) : Prop := ∀ i, (h : i < a.length) → a[i].2 ≤ getM b a[i].1

theorem ag_step {a b : List (ByteArray × Int)} {k : Nat} (H : ∀ i, (h : i < a.length) → i < k → getM b a[i].1 = 0 ∨ getM b a[i].1 = a[i].2) (hk : k < a.length) (h : getM b a[k].1 = 0 ∨ getM b a[k].1 = a[k].2) : ∀ i, (h : i < a.length) → i < k + 1 → getM b a[i].1 = 0 ∨ getM b a[i].1 = a[i].2 := fun i hi hlt => by
  by_cases e : i = k
  · subst e; exact h
  · exact H i hi (by omega)
theorem be_step {a b : List (ByteArray × Int)} {k : Nat} (H : ∀ i, (h : i < a.length) → i < k → a[i].2 ≤ getM b a[i].1) (hk : k < a.length) (h : a[k].2 ≤ getM b a[k].1) : ∀ i, (h : i < a.length) → i < k + 1 → a[i].2 ≤ getM b a[i].1 := fun i hi hlt => by
  by_cases e : i = k
  · subst e; exact h
  · exact H i hi (by omega)

set_option maxHeartbeats 800000 in
theorem l1Below_any (aa ab : Option Addr) (ca cb : Nat) (la lb : List (ByteArray × Int)) (w : World) (hla : la.length ≤ maxLen) (hlb : lb.length ≤ maxLen) (ha : Row w aa la) (hb : Row w ab lb) :
    Calls Tryz.prog 77 #[.slice aa la.length ca, .slice ab lb.length cb] w fun e w' => IsB (BelowP la lb) e ∧ Below w.heap.size w w' := by
  have hl := hla
  unfold maxLen at hl
  go_enter Tryz.func77, Tryz.ntmps77
  go_wp2_with fail
  go_loopw [5] (fun i wr => ∃ k : Nat, k ≤ la.length ∧ i = .int .i64 k ∧ (∀ i, (h : i < la.length) → i < k → la[i].2 ≤ getM lb la[i].1) ∧ Below w.heap.size w wr) (fun i _ => la.length - (intOf i).toNat)
  case atStart => exact ⟨0, Nat.zero_le _, rfl, fun j _ h => by omega, Below.refl _ _⟩
  case round =>
    obtain ⟨k, hk, rfl, hall, hbl⟩ := hrel
    by_cases hlt : k < la.length
    · obtain ⟨b, o, rfl, hblt, c0, c1⟩ := ha k hlt
      have HST := be_step hall hlt
      have e0 := cell_on hbl hblt c0
      have e1 := cell_on hbl hblt c1
      have g1 : b < wr.heap.size := Nat.lt_of_lt_of_le hblt hbl.size
      have HRB : Hid (∀ n : Lat wr, Row n.w ab lb) := fun n => (hb.below hbl).below n.h
      by_cases hc : getM lb la[k].1 < la[k].2
      · go_wp2_with fail
        refine wp_region_lat (by kernel_rfl) (by kernel_rfl) ?_
        have hne := Lat.some wr
        have q0 : ∀ n : Lat wr, n.w.cell? ⟨b, o + k * 2, none⟩ = some (.string la[k].1) := fun n => n.cell g1 e0
        have q1 : ∀ n : Lat wr, n.w.cell? ⟨b, o + k * 2 + 1, none⟩ = some (.int .i64 la[k].2) := fun n => n.cell g1 e1
        repeat (go_big_quiet_step ((go_at_call 109; exact Calls.lat_same (l1Get_any _ _ lb _ _ hlb (HRB.out _)))))
        refine wpQuiet_nil ?_
        rintro _ ⟨nq, rfl⟩
        go_wp2_with fail
        go_ret
        exact ⟨isB_false (fun h => by have := h k hlt; omega), hbl.trans (nq.h.mono hbl.size)⟩
      · have HN := HST (by omega)
        clear HST hall
        go_wp2_with fail
        refine wp_region_lat (by kernel_rfl) (by kernel_rfl) ?_
        have hne := Lat.some wr
        have q0 : ∀ n : Lat wr, n.w.cell? ⟨b, o + k * 2, none⟩ = some (.string la[k].1) := fun n => n.cell g1 e0
        have q1 : ∀ n : Lat wr, n.w.cell? ⟨b, o + k * 2 + 1, none⟩ = some (.int .i64 la[k].2) := fun n => n.cell g1 e1
        repeat (go_big_quiet_step ((go_at_call 109; exact Calls.lat_same (l1Get_any _ _ lb _ _ hlb (HRB.out _)))))
        refine wpQuiet_nil ?_
        rintro _ ⟨nq, rfl⟩
        go_wp2_with fail
        exact ⟨⟨k + 1, by omega, by go_num, HN, hbl.trans (nq.h.mono hbl.size)⟩, by simp [intOf]; omega⟩
    · go_wp2_with fail
      go_ret
      exact ⟨isB_true (fun i hi => hall i hi (by omega)), hbl⟩

set_option maxHeartbeats 800000 in
theorem specAgree_any (aa ab : Option Addr) (ca cb : Nat) (la lb : List (ByteArray × Int)) (w : World) (hla : la.length ≤ maxLen) (hlb : lb.length ≤ maxLen) (ha : Row w aa la) (hb : Row w ab lb)
    (hsa : ∀ j, (h : j < la.length) → la[j].1.size ≤ maxLen) (hsb : ∀ j, (h : j < lb.length) → lb[j].1.size ≤ maxLen) :
    Calls Tryz.prog 120 #[.slice aa la.length ca, .slice ab lb.length cb] w fun e w' => IsB (AgreeP la lb) e ∧ Below w.heap.size w w' := by
  have hl := hla
  unfold maxLen at hl
  go_enter Tryz.func120, Tryz.ntmps120
  go_wp2_with fail
  refine (specOk_b aa ca la _ hla ha hsa).mono ?_
  rintro e w1 ⟨⟨r, rfl, hr1⟩, hb1⟩
  cases r
  · have hn : ¬ StampP la := fun h => by simpa using hr1.2 h
    clear hr1
    go_wp2_with fail
    go_ret
    exact ⟨isB_false (fun h => hn h.1), hb1⟩
  have hya : StampP la := hr1.1 rfl
  clear hr1
  go_wp2_with fail
  refine (specOk_b ab cb lb _ hlb (hb.below hb1) hsb).mono ?_
  rintro e w2 ⟨⟨r, rfl, hr2⟩, hb2⟩
  have hb12 : Below w.heap.size w w2 := hb1.trans (hb2.mono hb1.size)
  cases r
  · have hn : ¬ StampP lb := fun h => by simpa using hr2.2 h
    clear hr2
    go_wp2_with fail
    go_ret
    exact ⟨isB_false (fun h => hn h.2.1), hb12⟩
  have hyb : StampP lb := hr2.1 rfl
  clear hr2
  have hra := ha.below hb12
  have hrb := hb.below hb12
  clear ha hb
  go_wp2_with fail
  go_loop [5] (fun i => ∃ k : Nat, k ≤ la.length ∧ i = .int .i64 k ∧ (∀ i, (h : i < la.length) → i < k → getM lb la[i].1 = 0 ∨ getM lb la[i].1 = la[i].2)) (fun i => la.length - (intOf i).toNat)
  case atStart => exact ⟨0, Nat.zero_le _, rfl, fun j _ h => by omega⟩
  case round =>
    obtain ⟨k, hk, rfl, hall⟩ := hrel
    by_cases hlt : k < la.length
    · obtain ⟨b, o, rfl, hblt, c0, c1⟩ := hra k hlt
      have HST := ag_step hall hlt
      by_cases e0 : getM lb la[k].1 = 0
      · have HN := HST (.inl e0)
        have g0 : (getM lb la[k].1 != 0) = false := by simp [e0]
        clear HST hall e0
        go_wp2_with (go_at_call 109; refine (l1Get_any _ _ lb _ _ hlb hrb).mono ?_; rintro e w3 ⟨rfl, rfl⟩)
        exact ⟨⟨k + 1, by omega, by go_num, HN⟩, by simp [intOf]; omega⟩
      · have g0 : (getM lb la[k].1 != 0) = true := by simp [e0]
        by_cases e1 : getM lb la[k].1 = la[k].2
        · have HN := HST (.inr e1)
          have g1 : (getM lb la[k].1 != la[k].2) = false := by simp [e1]
          clear HST hall e0 e1
          go_wp2_with (go_at_call 109; refine (l1Get_any _ _ lb _ _ hlb hrb).mono ?_; rintro e w3 ⟨rfl, rfl⟩)
          exact ⟨⟨k + 1, by omega, by go_num, HN⟩, by simp [intOf]; omega⟩
        · have g1 : (getM lb la[k].1 != la[k].2) = true := by simp [e1]
          have HE : Hid (¬ getM lb la[k].1 = 0 ∧ ¬ getM lb la[k].1 = la[k].2) := ⟨e0, e1⟩
          clear HST hall e0 e1
          go_wp2_with (go_at_call 109; refine (l1Get_any _ _ lb _ _ hlb hrb).mono ?_; rintro e w3 ⟨rfl, rfl⟩)
          go_ret
          exact ⟨isB_false (fun h => (h.2.2 k hlt).elim HE.out.1 HE.out.2), hb12⟩
    · go_wp2_with fail
      go_ret
      exact ⟨isB_true ⟨hya, hyb, fun i hi => hall i hi (by omega)⟩, hb12⟩

/-- What StampOrder answers. -/
def IsOrd (a b : List (ByteArray × Int)) (v : Int) : Prop :=
  (¬ (StampP a ∧ StampP b) ∧ v = 4) ∨ (StampP a ∧ StampP b ∧ ((BelowP a b ∧ BelowP b a ∧ v = 0) ∨ (BelowP a b ∧ ¬ BelowP b a ∧ v = 1) ∨ (¬ BelowP a b ∧ BelowP b a ∧ v = 2) ∨ (¬ BelowP a b ∧ ¬ BelowP b a ∧ v = 3)))
theorem IsOrd.one {a b : List (ByteArray × Int)} {u v : Int} (h : IsOrd a b u) (k : IsOrd a b v) : u = v := by
  rcases h with ⟨h1, h2⟩ | ⟨h1, h2, h3⟩
  · rcases k with ⟨k1, k2⟩ | ⟨k1, k2, k3⟩
    · rw [h2, k2]
    · exact absurd ⟨k1, k2⟩ h1
  · rcases k with ⟨k1, k2⟩ | ⟨k1, k2, k3⟩
    · exact absurd ⟨h1, h2⟩ k1
    · rcases h3 with ⟨p, q, e⟩ | ⟨p, q, e⟩ | ⟨p, q, e⟩ | ⟨p, q, e⟩ <;> rcases k3 with ⟨p', q', e'⟩ | ⟨p', q', e'⟩ | ⟨p', q', e'⟩ | ⟨p', q', e'⟩ <;> first | (rw [e, e']; done) | exact absurd p p' | exact absurd p' p | exact absurd q q' | exact absurd q' q

set_option maxHeartbeats 800000 in
theorem specOrder_any (aa ab : Option Addr) (ca cb : Nat) (la lb : List (ByteArray × Int)) (w : World) (hla : la.length ≤ maxLen) (hlb : lb.length ≤ maxLen) (ha : Row w aa la) (hb : Row w ab lb)
    (hsa : ∀ j, (h : j < la.length) → la[j].1.size ≤ maxLen) (hsb : ∀ j, (h : j < lb.length) → lb[j].1.size ≤ maxLen) :
    Calls Tryz.prog 40 #[.slice aa la.length ca, .slice ab lb.length cb] w fun e w' => (∃ v, e = .returned (.int .i64 v) ∧ IsOrd la lb v) ∧ Below w.heap.size w w' := by
  go_enter Tryz.func40, Tryz.ntmps40
  go_wp2_with fail
  refine (specOk_b aa ca la _ hla ha hsa).mono ?_
  rintro e w1 ⟨⟨r, rfl, hr1⟩, hb1⟩
  cases r
  · have hn : ¬ StampP la := fun h => by simpa using hr1.2 h
    clear hr1
    go_wp2_with fail
    go_ret
    exact ⟨⟨4, rfl, .inl ⟨fun h => hn h.1, rfl⟩⟩, hb1⟩
  have hya : StampP la := hr1.1 rfl
  clear hr1
  go_wp2_with fail
  refine (specOk_b ab cb lb _ hlb (hb.below hb1) hsb).mono ?_
  rintro e w2 ⟨⟨r, rfl, hr2⟩, hb2⟩
  have hb12 : Below w.heap.size w w2 := hb1.trans (hb2.mono hb1.size)
  cases r
  · have hn : ¬ StampP lb := fun h => by simpa using hr2.2 h
    clear hr2
    go_wp2_with fail
    go_ret
    exact ⟨⟨4, rfl, .inl ⟨fun h => hn h.2, rfl⟩⟩, hb12⟩
  have hyb : StampP lb := hr2.1 rfl
  clear hr2
  go_wp2_with fail
  refine (l1Below_any aa ab ca cb la lb _ hla hlb (ha.below hb12) (hb.below hb12)).mono ?_
  rintro e w3 ⟨⟨r3, rfl, hr3⟩, hb3⟩
  have hb13 : Below w.heap.size w w3 := hb12.trans (hb3.mono hb12.size)
  have HR3 : Hid (r3 = true ↔ BelowP la lb) := hr3
  clear hr3
  go_wp2_with fail
  refine (l1Below_any ab aa cb ca lb la _ hlb hla (hb.below hb13) (ha.below hb13)).mono ?_
  rintro e w4 ⟨⟨r4, rfl, hr4⟩, hb4⟩
  have hb14 : Below w.heap.size w w4 := hb13.trans (hb4.mono hb13.size)
  have h3 := HR3.out
  cases r3 <;> cases r4 <;> simp at h3 hr4
  all_goals
    have H3 : Hid _ := h3
    have H4 : Hid _ := hr4
    clear h3 hr4 HR3
    go_wp2_with fail
    go_ret
  · exact ⟨⟨3, rfl, .inr ⟨hya, hyb, .inr (.inr (.inr ⟨H3.out, H4.out, rfl⟩))⟩⟩, hb14⟩
  · exact ⟨⟨2, rfl, .inr ⟨hya, hyb, .inr (.inr (.inl ⟨H3.out, H4.out, rfl⟩))⟩⟩, hb14⟩
  · exact ⟨⟨1, rfl, .inr ⟨hya, hyb, .inr (.inl ⟨H3.out, H4.out, rfl⟩)⟩⟩, hb14⟩
  · exact ⟨⟨0, rfl, .inr ⟨hya, hyb, .inl ⟨H3.out, H4.out, rfl⟩⟩⟩, hb14⟩

end Go.Proofs.YtpfhegengmlkmaaGreatDoor
