/- Texts of this claim, one behind the other. -/
import Derived.Maps.AppendAt
import Derived.Deep.AppendLies
import Derived.Laws.OwnMore
import Derived.Lib.Strings
import Derived.Lib.Walk
import Derived.Lib.BufferWrite
import Derived.Lib.UnsafeStr
import Derived.Laws.MakeOwn
import Derived.Deep.RegionHeld3
import Derived.Test.YtpfhegengmlkmaaGreatZK1
import Derived.Test.YtpfhegengmlkmaaGreatZK4
import Derived.Test.YtpfhegengmlkmaaGreatZK5
namespace Go.Proofs.YtpfhegengmlkmaaGreat
open Go.RowKit Go.BigFrame

theorem own_keep {w w' : World} {B e size n : Nat} {v : Value} {xs : List Value} (h : w.ownsRow B e size v n xs) (hb : Below w.heap.size w w') : w'.ownsRow B e size v n xs := by
  obtain ⟨hl, h | ⟨g, cap, cur, hv, hgB, hh, r⟩⟩ := h
  · exact ⟨hl, .inl h⟩
  · exact ⟨hl, .inr ⟨g, cap, cur, hv, hgB, (hb.block g (Array.getElem?_eq_some_iff.1 hh).1).trans hh, r⟩⟩
theorem own_lower {w : World} {B B' e size n : Nat} {v : Value} {xs : List Value} (h : w.ownsRow B e size v n xs) (hB : B' ≤ B) : w.ownsRow B' e size v n xs := by
  obtain ⟨hl, h | ⟨g, cap, cur, hv, hgB, r⟩⟩ := h
  · exact ⟨hl, .inl h⟩
  · exact ⟨hl, .inr ⟨g, cap, cur, hv, Nat.le_trans hB hgB, r⟩⟩
/-- Two rows of unlike types lie in unlike blocks. -/
theorem own_types {w : World} {B B' e e' size size' n n' : Nat} {v v' : Value} {xs xs' : List Value} (h : w.ownsRow B e size v n xs) (h' : w.ownsRow B' e' size' v' n' xs') (hne : e ≠ e') : v.ownBlock = none ∨ v.ownBlock ≠ v'.ownBlock := by
  rcases h.2 with ⟨rfl, _⟩ | ⟨g, cap, cur, rfl, _, hh, _⟩
  · exact .inl rfl
  · rcases h'.2 with ⟨rfl, _⟩ | ⟨g', cap', cur', rfl, _, hh', _⟩
    · exact .inr (by simp [Value.ownBlock])
    · refine .inr fun q => ?_
      obtain rfl : g = g' := by simpa [Value.ownBlock] using q
      rw [hh] at hh'
      simp at hh'
      exact hne hh'.2
theorem own_from {w : World} {B e size n : Nat} {v : Value} {xs : List Value} (h : w.ownsRow B e size v n xs) : ∀ k, v.ownBlock = some k → B ≤ k := fun k q => (h.lt k q).1
theorem grown_below {w w' : World} (hb : Below w.heap.size w w') (row : Option Nat) : w.grownBy w' row := ⟨hb.os, hb.tape, hb.output, hb.size, fun k hk _ => hb.block k hk⟩
/-- First one row, then the row that it has become. -/
theorem grown_then {w w1 w2 : World} {r r1 : Option Nat} (h : w.grownBy w1 r) (k : w1.grownBy w2 r1) (hr : r1 = r ∨ ∃ g, r1 = some g ∧ w.heap.size ≤ g) : w.grownBy w2 r :=
  ⟨k.os.trans h.os, k.tape.trans h.tape, k.output.trans h.output, Nat.le_trans h.size k.size, fun i hi hne => (k.block i (Nat.lt_of_lt_of_le hi h.size) (by
    rcases hr with e | ⟨g, e, hle⟩
    · rw [e]; exact hne
    · rw [e]; intro q; cases q; omega)).trans (h.block i hi hne)⟩
theorem grown_cell {w w' : World} {r : Option Nat} (hg : w.grownBy w' r) {b o : Nat} {v : Value} (hne : some b ≠ r) (h : w.cell? ⟨b, o, none⟩ = some v) : w'.cell? ⟨b, o, none⟩ = some v := hg.cell h hne

/-- The slice value 'v' holds the numbers 'l', in a row of the call's own from block 'B' on. -/
def GathN (w : World) (B : Nat) (v : Value) (l : List Int) : Prop := w.ownsRow B 3 1 v l.length (l.map fun x => .int .i64 x)
theorem GathN.shape {w : World} {B : Nat} {v : Value} {l : List Int} (h : GathN w B v l) (h0 : 0 < l.length) : ∃ g cap, v = .slice (some ⟨g, 0, none⟩) l.length cap ∧ B ≤ g ∧ g < w.heap.size ∧ l.length ≤ cap ∧ ∀ j, (hj : j < l.length) → w.cell? ⟨g, j, none⟩ = some (.int .i64 l[j]) := by
  rcases h.2 with ⟨rfl, e⟩ | ⟨g, cap, cur, rfl, hB, hh, hn, r⟩
  · omega
  · refine ⟨g, cap, rfl, hB, (Array.getElem?_eq_some_iff.1 hh).1, hn, fun j hj => ?_⟩
    rw [World.ownsRow.cellAt h j (by omega)]
    simp [hj]

/-- Lists of numbers that the call itself gathers, each in a row of its own: the lists, their blocks and their room. -/
def GathU (w : World) (B : Nat) (v : Value) (L : List (List Int × Nat × Nat)) : Prop := w.ownsRow B 25 1 v L.length (L.map fun p => .slice (some ⟨p.2.1, 0, none⟩) p.1.length p.2.2) ∧ ∀ p ∈ L, GathN w B (.slice (some ⟨p.2.1, 0, none⟩) p.1.length p.2.2) p.1
theorem gathU_none (w : World) (B : Nat) : GathU w B (.slice none 0 0) [] := ⟨World.ownsRow_nil _ _ _ _, by simp⟩
theorem GathU.keep {w w' : World} {B : Nat} {v : Value} {L : List (List Int × Nat × Nat)} (h : GathU w B v L) (hb : Below w.heap.size w w') : GathU w' B v L := ⟨own_keep h.1 hb, fun p hp => own_keep (h.2 p hp) hb⟩
theorem GathU.snoc {w w' : World} {B g c : Nat} {v v' : Value} {L : List (List Int × Nat × Nat)} {l : List Int} (h : GathU w B v L) (hl : GathN w B (.slice (some ⟨g, 0, none⟩) l.length c) l) (hne : 3 ≠ 25)
    (h' : w'.ownsRow B 25 1 v' (L.length + 1) ((L.map fun p => .slice (some ⟨p.2.1, 0, none⟩) p.1.length p.2.2) ++ [.slice (some ⟨g, 0, none⟩) l.length c])) (hg : w.grownBy w' v.ownBlock) : GathU w' B v' (L ++ [(l, g, c)]) := by
  refine ⟨?_, fun p hp => ?_⟩
  · rw [List.length_append, List.map_append]
    exact h'
  · rcases List.mem_append.1 hp with hp | hp
    · exact World.ownsRow.kept (h.2 p hp) hg (own_types (h.2 p hp) h.1 hne)
    · obtain rfl : p = (l, g, c) := by simpa using hp
      exact World.ownsRow.kept hl hg (own_types hl h.1 hne)

end Go.Proofs.YtpfhegengmlkmaaGreat

namespace Go.Proofs.YtpfhegengmlkmaaGreat
open Go.RowKit Go.BigFrame

theorem lat_below {w wr : World} {o : Obj} (hb : Below w.heap.size w wr) (n : Lat (wr.alloc o)) : Below w.heap.size w n.w :=
  (hb.alloc hb.size o).trans (n.h.mono (Nat.le_trans hb.size (Nat.le_of_lt (box_lt _ _))))
theorem box_old (w : World) (o : Obj) {b i : Nat} (h : b < w.heap.size) : (w.alloc o).cell? ⟨b, i, none⟩ = w.cell? ⟨b, i, none⟩ :=
  ((Below.refl w.heap.size w).alloc (Nat.le_refl _) o).cell h

theorem ok_yes (s : ByteArray) (v : Int) (w : World) (hs : s.size ≤ maxLen) (h : MarkP (s, v)) :
    Calls Tryz.prog 58 #[.agg #[.string s, .int .i64 v]] w fun e w' => e = .returned (.bool true) ∧ Below w.heap.size w w' :=
  (ok_any s v w hs).mono fun e w' ⟨⟨r, he, hr⟩, hb⟩ => ⟨by rw [he, hr.2 h], hb⟩
theorem ok_no (s : ByteArray) (v : Int) (w : World) (hs : s.size ≤ maxLen) (h : ¬ MarkP (s, v)) :
    Calls Tryz.prog 58 #[.agg #[.string s, .int .i64 v]] w fun e w' => e = .returned (.bool false) ∧ Below w.heap.size w w' :=
  (ok_any s v w hs).mono fun e w' ⟨⟨r, he, hr⟩, hb⟩ => ⟨by rw [he]; cases r; rfl; exact absurd (hr.1 rfl) h, hb⟩

set_option maxHeartbeats 800000 in
theorem implStampOk_any (a : Option Addr) (cap : Nat) (l : List (ByteArray × Int)) (w : World) (hl : l.length ≤ maxLen) (hr : Row w a l) (hs : ∀ j, (h : j < l.length) → l[j].1.size ≤ maxLen) :
    Calls Tryz.prog 33 #[.slice a l.length cap] w fun e w' => IsB (StampP l) e ∧ Below w.heap.size w w' := by
  unfold maxLen at hl
  by_cases h12 : 12 < l.length
  · go_enter Tryz.func33, Tryz.ntmps33
    go_wp2_with fail
    go_ret
    exact ⟨isB_false (fun h => by have := h.1; omega), Below.refl _ _⟩
  go_enter Tryz.func33, Tryz.ntmps33
  go_wp2_with fail
  go_loopw [10] (fun i wr => ∃ k : Nat, k ≤ l.length ∧ i = .int .i64 k ∧ StampTo l k ∧ Below w.heap.size w wr) (fun i _ => l.length - (intOf i).toNat)
  case atStart => exact ⟨0, Nat.zero_le _, rfl, stampTo_zero l, Below.refl _ _⟩
  case round =>
    obtain ⟨k, hk, rfl, hall, hb⟩ := hrel
    by_cases hlt : k < l.length
    · obtain ⟨b, o, rfl, hblt, c0, c1⟩ := hr k hlt
      have HS := hs k hlt
      have HST := stampTo_step hall hlt
      have e0 := cell_on hb hblt c0
      have e1 := cell_on hb hblt c1
      have g1 : b < wr.heap.size := Nat.lt_of_lt_of_le hblt hb.size
      have k0 : (0 : Int) ≤ (k : Int) := by omega
      have k1 : (k : Int) < (l.length : Int) := by omega
      by_cases hm : MarkP l[k]
      · by_cases hk0 : k < 1
        · have hd : decide (0 < k) = false := by simp; omega
          go_wp2_with fail
          refine wp_region_lat (by kernel_rfl) (by kernel_rfl) ?_
          have hne := Lat.some (wr.alloc (.cells #[.string l[k].1, .int .i64 l[k].2] 72))
          have q0 : ∀ n : Lat (wr.alloc (.cells #[.string l[k].1, .int .i64 l[k].2] 72)), n.w.cell? ⟨wr.heap.size, 0, none⟩ = some (.string l[k].1) := fun n => n.cell (box_lt _ _) (box0 _ _ _ _)
          have q1 : ∀ n : Lat (wr.alloc (.cells #[.string l[k].1, .int .i64 l[k].2] 72)), n.w.cell? ⟨wr.heap.size, 1, none⟩ = some (.int .i64 l[k].2) := fun n => n.cell (box_lt _ _) (box1 _ _ _ _)
          repeat (go_big_quiet_step ((go_at_call 58; exact Calls.lat_of (ok_yes _ _ _ HS hm))))
          refine wpQuiet_nil ?_
          rintro _ ⟨nq, rfl⟩
          go_wp2_with fail
          exact ⟨⟨k + 1, by omega, by go_num, HST hm (fun h => by omega), lat_below hb nq⟩, by simp [intOf]; omega⟩
        · obtain ⟨b', o', he, _, d0, _⟩ := hr (k - 1) (by omega)
          obtain ⟨rfl, rfl⟩ : b' = b ∧ o' = o := by simp at he; exact ⟨he.1.symm, he.2.symm⟩
          have hd : decide (0 < k) = true := by simp; omega
          have f0 := cell_on hb hblt d0
          go_wp2_with fail
          refine wp_region_lat (by kernel_rfl) (by kernel_rfl) ?_
          have hne := Lat.some (wr.alloc (.cells #[.string l[k].1, .int .i64 l[k].2] 72))
          have q0 : ∀ n : Lat (wr.alloc (.cells #[.string l[k].1, .int .i64 l[k].2] 72)), n.w.cell? ⟨wr.heap.size, 0, none⟩ = some (.string l[k].1) := fun n => n.cell (box_lt _ _) (box0 _ _ _ _)
          have q1 : ∀ n : Lat (wr.alloc (.cells #[.string l[k].1, .int .i64 l[k].2] 72)), n.w.cell? ⟨wr.heap.size, 1, none⟩ = some (.int .i64 l[k].2) := fun n => n.cell (box_lt _ _) (box1 _ _ _ _)
          have q2 : ∀ n : Lat (wr.alloc (.cells #[.string l[k].1, .int .i64 l[k].2] 72)), n.w.cell? ⟨b', o' + (k - 1) * 2, none⟩ = some (.string l[k - 1].1) := fun n => n.cell (Nat.lt_trans g1 (box_lt _ _)) (by rw [box_old _ _ g1]; exact f0)
          repeat (go_big_quiet_step ((go_at_call 58; exact Calls.lat_of (ok_yes _ _ _ HS hm))))
          refine wpQuiet_nil ?_
          rintro _ ⟨nq, rfl⟩
          go_wp2_with fail
          · go_ret
            exact ⟨isB_false (fun h => by have := asc_at h hk0 hlt; unfold Asc at this; simp_all), lat_below hb nq⟩
          · exact ⟨⟨k + 1, by omega, by go_num, HST hm (fun _ => by unfold Asc; simp_all), lat_below hb nq⟩, by simp [intOf]; omega⟩
      · go_wp2_with fail
        refine wp_region_lat (by kernel_rfl) (by kernel_rfl) ?_
        have hne := Lat.some (wr.alloc (.cells #[.string l[k].1, .int .i64 l[k].2] 72))
        have q0 : ∀ n : Lat (wr.alloc (.cells #[.string l[k].1, .int .i64 l[k].2] 72)), n.w.cell? ⟨wr.heap.size, 0, none⟩ = some (.string l[k].1) := fun n => n.cell (box_lt _ _) (box0 _ _ _ _)
        have q1 : ∀ n : Lat (wr.alloc (.cells #[.string l[k].1, .int .i64 l[k].2] 72)), n.w.cell? ⟨wr.heap.size, 1, none⟩ = some (.int .i64 l[k].2) := fun n => n.cell (box_lt _ _) (box1 _ _ _ _)
        repeat (go_big_quiet_step ((go_at_call 58; exact Calls.lat_of (ok_no _ _ _ HS hm))))
        refine wpQuiet_nil ?_
        rintro _ ⟨nq, rfl⟩
        go_wp2_with fail
        go_ret
        exact ⟨isB_false (fun h => hm (h.2.1 k hlt)), lat_below hb nq⟩
    · go_wp2_with fail
      go_ret
      exact ⟨isB_true (stampP_of hall hlt (by omega)), hb⟩

end Go.Proofs.YtpfhegengmlkmaaGreat

namespace Go.Proofs.YtpfhegengmlkmaaGreat
open Go.RowKit Go.BigFrame

set_option maxHeartbeats 400000 in
theorem l1Get_any (a : Option Addr) (cap : Nat) (l : List (ByteArray × Int)) (s : ByteArray) (w : World) (hl : l.length ≤ maxLen) (hr : Row w a l) :
    Calls Tryz.prog 57 #[.slice a l.length cap, .string s] w fun e w' => e = .returned (.int .i64 (getM l s)) ∧ w' = w := by
  unfold maxLen at hl
  go_enter Tryz.func57, Tryz.ntmps57
  go_wp2_with fail
  go_loop [5] (fun i => ∃ k : Nat, k ≤ l.length ∧ i = .int .i64 k ∧ (∀ j, (h : j < l.length) → j < k → l[j].1 ≠ s)) (fun i => l.length - (intOf i).toNat)
  case atStart => exact ⟨0, Nat.zero_le _, rfl, fun j _ h => by omega⟩
  case round =>
    obtain ⟨k, hk, rfl, hall⟩ := hrel
    by_cases hlt : k < l.length
    · obtain ⟨b, o, rfl, hblt, c0, c1⟩ := hr k hlt
      have HST := ne_step hall hlt
      by_cases he : l[k].1 = s
      · have H : Hid (getM l s = l[k].2) := getM_at hlt hall he
        have hb : (l[k].1.toList == s.toList) = true := toList_beq.2 he
        clear HST hall he
        go_wp2_with fail
        go_ret
        exact ⟨by rw [H.out]; rfl, rfl⟩
      · have hb : (l[k].1.toList == s.toList) = false := toList_bne.2 he
        have HN := HST he
        clear HST hall he
        go_wp2_with fail
        exact ⟨⟨k + 1, by omega, by go_num, HN⟩, by simp [intOf]; omega⟩
    · have H : Hid (getM l s = 0) := getM_none fun j hj => hall j hj (by omega)
      go_wp2_with fail
      go_ret
      exact ⟨by rw [H.out]; rfl, rfl⟩

/-- What StampGet answers. -/
def IsG (l : List (ByteArray × Int)) (s : ByteArray) (v : Int) : Prop := (StampP l → v = getM l s) ∧ (¬ StampP l → v = 0)
theorem IsG.one {l : List (ByteArray × Int)} {s : ByteArray} {u v : Int} (h : IsG l s u) (h' : IsG l s v) : u = v := by
  by_cases hp : StampP l
  · rw [h.1 hp, h'.1 hp]
  · rw [h.2 hp, h'.2 hp]

end Go.Proofs.YtpfhegengmlkmaaGreat

namespace Go.Proofs.YtpfhegengmlkmaaGreat
open Go.RowKit Go.BigFrame

/-- Both are stamps, and have the same version of what both have. -/
def AgreeP (a b : List (ByteArray × Int)) : Prop := StampP a ∧ StampP b ∧ ∀ i, (h : i < a.length) → getM b a[i].1 = 0 ∨ getM b a[i].1 = a[i].2
/-- Each mark of the first is in the second, with at least its version. -/
def BelowP (a b : List (ByteArray × Int)) : Prop := ∀ i, (h : i < a.length) → a[i].2 ≤ getM b a[i].1

theorem ag_step {a b : List (ByteArray × Int)} {k : Nat} (H : ∀ i, (h : i < a.length) → i < k → getM b a[i].1 = 0 ∨ getM b a[i].1 = a[i].2) (hk : k < a.length) (h : getM b a[k].1 = 0 ∨ getM b a[k].1 = a[k].2) : ∀ i, (h : i < a.length) → i < k + 1 → getM b a[i].1 = 0 ∨ getM b a[i].1 = a[i].2 := fun i hi hlt => by
  by_cases e : i = k
  · subst e; exact h
  · exact H i hi (by omega)
theorem be_step {a b : List (ByteArray × Int)} {k : Nat} (H : ∀ i, (h : i < a.length) → i < k → a[i].2 ≤ getM b a[i].1) (hk : k < a.length) (h : a[k].2 ≤ getM b a[k].1) : ∀ i, (h : i < a.length) → i < k + 1 → a[i].2 ≤ getM b a[i].1 := fun i hi hlt => by
  by_cases e : i = k
  · subst e; exact h
  · exact H i hi (by omega)

set_option maxHeartbeats 800000 in
theorem l1Below_any (aa ab : Option Addr) (ca cb : Nat) (la lb : List (ByteArray × Int)) (w : World) (hla : la.length ≤ maxLen) (hlb : lb.length ≤ maxLen) (ha : Row w aa la) (hb : Row w ab lb) :
    Calls Tryz.prog 87 #[.slice aa la.length ca, .slice ab lb.length cb] w fun e w' => IsB (BelowP la lb) e ∧ Below w.heap.size w w' := by
  have hl := hla
  unfold maxLen at hl
  go_enter Tryz.func87, Tryz.ntmps87
  go_wp2_with fail
  go_loopw [5] (fun i wr => ∃ k : Nat, k ≤ la.length ∧ i = .int .i64 k ∧ (∀ i, (h : i < la.length) → i < k → la[i].2 ≤ getM lb la[i].1) ∧ Below w.heap.size w wr) (fun i _ => la.length - (intOf i).toNat)
  case atStart => exact ⟨0, Nat.zero_le _, rfl, fun j _ h => by omega, Below.refl _ _⟩
  case round =>
    obtain ⟨k, hk, rfl, hall, hbl⟩ := hrel
    by_cases hlt : k < la.length
    · obtain ⟨b, o, rfl, hblt, c0, c1⟩ := ha k hlt
      have HST := be_step hall hlt
      have e0 := cell_on hbl hblt c0
      have e1 := cell_on hbl hblt c1
      have g1 : b < wr.heap.size := Nat.lt_of_lt_of_le hblt hbl.size
      have HRB : Hid (∀ n : Lat wr, Row n.w ab lb) := fun n => (hb.below hbl).below n.h
      by_cases hc : getM lb la[k].1 < la[k].2
      · go_wp2_with fail
        refine wp_region_lat (by kernel_rfl) (by kernel_rfl) ?_
        have hne := Lat.some wr
        have q0 : ∀ n : Lat wr, n.w.cell? ⟨b, o + k * 2, none⟩ = some (.string la[k].1) := fun n => n.cell g1 e0
        have q1 : ∀ n : Lat wr, n.w.cell? ⟨b, o + k * 2 + 1, none⟩ = some (.int .i64 la[k].2) := fun n => n.cell g1 e1
        repeat (go_big_quiet_step ((go_at_call 57; exact Calls.lat_same (l1Get_any _ _ lb _ _ hlb (HRB.out _)))))
        refine wpQuiet_nil ?_
        rintro _ ⟨nq, rfl⟩
        go_wp2_with fail
        go_ret
        exact ⟨isB_false (fun h => by have := h k hlt; omega), hbl.trans (nq.h.mono hbl.size)⟩
      · have HN := HST (by omega)
        clear HST hall
        go_wp2_with fail
        refine wp_region_lat (by kernel_rfl) (by kernel_rfl) ?_
        have hne := Lat.some wr
        have q0 : ∀ n : Lat wr, n.w.cell? ⟨b, o + k * 2, none⟩ = some (.string la[k].1) := fun n => n.cell g1 e0
        have q1 : ∀ n : Lat wr, n.w.cell? ⟨b, o + k * 2 + 1, none⟩ = some (.int .i64 la[k].2) := fun n => n.cell g1 e1
        repeat (go_big_quiet_step ((go_at_call 57; exact Calls.lat_same (l1Get_any _ _ lb _ _ hlb (HRB.out _)))))
        refine wpQuiet_nil ?_
        rintro _ ⟨nq, rfl⟩
        go_wp2_with fail
        exact ⟨⟨k + 1, by omega, by go_num, HN, hbl.trans (nq.h.mono hbl.size)⟩, by simp [intOf]; omega⟩
    · go_wp2_with fail
      go_ret
      exact ⟨isB_true (fun i hi => hall i hi (by omega)), hbl⟩

set_option maxHeartbeats 800000 in
theorem specAgree_any (aa ab : Option Addr) (ca cb : Nat) (la lb : List (ByteArray × Int)) (w : World) (hla : la.length ≤ maxLen) (hlb : lb.length ≤ maxLen) (ha : Row w aa la) (hb : Row w ab lb)
    (hsa : ∀ j, (h : j < la.length) → la[j].1.size ≤ maxLen) (hsb : ∀ j, (h : j < lb.length) → lb[j].1.size ≤ maxLen) :
    Calls Tryz.prog 51 #[.slice aa la.length ca, .slice ab lb.length cb] w fun e w' => IsB (AgreeP la lb) e ∧ Below w.heap.size w w' := by
  have hl := hla
  unfold maxLen at hl
  go_enter Tryz.func51, Tryz.ntmps51
  go_wp2_with fail
  refine (specOk_b aa ca la _ hla ha hsa).mono ?_
  rintro e w1 ⟨⟨r, rfl, hr1⟩, hb1⟩
  cases r
  · have hn : ¬ StampP la := fun h => by simpa using hr1.2 h
    clear hr1
    go_wp2_with fail
    go_ret
    exact ⟨isB_false (fun h => hn h.1), hb1⟩
  have hya : StampP la := hr1.1 rfl
  clear hr1
  go_wp2_with fail
  refine (specOk_b ab cb lb _ hlb (hb.below hb1) hsb).mono ?_
  rintro e w2 ⟨⟨r, rfl, hr2⟩, hb2⟩
  have hb12 : Below w.heap.size w w2 := hb1.trans (hb2.mono hb1.size)
  cases r
  · have hn : ¬ StampP lb := fun h => by simpa using hr2.2 h
    clear hr2
    go_wp2_with fail
    go_ret
    exact ⟨isB_false (fun h => hn h.2.1), hb12⟩
  have hyb : StampP lb := hr2.1 rfl
  clear hr2
  have hra := ha.below hb12
  have hrb := hb.below hb12
  clear ha hb
  go_wp2_with fail
  go_loop [5] (fun i => ∃ k : Nat, k ≤ la.length ∧ i = .int .i64 k ∧ (∀ i, (h : i < la.length) → i < k → getM lb la[i].1 = 0 ∨ getM lb la[i].1 = la[i].2)) (fun i => la.length - (intOf i).toNat)
  case atStart => exact ⟨0, Nat.zero_le _, rfl, fun j _ h => by omega⟩
  case round =>
    obtain ⟨k, hk, rfl, hall⟩ := hrel
    by_cases hlt : k < la.length
    · obtain ⟨b, o, rfl, hblt, c0, c1⟩ := hra k hlt
      have HST := ag_step hall hlt
      by_cases e0 : getM lb la[k].1 = 0
      · have HN := HST (.inl e0)
        have g0 : (getM lb la[k].1 != 0) = false := by simp [e0]
        clear HST hall e0
        go_wp2_with (go_at_call 57; refine (l1Get_any _ _ lb _ _ hlb hrb).mono ?_; rintro e w3 ⟨rfl, rfl⟩)
        exact ⟨⟨k + 1, by omega, by go_num, HN⟩, by simp [intOf]; omega⟩
      · have g0 : (getM lb la[k].1 != 0) = true := by simp [e0]
        by_cases e1 : getM lb la[k].1 = la[k].2
        · have HN := HST (.inr e1)
          have g1 : (getM lb la[k].1 != la[k].2) = false := by simp [e1]
          clear HST hall e0 e1
          go_wp2_with (go_at_call 57; refine (l1Get_any _ _ lb _ _ hlb hrb).mono ?_; rintro e w3 ⟨rfl, rfl⟩)
          exact ⟨⟨k + 1, by omega, by go_num, HN⟩, by simp [intOf]; omega⟩
        · have g1 : (getM lb la[k].1 != la[k].2) = true := by simp [e1]
          have HE : Hid (¬ getM lb la[k].1 = 0 ∧ ¬ getM lb la[k].1 = la[k].2) := ⟨e0, e1⟩
          clear HST hall e0 e1
          go_wp2_with (go_at_call 57; refine (l1Get_any _ _ lb _ _ hlb hrb).mono ?_; rintro e w3 ⟨rfl, rfl⟩)
          go_ret
          exact ⟨isB_false (fun h => (h.2.2 k hlt).elim HE.out.1 HE.out.2), hb12⟩
    · go_wp2_with fail
      go_ret
      exact ⟨isB_true ⟨hya, hyb, fun i hi => hall i hi (by omega)⟩, hb12⟩

/-- What StampOrder answers. -/
def IsOrd (a b : List (ByteArray × Int)) (v : Int) : Prop :=
  (¬ (StampP a ∧ StampP b) ∧ v = 4) ∨ (StampP a ∧ StampP b ∧ ((BelowP a b ∧ BelowP b a ∧ v = 0) ∨ (BelowP a b ∧ ¬ BelowP b a ∧ v = 1) ∨ (¬ BelowP a b ∧ BelowP b a ∧ v = 2) ∨ (¬ BelowP a b ∧ ¬ BelowP b a ∧ v = 3)))
theorem IsOrd.one {a b : List (ByteArray × Int)} {u v : Int} (h : IsOrd a b u) (k : IsOrd a b v) : u = v := by
  rcases h with ⟨h1, h2⟩ | ⟨h1, h2, h3⟩
  · rcases k with ⟨k1, k2⟩ | ⟨k1, k2, k3⟩
    · rw [h2, k2]
    · exact absurd ⟨k1, k2⟩ h1
  · rcases k with ⟨k1, k2⟩ | ⟨k1, k2, k3⟩
    · exact absurd ⟨h1, h2⟩ k1
    · rcases h3 with ⟨p, q, e⟩ | ⟨p, q, e⟩ | ⟨p, q, e⟩ | ⟨p, q, e⟩ <;> rcases k3 with ⟨p', q', e'⟩ | ⟨p', q', e'⟩ | ⟨p', q', e'⟩ | ⟨p', q', e'⟩ <;> first | (rw [e, e']; done) | exact absurd p p' | exact absurd p' p | exact absurd q q' | exact absurd q' q

set_option maxHeartbeats 800000 in
theorem specOrder_any (aa ab : Option Addr) (ca cb : Nat) (la lb : List (ByteArray × Int)) (w : World) (hla : la.length ≤ maxLen) (hlb : lb.length ≤ maxLen) (ha : Row w aa la) (hb : Row w ab lb)
    (hsa : ∀ j, (h : j < la.length) → la[j].1.size ≤ maxLen) (hsb : ∀ j, (h : j < lb.length) → lb[j].1.size ≤ maxLen) :
    Calls Tryz.prog 68 #[.slice aa la.length ca, .slice ab lb.length cb] w fun e w' => (∃ v, e = .returned (.int .i64 v) ∧ IsOrd la lb v) ∧ Below w.heap.size w w' := by
  go_enter Tryz.func68, Tryz.ntmps68
  go_wp2_with fail
  refine (specOk_b aa ca la _ hla ha hsa).mono ?_
  rintro e w1 ⟨⟨r, rfl, hr1⟩, hb1⟩
  cases r
  · have hn : ¬ StampP la := fun h => by simpa using hr1.2 h
    clear hr1
    go_wp2_with fail
    go_ret
    exact ⟨⟨4, rfl, .inl ⟨fun h => hn h.1, rfl⟩⟩, hb1⟩
  have hya : StampP la := hr1.1 rfl
  clear hr1
  go_wp2_with fail
  refine (specOk_b ab cb lb _ hlb (hb.below hb1) hsb).mono ?_
  rintro e w2 ⟨⟨r, rfl, hr2⟩, hb2⟩
  have hb12 : Below w.heap.size w w2 := hb1.trans (hb2.mono hb1.size)
  cases r
  · have hn : ¬ StampP lb := fun h => by simpa using hr2.2 h
    clear hr2
    go_wp2_with fail
    go_ret
    exact ⟨⟨4, rfl, .inl ⟨fun h => hn h.2, rfl⟩⟩, hb12⟩
  have hyb : StampP lb := hr2.1 rfl
  clear hr2
  go_wp2_with fail
  refine (l1Below_any aa ab ca cb la lb _ hla hlb (ha.below hb12) (hb.below hb12)).mono ?_
  rintro e w3 ⟨⟨r3, rfl, hr3⟩, hb3⟩
  have hb13 : Below w.heap.size w w3 := hb12.trans (hb3.mono hb12.size)
  have HR3 : Hid (r3 = true ↔ BelowP la lb) := hr3
  clear hr3
  go_wp2_with fail
  refine (l1Below_any ab aa cb ca lb la _ hlb hla (hb.below hb13) (ha.below hb13)).mono ?_
  rintro e w4 ⟨⟨r4, rfl, hr4⟩, hb4⟩
  have hb14 : Below w.heap.size w w4 := hb13.trans (hb4.mono hb13.size)
  have h3 := HR3.out
  cases r3 <;> cases r4 <;> simp at h3 hr4
  all_goals
    have H3 : Hid _ := h3
    have H4 : Hid _ := hr4
    clear h3 hr4 HR3
    go_wp2_with fail
    go_ret
  · exact ⟨⟨3, rfl, .inr ⟨hya, hyb, .inr (.inr (.inr ⟨H3.out, H4.out, rfl⟩))⟩⟩, hb14⟩
  · exact ⟨⟨2, rfl, .inr ⟨hya, hyb, .inr (.inr (.inl ⟨H3.out, H4.out, rfl⟩))⟩⟩, hb14⟩
  · exact ⟨⟨1, rfl, .inr ⟨hya, hyb, .inr (.inl ⟨H3.out, H4.out, rfl⟩)⟩⟩, hb14⟩
  · exact ⟨⟨0, rfl, .inr ⟨hya, hyb, .inl ⟨H3.out, H4.out, rfl⟩⟩⟩, hb14⟩

end Go.Proofs.YtpfhegengmlkmaaGreat

namespace Go.Proofs.YtpfhegengmlkmaaGreat
open Go.RowKit Go.BigFrame

/-- Is the mark's source among the names? -/
def amongB (names : List ByteArray) (s : ByteArray) : Bool := names.any fun x => decide (x = s)
/-- What is left of marks by names. -/
def onlyM (names : List ByteArray) (l : List (ByteArray × Int)) : List (ByteArray × Int) := l.filter fun m => amongB names m.1

/-- What StampOnly answers. -/
def IsO (l : List (ByteArray × Int)) (names : List ByteArray) (m : List (ByteArray × Int)) : Prop := (StampP l → m = onlyM names l) ∧ (¬ StampP l → m = [])
theorem IsO.one {l : List (ByteArray × Int)} {names : List ByteArray} {u v : List (ByteArray × Int)} (h : IsO l names u) (h' : IsO l names v) : u = v := by
  by_cases hp : StampP l
  · rw [h.1 hp, h'.1 hp]
  · rw [h.2 hp, h'.2 hp]

end Go.Proofs.YtpfhegengmlkmaaGreat

namespace Go.Proofs.YtpfhegengmlkmaaGreat

theorem stampP_of_sorted {l : List (ByteArray × Int)} (h12 : l.length ≤ 12) (hm : ∀ m ∈ l, MarkP m) (hp : l.Pairwise (fun x y => Asc x.1 y.1)) : StampP l :=
  ⟨h12, fun _ hj => hm _ (List.getElem_mem hj), fun j hj => List.pairwise_iff_getElem.1 hp j (j + 1) (by omega) hj (by omega)⟩
theorem stampP_mark {l : List (ByteArray × Int)} (h : StampP l) {m : ByteArray × Int} (hm : m ∈ l) : MarkP m := by
  obtain ⟨j, hj, rfl⟩ := List.mem_iff_getElem.1 hm
  exact h.2.1 j hj
theorem stampP_nil : StampP [] := ⟨by simp, fun j h => absurd h (Nat.not_lt_zero j), fun j h => absurd h (Nat.not_lt_zero (j + 1))⟩
theorem only_stamp {l : List (ByteArray × Int)} (h : StampP l) (names : List ByteArray) : StampP (onlyM names l) :=
  stampP_of_sorted (Nat.le_trans (List.length_filter_le _ _) h.1) (fun _ hm => stampP_mark h (List.mem_filter.1 hm).1) (List.Pairwise.filter _ (stamp_sorted h).1)
/-- What StampOnly answers is a stamp, whatever it was asked. -/
theorem IsO.stamp {l m : List (ByteArray × Int)} {names : List ByteArray} (h : IsO l names m) : StampP m := by
  by_cases hp : StampP l
  · rw [h.1 hp]; exact only_stamp hp names
  · rw [h.2 hp]; exact stampP_nil
/-- The join of two stamps that fits is a stamp. -/
theorem join_stamp {a b o : List (ByteArray × Int)} (ha : StampP a) (hb : StampP b) (h : JoinOf a b o) (h12 : o.length ≤ 12) : StampP o := by
  refine stampP_of_sorted h12 (fun m hm => ?_) h.1.1
  have e := getM_mem h.1 hm
  have e1 := h.1.2 m hm
  have e2 := h.2 m.1
  rw [e] at e2
  rcases Int.le_total (getM a m.1) (getM b m.1) with hle | hle
  · have e3 : m.2 = getM b m.1 := by omega
    have hmem := getM_pos (l := b) (s := m.1) (by omega)
    rw [← e3] at hmem
    exact stampP_mark hb hmem
  · have e3 : m.2 = getM a m.1 := by omega
    have hmem := getM_pos (l := a) (s := m.1) (by omega)
    rw [← e3] at hmem
    exact stampP_mark ha hmem
theorem IsJ.fits {a b m : List (ByteArray × Int)} (h : IsJ a b m true) : StampP a ∧ StampP b ∧ JoinOf a b m ∧ StampP m := by
  rcases h with ⟨_, _, h⟩ | ⟨ha, hb, o, ho, ⟨h12, rfl, _⟩ | ⟨_, _, h⟩⟩
  · cases h
  · exact ⟨ha, hb, ho, join_stamp ha hb ho h12⟩
  · cases h
theorem IsJ.none {a b m : List (ByteArray × Int)} (h : IsJ a b m false) : m = [] := by
  rcases h with ⟨_, h, _⟩ | ⟨_, _, o, _, ⟨_, _, h⟩ | ⟨_, h, _⟩⟩
  · exact h
  · cases h
  · exact h
theorem sorted_len : ∀ {k l : List (ByteArray × Int)}, Sorted k → Sorted l → (∀ s, 0 < getM k s → 0 < getM l s) → k.length ≤ l.length
  | [], _, _, _, _ => by simp
  | x :: k, [], hk, _, h => by
    have := h x.1 (by rw [getM_mem hk (by simp : x ∈ x :: k)]; exact hk.2 x (by simp))
    simp [getM] at this
  | x :: k, y :: l, hk, hl, h => by
    have hx1 := sorted_head hk
    have hy1 := sorted_head hl
    have hx := h x.1 (by simp only [getM, if_true]; omega)
    by_cases e : x.1 = y.1
    · have := sorted_len (sorted_tail hk) (sorted_tail hl) (fun s hs => by
        have hmem := getM_pos hs
        have hasc : Asc x.1 s := sorted_above hk hmem
        have hs2 := h s (by simp only [getM]; rw [if_neg (asc_ne hasc)]; exact hs)
        simp only [getM] at hs2
        rw [if_neg (fun q => asc_ne hasc (e.trans q))] at hs2
        exact hs2)
      simp only [List.length_cons]; omega
    · have hasc : Asc y.1 x.1 := by
        simp only [getM] at hx
        rw [if_neg (fun q => e q.symm)] at hx
        exact sorted_above (x := (x.1, getM l x.1)) hl (getM_pos hx)
      have := sorted_len hk (sorted_tail hl) (fun s hs => by
        have hs2 := h s hs
        have hmem := getM_pos hs
        have hys : Asc y.1 s := by
          rcases List.mem_cons.1 hmem with q | q
          · have q1 : s = x.1 := by rw [← q]
            rw [q1]; exact hasc
          · exact asc_trans hasc (sorted_above hk q)
        simp only [getM] at hs2
        rw [if_neg (asc_ne hys)] at hs2
        exact hs2)
      simp only [List.length_cons] at this ⊢; omega
theorem JoinOf.mono {a b c o o2 o3 : List (ByteArray × Int)} (ha : Sorted a) (h1 : JoinOf a b o) (h2 : JoinOf b c o2) (h3 : JoinOf o c o3) : o2.length ≤ o3.length :=
  sorted_len h2.1 h3.1 fun s hs => by
    have := h1.2 s; have := h2.2 s; have := h3.2 s; have := getM_nonneg (s := s) ha
    omega
theorem AgreeP.symm {a b : List (ByteArray × Int)} (h : AgreeP a b) : AgreeP b a := by
  obtain ⟨ha, hb, h⟩ := h
  refine ⟨hb, ha, fun i hi => ?_⟩
  have sb := stamp_sorted hb
  have sa := stamp_sorted ha
  have e := getM_mem sb (List.getElem_mem hi)
  have e1 := sb.2 _ (List.getElem_mem hi)
  have e2 := getM_nonneg (s := b[i].1) sa
  by_cases h0 : getM a b[i].1 = 0
  · exact .inl h0
  · right
    have hmem := getM_pos (l := a) (s := b[i].1) (by omega)
    obtain ⟨k, hk, ek⟩ := List.mem_iff_getElem.1 hmem
    have := h k hk
    rw [ek] at this
    simp only at this
    omega
/-- The names of marks. -/
def namesM (a : List (ByteArray × Int)) : List ByteArray := a.map (·.1)
theorem among_names {a : List (ByteArray × Int)} (ha : Sorted a) (s : ByteArray) : amongB (namesM a) s = true ↔ 0 < getM a s := by
  unfold amongB namesM
  simp only [List.any_eq_true, decide_eq_true_eq, List.mem_map]
  constructor
  · rintro ⟨_, ⟨m, hm, rfl⟩, rfl⟩
    rw [getM_mem ha hm]; exact ha.2 m hm
  · intro h
    exact ⟨s, ⟨_, getM_pos h, rfl⟩, rfl⟩
theorem belowP_iff {a b : List (ByteArray × Int)} (ha : Sorted a) (hb : Sorted b) : BelowP a b ↔ ∀ s, getM a s ≤ getM b s := by
  constructor
  · intro h s
    have hn := getM_nonneg (s := s) hb
    by_cases h0 : 0 < getM a s
    · obtain ⟨i, hi, e⟩ := List.mem_iff_getElem.1 (getM_pos h0)
      have := h i hi
      rw [e] at this
      exact this
    · omega
  · intro h i hi
    have e := getM_mem ha (List.getElem_mem hi)
    have := h a[i].1
    omega
theorem ord_less {a b : List (ByteArray × Int)} {o : Int} (h : IsOrd a b o) : o = 1 ↔ (StampP a ∧ StampP b ∧ BelowP a b ∧ ¬ BelowP b a) := by
  constructor
  · rintro rfl
    rcases h with ⟨_, h2⟩ | ⟨h1, h2, ⟨p, q, e⟩ | ⟨p, q, _⟩ | ⟨_, _, e⟩ | ⟨_, _, e⟩⟩
    · omega
    · omega
    · exact ⟨h1, h2, p, q⟩
    · omega
    · omega
  · rintro ⟨ha, hb, hab, hba⟩
    rcases h with ⟨h1, _⟩ | ⟨_, _, ⟨_, q, e⟩ | ⟨_, _, e⟩ | ⟨q, _, _⟩ | ⟨q, _, _⟩⟩
    · exact absurd ⟨ha, hb⟩ h1
    · exact absurd q hba
    · exact e
    · exact absurd hab q
    · exact absurd hab q
end Go.Proofs.YtpfhegengmlkmaaGreat
