/- Texts of this claim, one behind the other. -/
import Derived.Lib.Strings
import Derived.Lib.Walk
import Derived.Lib.BufferWrite
import Derived.Lib.UnsafeStr
import Derived.Laws.MakeOwn
import Derived.Deep.RegionHeld3
import Derived.Test.YtpfhegengmlkmaaGreatDoorZW1
import Derived.Test.YtpfhegengmlkmaaGreatDoorZW4
import Derived.Test.YtpfhegengmlkmaaGreatDoorZW5
import Derived.Test.YtpfhegengmlkmaaGreatDoorZW7
namespace Go.Proofs.YtpfhegengmlkmaaGreatDoor
open Go.RowKit Go.BigFrame

/-- Both are stamps, and have the same version of what both have. -/
def AgreeP (a b : List (ByteArray × Int)) : Prop := StampP a ∧ StampP b ∧ ∀ i, (h : i < a.length) → getM b a[i].1 = 0 ∨ getM b a[i].1 = a[i].2
/-- Each mark of the first is in the second, with at least its version. -/
def BelowP (a b : List (ByteArray × Int)) : Prop := ∀ i, (h : i < a.length) → a[i].2 ≤ getM b a[i].1

theorem ag_step {a b : List (ByteArray × Int)} {k : Nat} (H : ∀ i, (h : i < a.length) → i < k → getM b a[i].1 = 0 ∨ getM b a[i].1 = a[i].2) (hk : k < a.length) (h : getM b a[k].1 = 0 ∨ getM b a[k].1 = a[k].2) : ∀ i, (h : i < a.length) → i < k + 1 → getM b a[i].1 = 0 ∨ getM b a[i].1 = a[i].2 := fun i hi hlt => by
  by_cases e : i = k
  · subst e; exact h
  · exact H i hi (by omega)
theorem be_step {a b : List (ByteArray × Int)} {k : Nat} (H : ∀ i, (h : i < a.length) → i < k → a[i].2 ≤ getM b a[i].1) (hk : k < a.length) (h : a[k].2 ≤ getM b a[k].1) : ∀ i, (h : i < a.length) → i < k + 1 → a[i].2 ≤ getM b a[i].1 := fun i hi hlt => by
  by_cases e : i = k
  · subst e; exact h
  · exact H i hi (by omega)

set_option maxHeartbeats 800000 in
theorem l1Below_any (aa ab : Option Addr) (ca cb : Nat) (la lb : List (ByteArray × Int)) (w : World) (hla : la.length ≤ maxLen) (hlb : lb.length ≤ maxLen) (ha : Row w aa la) (hb : Row w ab lb) :
    Calls Tryz.prog 77 #[.slice aa la.length ca, .slice ab lb.length cb] w fun e w' => IsB (BelowP la lb) e ∧ Below w.heap.size w w' := by
  have hl := hla
  unfold maxLen at hl
  go_enter Tryz.func77, Tryz.ntmps77
  go_wp2_with fail
  go_loopw [5] (fun i wr => ∃ k : Nat, k ≤ la.length ∧ i = .int .i64 k ∧ (∀ i, (h : i < la.length) → i < k → la[i].2 ≤ getM lb la[i].1) ∧ Below w.heap.size w wr) (fun i _ => la.length - (intOf i).toNat)
  case atStart => exact ⟨0, Nat.zero_le _, rfl, fun j _ h => by omega, Below.refl _ _⟩
  case round =>
    obtain ⟨k, hk, rfl, hall, hbl⟩ := hrel
    by_cases hlt : k < la.length
    · obtain ⟨b, o, rfl, hblt, c0, c1⟩ := ha k hlt
      have HST := be_step hall hlt
      have e0 := cell_on hbl hblt c0
      have e1 := cell_on hbl hblt c1
      have g1 : b < wr.heap.size := Nat.lt_of_lt_of_le hblt hbl.size
      have HRB : Hid (∀ n : Lat wr, Row n.w ab lb) := fun n => (hb.below hbl).below n.h
      by_cases hc : getM lb la[k].1 < la[k].2
      · go_wp2_with fail
        refine wp_region_lat (by kernel_rfl) (by kernel_rfl) ?_
        have hne := Lat.some wr
        have q0 : ∀ n : Lat wr, n.w.cell? ⟨b, o + k * 2, none⟩ = some (.string la[k].1) := fun n => n.cell g1 e0
        have q1 : ∀ n : Lat wr, n.w.cell? ⟨b, o + k * 2 + 1, none⟩ = some (.int .i64 la[k].2) := fun n => n.cell g1 e1
        repeat (go_big_quiet_step ((go_at_call 109; exact Calls.lat_same (l1Get_any _ _ lb _ _ hlb (HRB.out _)))))
        refine wpQuiet_nil ?_
        rintro _ ⟨nq, rfl⟩
        go_wp2_with fail
        go_ret
        exact ⟨isB_false (fun h => by have := h k hlt; omega), hbl.trans (nq.h.mono hbl.size)⟩
      · have HN := HST (by omega)
        clear HST hall
        go_wp2_with fail
        refine wp_region_lat (by kernel_rfl) (by kernel_rfl) ?_
        have hne := Lat.some wr
        have q0 : ∀ n : Lat wr, n.w.cell? ⟨b, o + k * 2, none⟩ = some (.string la[k].1) := fun n => n.cell g1 e0
        have q1 : ∀ n : Lat wr, n.w.cell? ⟨b, o + k * 2 + 1, none⟩ = some (.int .i64 la[k].2) := fun n => n.cell g1 e1
        repeat (go_big_quiet_step ((go_at_call 109; exact Calls.lat_same (l1Get_any _ _ lb _ _ hlb (HRB.out _)))))
        refine wpQuiet_nil ?_
        rintro _ ⟨nq, rfl⟩
        go_wp2_with fail
        exact ⟨⟨k + 1, by omega, by go_num, HN, hbl.trans (nq.h.mono hbl.size)⟩, by simp [intOf]; omega⟩
    · go_wp2_with fail
      go_ret
      exact ⟨isB_true (fun i hi => hall i hi (by omega)), hbl⟩

set_option maxHeartbeats 800000 in
theorem specAgree_any (aa ab : Option Addr) (ca cb : Nat) (la lb : List (ByteArray × Int)) (w : World) (hla : la.length ≤ maxLen) (hlb : lb.length ≤ maxLen) (ha : Row w aa la) (hb : Row w ab lb)
    (hsa : ∀ j, (h : j < la.length) → la[j].1.size ≤ maxLen) (hsb : ∀ j, (h : j < lb.length) → lb[j].1.size ≤ maxLen) :
    Calls Tryz.prog 120 #[.slice aa la.length ca, .slice ab lb.length cb] w fun e w' => IsB (AgreeP la lb) e ∧ Below w.heap.size w w' := by
  have hl := hla
  unfold maxLen at hl
  go_enter Tryz.func120, Tryz.ntmps120
  go_wp2_with fail
  refine (specOk_b aa ca la _ hla ha hsa).mono ?_
  rintro e w1 ⟨⟨r, rfl, hr1⟩, hb1⟩
  cases r
  · have hn : ¬ StampP la := fun h => by simpa using hr1.2 h
    clear hr1
    go_wp2_with fail
    go_ret
    exact ⟨isB_false (fun h => hn h.1), hb1⟩
  have hya : StampP la := hr1.1 rfl
  clear hr1
  go_wp2_with fail
  refine (specOk_b ab cb lb _ hlb (hb.below hb1) hsb).mono ?_
  rintro e w2 ⟨⟨r, rfl, hr2⟩, hb2⟩
  have hb12 : Below w.heap.size w w2 := hb1.trans (hb2.mono hb1.size)
  cases r
  · have hn : ¬ StampP lb := fun h => by simpa using hr2.2 h
    clear hr2
    go_wp2_with fail
    go_ret
    exact ⟨isB_false (fun h => hn h.2.1), hb12⟩
  have hyb : StampP lb := hr2.1 rfl
  clear hr2
  have hra := ha.below hb12
  have hrb := hb.below hb12
  clear ha hb
  go_wp2_with fail
  go_loop [5] (fun i => ∃ k : Nat, k ≤ la.length ∧ i = .int .i64 k ∧ (∀ i, (h : i < la.length) → i < k → getM lb la[i].1 = 0 ∨ getM lb la[i].1 = la[i].2)) (fun i => la.length - (intOf i).toNat)
  case atStart => exact ⟨0, Nat.zero_le _, rfl, fun j _ h => by omega⟩
  case round =>
    obtain ⟨k, hk, rfl, hall⟩ := hrel
    by_cases hlt : k < la.length
    · obtain ⟨b, o, rfl, hblt, c0, c1⟩ := hra k hlt
      have HST := ag_step hall hlt
      by_cases e0 : getM lb la[k].1 = 0
      · have HN := HST (.inl e0)
        have g0 : (getM lb la[k].1 != 0) = false := by simp [e0]
        clear HST hall e0
        go_wp2_with (go_at_call 109; refine (l1Get_any _ _ lb _ _ hlb hrb).mono ?_; rintro e w3 ⟨rfl, rfl⟩)
        exact ⟨⟨k + 1, by omega, by go_num, HN⟩, by simp [intOf]; omega⟩
      · have g0 : (getM lb la[k].1 != 0) = true := by simp [e0]
        by_cases e1 : getM lb la[k].1 = la[k].2
        · have HN := HST (.inr e1)
          have g1 : (getM lb la[k].1 != la[k].2) = false := by simp [e1]
          clear HST hall e0 e1
          go_wp2_with (go_at_call 109; refine (l1Get_any _ _ lb _ _ hlb hrb).mono ?_; rintro e w3 ⟨rfl, rfl⟩)
          exact ⟨⟨k + 1, by omega, by go_num, HN⟩, by simp [intOf]; omega⟩
        · have g1 : (getM lb la[k].1 != la[k].2) = true := by simp [e1]
          have HE : Hid (¬ getM lb la[k].1 = 0 ∧ ¬ getM lb la[k].1 = la[k].2) := ⟨e0, e1⟩
          clear HST hall e0 e1
          go_wp2_with (go_at_call 109; refine (l1Get_any _ _ lb _ _ hlb hrb).mono ?_; rintro e w3 ⟨rfl, rfl⟩)
          go_ret
          exact ⟨isB_false (fun h => (h.2.2 k hlt).elim HE.out.1 HE.out.2), hb12⟩
    · go_wp2_with fail
      go_ret
      exact ⟨isB_true ⟨hya, hyb, fun i hi => hall i hi (by omega)⟩, hb12⟩

/-- What StampOrder answers. -/
def IsOrd (a b : List (ByteArray × Int)) (v : Int) : Prop :=
  (¬ (StampP a ∧ StampP b) ∧ v = 4) ∨ (StampP a ∧ StampP b ∧ ((BelowP a b ∧ BelowP b a ∧ v = 0) ∨ (BelowP a b ∧ ¬ BelowP b a ∧ v = 1) ∨ (¬ BelowP a b ∧ BelowP b a ∧ v = 2) ∨ (¬ BelowP a b ∧ ¬ BelowP b a ∧ v = 3)))
theorem IsOrd.one {a b : List (ByteArray × Int)} {u v : Int} (h : IsOrd a b u) (k : IsOrd a b v) : u = v := by
  rcases h with ⟨h1, h2⟩ | ⟨h1, h2, h3⟩
  · rcases k with ⟨k1, k2⟩ | ⟨k1, k2, k3⟩
    · rw [h2, k2]
    · exact absurd ⟨k1, k2⟩ h1
  · rcases k with ⟨k1, k2⟩ | ⟨k1, k2, k3⟩
    · exact absurd ⟨h1, h2⟩ k1
    · rcases h3 with ⟨p, q, e⟩ | ⟨p, q, e⟩ | ⟨p, q, e⟩ | ⟨p, q, e⟩ <;> rcases k3 with ⟨p', q', e'⟩ | ⟨p', q', e'⟩ | ⟨p', q', e'⟩ | ⟨p', q', e'⟩ <;> first | (rw [e, e']; done) | exact absurd p p' | exact absurd p' p | exact absurd q q' | exact absurd q' q

set_option maxHeartbeats 800000 in
theorem specOrder_any (aa ab : Option Addr) (ca cb : Nat) (la lb : List (ByteArray × Int)) (w : World) (hla : la.length ≤ maxLen) (hlb : lb.length ≤ maxLen) (ha : Row w aa la) (hb : Row w ab lb)
    (hsa : ∀ j, (h : j < la.length) → la[j].1.size ≤ maxLen) (hsb : ∀ j, (h : j < lb.length) → lb[j].1.size ≤ maxLen) :
    Calls Tryz.prog 40 #[.slice aa la.length ca, .slice ab lb.length cb] w fun e w' => (∃ v, e = .returned (.int .i64 v) ∧ IsOrd la lb v) ∧ Below w.heap.size w w' := by
  go_enter Tryz.func40, Tryz.ntmps40
  go_wp2_with fail
  refine (specOk_b aa ca la _ hla ha hsa).mono ?_
  rintro e w1 ⟨⟨r, rfl, hr1⟩, hb1⟩
  cases r
  · have hn : ¬ StampP la := fun h => by simpa using hr1.2 h
    clear hr1
    go_wp2_with fail
    go_ret
    exact ⟨⟨4, rfl, .inl ⟨fun h => hn h.1, rfl⟩⟩, hb1⟩
  have hya : StampP la := hr1.1 rfl
  clear hr1
  go_wp2_with fail
  refine (specOk_b ab cb lb _ hlb (hb.below hb1) hsb).mono ?_
  rintro e w2 ⟨⟨r, rfl, hr2⟩, hb2⟩
  have hb12 : Below w.heap.size w w2 := hb1.trans (hb2.mono hb1.size)
  cases r
  · have hn : ¬ StampP lb := fun h => by simpa using hr2.2 h
    clear hr2
    go_wp2_with fail
    go_ret
    exact ⟨⟨4, rfl, .inl ⟨fun h => hn h.2, rfl⟩⟩, hb12⟩
  have hyb : StampP lb := hr2.1 rfl
  clear hr2
  go_wp2_with fail
  refine (l1Below_any aa ab ca cb la lb _ hla hlb (ha.below hb12) (hb.below hb12)).mono ?_
  rintro e w3 ⟨⟨r3, rfl, hr3⟩, hb3⟩
  have hb13 : Below w.heap.size w w3 := hb12.trans (hb3.mono hb12.size)
  have HR3 : Hid (r3 = true ↔ BelowP la lb) := hr3
  clear hr3
  go_wp2_with fail
  refine (l1Below_any ab aa cb ca lb la _ hlb hla (hb.below hb13) (ha.below hb13)).mono ?_
  rintro e w4 ⟨⟨r4, rfl, hr4⟩, hb4⟩
  have hb14 : Below w.heap.size w w4 := hb13.trans (hb4.mono hb13.size)
  have h3 := HR3.out
  cases r3 <;> cases r4 <;> simp at h3 hr4
  all_goals
    have H3 : Hid _ := h3
    have H4 : Hid _ := hr4
    clear h3 hr4 HR3
    go_wp2_with fail
    go_ret
  · exact ⟨⟨3, rfl, .inr ⟨hya, hyb, .inr (.inr (.inr ⟨H3.out, H4.out, rfl⟩))⟩⟩, hb14⟩
  · exact ⟨⟨2, rfl, .inr ⟨hya, hyb, .inr (.inr (.inl ⟨H3.out, H4.out, rfl⟩))⟩⟩, hb14⟩
  · exact ⟨⟨1, rfl, .inr ⟨hya, hyb, .inr (.inl ⟨H3.out, H4.out, rfl⟩)⟩⟩, hb14⟩
  · exact ⟨⟨0, rfl, .inr ⟨hya, hyb, .inl ⟨H3.out, H4.out, rfl⟩⟩⟩, hb14⟩

end Go.Proofs.YtpfhegengmlkmaaGreatDoor

namespace Go.Proofs.YtpfhegengmlkmaaGreatDoor
open Go.RowKit Go.BigFrame

theorem Tryz.infoB : (Tryz.prog.info? 5).map (fun i => (i.zero, i.size, i.bytes)) = some (some (.int .u8 0), 1, 1) := by kernel_rfl

set_option maxRecDepth 100000 in
set_option maxHeartbeats 1000000 in
theorem clone_any (s : ByteArray) (w : World) (hlim : s.size ≤ 281474976710656) :
    Calls Tryz.prog 95 #[.string s] w fun e w' => e = .returned (.string s) ∧ Below w.heap.size w w' := by
  by_cases h0 : s.size = 0
  · have hs : s = ⟨#[]⟩ := by
      apply ByteArray.ext
      exact Array.eq_empty_of_size_eq_zero h0
    subst hs
    go_enter Tryz.func95, Tryz.ntmps95
    go_wp2
    go_ret
    exact ⟨rfl, Below.refl _ _⟩
  · obtain ⟨i0, hi, hz0, hz1, hz2⟩ := info_parts Tryz.infoB
    have hinfo : (Tryz.prog.info? 5).map (·.size) = some 1 := by rw [hi]; simp [hz1]
    have hco : Tryz.prog.cellsOf 5 = 1 := by simp [Program.cellsOf, hi, hz1]
    obtain ⟨M, hM⟩ : ∃ M, M = madeCells (Value.int .u8 0).cells (((s.size : Nat) : Int).toNat * i0.size) := ⟨_, rfl⟩
    have hMs : M.size = s.size := by rw [hM, size_madeCells, hz1]; simp
    have hmk : ∀ W : World, (Instr.makeSlice 22 (.int .i64 (s.size : Int)) (.int .i64 (s.size : Int))).run Tryz.prog W = .ok (.slice (some ⟨W.heap.size, 0, none⟩) s.size s.size) (W.alloc (.cells M 5)) := fun W => by
      have h := run_make (P := Tryz.prog) W 22 5 i0 (.int .u8 0) Tryz.underlying22 hi hz0 .i64 .i64 (s.size : Int) (s.size : Int) (by omega) (by omega) (by rw [hz2]; omega) (by omega)
      rw [← hM] at h
      simpa using h
    clear hM
    have hcp := Lib.run_copy_row_string (P := Tryz.prog) (w.alloc (.cells M 5)) 22 9 3 5 w.heap.size 0 s.size s.size s M 5 Tryz.underlying22 hinfo (heap_alloc_new w _) (Nat.le_refl _) (by omega)
    obtain ⟨Y, hY⟩ : ∃ Y, Y = (M.toList.take 0 ++ Lib.byteCells s.data.toList ++ M.toList.drop (0 + s.size)).toArray := ⟨_, rfl⟩
    rw [← hY] at hcp
    have hYl : Y.toList = Lib.byteCells s.data.toList := by
      rw [hY, List.toList_toArray, List.take_zero, List.nil_append, List.drop_of_length_le (by rw [Array.length_toList]; omega), List.append_nil]
    have hgY : ((w.alloc (.cells M 5)).setRow w.heap.size Y).heap[w.heap.size]? = some (.cells Y 5 (0, 0)) := setRow_heap _ _ M _ 5 (0, 0) (heap_alloc_new w _)
    have hYs : Y.size = s.size := by rw [← Array.length_toList, hYl, Lib.byteCells_length, ← Lib.size_eq]
    have hne : s.data.toList ≠ [] := fun e => h0 (by rw [Lib.size_eq, e]; rfl)
    have hUS := Lib.run_unsafeString_row (P := Tryz.prog) ((w.alloc (.cells M 5)).setRow w.heap.size Y) 190 3 9 5 Tryz.underlying190 hco w.heap.size Y.size (by unfold World.shape?; rw [hgY]) s.data.toList hne (by rw [← Lib.size_eq]; omega) (by rw [← Lib.size_eq]; omega)
      (fun j x hx => Lib.cells_of_row hgY Y.size j _ (by rw [List.take_of_length_le (by rw [Array.length_toList]; exact Nat.le_refl _), hYl]; simp [Lib.byteCells, hx]))
    rw [← Lib.size_eq] at hUS
    clear hY
    go_enter Tryz.func95, Tryz.ntmps95
    go_wp2
    go_ret
    have hb1 : Below w.heap.size w (w.alloc (.cells M 5)) := (Below.refl _ w).alloc (Nat.le_refl _) _
    have hb2 : Below w.heap.size (w.alloc (.cells M 5)) ((w.alloc (.cells M 5)).setRow w.heap.size Y) := ⟨rfl, rfl, rfl, by simp, fun k hk => setRow_other _ _ _ _ (by omega)⟩
    exact ⟨rfl, Lib.below_freeze (hb1.trans hb2) (p := ⟨w.heap.size, 0, none⟩) (Nat.le_refl _) _⟩

set_option maxHeartbeats 400000 in
theorem strClone_any (s : ByteArray) (w : World) (hlim : s.size ≤ 281474976710656) :
    Calls Tryz.prog 57 #[.string s] w fun e w' => e = .returned (.string s) ∧ Below w.heap.size w w' := by
  go_enter Tryz.func57, Tryz.ntmps57
  go_wp2_with fail
  refine (clone_any s _ hlim).mono ?_
  rintro e w1 ⟨rfl, hb1⟩
  go_wp2_with fail
  go_ret
  exact ⟨rfl, hb1⟩

set_option maxHeartbeats 400000 in
theorem fresh_any (s : ByteArray) (v : Int) (w : World) (hlim : s.size ≤ 281474976710656) :
    Calls Tryz.prog 78 #[.agg #[.string s, .int .i64 v]] w fun e w' => e = .returned (.agg #[.string s, .int .i64 v]) ∧ Below w.heap.size w w' := by
  go_enter Tryz.func78, Tryz.ntmps78
  go_wp2_with fail
  have hsz : ((w.alloc (.cells #[.string s, .int .i64 v] 97)).alloc (.cells #[.string ⟨#[]⟩, .int .i64 0] 97)).heap.size = w.heap.size + 2 := by simp
  have c0 : ((w.alloc (.cells #[.string s, .int .i64 v] 97)).alloc (.cells #[.string ⟨#[]⟩, .int .i64 0] 97)).cell? ⟨w.heap.size, 0, none⟩ = some (.string s) := by simp [go_sem]
  have c1 : ((w.alloc (.cells #[.string s, .int .i64 v] 97)).alloc (.cells #[.string ⟨#[]⟩, .int .i64 0] 97)).cell? ⟨w.heap.size, 1, none⟩ = some (.int .i64 v) := by simp [go_sem]
  have d0 : ((w.alloc (.cells #[.string s, .int .i64 v] 97)).alloc (.cells #[.string ⟨#[]⟩, .int .i64 0] 97)).cell? ⟨w.heap.size + 1, 0, none⟩ = some (.string ⟨#[]⟩) := by simp [go_sem]
  have d1 : ((w.alloc (.cells #[.string s, .int .i64 v] 97)).alloc (.cells #[.string ⟨#[]⟩, .int .i64 0] 97)).cell? ⟨w.heap.size + 1, 1, none⟩ = some (.int .i64 0) := by simp [go_sem]
  have f0 : ((w.alloc (.cells #[.string s, .int .i64 v] 97)).alloc (.cells #[.string ⟨#[]⟩, .int .i64 0] 97)).frozen? ⟨w.heap.size + 1, 0, none⟩ = false := by simp [go_sem]
  have f1 : ((w.alloc (.cells #[.string s, .int .i64 v] 97)).alloc (.cells #[.string ⟨#[]⟩, .int .i64 0] 97)).frozen? ⟨w.heap.size + 1, 1, none⟩ = false := by simp [go_sem]
  have hbel : Below w.heap.size w ((w.alloc (.cells #[.string s, .int .i64 v] 97)).alloc (.cells #[.string ⟨#[]⟩, .int .i64 0] 97)) := ((Below.refl _ _).alloc (Nat.le_refl _) _).alloc (by simp) _
  generalize ((w.alloc (.cells #[.string s, .int .i64 v] 97)).alloc (.cells #[.string ⟨#[]⟩, .int .i64 0] 97)) = W at *
  have g0 : w.heap.size < W.heap.size := by omega
  have g1 : w.heap.size + 1 < W.heap.size := by omega
  clear hsz
  go_region_held3 (fun w' => w'.cell? ⟨w.heap.size, 0, none⟩ = some (.string s) ∧ w'.cell? ⟨w.heap.size, 1, none⟩ = some (.int .i64 v)) (first | go_keep | exact ⟨q0, q1⟩)
    (first | (go_at_call 57; refine (strClone_any _ _ hlim).mono ?_; rintro e w1 ⟨rfl, hb1⟩; have q0 := cell_on hb1 g0 c0; have q1 := cell_on hb1 g0 c1; have q2 := cell_on hb1 g1 d0; have q3 := cell_on hb1 g1 d1; have q4 := (hb1.frozen (p := ⟨w.heap.size + 1, 0, none⟩) g1).trans f0; have q5 := (hb1.frozen (p := ⟨w.heap.size + 1, 1, none⟩) g1).trans f1))
  go_wp2_with fail
  have hb2 : Below w.heap.size w w1 := hbel.trans ⟨hb1.os, hb1.tape, hb1.output, hb1.size, fun k hk => hb1.block k (by show k < W.heap.size; omega)⟩
  exact bodyPost_ret (v := .agg #[.string s, .int .i64 v]) (by simp [results, Tryz.results78, go_sem, q2, q3]) rfl ⟨rfl, (hb2.setCell (Nat.le_succ _) _).setCell (Nat.le_succ _) _⟩

end Go.Proofs.YtpfhegengmlkmaaGreatDoor

namespace Go.Proofs.YtpfhegengmlkmaaGreatDoor
open Go.RowKit Go.BigFrame

/-- Is the mark's source among the names? -/
def amongB (names : List ByteArray) (s : ByteArray) : Bool := names.any fun x => decide (x = s)
/-- What is left of marks by names. -/
def onlyM (names : List ByteArray) (l : List (ByteArray × Int)) : List (ByteArray × Int) := l.filter fun m => amongB names m.1

theorem among_iff {names : List ByteArray} {s : ByteArray} : amongB names s = true ↔ ∃ j, ∃ h : j < names.length, names[j] = s := by
  unfold amongB
  simp only [List.any_eq_true, decide_eq_true_eq]
  constructor
  · rintro ⟨x, hx, rfl⟩
    obtain ⟨j, hj, rfl⟩ := List.mem_iff_getElem.1 hx
    exact ⟨j, hj, rfl⟩
  · rintro ⟨j, hj, rfl⟩
    exact ⟨_, List.getElem_mem hj, rfl⟩

/-- 'b' says whether 'x' is among the first 'j' names. -/
def HasB (names : List ByteArray) (j : Nat) (x : ByteArray) (b : Bool) : Prop := b = true ↔ ∃ q, ∃ hq : q < names.length, q < j ∧ names[q] = x
theorem hasB_start (names : List ByteArray) (x : ByteArray) : HasB names 0 x false := ⟨fun h => (by cases h), fun ⟨q, _, h, _⟩ => by omega⟩
theorem hasB_no {names : List ByteArray} {j : Nat} {x : ByteArray} (h : HasB names j x false) {hj : j < names.length} (he : ¬ names[j] = x) : HasB names (j + 1) x false := by
  refine ⟨fun h => (by cases h), ?_⟩
  rintro ⟨q, hq, hlt, e⟩
  by_cases hqj : q = j
  · subst hqj; exact absurd e he
  · exact h.2 ⟨q, hq, by omega, e⟩
theorem hasB_all {names : List ByteArray} {j : Nat} {x : ByteArray} {b : Bool} (h : HasB names j x b) (hj : names.length ≤ j) : amongB names x = b := by
  have h' : b = true ↔ amongB names x = true := by
    unfold HasB at h
    rw [h, among_iff]
    exact ⟨fun ⟨q, hq, _, e⟩ => ⟨q, hq, e⟩, fun ⟨q, hq, e⟩ => ⟨q, hq, by omega, e⟩⟩
  cases b <;> cases hA : amongB names x <;> simp_all

/-- What StampOnly answers. -/
def IsO (l : List (ByteArray × Int)) (names : List ByteArray) (m : List (ByteArray × Int)) : Prop := (StampP l → m = onlyM names l) ∧ (¬ StampP l → m = [])
theorem IsO.one {l : List (ByteArray × Int)} {names : List ByteArray} {u v : List (ByteArray × Int)} (h : IsO l names u) (h' : IsO l names v) : u = v := by
  by_cases hp : StampP l
  · rw [h.1 hp, h'.1 hp]
  · rw [h.2 hp, h'.2 hp]

set_option maxHeartbeats 400000 in
theorem index_any (a : Option Addr) (cap : Nat) (names : List ByteArray) (x : ByteArray) (w : World) (hl : names.length ≤ 1048576) (hr : RowS w a names) :
    Calls Tryz.prog 94 #[.slice a names.length cap, .string x] w fun e w' => (∃ r : Int, e = .returned (.int .i64 r) ∧ decide (0 ≤ r) = amongB names x) ∧ w' = w := by
  go_enter Tryz.func94, Tryz.ntmps94
  go_wp2_with fail
  go_loop [8] (fun i => ∃ j : Nat, j ≤ names.length ∧ i = .int .i64 j ∧ HasB names j x false) (fun i => names.length - (intOf i).toNat)
  case atStart => exact ⟨0, Nat.zero_le _, rfl, hasB_start _ _⟩
  case round =>
    obtain ⟨j, hj, rfl, HH⟩ := hrel
    by_cases hjlt : j < names.length
    · obtain ⟨b, o, rfl, hblt, d0⟩ := hr j hjlt
      by_cases he : names[j] = x
      · have hb' : (x.toList == names[j].toList) = true := toList_beq.2 he.symm
        have HA : Hid (amongB names x = true) := among_iff.2 ⟨j, hjlt, he⟩
        go_wp2_with fail
        go_ret
        exact ⟨⟨_, rfl, by rw [HA.out]; simp⟩, rfl⟩
      · have hb' : (x.toList == names[j].toList) = false := toList_bne.2 (fun h => he h.symm)
        go_wp2_with fail
        exact ⟨⟨j + 1, by omega, by go_num, hasB_no HH he⟩, by simp [intOf]; omega⟩
    · have HA : Hid (amongB names x = false) := hasB_all HH (by omega)
      go_wp2_with fail
      go_ret
      exact ⟨⟨_, rfl, by rw [HA.out]; simp⟩, rfl⟩

set_option maxHeartbeats 400000 in
theorem contains_any (a : Option Addr) (cap : Nat) (names : List ByteArray) (x : ByteArray) (w : World) (hl : names.length ≤ 1048576) (hr : RowS w a names) :
    Calls Tryz.prog 55 #[.slice a names.length cap, .string x] w fun e w' => e = .returned (.bool (amongB names x)) ∧ w' = w := by
  go_enter Tryz.func55, Tryz.ntmps55
  go_wp2_with fail
  refine (index_any a cap names x _ hl hr).mono ?_
  rintro e w1 ⟨⟨r, rfl, hr1⟩, rfl⟩
  have HR : Hid (decide (0 ≤ r) = amongB names x) := hr1
  clear hr1
  go_wp2_with fail
  go_ret
  exact ⟨by rw [← HR.out]; rfl, rfl⟩

end Go.Proofs.YtpfhegengmlkmaaGreatDoor

namespace Go.Proofs.YtpfhegengmlkmaaGreatDoor

theorem stampP_of_sorted {l : List (ByteArray × Int)} (h12 : l.length ≤ 12) (hm : ∀ m ∈ l, MarkP m) (hp : l.Pairwise (fun x y => Asc x.1 y.1)) : StampP l :=
  ⟨h12, fun _ hj => hm _ (List.getElem_mem hj), fun j hj => List.pairwise_iff_getElem.1 hp j (j + 1) (by omega) hj (by omega)⟩
theorem stampP_mark {l : List (ByteArray × Int)} (h : StampP l) {m : ByteArray × Int} (hm : m ∈ l) : MarkP m := by
  obtain ⟨j, hj, rfl⟩ := List.mem_iff_getElem.1 hm
  exact h.2.1 j hj
theorem stampP_nil : StampP [] := ⟨by simp, fun j h => absurd h (Nat.not_lt_zero j), fun j h => absurd h (Nat.not_lt_zero (j + 1))⟩
theorem only_stamp {l : List (ByteArray × Int)} (h : StampP l) (names : List ByteArray) : StampP (onlyM names l) :=
  stampP_of_sorted (Nat.le_trans (List.length_filter_le _ _) h.1) (fun _ hm => stampP_mark h (List.mem_filter.1 hm).1) (List.Pairwise.filter _ (stamp_sorted h).1)
/-- What StampOnly answers is a stamp, whatever it was asked. -/
theorem IsO.stamp {l m : List (ByteArray × Int)} {names : List ByteArray} (h : IsO l names m) : StampP m := by
  by_cases hp : StampP l
  · rw [h.1 hp]; exact only_stamp hp names
  · rw [h.2 hp]; exact stampP_nil
/-- The join of two stamps that fits is a stamp. -/
theorem join_stamp {a b o : List (ByteArray × Int)} (ha : StampP a) (hb : StampP b) (h : JoinOf a b o) (h12 : o.length ≤ 12) : StampP o := by
  refine stampP_of_sorted h12 (fun m hm => ?_) h.1.1
  have e := getM_mem h.1 hm
  have e1 := h.1.2 m hm
  have e2 := h.2 m.1
  rw [e] at e2
  rcases Int.le_total (getM a m.1) (getM b m.1) with hle | hle
  · have e3 : m.2 = getM b m.1 := by omega
    have hmem := getM_pos (l := b) (s := m.1) (by omega)
    rw [← e3] at hmem
    exact stampP_mark hb hmem
  · have e3 : m.2 = getM a m.1 := by omega
    have hmem := getM_pos (l := a) (s := m.1) (by omega)
    rw [← e3] at hmem
    exact stampP_mark ha hmem
theorem IsJ.fits {a b m : List (ByteArray × Int)} (h : IsJ a b m true) : StampP a ∧ StampP b ∧ JoinOf a b m ∧ StampP m := by
  rcases h with ⟨_, _, h⟩ | ⟨ha, hb, o, ho, ⟨h12, rfl, _⟩ | ⟨_, _, h⟩⟩
  · cases h
  · exact ⟨ha, hb, ho, join_stamp ha hb ho h12⟩
  · cases h
theorem IsJ.none {a b m : List (ByteArray × Int)} (h : IsJ a b m false) : m = [] := by
  rcases h with ⟨_, h, _⟩ | ⟨_, _, o, _, ⟨_, _, h⟩ | ⟨_, h, _⟩⟩
  · exact h
  · cases h
  · exact h
theorem sorted_len : ∀ {k l : List (ByteArray × Int)}, Sorted k → Sorted l → (∀ s, 0 < getM k s → 0 < getM l s) → k.length ≤ l.length
  | [], _, _, _, _ => by simp
  | x :: k, [], hk, _, h => by
    have := h x.1 (by rw [getM_mem hk (by simp : x ∈ x :: k)]; exact hk.2 x (by simp))
    simp [getM] at this
  | x :: k, y :: l, hk, hl, h => by
    have hx1 := sorted_head hk
    have hy1 := sorted_head hl
    have hx := h x.1 (by simp only [getM, if_true]; omega)
    by_cases e : x.1 = y.1
    · have := sorted_len (sorted_tail hk) (sorted_tail hl) (fun s hs => by
        have hmem := getM_pos hs
        have hasc : Asc x.1 s := sorted_above hk hmem
        have hs2 := h s (by simp only [getM]; rw [if_neg (asc_ne hasc)]; exact hs)
        simp only [getM] at hs2
        rw [if_neg (fun q => asc_ne hasc (e.trans q))] at hs2
        exact hs2)
      simp only [List.length_cons]; omega
    · have hasc : Asc y.1 x.1 := by
        simp only [getM] at hx
        rw [if_neg (fun q => e q.symm)] at hx
        exact sorted_above (x := (x.1, getM l x.1)) hl (getM_pos hx)
      have := sorted_len hk (sorted_tail hl) (fun s hs => by
        have hs2 := h s hs
        have hmem := getM_pos hs
        have hys : Asc y.1 s := by
          rcases List.mem_cons.1 hmem with q | q
          · have q1 : s = x.1 := by rw [← q]
            rw [q1]; exact hasc
          · exact asc_trans hasc (sorted_above hk q)
        simp only [getM] at hs2
        rw [if_neg (asc_ne hys)] at hs2
        exact hs2)
      simp only [List.length_cons] at this ⊢; omega
theorem JoinOf.mono {a b c o o2 o3 : List (ByteArray × Int)} (ha : Sorted a) (h1 : JoinOf a b o) (h2 : JoinOf b c o2) (h3 : JoinOf o c o3) : o2.length ≤ o3.length :=
  sorted_len h2.1 h3.1 fun s hs => by
    have := h1.2 s; have := h2.2 s; have := h3.2 s; have := getM_nonneg (s := s) ha
    omega
theorem AgreeP.symm {a b : List (ByteArray × Int)} (h : AgreeP a b) : AgreeP b a := by
  obtain ⟨ha, hb, h⟩ := h
  refine ⟨hb, ha, fun i hi => ?_⟩
  have sb := stamp_sorted hb
  have sa := stamp_sorted ha
  have e := getM_mem sb (List.getElem_mem hi)
  have e1 := sb.2 _ (List.getElem_mem hi)
  have e2 := getM_nonneg (s := b[i].1) sa
  by_cases h0 : getM a b[i].1 = 0
  · exact .inl h0
  · right
    have hmem := getM_pos (l := a) (s := b[i].1) (by omega)
    obtain ⟨k, hk, ek⟩ := List.mem_iff_getElem.1 hmem
    have := h k hk
    rw [ek] at this
    simp only at this
    omega
/-- The names of marks. -/
def namesM (a : List (ByteArray × Int)) : List ByteArray := a.map (·.1)
theorem among_names {a : List (ByteArray × Int)} (ha : Sorted a) (s : ByteArray) : amongB (namesM a) s = true ↔ 0 < getM a s := by
  unfold amongB namesM
  simp only [List.any_eq_true, decide_eq_true_eq, List.mem_map]
  constructor
  · rintro ⟨_, ⟨m, hm, rfl⟩, rfl⟩
    rw [getM_mem ha hm]; exact ha.2 m hm
  · intro h
    exact ⟨s, ⟨_, getM_pos h, rfl⟩, rfl⟩
theorem belowP_iff {a b : List (ByteArray × Int)} (ha : Sorted a) (hb : Sorted b) : BelowP a b ↔ ∀ s, getM a s ≤ getM b s := by
  constructor
  · intro h s
    have hn := getM_nonneg (s := s) hb
    by_cases h0 : 0 < getM a s
    · obtain ⟨i, hi, e⟩ := List.mem_iff_getElem.1 (getM_pos h0)
      have := h i hi
      rw [e] at this
      exact this
    · omega
  · intro h i hi
    have e := getM_mem ha (List.getElem_mem hi)
    have := h a[i].1
    omega
theorem ord_less {a b : List (ByteArray × Int)} {o : Int} (h : IsOrd a b o) : o = 1 ↔ (StampP a ∧ StampP b ∧ BelowP a b ∧ ¬ BelowP b a) := by
  constructor
  · rintro rfl
    rcases h with ⟨_, h2⟩ | ⟨h1, h2, ⟨p, q, e⟩ | ⟨p, q, _⟩ | ⟨_, _, e⟩ | ⟨_, _, e⟩⟩
    · omega
    · omega
    · exact ⟨h1, h2, p, q⟩
    · omega
    · omega
  · rintro ⟨ha, hb, hab, hba⟩
    rcases h with ⟨h1, _⟩ | ⟨_, _, ⟨_, q, e⟩ | ⟨_, _, e⟩ | ⟨q, _, _⟩ | ⟨q, _, _⟩⟩
    · exact absurd ⟨ha, hb⟩ h1
    · exact absurd q hba
    · exact e
    · exact absurd hab q
    · exact absurd hab q
end Go.Proofs.YtpfhegengmlkmaaGreatDoor
