/- Texts of this claim, one behind the other. -/
import Derived.Lib.Strings
import Derived.Lib.Walk
import Derived.Lib.BufferWrite
import Derived.Lib.UnsafeStr
import Derived.Laws.MakeOwn
import Derived.Deep.RegionHeld3
import Derived.Test.YtpfhegengmlkmaaGreatZJ1
import Derived.Test.YtpfhegengmlkmaaGreatZJ4
import Derived.Test.YtpfhegengmlkmaaGreatZJ5
import Derived.Test.YtpfhegengmlkmaaGreatZJ7
namespace Go.Proofs.YtpfhegengmlkmaaGreat
open Go.RowKit Go.BigFrame

/-- Both are stamps, and have the same version of what both have. -/
def AgreeP (a b : List (ByteArray × Int)) : Prop := StampP a ∧ StampP b ∧ ∀ i, (h : i < a.length) → getM b a[i].1 = 0 ∨ getM b a[i].1 = a[i].2
/-- Each mark of the first is in the second, with at least its version. -/
def BelowP (a b : List (ByteArray × Int)) : Prop := ∀ i, (h : i < a.length) → a[i].2 ≤ getM b a[i].1

theorem ag_step {a b : List (ByteArray × Int)} {k : Nat} (H : ∀ i, (h : i < a.length) → i < k → getM b a[i].1 = 0 ∨ getM b a[i].1 = a[i].2) (hk : k < a.length) (h : getM b a[k].1 = 0 ∨ getM b a[k].1 = a[k].2) : ∀ i, (h : i < a.length) → i < k + 1 → getM b a[i].1 = 0 ∨ getM b a[i].1 = a[i].2 := fun i hi hlt => by
  by_cases e : i = k
  · subst e; exact h
  · exact H i hi (by omega)
theorem be_step {a b : List (ByteArray × Int)} {k : Nat} (H : ∀ i, (h : i < a.length) → i < k → a[i].2 ≤ getM b a[i].1) (hk : k < a.length) (h : a[k].2 ≤ getM b a[k].1) : ∀ i, (h : i < a.length) → i < k + 1 → a[i].2 ≤ getM b a[i].1 := fun i hi hlt => by
  by_cases e : i = k
  · subst e; exact h
  · exact H i hi (by omega)

set_option maxHeartbeats 800000 in
theorem l1Below_any (aa ab : Option Addr) (ca cb : Nat) (la lb : List (ByteArray × Int)) (w : World) (hla : la.length ≤ maxLen) (hlb : lb.length ≤ maxLen) (ha : Row w aa la) (hb : Row w ab lb) :
    Calls Tryz.prog 87 #[.slice aa la.length ca, .slice ab lb.length cb] w fun e w' => IsB (BelowP la lb) e ∧ Below w.heap.size w w' := by
  have hl := hla
  unfold maxLen at hl
  go_enter Tryz.func87, Tryz.ntmps87
  go_wp2_with fail
  go_loopw [5] (fun i wr => ∃ k : Nat, k ≤ la.length ∧ i = .int .i64 k ∧ (∀ i, (h : i < la.length) → i < k → la[i].2 ≤ getM lb la[i].1) ∧ Below w.heap.size w wr) (fun i _ => la.length - (intOf i).toNat)
  case atStart => exact ⟨0, Nat.zero_le _, rfl, fun j _ h => by omega, Below.refl _ _⟩
  case round =>
    obtain ⟨k, hk, rfl, hall, hbl⟩ := hrel
    by_cases hlt : k < la.length
    · obtain ⟨b, o, rfl, hblt, c0, c1⟩ := ha k hlt
      have HST := be_step hall hlt
      have e0 := cell_on hbl hblt c0
      have e1 := cell_on hbl hblt c1
      have g1 : b < wr.heap.size := Nat.lt_of_lt_of_le hblt hbl.size
      have HRB : Hid (∀ n : Lat wr, Row n.w ab lb) := fun n => (hb.below hbl).below n.h
      by_cases hc : getM lb la[k].1 < la[k].2
      · go_wp2_with fail
        refine wp_region_lat (by kernel_rfl) (by kernel_rfl) ?_
        have hne := Lat.some wr
        have q0 : ∀ n : Lat wr, n.w.cell? ⟨b, o + k * 2, none⟩ = some (.string la[k].1) := fun n => n.cell g1 e0
        have q1 : ∀ n : Lat wr, n.w.cell? ⟨b, o + k * 2 + 1, none⟩ = some (.int .i64 la[k].2) := fun n => n.cell g1 e1
        repeat (go_big_quiet_step ((go_at_call 57; exact Calls.lat_same (l1Get_any _ _ lb _ _ hlb (HRB.out _)))))
        refine wpQuiet_nil ?_
        rintro _ ⟨nq, rfl⟩
        go_wp2_with fail
        go_ret
        exact ⟨isB_false (fun h => by have := h k hlt; omega), hbl.trans (nq.h.mono hbl.size)⟩
      · have HN := HST (by omega)
        clear HST hall
        go_wp2_with fail
        refine wp_region_lat (by kernel_rfl) (by kernel_rfl) ?_
        have hne := Lat.some wr
        have q0 : ∀ n : Lat wr, n.w.cell? ⟨b, o + k * 2, none⟩ = some (.string la[k].1) := fun n => n.cell g1 e0
        have q1 : ∀ n : Lat wr, n.w.cell? ⟨b, o + k * 2 + 1, none⟩ = some (.int .i64 la[k].2) := fun n => n.cell g1 e1
        repeat (go_big_quiet_step ((go_at_call 57; exact Calls.lat_same (l1Get_any _ _ lb _ _ hlb (HRB.out _)))))
        refine wpQuiet_nil ?_
        rintro _ ⟨nq, rfl⟩
        go_wp2_with fail
        exact ⟨⟨k + 1, by omega, by go_num, HN, hbl.trans (nq.h.mono hbl.size)⟩, by simp [intOf]; omega⟩
    · go_wp2_with fail
      go_ret
      exact ⟨isB_true (fun i hi => hall i hi (by omega)), hbl⟩

set_option maxHeartbeats 800000 in
theorem specAgree_any (aa ab : Option Addr) (ca cb : Nat) (la lb : List (ByteArray × Int)) (w : World) (hla : la.length ≤ maxLen) (hlb : lb.length ≤ maxLen) (ha : Row w aa la) (hb : Row w ab lb)
    (hsa : ∀ j, (h : j < la.length) → la[j].1.size ≤ maxLen) (hsb : ∀ j, (h : j < lb.length) → lb[j].1.size ≤ maxLen) :
    Calls Tryz.prog 51 #[.slice aa la.length ca, .slice ab lb.length cb] w fun e w' => IsB (AgreeP la lb) e ∧ Below w.heap.size w w' := by
  have hl := hla
  unfold maxLen at hl
  go_enter Tryz.func51, Tryz.ntmps51
  go_wp2_with fail
  refine (specOk_b aa ca la _ hla ha hsa).mono ?_
  rintro e w1 ⟨⟨r, rfl, hr1⟩, hb1⟩
  cases r
  · have hn : ¬ StampP la := fun h => by simpa using hr1.2 h
    clear hr1
    go_wp2_with fail
    go_ret
    exact ⟨isB_false (fun h => hn h.1), hb1⟩
  have hya : StampP la := hr1.1 rfl
  clear hr1
  go_wp2_with fail
  refine (specOk_b ab cb lb _ hlb (hb.below hb1) hsb).mono ?_
  rintro e w2 ⟨⟨r, rfl, hr2⟩, hb2⟩
  have hb12 : Below w.heap.size w w2 := hb1.trans (hb2.mono hb1.size)
  cases r
  · have hn : ¬ StampP lb := fun h => by simpa using hr2.2 h
    clear hr2
    go_wp2_with fail
    go_ret
    exact ⟨isB_false (fun h => hn h.2.1), hb12⟩
  have hyb : StampP lb := hr2.1 rfl
  clear hr2
  have hra := ha.below hb12
  have hrb := hb.below hb12
  clear ha hb
  go_wp2_with fail
  go_loop [5] (fun i => ∃ k : Nat, k ≤ la.length ∧ i = .int .i64 k ∧ (∀ i, (h : i < la.length) → i < k → getM lb la[i].1 = 0 ∨ getM lb la[i].1 = la[i].2)) (fun i => la.length - (intOf i).toNat)
  case atStart => exact ⟨0, Nat.zero_le _, rfl, fun j _ h => by omega⟩
  case round =>
    obtain ⟨k, hk, rfl, hall⟩ := hrel
    by_cases hlt : k < la.length
    · obtain ⟨b, o, rfl, hblt, c0, c1⟩ := hra k hlt
      have HST := ag_step hall hlt
      by_cases e0 : getM lb la[k].1 = 0
      · have HN := HST (.inl e0)
        have g0 : (getM lb la[k].1 != 0) = false := by simp [e0]
        clear HST hall e0
        go_wp2_with (go_at_call 57; refine (l1Get_any _ _ lb _ _ hlb hrb).mono ?_; rintro e w3 ⟨rfl, rfl⟩)
        exact ⟨⟨k + 1, by omega, by go_num, HN⟩, by simp [intOf]; omega⟩
      · have g0 : (getM lb la[k].1 != 0) = true := by simp [e0]
        by_cases e1 : getM lb la[k].1 = la[k].2
        · have HN := HST (.inr e1)
          have g1 : (getM lb la[k].1 != la[k].2) = false := by simp [e1]
          clear HST hall e0 e1
          go_wp2_with (go_at_call 57; refine (l1Get_any _ _ lb _ _ hlb hrb).mono ?_; rintro e w3 ⟨rfl, rfl⟩)
          exact ⟨⟨k + 1, by omega, by go_num, HN⟩, by simp [intOf]; omega⟩
        · have g1 : (getM lb la[k].1 != la[k].2) = true := by simp [e1]
          have HE : Hid (¬ getM lb la[k].1 = 0 ∧ ¬ getM lb la[k].1 = la[k].2) := ⟨e0, e1⟩
          clear HST hall e0 e1
          go_wp2_with (go_at_call 57; refine (l1Get_any _ _ lb _ _ hlb hrb).mono ?_; rintro e w3 ⟨rfl, rfl⟩)
          go_ret
          exact ⟨isB_false (fun h => (h.2.2 k hlt).elim HE.out.1 HE.out.2), hb12⟩
    · go_wp2_with fail
      go_ret
      exact ⟨isB_true ⟨hya, hyb, fun i hi => hall i hi (by omega)⟩, hb12⟩

/-- What StampOrder answers. -/
def IsOrd (a b : List (ByteArray × Int)) (v : Int) : Prop :=
  (¬ (StampP a ∧ StampP b) ∧ v = 4) ∨ (StampP a ∧ StampP b ∧ ((BelowP a b ∧ BelowP b a ∧ v = 0) ∨ (BelowP a b ∧ ¬ BelowP b a ∧ v = 1) ∨ (¬ BelowP a b ∧ BelowP b a ∧ v = 2) ∨ (¬ BelowP a b ∧ ¬ BelowP b a ∧ v = 3)))
theorem IsOrd.one {a b : List (ByteArray × Int)} {u v : Int} (h : IsOrd a b u) (k : IsOrd a b v) : u = v := by
  rcases h with ⟨h1, h2⟩ | ⟨h1, h2, h3⟩
  · rcases k with ⟨k1, k2⟩ | ⟨k1, k2, k3⟩
    · rw [h2, k2]
    · exact absurd ⟨k1, k2⟩ h1
  · rcases k with ⟨k1, k2⟩ | ⟨k1, k2, k3⟩
    · exact absurd ⟨h1, h2⟩ k1
    · rcases h3 with ⟨p, q, e⟩ | ⟨p, q, e⟩ | ⟨p, q, e⟩ | ⟨p, q, e⟩ <;> rcases k3 with ⟨p', q', e'⟩ | ⟨p', q', e'⟩ | ⟨p', q', e'⟩ | ⟨p', q', e'⟩ <;> first | (rw [e, e']; done) | exact absurd p p' | exact absurd p' p | exact absurd q q' | exact absurd q' q

set_option maxHeartbeats 800000 in
theorem specOrder_any (aa ab : Option Addr) (ca cb : Nat) (la lb : List (ByteArray × Int)) (w : World) (hla : la.length ≤ maxLen) (hlb : lb.length ≤ maxLen) (ha : Row w aa la) (hb : Row w ab lb)
    (hsa : ∀ j, (h : j < la.length) → la[j].1.size ≤ maxLen) (hsb : ∀ j, (h : j < lb.length) → lb[j].1.size ≤ maxLen) :
    Calls Tryz.prog 68 #[.slice aa la.length ca, .slice ab lb.length cb] w fun e w' => (∃ v, e = .returned (.int .i64 v) ∧ IsOrd la lb v) ∧ Below w.heap.size w w' := by
  go_enter Tryz.func68, Tryz.ntmps68
  go_wp2_with fail
  refine (specOk_b aa ca la _ hla ha hsa).mono ?_
  rintro e w1 ⟨⟨r, rfl, hr1⟩, hb1⟩
  cases r
  · have hn : ¬ StampP la := fun h => by simpa using hr1.2 h
    clear hr1
    go_wp2_with fail
    go_ret
    exact ⟨⟨4, rfl, .inl ⟨fun h => hn h.1, rfl⟩⟩, hb1⟩
  have hya : StampP la := hr1.1 rfl
  clear hr1
  go_wp2_with fail
  refine (specOk_b ab cb lb _ hlb (hb.below hb1) hsb).mono ?_
  rintro e w2 ⟨⟨r, rfl, hr2⟩, hb2⟩
  have hb12 : Below w.heap.size w w2 := hb1.trans (hb2.mono hb1.size)
  cases r
  · have hn : ¬ StampP lb := fun h => by simpa using hr2.2 h
    clear hr2
    go_wp2_with fail
    go_ret
    exact ⟨⟨4, rfl, .inl ⟨fun h => hn h.2, rfl⟩⟩, hb12⟩
  have hyb : StampP lb := hr2.1 rfl
  clear hr2
  go_wp2_with fail
  refine (l1Below_any aa ab ca cb la lb _ hla hlb (ha.below hb12) (hb.below hb12)).mono ?_
  rintro e w3 ⟨⟨r3, rfl, hr3⟩, hb3⟩
  have hb13 : Below w.heap.size w w3 := hb12.trans (hb3.mono hb12.size)
  have HR3 : Hid (r3 = true ↔ BelowP la lb) := hr3
  clear hr3
  go_wp2_with fail
  refine (l1Below_any ab aa cb ca lb la _ hlb hla (hb.below hb13) (ha.below hb13)).mono ?_
  rintro e w4 ⟨⟨r4, rfl, hr4⟩, hb4⟩
  have hb14 : Below w.heap.size w w4 := hb13.trans (hb4.mono hb13.size)
  have h3 := HR3.out
  cases r3 <;> cases r4 <;> simp at h3 hr4
  all_goals
    have H3 : Hid _ := h3
    have H4 : Hid _ := hr4
    clear h3 hr4 HR3
    go_wp2_with fail
    go_ret
  · exact ⟨⟨3, rfl, .inr ⟨hya, hyb, .inr (.inr (.inr ⟨H3.out, H4.out, rfl⟩))⟩⟩, hb14⟩
  · exact ⟨⟨2, rfl, .inr ⟨hya, hyb, .inr (.inr (.inl ⟨H3.out, H4.out, rfl⟩))⟩⟩, hb14⟩
  · exact ⟨⟨1, rfl, .inr ⟨hya, hyb, .inr (.inl ⟨H3.out, H4.out, rfl⟩)⟩⟩, hb14⟩
  · exact ⟨⟨0, rfl, .inr ⟨hya, hyb, .inl ⟨H3.out, H4.out, rfl⟩⟩⟩, hb14⟩

end Go.Proofs.YtpfhegengmlkmaaGreat

namespace Go.Proofs.YtpfhegengmlkmaaGreat
open Go.RowKit Go.BigFrame

theorem Tryz.infoB : (Tryz.prog.info? 5).map (fun i => (i.zero, i.size, i.bytes)) = some (some (.int .u8 0), 1, 1) := by kernel_rfl

set_option maxRecDepth 100000 in
set_option maxHeartbeats 1000000 in
theorem clone_any (s : ByteArray) (w : World) (hlim : s.size ≤ 281474976710656) :
    Calls Tryz.prog 82 #[.string s] w fun e w' => e = .returned (.string s) ∧ Below w.heap.size w w' := by
  by_cases h0 : s.size = 0
  · have hs : s = ⟨#[]⟩ := by
      apply ByteArray.ext
      exact Array.eq_empty_of_size_eq_zero h0
    subst hs
    go_enter Tryz.func82, Tryz.ntmps82
    go_wp2
    go_ret
    exact ⟨rfl, Below.refl _ _⟩
  · obtain ⟨i0, hi, hz0, hz1, hz2⟩ := info_parts Tryz.infoB
    have hinfo : (Tryz.prog.info? 5).map (·.size) = some 1 := by rw [hi]; simp [hz1]
    have hco : Tryz.prog.cellsOf 5 = 1 := by simp [Program.cellsOf, hi, hz1]
    obtain ⟨M, hM⟩ : ∃ M, M = madeCells (Value.int .u8 0).cells (((s.size : Nat) : Int).toNat * i0.size) := ⟨_, rfl⟩
    have hMs : M.size = s.size := by rw [hM, size_madeCells, hz1]; simp
    have hmk : ∀ W : World, (Instr.makeSlice 22 (.int .i64 (s.size : Int)) (.int .i64 (s.size : Int))).run Tryz.prog W = .ok (.slice (some ⟨W.heap.size, 0, none⟩) s.size s.size) (W.alloc (.cells M 5)) := fun W => by
      have h := run_make (P := Tryz.prog) W 22 5 i0 (.int .u8 0) Tryz.underlying22 hi hz0 .i64 .i64 (s.size : Int) (s.size : Int) (by omega) (by omega) (by rw [hz2]; omega) (by omega)
      rw [← hM] at h
      simpa using h
    clear hM
    have hcp := Lib.run_copy_row_string (P := Tryz.prog) (w.alloc (.cells M 5)) 22 9 3 5 w.heap.size 0 s.size s.size s M 5 Tryz.underlying22 hinfo (heap_alloc_new w _) (Nat.le_refl _) (by omega)
    obtain ⟨Y, hY⟩ : ∃ Y, Y = (M.toList.take 0 ++ Lib.byteCells s.data.toList ++ M.toList.drop (0 + s.size)).toArray := ⟨_, rfl⟩
    rw [← hY] at hcp
    have hYl : Y.toList = Lib.byteCells s.data.toList := by
      rw [hY, List.toList_toArray, List.take_zero, List.nil_append, List.drop_of_length_le (by rw [Array.length_toList]; omega), List.append_nil]
    have hgY : ((w.alloc (.cells M 5)).setRow w.heap.size Y).heap[w.heap.size]? = some (.cells Y 5 (0, 0)) := setRow_heap _ _ M _ 5 (0, 0) (heap_alloc_new w _)
    have hYs : Y.size = s.size := by rw [← Array.length_toList, hYl, Lib.byteCells_length, ← Lib.size_eq]
    have hne : s.data.toList ≠ [] := fun e => h0 (by rw [Lib.size_eq, e]; rfl)
    have hUS := Lib.run_unsafeString_row (P := Tryz.prog) ((w.alloc (.cells M 5)).setRow w.heap.size Y) 145 3 9 5 Tryz.underlying145 hco w.heap.size Y.size (by unfold World.shape?; rw [hgY]) s.data.toList hne (by rw [← Lib.size_eq]; omega) (by rw [← Lib.size_eq]; omega)
      (fun j x hx => Lib.cells_of_row hgY Y.size j _ (by rw [List.take_of_length_le (by rw [Array.length_toList]; exact Nat.le_refl _), hYl]; simp [Lib.byteCells, hx]))
    rw [← Lib.size_eq] at hUS
    clear hY
    go_enter Tryz.func82, Tryz.ntmps82
    go_wp2
    go_ret
    have hb1 : Below w.heap.size w (w.alloc (.cells M 5)) := (Below.refl _ w).alloc (Nat.le_refl _) _
    have hb2 : Below w.heap.size (w.alloc (.cells M 5)) ((w.alloc (.cells M 5)).setRow w.heap.size Y) := ⟨rfl, rfl, rfl, by simp, fun k hk => setRow_other _ _ _ _ (by omega)⟩
    exact ⟨rfl, Lib.below_freeze (hb1.trans hb2) (p := ⟨w.heap.size, 0, none⟩) (Nat.le_refl _) _⟩

set_option maxHeartbeats 400000 in
theorem strClone_any (s : ByteArray) (w : World) (hlim : s.size ≤ 281474976710656) :
    Calls Tryz.prog 60 #[.string s] w fun e w' => e = .returned (.string s) ∧ Below w.heap.size w w' := by
  go_enter Tryz.func60, Tryz.ntmps60
  go_wp2_with fail
  refine (clone_any s _ hlim).mono ?_
  rintro e w1 ⟨rfl, hb1⟩
  go_wp2_with fail
  go_ret
  exact ⟨rfl, hb1⟩

set_option maxHeartbeats 400000 in
theorem fresh_any (s : ByteArray) (v : Int) (w : World) (hlim : s.size ≤ 281474976710656) :
    Calls Tryz.prog 35 #[.agg #[.string s, .int .i64 v]] w fun e w' => e = .returned (.agg #[.string s, .int .i64 v]) ∧ Below w.heap.size w w' := by
  go_enter Tryz.func35, Tryz.ntmps35
  go_wp2_with fail
  have hsz : ((w.alloc (.cells #[.string s, .int .i64 v] 72)).alloc (.cells #[.string ⟨#[]⟩, .int .i64 0] 72)).heap.size = w.heap.size + 2 := by simp
  have c0 : ((w.alloc (.cells #[.string s, .int .i64 v] 72)).alloc (.cells #[.string ⟨#[]⟩, .int .i64 0] 72)).cell? ⟨w.heap.size, 0, none⟩ = some (.string s) := by simp [go_sem]
  have c1 : ((w.alloc (.cells #[.string s, .int .i64 v] 72)).alloc (.cells #[.string ⟨#[]⟩, .int .i64 0] 72)).cell? ⟨w.heap.size, 1, none⟩ = some (.int .i64 v) := by simp [go_sem]
  have d0 : ((w.alloc (.cells #[.string s, .int .i64 v] 72)).alloc (.cells #[.string ⟨#[]⟩, .int .i64 0] 72)).cell? ⟨w.heap.size + 1, 0, none⟩ = some (.string ⟨#[]⟩) := by simp [go_sem]
  have d1 : ((w.alloc (.cells #[.string s, .int .i64 v] 72)).alloc (.cells #[.string ⟨#[]⟩, .int .i64 0] 72)).cell? ⟨w.heap.size + 1, 1, none⟩ = some (.int .i64 0) := by simp [go_sem]
  have f0 : ((w.alloc (.cells #[.string s, .int .i64 v] 72)).alloc (.cells #[.string ⟨#[]⟩, .int .i64 0] 72)).frozen? ⟨w.heap.size + 1, 0, none⟩ = false := by simp [go_sem]
  have f1 : ((w.alloc (.cells #[.string s, .int .i64 v] 72)).alloc (.cells #[.string ⟨#[]⟩, .int .i64 0] 72)).frozen? ⟨w.heap.size + 1, 1, none⟩ = false := by simp [go_sem]
  have hbel : Below w.heap.size w ((w.alloc (.cells #[.string s, .int .i64 v] 72)).alloc (.cells #[.string ⟨#[]⟩, .int .i64 0] 72)) := ((Below.refl _ _).alloc (Nat.le_refl _) _).alloc (by simp) _
  generalize ((w.alloc (.cells #[.string s, .int .i64 v] 72)).alloc (.cells #[.string ⟨#[]⟩, .int .i64 0] 72)) = W at *
  have g0 : w.heap.size < W.heap.size := by omega
  have g1 : w.heap.size + 1 < W.heap.size := by omega
  clear hsz
  go_region_held3 (fun w' => w'.cell? ⟨w.heap.size, 0, none⟩ = some (.string s) ∧ w'.cell? ⟨w.heap.size, 1, none⟩ = some (.int .i64 v)) (first | go_keep | exact ⟨q0, q1⟩)
    (first | (go_at_call 60; refine (strClone_any _ _ hlim).mono ?_; rintro e w1 ⟨rfl, hb1⟩; have q0 := cell_on hb1 g0 c0; have q1 := cell_on hb1 g0 c1; have q2 := cell_on hb1 g1 d0; have q3 := cell_on hb1 g1 d1; have q4 := (hb1.frozen (p := ⟨w.heap.size + 1, 0, none⟩) g1).trans f0; have q5 := (hb1.frozen (p := ⟨w.heap.size + 1, 1, none⟩) g1).trans f1))
  go_wp2_with fail
  have hb2 : Below w.heap.size w w1 := hbel.trans ⟨hb1.os, hb1.tape, hb1.output, hb1.size, fun k hk => hb1.block k (by show k < W.heap.size; omega)⟩
  exact bodyPost_ret (v := .agg #[.string s, .int .i64 v]) (by simp [results, Tryz.results35, go_sem, q2, q3]) rfl ⟨rfl, (hb2.setCell (Nat.le_succ _) _).setCell (Nat.le_succ _) _⟩

end Go.Proofs.YtpfhegengmlkmaaGreat

namespace Go.Proofs.YtpfhegengmlkmaaGreat
open Go.RowKit Go.BigFrame

/-- Is the mark's source among the names? -/
def amongB (names : List ByteArray) (s : ByteArray) : Bool := names.any fun x => decide (x = s)
/-- What is left of marks by names. -/
def onlyM (names : List ByteArray) (l : List (ByteArray × Int)) : List (ByteArray × Int) := l.filter fun m => amongB names m.1

theorem among_iff {names : List ByteArray} {s : ByteArray} : amongB names s = true ↔ ∃ j, ∃ h : j < names.length, names[j] = s := by
  unfold amongB
  simp only [List.any_eq_true, decide_eq_true_eq]
  constructor
  · rintro ⟨x, hx, rfl⟩
    obtain ⟨j, hj, rfl⟩ := List.mem_iff_getElem.1 hx
    exact ⟨j, hj, rfl⟩
  · rintro ⟨j, hj, rfl⟩
    exact ⟨_, List.getElem_mem hj, rfl⟩

theorem only_take {names : List ByteArray} {l : List (ByteArray × Int)} {k : Nat} (hk : k < l.length) :
    onlyM names (l.take (k + 1)) = onlyM names (l.take k) ++ (if amongB names l[k].1 = true then [l[k]] else []) := by
  unfold onlyM
  rw [List.take_succ_eq_append_getElem hk, List.filter_append]
  by_cases h : amongB names l[k].1 = true <;> simp [h]
theorem only_len {names : List ByteArray} {l : List (ByteArray × Int)} (k : Nat) : (onlyM names (l.take k)).length ≤ l.length := by
  unfold onlyM
  exact Nat.le_trans (List.length_filter_le _ _) (by rw [List.length_take]; omega)

/-- 'b' says whether 'x' is among the first 'j' names. -/
def HasB (names : List ByteArray) (j : Nat) (x : ByteArray) (b : Bool) : Prop := b = true ↔ ∃ q, ∃ hq : q < names.length, q < j ∧ names[q] = x
theorem hasB_start (names : List ByteArray) (x : ByteArray) : HasB names 0 x false := ⟨fun h => (by cases h), fun ⟨q, _, h, _⟩ => by omega⟩
theorem hasB_no {names : List ByteArray} {j : Nat} {x : ByteArray} (h : HasB names j x false) {hj : j < names.length} (he : ¬ names[j] = x) : HasB names (j + 1) x false := by
  refine ⟨fun h => (by cases h), ?_⟩
  rintro ⟨q, hq, hlt, e⟩
  by_cases hqj : q = j
  · subst hqj; exact absurd e he
  · exact h.2 ⟨q, hq, by omega, e⟩
theorem hasB_all {names : List ByteArray} {j : Nat} {x : ByteArray} {b : Bool} (h : HasB names j x b) (hj : names.length ≤ j) : amongB names x = b := by
  have h' : b = true ↔ amongB names x = true := by
    unfold HasB at h
    rw [h, among_iff]
    exact ⟨fun ⟨q, hq, _, e⟩ => ⟨q, hq, e⟩, fun ⟨q, hq, e⟩ => ⟨q, hq, by omega, e⟩⟩
  cases b <;> cases hA : amongB names x <;> simp_all

/-- What StampOnly answers. -/
def IsO (l : List (ByteArray × Int)) (names : List ByteArray) (m : List (ByteArray × Int)) : Prop := (StampP l → m = onlyM names l) ∧ (¬ StampP l → m = [])
theorem IsO.one {l : List (ByteArray × Int)} {names : List ByteArray} {u v : List (ByteArray × Int)} (h : IsO l names u) (h' : IsO l names v) : u = v := by
  by_cases hp : StampP l
  · rw [h.1 hp, h'.1 hp]
  · rw [h.2 hp, h'.2 hp]

set_option maxHeartbeats 400000 in
theorem index_any (a : Option Addr) (cap : Nat) (names : List ByteArray) (x : ByteArray) (w : World) (hl : names.length ≤ 1048576) (hr : RowS w a names) :
    Calls Tryz.prog 59 #[.slice a names.length cap, .string x] w fun e w' => (∃ r : Int, e = .returned (.int .i64 r) ∧ decide (0 ≤ r) = amongB names x) ∧ w' = w := by
  go_enter Tryz.func59, Tryz.ntmps59
  go_wp2_with fail
  go_loop [8] (fun i => ∃ j : Nat, j ≤ names.length ∧ i = .int .i64 j ∧ HasB names j x false) (fun i => names.length - (intOf i).toNat)
  case atStart => exact ⟨0, Nat.zero_le _, rfl, hasB_start _ _⟩
  case round =>
    obtain ⟨j, hj, rfl, HH⟩ := hrel
    by_cases hjlt : j < names.length
    · obtain ⟨b, o, rfl, hblt, d0⟩ := hr j hjlt
      by_cases he : names[j] = x
      · have hb' : (x.toList == names[j].toList) = true := toList_beq.2 he.symm
        have HA : Hid (amongB names x = true) := among_iff.2 ⟨j, hjlt, he⟩
        go_wp2_with fail
        go_ret
        exact ⟨⟨_, rfl, by rw [HA.out]; simp⟩, rfl⟩
      · have hb' : (x.toList == names[j].toList) = false := toList_bne.2 (fun h => he h.symm)
        go_wp2_with fail
        exact ⟨⟨j + 1, by omega, by go_num, hasB_no HH he⟩, by simp [intOf]; omega⟩
    · have HA : Hid (amongB names x = false) := hasB_all HH (by omega)
      go_wp2_with fail
      go_ret
      exact ⟨⟨_, rfl, by rw [HA.out]; simp⟩, rfl⟩

set_option maxHeartbeats 400000 in
theorem contains_any (a : Option Addr) (cap : Nat) (names : List ByteArray) (x : ByteArray) (w : World) (hl : names.length ≤ 1048576) (hr : RowS w a names) :
    Calls Tryz.prog 34 #[.slice a names.length cap, .string x] w fun e w' => e = .returned (.bool (amongB names x)) ∧ w' = w := by
  go_enter Tryz.func34, Tryz.ntmps34
  go_wp2_with fail
  refine (index_any a cap names x _ hl hr).mono ?_
  rintro e w1 ⟨⟨r, rfl, hr1⟩, rfl⟩
  have HR : Hid (decide (0 ≤ r) = amongB names x) := hr1
  clear hr1
  go_wp2_with fail
  go_ret
  exact ⟨by rw [← HR.out]; rfl, rfl⟩

set_option maxHeartbeats 800000 in
theorem implOnly_any (a : Option Addr) (cap : Nat) (l : List (ByteArray × Int)) (a' : Option Addr) (cap' : Nat) (names : List ByteArray) (w : World) (hl : l.length ≤ 1048576) (hr : Row w a l) (hs : ∀ j, (h : j < l.length) → (l[j].1.size : Int) ≤ 1048576)
    (hl' : names.length ≤ 1048576) (hr' : RowS w a' names) :
    Calls Tryz.prog 17 #[.slice a l.length cap, .slice a' names.length cap'] w fun e w' => (∃ v m, e = .returned v ∧ Gath w' w.heap.size v m ∧ IsO l names m) ∧ Below w.heap.size w w' := by
  obtain ⟨i0, hi, hz0, hz1, hz2⟩ := info_parts Tryz.infoM
  go_enter Tryz.func17, Tryz.ntmps17
  go_wp2_with fail
  refine (implStampOk_any a cap l _ (by unfold maxLen; omega) hr (fun j h => by have := hs j h; unfold maxLen; omega)).mono ?_
  rintro e w1 ⟨⟨r, rfl, hr1⟩, hb1⟩
  cases r
  · have hn : ¬ StampP l := fun h => by simpa using hr1.2 h
    clear hr1
    go_wp2_with fail
    go_ret
    exact ⟨⟨_, [], rfl, Gath.none _ _, fun h => absurd h hn, fun _ => rfl⟩, hb1⟩
  have hy : StampP l := hr1.1 rfl
  clear hr1
  go_wp2_with fail
  go_loopw [5, 13] (fun out i wr => ∃ k : Nat, k ≤ l.length ∧ i = .int .i64 k ∧ Gath wr w.heap.size out (onlyM names (l.take k)) ∧ Below w.heap.size w wr) (fun _ i _ => l.length - (intOf i).toNat)
  case atStart => exact ⟨0, Nat.zero_le _, rfl, Gath.none _ _, hb1⟩
  case round =>
    obtain ⟨k, hk, rfl, hg, hb⟩ := hrel
    by_cases hlt : k < l.length
    · obtain ⟨b, o, rfl, hblt, c0, c1⟩ := hr k hlt
      have e0 := cell_on hb hblt c0
      have e1 := cell_on hb hblt c1
      have hle := only_len (names := names) (l := l) k
      have HT := only_take (names := names) hlt
      have hss := hs k hlt
      cases hA : amongB names l[k].1
      · have HT' : Hid (onlyM names (l.take (k + 1)) = onlyM names (l.take k)) := by rw [HT, hA]; simp [Hid]
        clear HT
        go_wp2_with (go_at_call 34; refine (contains_any a' cap' names _ _ hl' (hr'.below (hb.alloc hb.size _))).mono ?_; rintro e w2 ⟨rfl, rfl⟩)
        exact ⟨⟨k + 1, by omega, by go_num, by rw [HT'.out]; exact hg.keep ((Below.refl _ _).alloc (Nat.le_refl _) _), hb.alloc hb.size _⟩, by simp [intOf]; omega⟩
      · have HT' : Hid (onlyM names (l.take (k + 1)) = onlyM names (l.take k) ++ [(l[k].1, l[k].2)]) := by rw [HT, if_pos hA]; rfl
        clear HT
        go_wp2_with (go_at_call 34; refine (contains_any a' cap' names _ _ hl' (hr'.below (hb.alloc hb.size _))).mono ?_; rintro e w2 ⟨rfl, rfl⟩)
        refine (fresh_any _ _ _ (by omega)).mono ?_
        rintro e w3 ⟨rfl, hb3⟩
        have hba : Below w.heap.size w (wr.alloc (.cells #[.string l[k].1, .int .i64 l[k].2] 72)) := hb.alloc hb.size _
        have hb3' : Below w.heap.size w w3 := hba.trans (hb3.mono hba.size)
        have hsz3 := hb3'.size
        have hgd : w3.ownsRow w.heap.size 72 2 u5 (onlyM names (l.take k)).length (mcells (onlyM names (l.take k))) := (hg.keep ((Below.refl _ _).alloc (Nat.le_refl _) _)).keep hb3
        go_wp2_with (at_builtin; refine wpList_append_lies _ rfl _ _ 35 rfl w.heap.size 72 i0 (.agg #[.string .empty, .int .i64 0]) 2 24 Tryz.underlying35 hi hz0 hz1 hz2 rfl (by decide) _ _ _ rfl (hgd.alloc _) ⟨w3.heap.size, 0, none⟩ 1 1 [.string l[k].1, .int .i64 l[k].2] rfl rfl (two_new w3 _ _ _) (by simp [Value.oneCell']) (by decide) (by unfold maxLen; omega) (by omega) (by simp; omega) _ rfl ?_; intro g' cap' w4 hown' hgrow _ _)
        have hg2 := Gath.grown (W := w) (B := w.heap.size) (w := w3.alloc (.cells #[.string l[k].1, .int .i64 l[k].2] 72)) (hgd.alloc _) (hb3'.alloc hsz3 _) (by simp; omega) hgrow
        exact ⟨⟨k + 1, by omega, by go_num, by rw [HT'.out]; exact Gath.snoc hown', hg2⟩, by simp [intOf]; omega⟩
    · go_wp2_with fail
      go_ret
      exact ⟨⟨_, _, rfl, hg, fun _ => by rw [List.take_of_length_le (by omega)], fun h => absurd hy h⟩, hb⟩

end Go.Proofs.YtpfhegengmlkmaaGreat
