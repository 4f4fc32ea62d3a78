/- Texts of this claim, one behind the other. -/
import Derived.Lib.Strings
import Derived.Lib.Walk
import Derived.Lib.BufferWrite
import Derived.Lib.UnsafeStr
import Derived.Laws.MakeOwn
import Derived.Deep.RegionHeld3
import Derived.Test.YtpfhegengmlkmaaGreatDoorZT1
import Derived.Test.YtpfhegengmlkmaaGreatDoorZT4
import Derived.Test.YtpfhegengmlkmaaGreatDoorZT5
import Derived.Test.YtpfhegengmlkmaaGreatDoorZT9
namespace Go.Proofs.YtpfhegengmlkmaaGreatDoor
open Go.RowKit Go.BigFrame

theorem Tryz.infoB : (Tryz.prog.info? 5).map (fun i => (i.zero, i.size, i.bytes)) = some (some (.int .u8 0), 1, 1) := by kernel_rfl

set_option maxRecDepth 100000 in
set_option maxHeartbeats 1000000 in
theorem clone_any (s : ByteArray) (w : World) (hlim : s.size ≤ 281474976710656) :
    Calls Tryz.prog 95 #[.string s] w fun e w' => e = .returned (.string s) ∧ Below w.heap.size w w' := by
  by_cases h0 : s.size = 0
  · have hs : s = ⟨#[]⟩ := by
      apply ByteArray.ext
      exact Array.eq_empty_of_size_eq_zero h0
    subst hs
    go_enter Tryz.func95, Tryz.ntmps95
    go_wp2
    go_ret
    exact ⟨rfl, Below.refl _ _⟩
  · obtain ⟨i0, hi, hz0, hz1, hz2⟩ := info_parts Tryz.infoB
    have hinfo : (Tryz.prog.info? 5).map (·.size) = some 1 := by rw [hi]; simp [hz1]
    have hco : Tryz.prog.cellsOf 5 = 1 := by simp [Program.cellsOf, hi, hz1]
    obtain ⟨M, hM⟩ : ∃ M, M = madeCells (Value.int .u8 0).cells (((s.size : Nat) : Int).toNat * i0.size) := ⟨_, rfl⟩
    have hMs : M.size = s.size := by rw [hM, size_madeCells, hz1]; simp
    have hmk : ∀ W : World, (Instr.makeSlice 22 (.int .i64 (s.size : Int)) (.int .i64 (s.size : Int))).run Tryz.prog W = .ok (.slice (some ⟨W.heap.size, 0, none⟩) s.size s.size) (W.alloc (.cells M 5)) := fun W => by
      have h := run_make (P := Tryz.prog) W 22 5 i0 (.int .u8 0) Tryz.underlying22 hi hz0 .i64 .i64 (s.size : Int) (s.size : Int) (by omega) (by omega) (by rw [hz2]; omega) (by omega)
      rw [← hM] at h
      simpa using h
    clear hM
    have hcp := Lib.run_copy_row_string (P := Tryz.prog) (w.alloc (.cells M 5)) 22 9 3 5 w.heap.size 0 s.size s.size s M 5 Tryz.underlying22 hinfo (heap_alloc_new w _) (Nat.le_refl _) (by omega)
    obtain ⟨Y, hY⟩ : ∃ Y, Y = (M.toList.take 0 ++ Lib.byteCells s.data.toList ++ M.toList.drop (0 + s.size)).toArray := ⟨_, rfl⟩
    rw [← hY] at hcp
    have hYl : Y.toList = Lib.byteCells s.data.toList := by
      rw [hY, List.toList_toArray, List.take_zero, List.nil_append, List.drop_of_length_le (by rw [Array.length_toList]; omega), List.append_nil]
    have hgY : ((w.alloc (.cells M 5)).setRow w.heap.size Y).heap[w.heap.size]? = some (.cells Y 5 (0, 0)) := setRow_heap _ _ M _ 5 (0, 0) (heap_alloc_new w _)
    have hYs : Y.size = s.size := by rw [← Array.length_toList, hYl, Lib.byteCells_length, ← Lib.size_eq]
    have hne : s.data.toList ≠ [] := fun e => h0 (by rw [Lib.size_eq, e]; rfl)
    have hUS := Lib.run_unsafeString_row (P := Tryz.prog) ((w.alloc (.cells M 5)).setRow w.heap.size Y) 190 3 9 5 Tryz.underlying190 hco w.heap.size Y.size (by unfold World.shape?; rw [hgY]) s.data.toList hne (by rw [← Lib.size_eq]; omega) (by rw [← Lib.size_eq]; omega)
      (fun j x hx => Lib.cells_of_row hgY Y.size j _ (by rw [List.take_of_length_le (by rw [Array.length_toList]; exact Nat.le_refl _), hYl]; simp [Lib.byteCells, hx]))
    rw [← Lib.size_eq] at hUS
    clear hY
    go_enter Tryz.func95, Tryz.ntmps95
    go_wp2
    go_ret
    have hb1 : Below w.heap.size w (w.alloc (.cells M 5)) := (Below.refl _ w).alloc (Nat.le_refl _) _
    have hb2 : Below w.heap.size (w.alloc (.cells M 5)) ((w.alloc (.cells M 5)).setRow w.heap.size Y) := ⟨rfl, rfl, rfl, by simp, fun k hk => setRow_other _ _ _ _ (by omega)⟩
    exact ⟨rfl, Lib.below_freeze (hb1.trans hb2) (p := ⟨w.heap.size, 0, none⟩) (Nat.le_refl _) _⟩

set_option maxHeartbeats 400000 in
theorem strClone_any (s : ByteArray) (w : World) (hlim : s.size ≤ 281474976710656) :
    Calls Tryz.prog 57 #[.string s] w fun e w' => e = .returned (.string s) ∧ Below w.heap.size w w' := by
  go_enter Tryz.func57, Tryz.ntmps57
  go_wp2_with fail
  refine (clone_any s _ hlim).mono ?_
  rintro e w1 ⟨rfl, hb1⟩
  go_wp2_with fail
  go_ret
  exact ⟨rfl, hb1⟩

set_option maxHeartbeats 400000 in
theorem fresh_any (s : ByteArray) (v : Int) (w : World) (hlim : s.size ≤ 281474976710656) :
    Calls Tryz.prog 78 #[.agg #[.string s, .int .i64 v]] w fun e w' => e = .returned (.agg #[.string s, .int .i64 v]) ∧ Below w.heap.size w w' := by
  go_enter Tryz.func78, Tryz.ntmps78
  go_wp2_with fail
  have hsz : ((w.alloc (.cells #[.string s, .int .i64 v] 97)).alloc (.cells #[.string ⟨#[]⟩, .int .i64 0] 97)).heap.size = w.heap.size + 2 := by simp
  have c0 : ((w.alloc (.cells #[.string s, .int .i64 v] 97)).alloc (.cells #[.string ⟨#[]⟩, .int .i64 0] 97)).cell? ⟨w.heap.size, 0, none⟩ = some (.string s) := by simp [go_sem]
  have c1 : ((w.alloc (.cells #[.string s, .int .i64 v] 97)).alloc (.cells #[.string ⟨#[]⟩, .int .i64 0] 97)).cell? ⟨w.heap.size, 1, none⟩ = some (.int .i64 v) := by simp [go_sem]
  have d0 : ((w.alloc (.cells #[.string s, .int .i64 v] 97)).alloc (.cells #[.string ⟨#[]⟩, .int .i64 0] 97)).cell? ⟨w.heap.size + 1, 0, none⟩ = some (.string ⟨#[]⟩) := by simp [go_sem]
  have d1 : ((w.alloc (.cells #[.string s, .int .i64 v] 97)).alloc (.cells #[.string ⟨#[]⟩, .int .i64 0] 97)).cell? ⟨w.heap.size + 1, 1, none⟩ = some (.int .i64 0) := by simp [go_sem]
  have f0 : ((w.alloc (.cells #[.string s, .int .i64 v] 97)).alloc (.cells #[.string ⟨#[]⟩, .int .i64 0] 97)).frozen? ⟨w.heap.size + 1, 0, none⟩ = false := by simp [go_sem]
  have f1 : ((w.alloc (.cells #[.string s, .int .i64 v] 97)).alloc (.cells #[.string ⟨#[]⟩, .int .i64 0] 97)).frozen? ⟨w.heap.size + 1, 1, none⟩ = false := by simp [go_sem]
  have hbel : Below w.heap.size w ((w.alloc (.cells #[.string s, .int .i64 v] 97)).alloc (.cells #[.string ⟨#[]⟩, .int .i64 0] 97)) := ((Below.refl _ _).alloc (Nat.le_refl _) _).alloc (by simp) _
  generalize ((w.alloc (.cells #[.string s, .int .i64 v] 97)).alloc (.cells #[.string ⟨#[]⟩, .int .i64 0] 97)) = W at *
  have g0 : w.heap.size < W.heap.size := by omega
  have g1 : w.heap.size + 1 < W.heap.size := by omega
  clear hsz
  go_region_held3 (fun w' => w'.cell? ⟨w.heap.size, 0, none⟩ = some (.string s) ∧ w'.cell? ⟨w.heap.size, 1, none⟩ = some (.int .i64 v)) (first | go_keep | exact ⟨q0, q1⟩)
    (first | (go_at_call 57; refine (strClone_any _ _ hlim).mono ?_; rintro e w1 ⟨rfl, hb1⟩; have q0 := cell_on hb1 g0 c0; have q1 := cell_on hb1 g0 c1; have q2 := cell_on hb1 g1 d0; have q3 := cell_on hb1 g1 d1; have q4 := (hb1.frozen (p := ⟨w.heap.size + 1, 0, none⟩) g1).trans f0; have q5 := (hb1.frozen (p := ⟨w.heap.size + 1, 1, none⟩) g1).trans f1))
  go_wp2_with fail
  have hb2 : Below w.heap.size w w1 := hbel.trans ⟨hb1.os, hb1.tape, hb1.output, hb1.size, fun k hk => hb1.block k (by show k < W.heap.size; omega)⟩
  exact bodyPost_ret (v := .agg #[.string s, .int .i64 v]) (by simp [results, Tryz.results78, go_sem, q2, q3]) rfl ⟨rfl, (hb2.setCell (Nat.le_succ _) _).setCell (Nat.le_succ _) _⟩

end Go.Proofs.YtpfhegengmlkmaaGreatDoor

namespace Go.Proofs.YtpfhegengmlkmaaGreatDoor
open Go.RowKit Go.BigFrame

/-- Is the mark's source among the names? -/
def amongB (names : List ByteArray) (s : ByteArray) : Bool := names.any fun x => decide (x = s)
/-- What is left of marks by names. -/
def onlyM (names : List ByteArray) (l : List (ByteArray × Int)) : List (ByteArray × Int) := l.filter fun m => amongB names m.1

theorem among_iff {names : List ByteArray} {s : ByteArray} : amongB names s = true ↔ ∃ j, ∃ h : j < names.length, names[j] = s := by
  unfold amongB
  simp only [List.any_eq_true, decide_eq_true_eq]
  constructor
  · rintro ⟨x, hx, rfl⟩
    obtain ⟨j, hj, rfl⟩ := List.mem_iff_getElem.1 hx
    exact ⟨j, hj, rfl⟩
  · rintro ⟨j, hj, rfl⟩
    exact ⟨_, List.getElem_mem hj, rfl⟩

theorem only_take {names : List ByteArray} {l : List (ByteArray × Int)} {k : Nat} (hk : k < l.length) :
    onlyM names (l.take (k + 1)) = onlyM names (l.take k) ++ (if amongB names l[k].1 = true then [l[k]] else []) := by
  unfold onlyM
  rw [List.take_succ_eq_append_getElem hk, List.filter_append]
  by_cases h : amongB names l[k].1 = true <;> simp [h]
theorem only_len {names : List ByteArray} {l : List (ByteArray × Int)} (k : Nat) : (onlyM names (l.take k)).length ≤ l.length := by
  unfold onlyM
  exact Nat.le_trans (List.length_filter_le _ _) (by rw [List.length_take]; omega)

/-- 'b' says whether 'x' is among the first 'j' names. -/
def HasB (names : List ByteArray) (j : Nat) (x : ByteArray) (b : Bool) : Prop := b = true ↔ ∃ q, ∃ hq : q < names.length, q < j ∧ names[q] = x
theorem hasB_start (names : List ByteArray) (x : ByteArray) : HasB names 0 x false := ⟨fun h => (by cases h), fun ⟨q, _, h, _⟩ => by omega⟩
theorem hasB_no {names : List ByteArray} {j : Nat} {x : ByteArray} (h : HasB names j x false) {hj : j < names.length} (he : ¬ names[j] = x) : HasB names (j + 1) x false := by
  refine ⟨fun h => (by cases h), ?_⟩
  rintro ⟨q, hq, hlt, e⟩
  by_cases hqj : q = j
  · subst hqj; exact absurd e he
  · exact h.2 ⟨q, hq, by omega, e⟩
theorem hasB_all {names : List ByteArray} {j : Nat} {x : ByteArray} {b : Bool} (h : HasB names j x b) (hj : names.length ≤ j) : amongB names x = b := by
  have h' : b = true ↔ amongB names x = true := by
    unfold HasB at h
    rw [h, among_iff]
    exact ⟨fun ⟨q, hq, _, e⟩ => ⟨q, hq, e⟩, fun ⟨q, hq, e⟩ => ⟨q, hq, by omega, e⟩⟩
  cases b <;> cases hA : amongB names x <;> simp_all

/-- What StampOnly answers. -/
def IsO (l : List (ByteArray × Int)) (names : List ByteArray) (m : List (ByteArray × Int)) : Prop := (StampP l → m = onlyM names l) ∧ (¬ StampP l → m = [])
theorem IsO.one {l : List (ByteArray × Int)} {names : List ByteArray} {u v : List (ByteArray × Int)} (h : IsO l names u) (h' : IsO l names v) : u = v := by
  by_cases hp : StampP l
  · rw [h.1 hp, h'.1 hp]
  · rw [h.2 hp, h'.2 hp]

set_option maxHeartbeats 400000 in
theorem index_any (a : Option Addr) (cap : Nat) (names : List ByteArray) (x : ByteArray) (w : World) (hl : names.length ≤ 1048576) (hr : RowS w a names) :
    Calls Tryz.prog 94 #[.slice a names.length cap, .string x] w fun e w' => (∃ r : Int, e = .returned (.int .i64 r) ∧ decide (0 ≤ r) = amongB names x) ∧ w' = w := by
  go_enter Tryz.func94, Tryz.ntmps94
  go_wp2_with fail
  go_loop [8] (fun i => ∃ j : Nat, j ≤ names.length ∧ i = .int .i64 j ∧ HasB names j x false) (fun i => names.length - (intOf i).toNat)
  case atStart => exact ⟨0, Nat.zero_le _, rfl, hasB_start _ _⟩
  case round =>
    obtain ⟨j, hj, rfl, HH⟩ := hrel
    by_cases hjlt : j < names.length
    · obtain ⟨b, o, rfl, hblt, d0⟩ := hr j hjlt
      by_cases he : names[j] = x
      · have hb' : (x.toList == names[j].toList) = true := toList_beq.2 he.symm
        have HA : Hid (amongB names x = true) := among_iff.2 ⟨j, hjlt, he⟩
        go_wp2_with fail
        go_ret
        exact ⟨⟨_, rfl, by rw [HA.out]; simp⟩, rfl⟩
      · have hb' : (x.toList == names[j].toList) = false := toList_bne.2 (fun h => he h.symm)
        go_wp2_with fail
        exact ⟨⟨j + 1, by omega, by go_num, hasB_no HH he⟩, by simp [intOf]; omega⟩
    · have HA : Hid (amongB names x = false) := hasB_all HH (by omega)
      go_wp2_with fail
      go_ret
      exact ⟨⟨_, rfl, by rw [HA.out]; simp⟩, rfl⟩

set_option maxHeartbeats 400000 in
theorem contains_any (a : Option Addr) (cap : Nat) (names : List ByteArray) (x : ByteArray) (w : World) (hl : names.length ≤ 1048576) (hr : RowS w a names) :
    Calls Tryz.prog 55 #[.slice a names.length cap, .string x] w fun e w' => e = .returned (.bool (amongB names x)) ∧ w' = w := by
  go_enter Tryz.func55, Tryz.ntmps55
  go_wp2_with fail
  refine (index_any a cap names x _ hl hr).mono ?_
  rintro e w1 ⟨⟨r, rfl, hr1⟩, rfl⟩
  have HR : Hid (decide (0 ≤ r) = amongB names x) := hr1
  clear hr1
  go_wp2_with fail
  go_ret
  exact ⟨by rw [← HR.out]; rfl, rfl⟩

set_option maxHeartbeats 800000 in
theorem implOnly_any (a : Option Addr) (cap : Nat) (l : List (ByteArray × Int)) (a' : Option Addr) (cap' : Nat) (names : List ByteArray) (w : World) (hl : l.length ≤ 1048576) (hr : Row w a l) (hs : ∀ j, (h : j < l.length) → (l[j].1.size : Int) ≤ 1048576)
    (hl' : names.length ≤ 1048576) (hr' : RowS w a' names) :
    Calls Tryz.prog 42 #[.slice a l.length cap, .slice a' names.length cap'] w fun e w' => (∃ v m, e = .returned v ∧ Gath w' w.heap.size v m ∧ IsO l names m) ∧ Below w.heap.size w w' := by
  obtain ⟨i0, hi, hz0, hz1, hz2⟩ := info_parts Tryz.infoM
  go_enter Tryz.func42, Tryz.ntmps42
  go_wp2_with fail
  refine (implStampOk_any a cap l _ (by unfold maxLen; omega) hr (fun j h => by have := hs j h; unfold maxLen; omega)).mono ?_
  rintro e w1 ⟨⟨r, rfl, hr1⟩, hb1⟩
  cases r
  · have hn : ¬ StampP l := fun h => by simpa using hr1.2 h
    clear hr1
    go_wp2_with fail
    go_ret
    exact ⟨⟨_, [], rfl, Gath.none _ _, fun h => absurd h hn, fun _ => rfl⟩, hb1⟩
  have hy : StampP l := hr1.1 rfl
  clear hr1
  go_wp2_with fail
  go_loopw [5, 13] (fun out i wr => ∃ k : Nat, k ≤ l.length ∧ i = .int .i64 k ∧ Gath wr w.heap.size out (onlyM names (l.take k)) ∧ Below w.heap.size w wr) (fun _ i _ => l.length - (intOf i).toNat)
  case atStart => exact ⟨0, Nat.zero_le _, rfl, Gath.none _ _, hb1⟩
  case round =>
    obtain ⟨k, hk, rfl, hg, hb⟩ := hrel
    by_cases hlt : k < l.length
    · obtain ⟨b, o, rfl, hblt, c0, c1⟩ := hr k hlt
      have e0 := cell_on hb hblt c0
      have e1 := cell_on hb hblt c1
      have hle := only_len (names := names) (l := l) k
      have HT := only_take (names := names) hlt
      have hss := hs k hlt
      cases hA : amongB names l[k].1
      · have HT' : Hid (onlyM names (l.take (k + 1)) = onlyM names (l.take k)) := by rw [HT, hA]; simp [Hid]
        clear HT
        go_wp2_with (go_at_call 55; refine (contains_any a' cap' names _ _ hl' (hr'.below (hb.alloc hb.size _))).mono ?_; rintro e w2 ⟨rfl, rfl⟩)
        exact ⟨⟨k + 1, by omega, by go_num, by rw [HT'.out]; exact hg.keep ((Below.refl _ _).alloc (Nat.le_refl _) _), hb.alloc hb.size _⟩, by simp [intOf]; omega⟩
      · have HT' : Hid (onlyM names (l.take (k + 1)) = onlyM names (l.take k) ++ [(l[k].1, l[k].2)]) := by rw [HT, if_pos hA]; rfl
        clear HT
        go_wp2_with (go_at_call 55; refine (contains_any a' cap' names _ _ hl' (hr'.below (hb.alloc hb.size _))).mono ?_; rintro e w2 ⟨rfl, rfl⟩)
        refine (fresh_any _ _ _ (by omega)).mono ?_
        rintro e w3 ⟨rfl, hb3⟩
        have hba : Below w.heap.size w (wr.alloc (.cells #[.string l[k].1, .int .i64 l[k].2] 97)) := hb.alloc hb.size _
        have hb3' : Below w.heap.size w w3 := hba.trans (hb3.mono hba.size)
        have hsz3 := hb3'.size
        have hgd : w3.ownsRow w.heap.size 97 2 u5 (onlyM names (l.take k)).length (mcells (onlyM names (l.take k))) := (hg.keep ((Below.refl _ _).alloc (Nat.le_refl _) _)).keep hb3
        go_wp2_with (at_builtin; refine wpList_append_lies _ rfl _ _ 28 rfl w.heap.size 97 i0 (.agg #[.string .empty, .int .i64 0]) 2 24 Tryz.underlying28 hi hz0 hz1 hz2 rfl (by decide) _ _ _ rfl (hgd.alloc _) ⟨w3.heap.size, 0, none⟩ 1 1 [.string l[k].1, .int .i64 l[k].2] rfl rfl (two_new w3 _ _ _) (by simp [Value.oneCell']) (by decide) (by unfold maxLen; omega) (by omega) (by simp; omega) _ rfl ?_; intro g' cap' w4 hown' hgrow _ _)
        have hg2 := Gath.grown (W := w) (B := w.heap.size) (w := w3.alloc (.cells #[.string l[k].1, .int .i64 l[k].2] 97)) (hgd.alloc _) (hb3'.alloc hsz3 _) (by simp; omega) hgrow
        exact ⟨⟨k + 1, by omega, by go_num, by rw [HT'.out]; exact Gath.snoc hown', hg2⟩, by simp [intOf]; omega⟩
    · go_wp2_with fail
      go_ret
      exact ⟨⟨_, _, rfl, hg, fun _ => by rw [List.take_of_length_le (by omega)], fun h => absurd hy h⟩, hb⟩

end Go.Proofs.YtpfhegengmlkmaaGreatDoor

namespace Go.Proofs.YtpfhegengmlkmaaGreatDoor

theorem stampP_of_sorted {l : List (ByteArray × Int)} (h12 : l.length ≤ 12) (hm : ∀ m ∈ l, MarkP m) (hp : l.Pairwise (fun x y => Asc x.1 y.1)) : StampP l :=
  ⟨h12, fun _ hj => hm _ (List.getElem_mem hj), fun j hj => List.pairwise_iff_getElem.1 hp j (j + 1) (by omega) hj (by omega)⟩
theorem stampP_mark {l : List (ByteArray × Int)} (h : StampP l) {m : ByteArray × Int} (hm : m ∈ l) : MarkP m := by
  obtain ⟨j, hj, rfl⟩ := List.mem_iff_getElem.1 hm
  exact h.2.1 j hj
theorem stampP_nil : StampP [] := ⟨by simp, fun j h => absurd h (Nat.not_lt_zero j), fun j h => absurd h (Nat.not_lt_zero (j + 1))⟩
theorem only_stamp {l : List (ByteArray × Int)} (h : StampP l) (names : List ByteArray) : StampP (onlyM names l) :=
  stampP_of_sorted (Nat.le_trans (List.length_filter_le _ _) h.1) (fun _ hm => stampP_mark h (List.mem_filter.1 hm).1) (List.Pairwise.filter _ (stamp_sorted h).1)
theorem getM_only {names : List ByteArray} {s : ByteArray} : ∀ {l : List (ByteArray × Int)}, getM (onlyM names l) s = if amongB names s = true then getM l s else 0
  | [] => by simp [onlyM, getM]
  | x :: r => by
    have ih := getM_only (names := names) (s := s) (l := r)
    unfold onlyM at ih ⊢
    by_cases hx : amongB names x.1 = true
    · rw [List.filter_cons_of_pos (p := fun m : ByteArray × Int => amongB names m.1) hx]
      simp only [getM, ih]
      by_cases e : x.1 = s
      · subst e; simp [hx]
      · simp [e]
    · rw [List.filter_cons_of_neg (p := fun m : ByteArray × Int => amongB names m.1) hx, ih]
      simp only [getM]
      by_cases e : x.1 = s
      · subst e; simp [hx]
      · simp [e]
/-- What StampOnly answers is a stamp, whatever it was asked. -/
theorem IsO.stamp {l m : List (ByteArray × Int)} {names : List ByteArray} (h : IsO l names m) : StampP m := by
  by_cases hp : StampP l
  · rw [h.1 hp]; exact only_stamp hp names
  · rw [h.2 hp]; exact stampP_nil
/-- The join of two stamps that fits is a stamp. -/
theorem join_stamp {a b o : List (ByteArray × Int)} (ha : StampP a) (hb : StampP b) (h : JoinOf a b o) (h12 : o.length ≤ 12) : StampP o := by
  refine stampP_of_sorted h12 (fun m hm => ?_) h.1.1
  have e := getM_mem h.1 hm
  have e1 := h.1.2 m hm
  have e2 := h.2 m.1
  rw [e] at e2
  rcases Int.le_total (getM a m.1) (getM b m.1) with hle | hle
  · have e3 : m.2 = getM b m.1 := by omega
    have hmem := getM_pos (l := b) (s := m.1) (by omega)
    rw [← e3] at hmem
    exact stampP_mark hb hmem
  · have e3 : m.2 = getM a m.1 := by omega
    have hmem := getM_pos (l := a) (s := m.1) (by omega)
    rw [← e3] at hmem
    exact stampP_mark ha hmem
theorem IsJ.fits {a b m : List (ByteArray × Int)} (h : IsJ a b m true) : StampP a ∧ StampP b ∧ JoinOf a b m ∧ StampP m := by
  rcases h with ⟨_, _, h⟩ | ⟨ha, hb, o, ho, ⟨h12, rfl, _⟩ | ⟨_, _, h⟩⟩
  · cases h
  · exact ⟨ha, hb, ho, join_stamp ha hb ho h12⟩
  · cases h
theorem IsJ.none {a b m : List (ByteArray × Int)} (h : IsJ a b m false) : m = [] := by
  rcases h with ⟨_, h, _⟩ | ⟨_, _, o, _, ⟨_, _, h⟩ | ⟨_, h, _⟩⟩
  · exact h
  · cases h
  · exact h
theorem sorted_len : ∀ {k l : List (ByteArray × Int)}, Sorted k → Sorted l → (∀ s, 0 < getM k s → 0 < getM l s) → k.length ≤ l.length
  | [], _, _, _, _ => by simp
  | x :: k, [], hk, _, h => by
    have := h x.1 (by rw [getM_mem hk (by simp : x ∈ x :: k)]; exact hk.2 x (by simp))
    simp [getM] at this
  | x :: k, y :: l, hk, hl, h => by
    have hx1 := sorted_head hk
    have hy1 := sorted_head hl
    have hx := h x.1 (by simp only [getM, if_true]; omega)
    by_cases e : x.1 = y.1
    · have := sorted_len (sorted_tail hk) (sorted_tail hl) (fun s hs => by
        have hmem := getM_pos hs
        have hasc : Asc x.1 s := sorted_above hk hmem
        have hs2 := h s (by simp only [getM]; rw [if_neg (asc_ne hasc)]; exact hs)
        simp only [getM] at hs2
        rw [if_neg (fun q => asc_ne hasc (e.trans q))] at hs2
        exact hs2)
      simp only [List.length_cons]; omega
    · have hasc : Asc y.1 x.1 := by
        simp only [getM] at hx
        rw [if_neg (fun q => e q.symm)] at hx
        exact sorted_above (x := (x.1, getM l x.1)) hl (getM_pos hx)
      have := sorted_len hk (sorted_tail hl) (fun s hs => by
        have hs2 := h s hs
        have hmem := getM_pos hs
        have hys : Asc y.1 s := by
          rcases List.mem_cons.1 hmem with q | q
          · have q1 : s = x.1 := by rw [← q]
            rw [q1]; exact hasc
          · exact asc_trans hasc (sorted_above hk q)
        simp only [getM] at hs2
        rw [if_neg (asc_ne hys)] at hs2
        exact hs2)
      simp only [List.length_cons] at this ⊢; omega
theorem JoinOf.mono {a b c o o2 o3 : List (ByteArray × Int)} (ha : Sorted a) (h1 : JoinOf a b o) (h2 : JoinOf b c o2) (h3 : JoinOf o c o3) : o2.length ≤ o3.length :=
  sorted_len h2.1 h3.1 fun s hs => by
    have := h1.2 s; have := h2.2 s; have := h3.2 s; have := getM_nonneg (s := s) ha
    omega
theorem AgreeP.symm {a b : List (ByteArray × Int)} (h : AgreeP a b) : AgreeP b a := by
  obtain ⟨ha, hb, h⟩ := h
  refine ⟨hb, ha, fun i hi => ?_⟩
  have sb := stamp_sorted hb
  have sa := stamp_sorted ha
  have e := getM_mem sb (List.getElem_mem hi)
  have e1 := sb.2 _ (List.getElem_mem hi)
  have e2 := getM_nonneg (s := b[i].1) sa
  by_cases h0 : getM a b[i].1 = 0
  · exact .inl h0
  · right
    have hmem := getM_pos (l := a) (s := b[i].1) (by omega)
    obtain ⟨k, hk, ek⟩ := List.mem_iff_getElem.1 hmem
    have := h k hk
    rw [ek] at this
    simp only at this
    omega
/-- The names of marks. -/
def namesM (a : List (ByteArray × Int)) : List ByteArray := a.map (·.1)
theorem among_names {a : List (ByteArray × Int)} (ha : Sorted a) (s : ByteArray) : amongB (namesM a) s = true ↔ 0 < getM a s := by
  unfold amongB namesM
  simp only [List.any_eq_true, decide_eq_true_eq, List.mem_map]
  constructor
  · rintro ⟨_, ⟨m, hm, rfl⟩, rfl⟩
    rw [getM_mem ha hm]; exact ha.2 m hm
  · intro h
    exact ⟨s, ⟨_, getM_pos h, rfl⟩, rfl⟩
theorem belowP_iff {a b : List (ByteArray × Int)} (ha : Sorted a) (hb : Sorted b) : BelowP a b ↔ ∀ s, getM a s ≤ getM b s := by
  constructor
  · intro h s
    have hn := getM_nonneg (s := s) hb
    by_cases h0 : 0 < getM a s
    · obtain ⟨i, hi, e⟩ := List.mem_iff_getElem.1 (getM_pos h0)
      have := h i hi
      rw [e] at this
      exact this
    · omega
  · intro h i hi
    have e := getM_mem ha (List.getElem_mem hi)
    have := h a[i].1
    omega
theorem ord_le {a b : List (ByteArray × Int)} {o : Int} (h : IsOrd a b o) : (o = 0 ∨ o = 1) ↔ (StampP a ∧ StampP b ∧ BelowP a b) := by
  constructor
  · rintro ho
    rcases h with ⟨_, h2⟩ | ⟨h1, h2, ⟨p, _, _⟩ | ⟨p, _, _⟩ | ⟨_, _, e⟩ | ⟨_, _, e⟩⟩
    · omega
    · exact ⟨h1, h2, p⟩
    · exact ⟨h1, h2, p⟩
    · omega
    · omega
  · rintro ⟨ha, hb, hab⟩
    rcases h with ⟨h1, _⟩ | ⟨_, _, ⟨_, _, e⟩ | ⟨_, _, e⟩ | ⟨q, _, _⟩ | ⟨q, _, _⟩⟩
    · exact absurd ⟨ha, hb⟩ h1
    · exact .inl e
    · exact .inr e
    · exact absurd hab q
    · exact absurd hab q
theorem ord_less {a b : List (ByteArray × Int)} {o : Int} (h : IsOrd a b o) : o = 1 ↔ (StampP a ∧ StampP b ∧ BelowP a b ∧ ¬ BelowP b a) := by
  constructor
  · rintro rfl
    rcases h with ⟨_, h2⟩ | ⟨h1, h2, ⟨p, q, e⟩ | ⟨p, q, _⟩ | ⟨_, _, e⟩ | ⟨_, _, e⟩⟩
    · omega
    · omega
    · exact ⟨h1, h2, p, q⟩
    · omega
    · omega
  · rintro ⟨ha, hb, hab, hba⟩
    rcases h with ⟨h1, _⟩ | ⟨_, _, ⟨_, q, e⟩ | ⟨_, _, e⟩ | ⟨q, _, _⟩ | ⟨q, _, _⟩⟩
    · exact absurd ⟨ha, hb⟩ h1
    · exact absurd q hba
    · exact e
    · exact absurd hab q
    · exact absurd hab q
end Go.Proofs.YtpfhegengmlkmaaGreatDoor

namespace Go.Proofs.YtpfhegengmlkmaaGreatDoor

theorem agree_get {a b : List (ByteArray × Int)} (ha : StampP a) (hb : StampP b) : AgreeP a b ↔ ∀ s, 0 < getM a s → 0 < getM b s → getM a s = getM b s := by
  have sa := stamp_sorted ha
  have sb := stamp_sorted hb
  constructor
  · rintro ⟨_, _, h⟩ s h1 h2
    obtain ⟨k, hk, ek⟩ := List.mem_iff_getElem.1 (getM_pos h1)
    have := h k hk
    rw [ek] at this
    simp only at this
    omega
  · intro h
    refine ⟨ha, hb, fun i hi => ?_⟩
    have e := getM_mem sa (List.getElem_mem hi)
    have e1 := sa.2 _ (List.getElem_mem hi)
    have e2 := getM_nonneg (s := a[i].1) sb
    by_cases h0 : getM b a[i].1 = 0
    · exact .inl h0
    · right
      rw [← h a[i].1 (by omega) (by omega), e]

/-- An item: its value and its stamp. -/
abbrev ItemM := Int × List (ByteArray × Int)
/-- The same sources, and below. -/
def AboveP (a b : List (ByteArray × Int)) : Prop := namesM a = namesM b ∧ StampP a ∧ StampP b ∧ BelowP a b ∧ ¬ BelowP b a
/-- A window. -/
def WinP (l : List ItemM) : Prop := l.length ≤ 4 ∧ (∀ j, (h : j < l.length) → StampP l[j].2 ∧ l[j].2 ≠ []) ∧ ∀ j, (h : j + 1 < l.length) → AboveP l[j].2 l[j + 1].2
theorem names_get {a b : List (ByteArray × Int)} (ha : StampP a) (hb : StampP b) (h : namesM a = namesM b) (s : ByteArray) : 0 < getM a s ↔ 0 < getM b s := by
  rw [← among_names (stamp_sorted ha), ← among_names (stamp_sorted hb), h]
theorem WinP.names {l : List ItemM} (h : WinP l) : ∀ (d i : Nat) (hj : i + d < l.length), namesM l[i].2 = namesM l[i + d].2
  | 0, _, _ => rfl
  | d + 1, i, hj => (h.names d i (by omega)).trans (h.2.2 (i + d) (by omega)).1
theorem WinP.rise {l : List ItemM} (h : WinP l) : ∀ (d i : Nat) (hj : i + d < l.length) (s : ByteArray), getM l[i].2 s ≤ getM l[i + d].2 s
  | 0, _, _, _ => Int.le_refl _
  | d + 1, i, hj, s => by
    have h1 := h.rise d i (by omega) s
    have ha := h.2.2 (i + d) (by omega)
    have h2 := (belowP_iff (stamp_sorted ha.2.1) (stamp_sorted ha.2.2.1)).1 ha.2.2.2.1 s
    exact Int.le_trans h1 h2
theorem WinP.le {l : List ItemM} (h : WinP l) {i j : Nat} (hij : i ≤ j) (hj : j < l.length) (s : ByteArray) : getM (l[i]'(by omega)).2 s ≤ getM l[j].2 s := by
  obtain ⟨d, rfl⟩ : ∃ d, j = i + d := ⟨j - i, by omega⟩
  exact h.rise d i hj s
theorem WinP.same {l : List ItemM} (h : WinP l) {i j : Nat} (hi : i < l.length) (hj : j < l.length) (s : ByteArray) : 0 < getM l[i].2 s ↔ 0 < getM l[j].2 s := by
  have hn : namesM l[i].2 = namesM l[j].2 := by
    rcases Nat.le_total i j with hij | hij
    · obtain ⟨d, rfl⟩ : ∃ d, j = i + d := ⟨j - i, by omega⟩
      exact h.names d i hj
    · obtain ⟨d, rfl⟩ : ∃ d, i = j + d := ⟨i - j, by omega⟩
      exact (h.names d j hi).symm
  exact names_get (h.2.1 i hi).1 (h.2.1 j hj).1 hn s
/-- Of two windows: where (i, k) and (i', k') agree, the later of both agree. -/
theorem later_agrees {u v : List ItemM} (hu : WinP u) (hv : WinP v) {i i' k k' : Nat} (hi : i < u.length) (hi' : i' < u.length) (hk : k < v.length) (hk' : k' < v.length)
    (h : AgreeP u[i].2 v[k].2) (h' : AgreeP u[i'].2 v[k'].2) : AgreeP (u[max i i']'(by omega)).2 (v[max k k']'(by omega)).2 := by
  have key : ∀ {u v : List ItemM} (_ : WinP u) (_ : WinP v) {i i' k k' : Nat} (hi : i < u.length) (hi' : i' < u.length) (hk : k < v.length) (hk' : k' < v.length), AgreeP u[i].2 v[k].2 → AgreeP u[i'].2 v[k'].2 → i' ≤ i → k ≤ k' → AgreeP u[i].2 v[k'].2 := by
    intro u v hu hv i i' k k' hi hi' hk hk' h h' h1 h2
    rw [agree_get (hu.2.1 i hi).1 (hv.2.1 k' hk').1]
    rw [agree_get (hu.2.1 i hi).1 (hv.2.1 k hk).1] at h
    rw [agree_get (hu.2.1 i' hi').1 (hv.2.1 k' hk').1] at h'
    intro s p1 p2
    have e1 := h s p1 ((hv.same hk hk' s).2 p2)
    have e2 := h' s ((hu.same hi' hi s).2 p1) p2
    have l1 := hu.le h1 hi s
    have l2 := hv.le h2 hk' s
    omega
  rcases Nat.le_total i i' with h1 | h1 <;> rcases Nat.le_total k k' with h2 | h2
  · simp only [Nat.max_eq_right h1, Nat.max_eq_right h2]; exact h'
  · simp only [Nat.max_eq_right h1, Nat.max_eq_left h2]
    exact key hu hv hi' hi hk' hk h' h h1 h2
  · simp only [Nat.max_eq_left h1, Nat.max_eq_right h2]
    exact key hu hv hi hi' hk hk' h h' h1 h2
  · simp only [Nat.max_eq_left h1, Nat.max_eq_left h2]; exact h

end Go.Proofs.YtpfhegengmlkmaaGreatDoor
