/- Walks: spec.StampOnly, impl.StampOnly and what they call. -/
import Derived.Test.YtpfhegengmlkmabWf
import Derived.Test.YtpfhegengmlkmabStrsM
import Derived.Test.YtpfhegengmlkmabGath
import Derived.Test.YtpfhegengmlkmabClone
namespace Go.Proofs.Ytpfhegengmlkmab
open Go.RowKit Go.BigFrame

/-- Is the mark's source among the names? -/
def amongB (names : List ByteArray) (s : ByteArray) : Bool := names.any fun x => decide (x = s)
/-- What is left of marks by names. -/
def onlyM (names : List ByteArray) (l : List (ByteArray × Int)) : List (ByteArray × Int) := l.filter fun m => amongB names m.1

theorem among_iff {names : List ByteArray} {s : ByteArray} : amongB names s = true ↔ ∃ j, ∃ h : j < names.length, names[j] = s := by
  unfold amongB
  simp only [List.any_eq_true, decide_eq_true_eq]
  constructor
  · rintro ⟨x, hx, rfl⟩
    obtain ⟨j, hj, rfl⟩ := List.mem_iff_getElem.1 hx
    exact ⟨j, hj, rfl⟩
  · rintro ⟨j, hj, rfl⟩
    exact ⟨_, List.getElem_mem hj, rfl⟩

theorem only_take {names : List ByteArray} {l : List (ByteArray × Int)} {k : Nat} (hk : k < l.length) :
    onlyM names (l.take (k + 1)) = onlyM names (l.take k) ++ (if amongB names l[k].1 = true then [l[k]] else []) := by
  unfold onlyM
  rw [List.take_succ_eq_append_getElem hk, List.filter_append]
  by_cases h : amongB names l[k].1 = true <;> simp [h]
theorem only_len {names : List ByteArray} {l : List (ByteArray × Int)} (k : Nat) : (onlyM names (l.take k)).length ≤ l.length := by
  unfold onlyM
  exact Nat.le_trans (List.length_filter_le _ _) (by rw [List.length_take]; omega)

/-- 'b' says whether 'x' is among the first 'j' names. -/
def HasB (names : List ByteArray) (j : Nat) (x : ByteArray) (b : Bool) : Prop := b = true ↔ ∃ q, ∃ hq : q < names.length, q < j ∧ names[q] = x
theorem hasB_start (names : List ByteArray) (x : ByteArray) : HasB names 0 x false := ⟨fun h => (by cases h), fun ⟨q, _, h, _⟩ => by omega⟩
theorem hasB_hit {names : List ByteArray} {j : Nat} {x : ByteArray} (hj : j < names.length) (he : names[j] = x) : HasB names (j + 1) x true := ⟨fun _ => ⟨j, hj, by omega, he⟩, fun _ => rfl⟩
theorem hasB_no {names : List ByteArray} {j : Nat} {x : ByteArray} (h : HasB names j x false) {hj : j < names.length} (he : ¬ names[j] = x) : HasB names (j + 1) x false := by
  refine ⟨fun h => (by cases h), ?_⟩
  rintro ⟨q, hq, hlt, e⟩
  by_cases hqj : q = j
  · subst hqj; exact absurd e he
  · exact h.2 ⟨q, hq, by omega, e⟩
theorem hasB_yes {names : List ByteArray} {j : Nat} {x : ByteArray} (h : HasB names j x true) : HasB names (j + 1) x true := by
  refine ⟨fun _ => ?_, fun _ => rfl⟩
  obtain ⟨q, hq, hlt, e⟩ := h.1 rfl
  exact ⟨q, hq, by omega, e⟩
theorem hasB_all {names : List ByteArray} {j : Nat} {x : ByteArray} {b : Bool} (h : HasB names j x b) (hj : names.length ≤ j) : amongB names x = b := by
  have h' : b = true ↔ amongB names x = true := by
    unfold HasB at h
    rw [h, among_iff]
    exact ⟨fun ⟨q, hq, _, e⟩ => ⟨q, hq, e⟩, fun ⟨q, hq, e⟩ => ⟨q, hq, by omega, e⟩⟩
  cases b <;> cases hA : amongB names x <;> simp_all

/-- What StampOnly answers. -/
def IsO (l : List (ByteArray × Int)) (names : List ByteArray) (m : List (ByteArray × Int)) : Prop := (StampP l → m = onlyM names l) ∧ (¬ StampP l → m = [])
theorem IsO.one {l : List (ByteArray × Int)} {names : List ByteArray} {u v : List (ByteArray × Int)} (h : IsO l names u) (h' : IsO l names v) : u = v := by
  by_cases hp : StampP l
  · rw [h.1 hp, h'.1 hp]
  · rw [h.2 hp, h'.2 hp]

set_option maxHeartbeats 800000 in
theorem specOnly_any (a : Option Addr) (cap : Nat) (l : List (ByteArray × Int)) (a' : Option Addr) (cap' : Nat) (names : List ByteArray) (w : World) (hl : l.length ≤ 1048576) (hr : Row w a l) (hs : ∀ j, (h : j < l.length) → l[j].1.size ≤ maxLen)
    (hl' : names.length ≤ 1048576) (hr' : RowS w a' names) :
    Calls Try.prog 29 #[.slice a l.length cap, .slice a' names.length cap'] w fun e w' => (∃ v m, e = .returned v ∧ Gath w' w.heap.size v m ∧ IsO l names m) ∧ Below w.heap.size w w' := by
  obtain ⟨i0, hi, hz0, hz1, hz2⟩ := info_parts Try.infoM
  go_enter Try.func29, Try.ntmps29
  go_wp2_with fail
  refine (specOk_b a cap l _ (by unfold maxLen; omega) hr hs).mono ?_
  rintro e w1 ⟨⟨r, rfl, hr1⟩, hb1⟩
  cases r
  · have hn : ¬ StampP l := fun h => by simpa using hr1.2 h
    clear hr1
    go_wp2_with fail
    go_ret
    exact ⟨⟨_, [], rfl, Gath.none _ _, fun h => absurd h hn, fun _ => rfl⟩, hb1⟩
  have hy : StampP l := hr1.1 rfl
  clear hr1
  go_wp2_with fail
  go_loopw [5, 6] (fun out i wr => ∃ k : Nat, k ≤ l.length ∧ i = .int .i64 k ∧ Gath wr w.heap.size out (onlyM names (l.take k)) ∧ Below w.heap.size w wr) (fun _ i _ => l.length - (intOf i).toNat)
  case atStart => exact ⟨0, Nat.zero_le _, rfl, Gath.none _ _, hb1⟩
  case round =>
    obtain ⟨k, hk, rfl, hg, hb⟩ := hrel
    by_cases hlt : k < l.length
    · obtain ⟨b, o, rfl, hblt, c0, c1⟩ := hr k hlt
      have e0 := cell_on hb hblt c0
      have e1 := cell_on hb hblt c1
      go_wp2_with fail
      go_loopw [7, 8] (fun hv i wr' => ∃ (h : Bool) (j n : Nat), j ≤ names.length ∧ i = .int .i64 j ∧ hv = .bool h ∧ HasB names j l[k].1 h ∧ wr' = wr.drewN n) (fun _ i _ => names.length - (intOf i).toNat)
      case atStart => exact ⟨false, 0, 0, Nat.zero_le _, rfl, rfl, hasB_start _ _, rfl⟩
      case round =>
        obtain ⟨h, j, n, hj, rfl, rfl, HH, rfl⟩ := hrel
        by_cases hjlt : j < names.length
        · obtain ⟨b', o', rfl, hblt', d0⟩ := hr' j hjlt
          have f0 := cell_on hb hblt' d0
          cases h
          · by_cases he : names[j] = l[k].1
            · have hb' : (names[j].toList == l[k].1.toList) = true := toList_beq.2 he
              go_wp2_with fail
              go_quiet (fail)
              go_wp2_with fail
              exact ⟨⟨true, j + 1, _, by omega, by go_num, rfl, hasB_hit hjlt he, rfl⟩, by simp [intOf]; omega⟩
            · have hb' : (names[j].toList == l[k].1.toList) = false := toList_bne.2 he
              go_wp2_with fail
              go_quiet (fail)
              go_wp2_with fail
              exact ⟨⟨false, j + 1, _, by omega, by go_num, rfl, hasB_no HH he, rfl⟩, by simp [intOf]; omega⟩
          · go_wp2_with fail
            go_quiet (fail)
            go_wp2_with fail
            exact ⟨⟨true, j + 1, _, by omega, by go_num, rfl, hasB_yes HH, rfl⟩, by simp [intOf]; omega⟩
        · have hgd : (wr.drewN n).ownsRow w.heap.size 68 2 u5 (onlyM names (l.take k)).length (mcells (onlyM names (l.take k))) := hg
          have hle := only_len (names := names) (l := l) k
          have hbn : Below w.heap.size w (wr.drewN n) := below_drewN hb n
          have HA := hasB_all HH (by omega)
          have HT := only_take (names := names) hlt
          cases h
          · have hno : amongB names l[k].1 = false := HA
            have HT' : Hid (onlyM names (l.take (k + 1)) = onlyM names (l.take k)) := by rw [HT, hno]; simp [Hid]
            clear HA HT hno
            go_wp2_with fail
            exact ⟨⟨k + 1, by omega, by go_num, by rw [HT'.out]; exact hg, hbn⟩, by simp [intOf]; omega⟩
          · have hyes : amongB names l[k].1 = true := HA
            have HT' : Hid (onlyM names (l.take (k + 1)) = onlyM names (l.take k) ++ [(l[k].1, l[k].2)]) := by rw [HT, if_pos hyes]; rfl
            clear HA HT hyes
            go_wp2_with (at_builtin; refine wpList_append_lies _ rfl _ _ 25 rfl w.heap.size 68 i0 (.agg #[.string .empty, .int .i64 0]) 2 24 Try.underlying25 hi hz0 hz1 hz2 rfl (by decide) _ _ _ rfl (hgd.alloc _) ⟨wr.heap.size, 0, none⟩ 1 1 [.string l[k].1, .int .i64 l[k].2] rfl rfl (two_new (wr.drewN n) _ _ _) (by simp [Value.oneCell']) (by decide) (by unfold maxLen; omega) (by omega) (by have := hb.size; simp; omega) _ rfl ?_; intro g' cap' w2 hown' hgrow _ _)
            have hg2 := Gath.grown (W := w) (B := w.heap.size) (w := (wr.drewN n).alloc (.cells #[.string l[k].1, .int .i64 l[k].2] 68)) (hgd.alloc _) (hbn.alloc hb.size _) (by have := hb.size; simp; omega) hgrow
            exact ⟨⟨k + 1, by omega, by go_num, by rw [HT'.out]; exact Gath.snoc hown', hg2⟩, by simp [intOf]; omega⟩
    · go_wp2_with fail
      go_ret
      exact ⟨⟨_, _, rfl, hg, fun _ => by rw [List.take_of_length_le (by omega)], fun h => absurd hy h⟩, hb⟩

set_option maxHeartbeats 400000 in
theorem index_any (a : Option Addr) (cap : Nat) (names : List ByteArray) (x : ByteArray) (w : World) (hl : names.length ≤ 1048576) (hr : RowS w a names) :
    Calls Try.prog 84 #[.slice a names.length cap, .string x] w fun e w' => (∃ r : Int, e = .returned (.int .i64 r) ∧ decide (0 ≤ r) = amongB names x) ∧ w' = w := by
  go_enter Try.func84, Try.ntmps84
  go_wp2_with fail
  go_loop [8] (fun i => ∃ j : Nat, j ≤ names.length ∧ i = .int .i64 j ∧ HasB names j x false) (fun i => names.length - (intOf i).toNat)
  case atStart => exact ⟨0, Nat.zero_le _, rfl, hasB_start _ _⟩
  case round =>
    obtain ⟨j, hj, rfl, HH⟩ := hrel
    by_cases hjlt : j < names.length
    · obtain ⟨b, o, rfl, hblt, d0⟩ := hr j hjlt
      by_cases he : names[j] = x
      · have hb' : (x.toList == names[j].toList) = true := toList_beq.2 he.symm
        have HA : Hid (amongB names x = true) := among_iff.2 ⟨j, hjlt, he⟩
        go_wp2_with fail
        go_ret
        exact ⟨⟨_, rfl, by rw [HA.out]; simp⟩, rfl⟩
      · have hb' : (x.toList == names[j].toList) = false := toList_bne.2 (fun h => he h.symm)
        go_wp2_with fail
        exact ⟨⟨j + 1, by omega, by go_num, hasB_no HH he⟩, by simp [intOf]; omega⟩
    · have HA : Hid (amongB names x = false) := hasB_all HH (by omega)
      go_wp2_with fail
      go_ret
      exact ⟨⟨_, rfl, by rw [HA.out]; simp⟩, rfl⟩

set_option maxHeartbeats 400000 in
theorem contains_any (a : Option Addr) (cap : Nat) (names : List ByteArray) (x : ByteArray) (w : World) (hl : names.length ≤ 1048576) (hr : RowS w a names) :
    Calls Try.prog 65 #[.slice a names.length cap, .string x] w fun e w' => e = .returned (.bool (amongB names x)) ∧ w' = w := by
  go_enter Try.func65, Try.ntmps65
  go_wp2_with fail
  refine (index_any a cap names x _ hl hr).mono ?_
  rintro e w1 ⟨⟨r, rfl, hr1⟩, rfl⟩
  have HR : Hid (decide (0 ≤ r) = amongB names x) := hr1
  clear hr1
  go_wp2_with fail
  go_ret
  exact ⟨by rw [← HR.out]; rfl, rfl⟩

set_option maxHeartbeats 800000 in
theorem implOnly_any (a : Option Addr) (cap : Nat) (l : List (ByteArray × Int)) (a' : Option Addr) (cap' : Nat) (names : List ByteArray) (w : World) (hl : l.length ≤ 1048576) (hr : Row w a l) (hs : ∀ j, (h : j < l.length) → (l[j].1.size : Int) ≤ 1048576)
    (hl' : names.length ≤ 1048576) (hr' : RowS w a' names) :
    Calls Try.prog 31 #[.slice a l.length cap, .slice a' names.length cap'] w fun e w' => (∃ v m, e = .returned v ∧ Gath w' w.heap.size v m ∧ IsO l names m) ∧ Below w.heap.size w w' := by
  obtain ⟨i0, hi, hz0, hz1, hz2⟩ := info_parts Try.infoM
  go_enter Try.func31, Try.ntmps31
  go_wp2_with fail
  refine (implStampOk_any a cap l _ (by unfold maxLen; omega) hr (fun j h => by have := hs j h; unfold maxLen; omega)).mono ?_
  rintro e w1 ⟨⟨r, rfl, hr1⟩, hb1⟩
  cases r
  · have hn : ¬ StampP l := fun h => by simpa using hr1.2 h
    clear hr1
    go_wp2_with fail
    go_ret
    exact ⟨⟨_, [], rfl, Gath.none _ _, fun h => absurd h hn, fun _ => rfl⟩, hb1⟩
  have hy : StampP l := hr1.1 rfl
  clear hr1
  go_wp2_with fail
  go_loopw [5, 13] (fun out i wr => ∃ k : Nat, k ≤ l.length ∧ i = .int .i64 k ∧ Gath wr w.heap.size out (onlyM names (l.take k)) ∧ Below w.heap.size w wr) (fun _ i _ => l.length - (intOf i).toNat)
  case atStart => exact ⟨0, Nat.zero_le _, rfl, Gath.none _ _, hb1⟩
  case round =>
    obtain ⟨k, hk, rfl, hg, hb⟩ := hrel
    by_cases hlt : k < l.length
    · obtain ⟨b, o, rfl, hblt, c0, c1⟩ := hr k hlt
      have e0 := cell_on hb hblt c0
      have e1 := cell_on hb hblt c1
      have hle := only_len (names := names) (l := l) k
      have HT := only_take (names := names) hlt
      have hss := hs k hlt
      cases hA : amongB names l[k].1
      · have HT' : Hid (onlyM names (l.take (k + 1)) = onlyM names (l.take k)) := by rw [HT, hA]; simp [Hid]
        clear HT
        go_wp2_with (go_at_call 65; refine (contains_any a' cap' names _ _ hl' (hr'.below (hb.alloc hb.size _))).mono ?_; rintro e w2 ⟨rfl, rfl⟩)
        exact ⟨⟨k + 1, by omega, by go_num, by rw [HT'.out]; exact hg.keep ((Below.refl _ _).alloc (Nat.le_refl _) _), hb.alloc hb.size _⟩, by simp [intOf]; omega⟩
      · have HT' : Hid (onlyM names (l.take (k + 1)) = onlyM names (l.take k) ++ [(l[k].1, l[k].2)]) := by rw [HT, if_pos hA]; rfl
        clear HT
        go_wp2_with (go_at_call 65; refine (contains_any a' cap' names _ _ hl' (hr'.below (hb.alloc hb.size _))).mono ?_; rintro e w2 ⟨rfl, rfl⟩)
        refine (fresh_any _ _ _ (by omega)).mono ?_
        rintro e w3 ⟨rfl, hb3⟩
        have hba : Below w.heap.size w (wr.alloc (.cells #[.string l[k].1, .int .i64 l[k].2] 68)) := hb.alloc hb.size _
        have hb3' : Below w.heap.size w w3 := hba.trans (hb3.mono hba.size)
        have hsz3 := hb3'.size
        have hgd : w3.ownsRow w.heap.size 68 2 u5 (onlyM names (l.take k)).length (mcells (onlyM names (l.take k))) := (hg.keep ((Below.refl _ _).alloc (Nat.le_refl _) _)).keep hb3
        go_wp2_with (at_builtin; refine wpList_append_lies _ rfl _ _ 25 rfl w.heap.size 68 i0 (.agg #[.string .empty, .int .i64 0]) 2 24 Try.underlying25 hi hz0 hz1 hz2 rfl (by decide) _ _ _ rfl (hgd.alloc _) ⟨w3.heap.size, 0, none⟩ 1 1 [.string l[k].1, .int .i64 l[k].2] rfl rfl (two_new w3 _ _ _) (by simp [Value.oneCell']) (by decide) (by unfold maxLen; omega) (by omega) (by simp; omega) _ rfl ?_; intro g' cap' w4 hown' hgrow _ _)
        have hg2 := Gath.grown (W := w) (B := w.heap.size) (w := w3.alloc (.cells #[.string l[k].1, .int .i64 l[k].2] 68)) (hgd.alloc _) (hb3'.alloc hsz3 _) (by simp; omega) hgrow
        exact ⟨⟨k + 1, by omega, by go_num, by rw [HT'.out]; exact Gath.snoc hown', hg2⟩, by simp [intOf]; omega⟩
    · go_wp2_with fail
      go_ret
      exact ⟨⟨_, _, rfl, hg, fun _ => by rw [List.take_of_length_le (by omega)], fun h => absurd hy h⟩, hb⟩

end Go.Proofs.Ytpfhegengmlkmab
