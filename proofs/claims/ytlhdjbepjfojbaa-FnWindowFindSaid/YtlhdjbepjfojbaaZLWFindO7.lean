/- Texts of this claim, one behind the other. -/
import Derived.Test.YtlhdjbepjfojbaaZLWFindO6
/- Walks: spec.StampOnly, impl.StampOnly and what they call. -/
namespace Go.Proofs.Ytlhdjbepjfojbaa
open Go.RowKit Go.BigFrame

/-- Is the mark's source among the names? -/
def amongB (names : List ByteArray) (s : ByteArray) : Bool := names.any fun x => decide (x = s)
/-- What is left of marks by names. -/
def onlyM (names : List ByteArray) (l : List (ByteArray × Int)) : List (ByteArray × Int) := l.filter fun m => amongB names m.1

theorem among_iff {names : List ByteArray} {s : ByteArray} : amongB names s = true ↔ ∃ j, ∃ h : j < names.length, names[j] = s := by
  unfold amongB
  simp only [List.any_eq_true, decide_eq_true_eq]
  constructor
  · rintro ⟨x, hx, rfl⟩
    obtain ⟨j, hj, rfl⟩ := List.mem_iff_getElem.1 hx
    exact ⟨j, hj, rfl⟩
  · rintro ⟨j, hj, rfl⟩
    exact ⟨_, List.getElem_mem hj, rfl⟩

theorem only_take {names : List ByteArray} {l : List (ByteArray × Int)} {k : Nat} (hk : k < l.length) :
    onlyM names (l.take (k + 1)) = onlyM names (l.take k) ++ (if amongB names l[k].1 = true then [l[k]] else []) := by
  unfold onlyM
  rw [List.take_succ_eq_append_getElem hk, List.filter_append]
  by_cases h : amongB names l[k].1 = true <;> simp [h]
theorem only_len {names : List ByteArray} {l : List (ByteArray × Int)} (k : Nat) : (onlyM names (l.take k)).length ≤ l.length := by
  unfold onlyM
  exact Nat.le_trans (List.length_filter_le _ _) (by rw [List.length_take]; omega)

/-- 'b' says whether 'x' is among the first 'j' names. -/
def HasB (names : List ByteArray) (j : Nat) (x : ByteArray) (b : Bool) : Prop := b = true ↔ ∃ q, ∃ hq : q < names.length, q < j ∧ names[q] = x
theorem hasB_start (names : List ByteArray) (x : ByteArray) : HasB names 0 x false := ⟨fun h => (by cases h), fun ⟨q, _, h, _⟩ => by omega⟩
theorem hasB_hit {names : List ByteArray} {j : Nat} {x : ByteArray} (hj : j < names.length) (he : names[j] = x) : HasB names (j + 1) x true := ⟨fun _ => ⟨j, hj, by omega, he⟩, fun _ => rfl⟩
theorem hasB_no {names : List ByteArray} {j : Nat} {x : ByteArray} (h : HasB names j x false) {hj : j < names.length} (he : ¬ names[j] = x) : HasB names (j + 1) x false := by
  refine ⟨fun h => (by cases h), ?_⟩
  rintro ⟨q, hq, hlt, e⟩
  by_cases hqj : q = j
  · subst hqj; exact absurd e he
  · exact h.2 ⟨q, hq, by omega, e⟩
theorem hasB_yes {names : List ByteArray} {j : Nat} {x : ByteArray} (h : HasB names j x true) : HasB names (j + 1) x true := by
  refine ⟨fun _ => ?_, fun _ => rfl⟩
  obtain ⟨q, hq, hlt, e⟩ := h.1 rfl
  exact ⟨q, hq, by omega, e⟩
theorem hasB_all {names : List ByteArray} {j : Nat} {x : ByteArray} {b : Bool} (h : HasB names j x b) (hj : names.length ≤ j) : amongB names x = b := by
  have h' : b = true ↔ amongB names x = true := by
    unfold HasB at h
    rw [h, among_iff]
    exact ⟨fun ⟨q, hq, _, e⟩ => ⟨q, hq, e⟩, fun ⟨q, hq, e⟩ => ⟨q, hq, by omega, e⟩⟩
  cases b <;> cases hA : amongB names x <;> simp_all

/-- What StampOnly answers. -/
def IsO (l : List (ByteArray × Int)) (names : List ByteArray) (m : List (ByteArray × Int)) : Prop := (StampP l → m = onlyM names l) ∧ (¬ StampP l → m = [])
theorem IsO.one {l : List (ByteArray × Int)} {names : List ByteArray} {u v : List (ByteArray × Int)} (h : IsO l names u) (h' : IsO l names v) : u = v := by
  by_cases hp : StampP l
  · rw [h.1 hp, h'.1 hp]
  · rw [h.2 hp, h'.2 hp]

set_option maxHeartbeats 800000 in
theorem specOnly_any (a : Option Addr) (cap : Nat) (l : List (ByteArray × Int)) (a' : Option Addr) (cap' : Nat) (names : List ByteArray) (w : World) (hl : l.length ≤ 1048576) (hr : Row w a l) (hs : ∀ j, (h : j < l.length) → l[j].1.size ≤ maxLen)
    (hl' : names.length ≤ 1048576) (hr' : RowS w a' names) :
    Calls Try.prog 24 #[.slice a l.length cap, .slice a' names.length cap'] w fun e w' => (∃ v m, e = .returned v ∧ Gath w' w.heap.size v m ∧ IsO l names m) ∧ Below w.heap.size w w' := by
  obtain ⟨i0, hi, hz0, hz1, hz2⟩ := info_parts Try.infoM
  go_enter Try.func24, Try.ntmps24
  go_wp2_with fail
  refine (specOk_b a cap l _ (by unfold maxLen; omega) hr hs).mono ?_
  rintro e w1 ⟨⟨r, rfl, hr1⟩, hb1⟩
  cases r
  · have hn : ¬ StampP l := fun h => by simpa using hr1.2 h
    clear hr1
    go_wp2_with fail
    go_ret
    exact ⟨⟨_, [], rfl, Gath.none _ _, fun h => absurd h hn, fun _ => rfl⟩, hb1⟩
  have hy : StampP l := hr1.1 rfl
  clear hr1
  go_wp2_with fail
  go_loopw [5, 6] (fun out i wr => ∃ k : Nat, k ≤ l.length ∧ i = .int .i64 k ∧ Gath wr w.heap.size out (onlyM names (l.take k)) ∧ Below w.heap.size w wr) (fun _ i _ => l.length - (intOf i).toNat)
  case atStart => exact ⟨0, Nat.zero_le _, rfl, Gath.none _ _, hb1⟩
  case round =>
    obtain ⟨k, hk, rfl, hg, hb⟩ := hrel
    by_cases hlt : k < l.length
    · obtain ⟨b, o, rfl, hblt, c0, c1⟩ := hr k hlt
      have e0 := cell_on hb hblt c0
      have e1 := cell_on hb hblt c1
      go_wp2_with fail
      go_loopw [7, 8] (fun hv i wr' => ∃ (h : Bool) (j n : Nat), j ≤ names.length ∧ i = .int .i64 j ∧ hv = .bool h ∧ HasB names j l[k].1 h ∧ wr' = wr.drewN n) (fun _ i _ => names.length - (intOf i).toNat)
      case atStart => exact ⟨false, 0, 0, Nat.zero_le _, rfl, rfl, hasB_start _ _, rfl⟩
      case round =>
        obtain ⟨h, j, n, hj, rfl, rfl, HH, rfl⟩ := hrel
        by_cases hjlt : j < names.length
        · obtain ⟨b', o', rfl, hblt', d0⟩ := hr' j hjlt
          have f0 := cell_on hb hblt' d0
          cases h
          · by_cases he : names[j] = l[k].1
            · have hb' : (names[j].toList == l[k].1.toList) = true := toList_beq.2 he
              go_wp2_with fail
              go_quiet (fail)
              go_wp2_with fail
              exact ⟨⟨true, j + 1, _, by omega, by go_num, rfl, hasB_hit hjlt he, rfl⟩, by simp [intOf]; omega⟩
            · have hb' : (names[j].toList == l[k].1.toList) = false := toList_bne.2 he
              go_wp2_with fail
              go_quiet (fail)
              go_wp2_with fail
              exact ⟨⟨false, j + 1, _, by omega, by go_num, rfl, hasB_no HH he, rfl⟩, by simp [intOf]; omega⟩
          · go_wp2_with fail
            go_quiet (fail)
            go_wp2_with fail
            exact ⟨⟨true, j + 1, _, by omega, by go_num, rfl, hasB_yes HH, rfl⟩, by simp [intOf]; omega⟩
        · have hgd : (wr.drewN n).ownsRow w.heap.size 65 2 u5 (onlyM names (l.take k)).length (mcells (onlyM names (l.take k))) := hg
          have hle := only_len (names := names) (l := l) k
          have hbn : Below w.heap.size w (wr.drewN n) := below_drewN hb n
          have HA := hasB_all HH (by omega)
          have HT := only_take (names := names) hlt
          cases h
          · have hno : amongB names l[k].1 = false := HA
            have HT' : Hid (onlyM names (l.take (k + 1)) = onlyM names (l.take k)) := by rw [HT, hno]; simp [Hid]
            clear HA HT hno
            go_wp2_with fail
            exact ⟨⟨k + 1, by omega, by go_num, by rw [HT'.out]; exact hg, hbn⟩, by simp [intOf]; omega⟩
          · have hyes : amongB names l[k].1 = true := HA
            have HT' : Hid (onlyM names (l.take (k + 1)) = onlyM names (l.take k) ++ [(l[k].1, l[k].2)]) := by rw [HT, if_pos hyes]; rfl
            clear HA HT hyes
            go_wp2_with (at_builtin; refine wpList_append_lies _ rfl _ _ 23 rfl w.heap.size 65 i0 (.agg #[.string .empty, .int .i64 0]) 2 24 Try.underlying23 hi hz0 hz1 hz2 rfl (by decide) _ _ _ rfl (hgd.alloc _) ⟨wr.heap.size, 0, none⟩ 1 1 [.string l[k].1, .int .i64 l[k].2] rfl rfl (two_new (wr.drewN n) _ _ _) (by simp [Value.oneCell']) (by decide) (by unfold maxLen; omega) (by omega) (by have := hb.size; simp; omega) _ rfl ?_; intro g' cap' w2 hown' hgrow _ _)
            have hg2 := Gath.grown (W := w) (B := w.heap.size) (w := (wr.drewN n).alloc (.cells #[.string l[k].1, .int .i64 l[k].2] 65)) (hgd.alloc _) (hbn.alloc hb.size _) (by have := hb.size; simp; omega) hgrow
            exact ⟨⟨k + 1, by omega, by go_num, by rw [HT'.out]; exact Gath.snoc hown', hg2⟩, by simp [intOf]; omega⟩
    · go_wp2_with fail
      go_ret
      exact ⟨⟨_, _, rfl, hg, fun _ => by rw [List.take_of_length_le (by omega)], fun h => absurd hy h⟩, hb⟩

set_option maxHeartbeats 400000 in
theorem index_any (a : Option Addr) (cap : Nat) (names : List ByteArray) (x : ByteArray) (w : World) (hl : names.length ≤ 1048576) (hr : RowS w a names) :
    Calls Try.prog 74 #[.slice a names.length cap, .string x] w fun e w' => (∃ r : Int, e = .returned (.int .i64 r) ∧ decide (0 ≤ r) = amongB names x) ∧ w' = w := by
  go_enter Try.func74, Try.ntmps74
  go_wp2_with fail
  go_loop [8] (fun i => ∃ j : Nat, j ≤ names.length ∧ i = .int .i64 j ∧ HasB names j x false) (fun i => names.length - (intOf i).toNat)
  case atStart => exact ⟨0, Nat.zero_le _, rfl, hasB_start _ _⟩
  case round =>
    obtain ⟨j, hj, rfl, HH⟩ := hrel
    by_cases hjlt : j < names.length
    · obtain ⟨b, o, rfl, hblt, d0⟩ := hr j hjlt
      by_cases he : names[j] = x
      · have hb' : (x.toList == names[j].toList) = true := toList_beq.2 he.symm
        have HA : Hid (amongB names x = true) := among_iff.2 ⟨j, hjlt, he⟩
        go_wp2_with fail
        go_ret
        exact ⟨⟨_, rfl, by rw [HA.out]; simp⟩, rfl⟩
      · have hb' : (x.toList == names[j].toList) = false := toList_bne.2 (fun h => he h.symm)
        go_wp2_with fail
        exact ⟨⟨j + 1, by omega, by go_num, hasB_no HH he⟩, by simp [intOf]; omega⟩
    · have HA : Hid (amongB names x = false) := hasB_all HH (by omega)
      go_wp2_with fail
      go_ret
      exact ⟨⟨_, rfl, by rw [HA.out]; simp⟩, rfl⟩

set_option maxHeartbeats 400000 in
theorem contains_any (a : Option Addr) (cap : Nat) (names : List ByteArray) (x : ByteArray) (w : World) (hl : names.length ≤ 1048576) (hr : RowS w a names) :
    Calls Try.prog 49 #[.slice a names.length cap, .string x] w fun e w' => e = .returned (.bool (amongB names x)) ∧ w' = w := by
  go_enter Try.func49, Try.ntmps49
  go_wp2_with fail
  refine (index_any a cap names x _ hl hr).mono ?_
  rintro e w1 ⟨⟨r, rfl, hr1⟩, rfl⟩
  have HR : Hid (decide (0 ≤ r) = amongB names x) := hr1
  clear hr1
  go_wp2_with fail
  go_ret
  exact ⟨by rw [← HR.out]; rfl, rfl⟩

set_option maxHeartbeats 800000 in
theorem implOnly_any (a : Option Addr) (cap : Nat) (l : List (ByteArray × Int)) (a' : Option Addr) (cap' : Nat) (names : List ByteArray) (w : World) (hl : l.length ≤ 1048576) (hr : Row w a l) (hs : ∀ j, (h : j < l.length) → (l[j].1.size : Int) ≤ 1048576)
    (hl' : names.length ≤ 1048576) (hr' : RowS w a' names) :
    Calls Try.prog 21 #[.slice a l.length cap, .slice a' names.length cap'] w fun e w' => (∃ v m, e = .returned v ∧ Gath w' w.heap.size v m ∧ IsO l names m) ∧ Below w.heap.size w w' := by
  obtain ⟨i0, hi, hz0, hz1, hz2⟩ := info_parts Try.infoM
  go_enter Try.func21, Try.ntmps21
  go_wp2_with fail
  refine (implStampOk_any a cap l _ (by unfold maxLen; omega) hr (fun j h => by have := hs j h; unfold maxLen; omega)).mono ?_
  rintro e w1 ⟨⟨r, rfl, hr1⟩, hb1⟩
  cases r
  · have hn : ¬ StampP l := fun h => by simpa using hr1.2 h
    clear hr1
    go_wp2_with fail
    go_ret
    exact ⟨⟨_, [], rfl, Gath.none _ _, fun h => absurd h hn, fun _ => rfl⟩, hb1⟩
  have hy : StampP l := hr1.1 rfl
  clear hr1
  go_wp2_with fail
  go_loopw [5, 13] (fun out i wr => ∃ k : Nat, k ≤ l.length ∧ i = .int .i64 k ∧ Gath wr w.heap.size out (onlyM names (l.take k)) ∧ Below w.heap.size w wr) (fun _ i _ => l.length - (intOf i).toNat)
  case atStart => exact ⟨0, Nat.zero_le _, rfl, Gath.none _ _, hb1⟩
  case round =>
    obtain ⟨k, hk, rfl, hg, hb⟩ := hrel
    by_cases hlt : k < l.length
    · obtain ⟨b, o, rfl, hblt, c0, c1⟩ := hr k hlt
      have e0 := cell_on hb hblt c0
      have e1 := cell_on hb hblt c1
      have hle := only_len (names := names) (l := l) k
      have HT := only_take (names := names) hlt
      have hss := hs k hlt
      cases hA : amongB names l[k].1
      · have HT' : Hid (onlyM names (l.take (k + 1)) = onlyM names (l.take k)) := by rw [HT, hA]; simp [Hid]
        clear HT
        go_wp2_with (go_at_call 49; refine (contains_any a' cap' names _ _ hl' (hr'.below (hb.alloc hb.size _))).mono ?_; rintro e w2 ⟨rfl, rfl⟩)
        exact ⟨⟨k + 1, by omega, by go_num, by rw [HT'.out]; exact hg.keep ((Below.refl _ _).alloc (Nat.le_refl _) _), hb.alloc hb.size _⟩, by simp [intOf]; omega⟩
      · have HT' : Hid (onlyM names (l.take (k + 1)) = onlyM names (l.take k) ++ [(l[k].1, l[k].2)]) := by rw [HT, if_pos hA]; rfl
        clear HT
        go_wp2_with (go_at_call 49; refine (contains_any a' cap' names _ _ hl' (hr'.below (hb.alloc hb.size _))).mono ?_; rintro e w2 ⟨rfl, rfl⟩)
        refine (fresh_any _ _ _ (by omega)).mono ?_
        rintro e w3 ⟨rfl, hb3⟩
        have hba : Below w.heap.size w (wr.alloc (.cells #[.string l[k].1, .int .i64 l[k].2] 65)) := hb.alloc hb.size _
        have hb3' : Below w.heap.size w w3 := hba.trans (hb3.mono hba.size)
        have hsz3 := hb3'.size
        have hgd : w3.ownsRow w.heap.size 65 2 u5 (onlyM names (l.take k)).length (mcells (onlyM names (l.take k))) := (hg.keep ((Below.refl _ _).alloc (Nat.le_refl _) _)).keep hb3
        go_wp2_with (at_builtin; refine wpList_append_lies _ rfl _ _ 23 rfl w.heap.size 65 i0 (.agg #[.string .empty, .int .i64 0]) 2 24 Try.underlying23 hi hz0 hz1 hz2 rfl (by decide) _ _ _ rfl (hgd.alloc _) ⟨w3.heap.size, 0, none⟩ 1 1 [.string l[k].1, .int .i64 l[k].2] rfl rfl (two_new w3 _ _ _) (by simp [Value.oneCell']) (by decide) (by unfold maxLen; omega) (by omega) (by simp; omega) _ rfl ?_; intro g' cap' w4 hown' hgrow _ _)
        have hg2 := Gath.grown (W := w) (B := w.heap.size) (w := w3.alloc (.cells #[.string l[k].1, .int .i64 l[k].2] 65)) (hgd.alloc _) (hb3'.alloc hsz3 _) (by simp; omega) hgrow
        exact ⟨⟨k + 1, by omega, by go_num, by rw [HT'.out]; exact Gath.snoc hown', hg2⟩, by simp [intOf]; omega⟩
    · go_wp2_with fail
      go_ret
      exact ⟨⟨_, _, rfl, hg, fun _ => by rw [List.take_of_length_le (by omega)], fun h => absurd hy h⟩, hb⟩

end Go.Proofs.Ytlhdjbepjfojbaa
/- What the four laws of stamps say, in the words of lists. -/
namespace Go.Proofs.Ytlhdjbepjfojbaa

theorem stampP_of_sorted {l : List (ByteArray × Int)} (h12 : l.length ≤ 12) (hm : ∀ m ∈ l, MarkP m) (hp : l.Pairwise (fun x y => Asc x.1 y.1)) : StampP l :=
  ⟨h12, fun _ hj => hm _ (List.getElem_mem hj), fun j hj => List.pairwise_iff_getElem.1 hp j (j + 1) (by omega) hj (by omega)⟩
theorem stampP_mark {l : List (ByteArray × Int)} (h : StampP l) {m : ByteArray × Int} (hm : m ∈ l) : MarkP m := by
  obtain ⟨j, hj, rfl⟩ := List.mem_iff_getElem.1 hm
  exact h.2.1 j hj
theorem stampP_nil : StampP [] := ⟨by simp, fun j h => absurd h (Nat.not_lt_zero j), fun j h => absurd h (Nat.not_lt_zero (j + 1))⟩
theorem only_stamp {l : List (ByteArray × Int)} (h : StampP l) (names : List ByteArray) : StampP (onlyM names l) :=
  stampP_of_sorted (Nat.le_trans (List.length_filter_le _ _) h.1) (fun _ hm => stampP_mark h (List.mem_filter.1 hm).1) (List.Pairwise.filter _ (stamp_sorted h).1)
theorem getM_only {names : List ByteArray} {s : ByteArray} : ∀ {l : List (ByteArray × Int)}, getM (onlyM names l) s = if amongB names s = true then getM l s else 0
  | [] => by simp [onlyM, getM]
  | x :: r => by
    have ih := getM_only (names := names) (s := s) (l := r)
    unfold onlyM at ih ⊢
    by_cases hx : amongB names x.1 = true
    · rw [List.filter_cons_of_pos (p := fun m : ByteArray × Int => amongB names m.1) hx]
      simp only [getM, ih]
      by_cases e : x.1 = s
      · subst e; simp [hx]
      · simp [e]
    · rw [List.filter_cons_of_neg (p := fun m : ByteArray × Int => amongB names m.1) hx, ih]
      simp only [getM]
      by_cases e : x.1 = s
      · subst e; simp [hx]
      · simp [e]
/-- What StampOnly answers is a stamp, whatever it was asked. -/
theorem IsO.stamp {l m : List (ByteArray × Int)} {names : List ByteArray} (h : IsO l names m) : StampP m := by
  by_cases hp : StampP l
  · rw [h.1 hp]; exact only_stamp hp names
  · rw [h.2 hp]; exact stampP_nil
theorem IsO.get {l m : List (ByteArray × Int)} {names : List ByteArray} (h : IsO l names m) {s : ByteArray} (hs : amongB names s = true) {u v : Int} (hu : IsG m s u) (hv : IsG l s v) : u = v := by
  rw [hu.1 h.stamp]
  by_cases hp : StampP l
  · rw [hv.1 hp, h.1 hp, getM_only, if_pos hs]
  · rw [hv.2 hp, h.2 hp]; rfl
theorem among_at {names : List ByteArray} {j : Nat} (hj : j < names.length) : amongB names names[j] = true := among_iff.2 ⟨j, hj, rfl⟩

/-- The join of two stamps that fits is a stamp. -/
theorem join_stamp {a b o : List (ByteArray × Int)} (ha : StampP a) (hb : StampP b) (h : JoinOf a b o) (h12 : o.length ≤ 12) : StampP o := by
  refine stampP_of_sorted h12 (fun m hm => ?_) h.1.1
  have e := getM_mem h.1 hm
  have e1 := h.1.2 m hm
  have e2 := h.2 m.1
  rw [e] at e2
  rcases Int.le_total (getM a m.1) (getM b m.1) with hle | hle
  · have e3 : m.2 = getM b m.1 := by omega
    have hmem := getM_pos (l := b) (s := m.1) (by omega)
    rw [← e3] at hmem
    exact stampP_mark hb hmem
  · have e3 : m.2 = getM a m.1 := by omega
    have hmem := getM_pos (l := a) (s := m.1) (by omega)
    rw [← e3] at hmem
    exact stampP_mark ha hmem
theorem IsJ.fits {a b m : List (ByteArray × Int)} (h : IsJ a b m true) : StampP a ∧ StampP b ∧ JoinOf a b m ∧ StampP m := by
  rcases h with ⟨_, _, h⟩ | ⟨ha, hb, o, ho, ⟨h12, rfl, _⟩ | ⟨_, _, h⟩⟩
  · cases h
  · exact ⟨ha, hb, ho, join_stamp ha hb ho h12⟩
  · cases h
theorem IsJ.none {a b m : List (ByteArray × Int)} (h : IsJ a b m false) : m = [] := by
  rcases h with ⟨_, h, _⟩ | ⟨_, _, o, _, ⟨_, _, h⟩ | ⟨_, h, _⟩⟩
  · exact h
  · cases h
  · exact h
theorem JoinOf.comm {a b o : List (ByteArray × Int)} (h : JoinOf a b o) : JoinOf b a o := ⟨h.1, fun s => by rw [h.2 s]; omega⟩
theorem IsJ.comm {a b m : List (ByteArray × Int)} {ok : Bool} (h : IsJ a b m ok) : IsJ b a m ok := by
  rcases h with ⟨h1, h2⟩ | ⟨ha, hb, o, ho, h⟩
  · exact .inl ⟨fun k => h1 ⟨k.2, k.1⟩, h2⟩
  · exact .inr ⟨hb, ha, o, ho.comm, h⟩
theorem IsJ.self {j : List (ByteArray × Int)} (h : StampP j) : IsJ j j j true := .inr ⟨h, h, j, ⟨stamp_sorted h, fun s => by omega⟩, .inl ⟨h.1, rfl, rfl⟩⟩
theorem sorted_len : ∀ {k l : List (ByteArray × Int)}, Sorted k → Sorted l → (∀ s, 0 < getM k s → 0 < getM l s) → k.length ≤ l.length
  | [], _, _, _, _ => by simp
  | x :: k, [], hk, _, h => by
    have := h x.1 (by rw [getM_mem hk (by simp : x ∈ x :: k)]; exact hk.2 x (by simp))
    simp [getM] at this
  | x :: k, y :: l, hk, hl, h => by
    have hx1 := sorted_head hk
    have hy1 := sorted_head hl
    have hx := h x.1 (by simp only [getM, if_true]; omega)
    by_cases e : x.1 = y.1
    · have := sorted_len (sorted_tail hk) (sorted_tail hl) (fun s hs => by
        have hmem := getM_pos hs
        have hasc : Asc x.1 s := sorted_above hk hmem
        have hs2 := h s (by simp only [getM]; rw [if_neg (asc_ne hasc)]; exact hs)
        simp only [getM] at hs2
        rw [if_neg (fun q => asc_ne hasc (e.trans q))] at hs2
        exact hs2)
      simp only [List.length_cons]; omega
    · have hasc : Asc y.1 x.1 := by
        simp only [getM] at hx
        rw [if_neg (fun q => e q.symm)] at hx
        exact sorted_above (x := (x.1, getM l x.1)) hl (getM_pos hx)
      have := sorted_len hk (sorted_tail hl) (fun s hs => by
        have hs2 := h s hs
        have hmem := getM_pos hs
        have hys : Asc y.1 s := by
          rcases List.mem_cons.1 hmem with q | q
          · have q1 : s = x.1 := by rw [← q]
            rw [q1]; exact hasc
          · exact asc_trans hasc (sorted_above hk q)
        simp only [getM] at hs2
        rw [if_neg (asc_ne hys)] at hs2
        exact hs2)
      simp only [List.length_cons] at this ⊢; omega
theorem JoinOf.mono {a b c o o2 o3 : List (ByteArray × Int)} (ha : Sorted a) (h1 : JoinOf a b o) (h2 : JoinOf b c o2) (h3 : JoinOf o c o3) : o2.length ≤ o3.length :=
  sorted_len h2.1 h3.1 fun s hs => by
    have := h1.2 s; have := h2.2 s; have := h3.2 s; have := getM_nonneg (s := s) ha
    omega
theorem JoinOf.assoc {a b c o o2 o3 o4 : List (ByteArray × Int)} (h1 : JoinOf a b o) (h2 : JoinOf b c o2) (h3 : JoinOf o c o3) (h4 : JoinOf a o2 o4) : o3 = o4 :=
  sorted_ext h3.1 h4.1 fun s => by
    have := h1.2 s; have := h2.2 s; have := h3.2 s; have := h4.2 s
    omega
/-- Three stamps, from the left or from the right. -/
theorem join_three {a b c j l m r : List (ByteArray × Int)} {left mid right : Bool} (hj : IsJ a b j true) (hl : IsJ j c l left) (hm : IsJ b c m mid) (hr : IsJ a m r right) :
    (mid = false → left = false) ∧ (mid = true → left = right ∧ l = r) := by
  obtain ⟨ha, hb, h1, hsj⟩ := hj.fits
  constructor
  · rintro rfl
    cases left
    · rfl
    · exfalso
      obtain ⟨_, hc, h3, hsl⟩ := hl.fits
      rcases hm with ⟨hn, _⟩ | ⟨_, _, o2, h2, ⟨_, _, h⟩ | ⟨h13, _, _⟩⟩
      · exact hn ⟨hb, hc⟩
      · cases h
      · have := JoinOf.mono (stamp_sorted ha) h1 h2 h3
        have := hsl.1
        omega
  · rintro rfl
    obtain ⟨_, hc, h2, hsm⟩ := hm.fits
    have key : IsJ j c r right := by
      rcases hr with ⟨hn, _⟩ | ⟨_, _, o4, h4, h⟩
      · exact absurd ⟨ha, hsm⟩ hn
      · refine .inr ⟨hsj, hc, o4, ⟨h4.1, fun s => ?_⟩, h⟩
        have := h1.2 s; have := h2.2 s; have := h4.2 s
        omega
    obtain ⟨e1, e2⟩ := hl.one key
    exact ⟨e2, e1⟩

theorem AgreeP.symm {a b : List (ByteArray × Int)} (h : AgreeP a b) : AgreeP b a := by
  obtain ⟨ha, hb, h⟩ := h
  refine ⟨hb, ha, fun i hi => ?_⟩
  have sb := stamp_sorted hb
  have sa := stamp_sorted ha
  have e := getM_mem sb (List.getElem_mem hi)
  have e1 := sb.2 _ (List.getElem_mem hi)
  have e2 := getM_nonneg (s := b[i].1) sa
  by_cases h0 : getM a b[i].1 = 0
  · exact .inl h0
  · right
    have hmem := getM_pos (l := a) (s := b[i].1) (by omega)
    obtain ⟨k, hk, ek⟩ := List.mem_iff_getElem.1 hmem
    have := h k hk
    rw [ek] at this
    simp only at this
    omega
/-- The names of marks. -/
def namesM (a : List (ByteArray × Int)) : List ByteArray := a.map (·.1)
theorem among_names {a : List (ByteArray × Int)} (ha : Sorted a) (s : ByteArray) : amongB (namesM a) s = true ↔ 0 < getM a s := by
  unfold amongB namesM
  simp only [List.any_eq_true, decide_eq_true_eq, List.mem_map]
  constructor
  · rintro ⟨_, ⟨m, hm, rfl⟩, rfl⟩
    rw [getM_mem ha hm]; exact ha.2 m hm
  · intro h
    exact ⟨s, ⟨_, getM_pos h, rfl⟩, rfl⟩
theorem cut_iff {a b o : List (ByteArray × Int)} (ha : Sorted a) (h : JoinOf a b o) : onlyM (namesM a) o = a ↔ ∀ s, 0 < getM a s → getM b s ≤ getM a s := by
  have hso : Sorted (onlyM (namesM a) o) := ⟨List.Pairwise.filter _ h.1.1, fun m hm => h.1.2 m (List.mem_filter.1 hm).1⟩
  constructor
  · intro e s hs
    have : getM (onlyM (namesM a) o) s = getM a s := by rw [e]
    rw [getM_only, if_pos ((among_names ha s).2 hs), h.2 s] at this
    omega
  · intro hall
    refine sorted_ext hso ha fun s => ?_
    rw [getM_only]
    have hn := getM_nonneg (s := s) ha
    by_cases hs : 0 < getM a s
    · rw [if_pos ((among_names ha s).2 hs), h.2 s]
      have := hall s hs
      omega
    · rw [if_neg (fun q => hs ((among_names ha s).1 q))]
      omega
theorem agree_cut {a b o : List (ByteArray × Int)} (ha : StampP a) (hb : StampP b) (h : JoinOf a b o) : AgreeP a b ↔ (onlyM (namesM a) o = a ∧ onlyM (namesM b) o = b) := by
  have sa := stamp_sorted ha
  have sb := stamp_sorted hb
  rw [cut_iff sa h, cut_iff sb h.comm]
  constructor
  · rintro hag
    refine ⟨fun s hs => ?_, fun s hs => ?_⟩
    · obtain ⟨i, hi, e⟩ := List.mem_iff_getElem.1 (getM_pos hs)
      have := hag.2.2 i hi
      rw [e] at this
      simp only at this
      omega
    · obtain ⟨i, hi, e⟩ := List.mem_iff_getElem.1 (getM_pos hs)
      have := hag.symm.2.2 i hi
      rw [e] at this
      simp only at this
      omega
  · rintro ⟨h1, h2⟩
    refine ⟨ha, hb, fun i hi => ?_⟩
    have e := getM_mem sa (List.getElem_mem hi)
    have e1 := sa.2 _ (List.getElem_mem hi)
    have e2 := getM_nonneg (s := a[i].1) sb
    have := h1 a[i].1 (by omega)
    by_cases h0 : getM b a[i].1 = 0
    · exact .inl h0
    · have := h2 a[i].1 (by omega)
      right
      omega

theorem belowP_iff {a b : List (ByteArray × Int)} (ha : Sorted a) (hb : Sorted b) : BelowP a b ↔ ∀ s, getM a s ≤ getM b s := by
  constructor
  · intro h s
    have hn := getM_nonneg (s := s) hb
    by_cases h0 : 0 < getM a s
    · obtain ⟨i, hi, e⟩ := List.mem_iff_getElem.1 (getM_pos h0)
      have := h i hi
      rw [e] at this
      exact this
    · omega
  · intro h i hi
    have e := getM_mem ha (List.getElem_mem hi)
    have := h a[i].1
    omega
/-- How the two sides of an order stand to each other. -/
theorem ord_flip {a b : List (ByteArray × Int)} {o p : Int} (h : IsOrd a b o) (k : IsOrd b a p) : (o = 1 → p = 2) ∧ (o = 2 → p = 1) ∧ (o ≠ 1 → o ≠ 2 → p = o) := by
  rcases h with ⟨h1, h2⟩ | ⟨h1, h2, h3⟩
  · rcases k with ⟨k1, k2⟩ | ⟨k1, k2, k3⟩
    · subst h2; subst k2; exact ⟨fun h => by omega, fun h => by omega, fun _ _ => rfl⟩
    · exact absurd ⟨k2, k1⟩ h1
  · rcases k with ⟨k1, k2⟩ | ⟨k1, k2, k3⟩
    · exact absurd ⟨h2, h1⟩ k1
    · rcases h3 with ⟨p1, q1, e⟩ | ⟨p1, q1, e⟩ | ⟨p1, q1, e⟩ | ⟨p1, q1, e⟩ <;> rcases k3 with ⟨p', q', e'⟩ | ⟨p', q', e'⟩ | ⟨p', q', e'⟩ | ⟨p', q', e'⟩ <;>
        first | (subst e; subst e'; exact ⟨fun h => by omega, fun h => by omega, fun h h' => by omega⟩) | exact absurd p1 q' | exact absurd q1 p' | exact absurd p' q1 | exact absurd q' p1
theorem ord_same {a b : List (ByteArray × Int)} {o : Int} (h : IsOrd a b o) : o = 0 ↔ (StampP a ∧ a = b) := by
  constructor
  · rintro rfl
    rcases h with ⟨_, h2⟩ | ⟨h1, h2, h3⟩
    · omega
    · refine ⟨h1, ?_⟩
      have sa := stamp_sorted h1
      have sb := stamp_sorted h2
      rcases h3 with ⟨p, q, _⟩ | ⟨_, _, e⟩ | ⟨_, _, e⟩ | ⟨_, _, e⟩
      · rw [belowP_iff sa sb] at p
        rw [belowP_iff sb sa] at q
        exact sorted_ext sa sb fun s => by have := p s; have := q s; omega
      · omega
      · omega
      · omega
  · rintro ⟨ha, rfl⟩
    have hbb : BelowP a a := (belowP_iff (stamp_sorted ha) (stamp_sorted ha)).2 fun _ => Int.le_refl _
    rcases h with ⟨h1, _⟩ | ⟨_, _, ⟨_, _, e⟩ | ⟨_, q, _⟩ | ⟨q, _, _⟩ | ⟨q, _, _⟩⟩
    · exact absurd ⟨ha, ha⟩ h1
    · exact e
    · exact absurd hbb q
    · exact absurd hbb q
    · exact absurd hbb q
theorem ord_le {a b : List (ByteArray × Int)} {o : Int} (h : IsOrd a b o) : (o = 0 ∨ o = 1) ↔ (StampP a ∧ StampP b ∧ BelowP a b) := by
  constructor
  · rintro ho
    rcases h with ⟨_, h2⟩ | ⟨h1, h2, ⟨p, _, _⟩ | ⟨p, _, _⟩ | ⟨_, _, e⟩ | ⟨_, _, e⟩⟩
    · omega
    · exact ⟨h1, h2, p⟩
    · exact ⟨h1, h2, p⟩
    · omega
    · omega
  · rintro ⟨ha, hb, hab⟩
    rcases h with ⟨h1, _⟩ | ⟨_, _, ⟨_, _, e⟩ | ⟨_, _, e⟩ | ⟨q, _, _⟩ | ⟨q, _, _⟩⟩
    · exact absurd ⟨ha, hb⟩ h1
    · exact .inl e
    · exact .inr e
    · exact absurd hab q
    · exact absurd hab q
theorem ord_less {a b : List (ByteArray × Int)} {o : Int} (h : IsOrd a b o) : o = 1 ↔ (StampP a ∧ StampP b ∧ BelowP a b ∧ ¬ BelowP b a) := by
  constructor
  · rintro rfl
    rcases h with ⟨_, h2⟩ | ⟨h1, h2, ⟨p, q, e⟩ | ⟨p, q, _⟩ | ⟨_, _, e⟩ | ⟨_, _, e⟩⟩
    · omega
    · omega
    · exact ⟨h1, h2, p, q⟩
    · omega
    · omega
  · rintro ⟨ha, hb, hab, hba⟩
    rcases h with ⟨h1, _⟩ | ⟨_, _, ⟨_, q, e⟩ | ⟨_, _, e⟩ | ⟨q, _, _⟩ | ⟨q, _, _⟩⟩
    · exact absurd ⟨ha, hb⟩ h1
    · exact absurd q hba
    · exact e
    · exact absurd hab q
    · exact absurd hab q
theorem join_above {a b j : List (ByteArray × Int)} (h : IsJ a b j true) : BelowP a j ∧ BelowP b j := by
  obtain ⟨ha, hb, ho, hj⟩ := h.fits
  have sj := stamp_sorted hj
  exact ⟨(belowP_iff (stamp_sorted ha) sj).2 fun s => by rw [ho.2 s]; omega, (belowP_iff (stamp_sorted hb) sj).2 fun s => by rw [ho.2 s]; omega⟩
theorem join_least {a b c j : List (ByteArray × Int)} (h : IsJ a b j true) (hc : StampP c) (h1 : BelowP a c) (h2 : BelowP b c) : BelowP j c := by
  obtain ⟨ha, hb, ho, hj⟩ := h.fits
  have sc := stamp_sorted hc
  rw [belowP_iff (stamp_sorted ha) sc] at h1
  rw [belowP_iff (stamp_sorted hb) sc] at h2
  exact (belowP_iff (stamp_sorted hj) sc).2 fun s => by rw [ho.2 s]; have := h1 s; have := h2 s; omega
/-- Below what is below a join. -/
theorem less_join {a b c j : List (ByteArray × Int)} {o v : Int} (h : IsOrd a b o) (ho : o = 1) (hj : IsJ b c j true) (hv : IsOrd a j v) : v = 1 := by
  obtain ⟨ha, hb, hab, hba⟩ := (ord_less h).1 ho
  obtain ⟨_, hc, hjo, hsj⟩ := hj.fits
  have hbj := (join_above hj).1
  have sa := stamp_sorted ha
  have sb := stamp_sorted hb
  have sj := stamp_sorted hsj
  rw [belowP_iff sa sb] at hab
  rw [belowP_iff sb sj] at hbj
  refine (ord_less hv).2 ⟨ha, hsj, (belowP_iff sa sj).2 fun s => Int.le_trans (hab s) (hbj s), fun q => hba ?_⟩
  rw [belowP_iff sj sa] at q
  exact (belowP_iff sb sa).2 fun s => Int.le_trans (hbj s) (q s)

end Go.Proofs.Ytlhdjbepjfojbaa
/- Mathematics of windows and choices: the later of two choices that agree agrees. No program here. -/
namespace Go.Proofs.Ytlhdjbepjfojbaa

theorem agree_get {a b : List (ByteArray × Int)} (ha : StampP a) (hb : StampP b) : AgreeP a b ↔ ∀ s, 0 < getM a s → 0 < getM b s → getM a s = getM b s := by
  have sa := stamp_sorted ha
  have sb := stamp_sorted hb
  constructor
  · rintro ⟨_, _, h⟩ s h1 h2
    obtain ⟨k, hk, ek⟩ := List.mem_iff_getElem.1 (getM_pos h1)
    have := h k hk
    rw [ek] at this
    simp only at this
    omega
  · intro h
    refine ⟨ha, hb, fun i hi => ?_⟩
    have e := getM_mem sa (List.getElem_mem hi)
    have e1 := sa.2 _ (List.getElem_mem hi)
    have e2 := getM_nonneg (s := a[i].1) sb
    by_cases h0 : getM b a[i].1 = 0
    · exact .inl h0
    · right
      rw [← h a[i].1 (by omega) (by omega), e]

/-- An item: its value and its stamp. -/
abbrev ItemM := Int × List (ByteArray × Int)
/-- The same sources, and below. -/
def AboveP (a b : List (ByteArray × Int)) : Prop := namesM a = namesM b ∧ StampP a ∧ StampP b ∧ BelowP a b ∧ ¬ BelowP b a
/-- A window. -/
def WinP (l : List ItemM) : Prop := l.length ≤ 4 ∧ (∀ j, (h : j < l.length) → StampP l[j].2 ∧ l[j].2 ≠ []) ∧ ∀ j, (h : j + 1 < l.length) → AboveP l[j].2 l[j + 1].2
theorem names_get {a b : List (ByteArray × Int)} (ha : StampP a) (hb : StampP b) (h : namesM a = namesM b) (s : ByteArray) : 0 < getM a s ↔ 0 < getM b s := by
  rw [← among_names (stamp_sorted ha), ← among_names (stamp_sorted hb), h]
theorem WinP.names {l : List ItemM} (h : WinP l) : ∀ (d i : Nat) (hj : i + d < l.length), namesM l[i].2 = namesM l[i + d].2
  | 0, _, _ => rfl
  | d + 1, i, hj => (h.names d i (by omega)).trans (h.2.2 (i + d) (by omega)).1
theorem WinP.rise {l : List ItemM} (h : WinP l) : ∀ (d i : Nat) (hj : i + d < l.length) (s : ByteArray), getM l[i].2 s ≤ getM l[i + d].2 s
  | 0, _, _, _ => Int.le_refl _
  | d + 1, i, hj, s => by
    have h1 := h.rise d i (by omega) s
    have ha := h.2.2 (i + d) (by omega)
    have h2 := (belowP_iff (stamp_sorted ha.2.1) (stamp_sorted ha.2.2.1)).1 ha.2.2.2.1 s
    exact Int.le_trans h1 h2
theorem WinP.le {l : List ItemM} (h : WinP l) {i j : Nat} (hij : i ≤ j) (hj : j < l.length) (s : ByteArray) : getM (l[i]'(by omega)).2 s ≤ getM l[j].2 s := by
  obtain ⟨d, rfl⟩ : ∃ d, j = i + d := ⟨j - i, by omega⟩
  exact h.rise d i hj s
theorem WinP.same {l : List ItemM} (h : WinP l) {i j : Nat} (hi : i < l.length) (hj : j < l.length) (s : ByteArray) : 0 < getM l[i].2 s ↔ 0 < getM l[j].2 s := by
  have hn : namesM l[i].2 = namesM l[j].2 := by
    rcases Nat.le_total i j with hij | hij
    · obtain ⟨d, rfl⟩ : ∃ d, j = i + d := ⟨j - i, by omega⟩
      exact h.names d i hj
    · obtain ⟨d, rfl⟩ : ∃ d, i = j + d := ⟨i - j, by omega⟩
      exact (h.names d j hi).symm
  exact names_get (h.2.1 i hi).1 (h.2.1 j hj).1 hn s
/-- Of two windows: where (i, k) and (i', k') agree, the later of both agree. -/
theorem later_agrees {u v : List ItemM} (hu : WinP u) (hv : WinP v) {i i' k k' : Nat} (hi : i < u.length) (hi' : i' < u.length) (hk : k < v.length) (hk' : k' < v.length)
    (h : AgreeP u[i].2 v[k].2) (h' : AgreeP u[i'].2 v[k'].2) : AgreeP (u[max i i']'(by omega)).2 (v[max k k']'(by omega)).2 := by
  have key : ∀ {u v : List ItemM} (_ : WinP u) (_ : WinP v) {i i' k k' : Nat} (hi : i < u.length) (hi' : i' < u.length) (hk : k < v.length) (hk' : k' < v.length), AgreeP u[i].2 v[k].2 → AgreeP u[i'].2 v[k'].2 → i' ≤ i → k ≤ k' → AgreeP u[i].2 v[k'].2 := by
    intro u v hu hv i i' k k' hi hi' hk hk' h h' h1 h2
    rw [agree_get (hu.2.1 i hi).1 (hv.2.1 k' hk').1]
    rw [agree_get (hu.2.1 i hi).1 (hv.2.1 k hk).1] at h
    rw [agree_get (hu.2.1 i' hi').1 (hv.2.1 k' hk').1] at h'
    intro s p1 p2
    have e1 := h s p1 ((hv.same hk hk' s).2 p2)
    have e2 := h' s ((hu.same hi' hi s).2 p1) p2
    have l1 := hu.le h1 hi s
    have l2 := hv.le h2 hk' s
    omega
  rcases Nat.le_total i i' with h1 | h1 <;> rcases Nat.le_total k k' with h2 | h2
  · simp only [Nat.max_eq_right h1, Nat.max_eq_right h2]; exact h'
  · simp only [Nat.max_eq_right h1, Nat.max_eq_left h2]
    exact key hu hv hi' hi hk' hk h' h h1 h2
  · simp only [Nat.max_eq_left h1, Nat.max_eq_right h2]
    exact key hu hv hi hi' hk hk' h h' h1 h2
  · simp only [Nat.max_eq_left h1, Nat.max_eq_left h2]; exact h

end Go.Proofs.Ytlhdjbepjfojbaa
