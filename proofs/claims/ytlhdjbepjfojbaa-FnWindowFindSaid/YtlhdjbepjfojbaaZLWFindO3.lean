/- Texts of this claim, one behind the other. -/
import Derived.Deep.QuietTactic
import Derived.BigQuiet
import Derived.Test.YtlhdjbepjfojbaaZLWFindO2
/- The join of two stamps, in the words of lists. -/
namespace Go.Proofs.Ytlhdjbepjfojbaa

/-- The marks 'l' with 'm' put where it belongs, in the place of what there was of its source. -/
def setR (m : ByteArray × Int) : List (ByteArray × Int) → List (ByteArray × Int)
  | [] => [m]
  | x :: r => if Op.bytesLess x.1.toList m.1.toList = true then x :: setR m r else m :: (x :: r).filter fun y => decide (y.1 ≠ m.1)
/-- What is yet to come of it, behind some marks. -/
def setT (m : ByteArray × Int) (put : Bool) (l : List (ByteArray × Int)) : List (ByteArray × Int) := if put then l.filter fun y => decide (y.1 ≠ m.1) else setR m l

theorem setR_mem {m y : ByteArray × Int} : ∀ {l : List (ByteArray × Int)}, y ∈ setR m l → y = m ∨ y ∈ l
  | [], h => by simp [setR] at h; exact .inl h
  | x :: r, h => by
    unfold setR at h
    split at h
    · rcases List.mem_cons.1 h with rfl | h
      · exact .inr (by simp)
      · exact (setR_mem h).imp id (List.mem_cons_of_mem _)
    · rcases List.mem_cons.1 h with rfl | h
      · exact .inl rfl
      · exact .inr (List.mem_filter.1 h).1
theorem setR_length {m : ByteArray × Int} : ∀ {l : List (ByteArray × Int)}, (setR m l).length ≤ l.length + 1
  | [] => by simp [setR]
  | x :: r => by
    unfold setR
    split
    · have := setR_length (m := m) (l := r); simp only [List.length_cons]; omega
    · simp only [List.length_cons]; have := List.length_filter_le (fun y => decide (y.1 ≠ m.1)) (x :: r); simp only [List.length_cons] at this; omega
theorem setR_snoc {m : ByteArray × Int} : ∀ {l : List (ByteArray × Int)}, (∀ x ∈ l, Asc x.1 m.1) → setR m l = l ++ [m]
  | [], _ => rfl
  | x :: r, h => by
    unfold setR
    rw [if_pos (show Op.bytesLess x.1.toList m.1.toList = true from h x (by simp)), setR_snoc fun y hy => h y (List.mem_cons_of_mem _ hy)]
    rfl
theorem getM_filter {t s : ByteArray} (hs : s ≠ t) : ∀ {l : List (ByteArray × Int)}, getM (l.filter fun y => decide (y.1 ≠ t)) s = getM l s
  | [] => rfl
  | x :: r => by
    have ih := getM_filter hs (l := r)
    by_cases hx : x.1 = t
    · have hd : decide (x.1 ≠ t) = false := by simp [hx]
      rw [List.filter_cons_of_neg (by simp [hx]), ih]
      simp only [getM]
      rw [if_neg (fun e => hs (e.symm.trans hx))]
    · rw [List.filter_cons_of_pos (by simp [hx])]
      simp only [getM, ih]
theorem setR_get {m : ByteArray × Int} (s : ByteArray) : ∀ {l : List (ByteArray × Int)}, getM (setR m l) s = if s = m.1 then m.2 else getM l s
  | [] => by simp only [setR, getM]; by_cases h : s = m.1 <;> simp [h, eq_comm]
  | x :: r => by
    unfold setR
    split
    · rename_i hx
      have hne : x.1 ≠ m.1 := asc_ne hx
      simp only [getM, setR_get (m := m) s (l := r)]
      by_cases h : s = m.1
      · subst h; rw [if_neg hne, if_pos rfl, if_pos rfl]
      · rw [if_neg h, if_neg h]
    · by_cases h : s = m.1
      · subst h; simp [getM]
      · rw [if_neg h]
        simp only [getM]
        rw [if_neg (fun e => h e.symm), getM_filter h]
        simp only [getM]
theorem setR_sorted {m : ByteArray × Int} (hm : 1 ≤ m.2) : ∀ {l : List (ByteArray × Int)}, Sorted l → Sorted (setR m l)
  | [], _ => ⟨by simp [setR], by simp [setR]; exact hm⟩
  | x :: r, h => by
    unfold setR
    split
    · rename_i hx
      have ih := setR_sorted hm (sorted_tail h)
      refine ⟨List.pairwise_cons.2 ⟨fun y hy => ?_, ih.1⟩, fun y hy => ?_⟩
      · rcases setR_mem hy with rfl | hy
        · exact hx
        · exact sorted_above h hy
      · rcases List.mem_cons.1 hy with rfl | hy
        · exact sorted_head h
        · exact ih.2 y hy
    · rename_i hx
      refine ⟨List.pairwise_cons.2 ⟨fun y hy => ?_, List.Pairwise.filter _ h.1⟩, fun y hy => ?_⟩
      · have hmem := (List.mem_filter.1 hy).1
        have hne : y.1 ≠ m.1 := by simpa using (List.mem_filter.1 hy).2
        by_cases hA : Asc m.1 y.1
        · exact hA
        · have : ¬ Asc y.1 m.1 := fun k => by
            rcases List.mem_cons.1 hmem with rfl | hr
            · exact hx k
            · exact hx (asc_trans (sorted_above h hr) k)
          exact absurd (asc_tri this hA) hne
      · rcases List.mem_cons.1 hy with rfl | hy
        · exact hm
        · exact h.2 y (List.mem_filter.1 hy).1

theorem take_low {b : List (ByteArray × Int)} (h : Sorted b) {j : Nat} (hj : j < b.length) : ∀ x ∈ b.take j, Asc x.1 b[j].1 := fun x hx => by
  have hp := h.1
  rw [← List.take_append_drop j b, List.pairwise_append] at hp
  exact hp.2.2 x hx b[j] (List.mem_iff_getElem.2 ⟨0, by simp; omega, by simp⟩)
/-- Getting from a stamp's beginning. -/
theorem getM_take {b : List (ByteArray × Int)} (h : Sorted b) {j : Nat} (hj : j < b.length) (s : ByteArray) : getM (b.take (j + 1)) s = if s = b[j].1 then b[j].2 else getM (b.take j) s := by
  rw [List.take_succ_eq_append_getElem hj]
  rw [← setR_snoc (take_low h hj), setR_get]
theorem getM_take_new {b : List (ByteArray × Int)} (h : Sorted b) {j : Nat} (hj : j < b.length) : getM (b.take j) b[j].1 = 0 :=
  getM_not_mem fun m hm => asc_ne (take_low h hj m hm)

/-- 'o' is the join of both. -/
def JoinOf (a b o : List (ByteArray × Int)) : Prop := Sorted o ∧ ∀ s, getM o s = max (getM a s) (getM b s)
theorem joinOf_start {a b : List (ByteArray × Int)} (ha : Sorted a) : JoinOf a (b.take 0) a := ⟨ha, fun s => by
  have := getM_nonneg (s := s) ha
  have e : getM (b.take 0) s = 0 := by simp [getM]
  rw [e]; omega⟩
theorem joinOf_set {a b o : List (ByteArray × Int)} (hb : Sorted b) {j : Nat} (hj : j < b.length) (h : JoinOf a (b.take j) o) (hlt : getM o b[j].1 < b[j].2) : JoinOf a (b.take (j + 1)) (setR b[j] o) := by
  refine ⟨setR_sorted (hb.2 _ (List.getElem_mem hj)) h.1, fun s => ?_⟩
  have h1 := h.2 s
  rw [setR_get, getM_take hb hj]
  by_cases e : s = b[j].1
  · subst e
    rw [if_pos rfl, if_pos rfl]
    rw [getM_take_new hb hj] at h1
    omega
  · rw [if_neg e, if_neg e]; exact h1
theorem joinOf_keep {a b o : List (ByteArray × Int)} (hb : Sorted b) {j : Nat} (hj : j < b.length) (h : JoinOf a (b.take j) o) (hlt : ¬ getM o b[j].1 < b[j].2) : JoinOf a (b.take (j + 1)) o := by
  refine ⟨h.1, fun s => ?_⟩
  have h1 := h.2 s
  have h2 := hb.2 _ (List.getElem_mem hj)
  rw [getM_take hb hj]
  by_cases e : s = b[j].1
  · subst e
    rw [if_pos rfl]
    rw [getM_take_new hb hj] at h1
    omega
  · rw [if_neg e]; exact h1

/-- What StampJoin answers: the marks and whether. -/
def IsJ (a b m : List (ByteArray × Int)) (ok : Bool) : Prop :=
  (¬ (StampP a ∧ StampP b) ∧ m = [] ∧ ok = false) ∨ (StampP a ∧ StampP b ∧ ∃ o, JoinOf a b o ∧ ((o.length ≤ 12 ∧ m = o ∧ ok = true) ∨ (12 < o.length ∧ m = [] ∧ ok = false)))
theorem IsJ.one {a b m m' : List (ByteArray × Int)} {ok ok' : Bool} (h : IsJ a b m ok) (k : IsJ a b m' ok') : m = m' ∧ ok = ok' := by
  rcases h with ⟨h1, rfl, rfl⟩ | ⟨h1, h2, o, ⟨h3, h4⟩, h5⟩
  · rcases k with ⟨_, rfl, rfl⟩ | ⟨k1, k2, _⟩
    · exact ⟨rfl, rfl⟩
    · exact absurd ⟨k1, k2⟩ h1
  · rcases k with ⟨k1, _, _⟩ | ⟨k1, k2, o', ⟨k3, k4⟩, k5⟩
    · exact absurd ⟨h1, h2⟩ k1
    · obtain rfl : o = o' := sorted_ext h3 k3 fun s => by rw [h4, k4]
      rcases h5 with ⟨e1, rfl, rfl⟩ | ⟨e1, rfl, rfl⟩ <;> rcases k5 with ⟨e2, rfl, rfl⟩ | ⟨e2, rfl, rfl⟩
      · exact ⟨rfl, rfl⟩
      · omega
      · omega
      · exact ⟨rfl, rfl⟩
theorem IsJ.small {a b m : List (ByteArray × Int)} {ok : Bool} (h : IsJ a b m ok) : m.length ≤ 12 := by
  rcases h with ⟨_, rfl, _⟩ | ⟨_, _, o, _, ⟨h, rfl, _⟩ | ⟨_, rfl, _⟩⟩
  · simp
  · exact h
  · simp

theorem laterM_name {p : (ByteArray × Int) × (ByteArray × Int)} (h : p.1.1 = p.2.1) : (laterM p.1 p.2).1 = p.1.1 := by
  unfold laterM
  split
  · exact h.symm
  · rfl
theorem laterM_ver (p : (ByteArray × Int) × (ByteArray × Int)) : (laterM p.1 p.2).2 = max p.1.2 p.2.2 := by
  unfold laterM
  split <;> omega
theorem joinP_of {a b : List (ByteArray × Int)} {P : List ((ByteArray × Int) × (ByteArray × Int))} (ha : Sorted a) (hb : Sorted b) (hP : PSpec a b P) : JoinOf a b (joinP P) := by
  have hn : ∀ p ∈ P, p.1.1 = p.2.1 := fun p hp => by
    obtain ⟨_, e2, _⟩ := hP.mem p hp
    rw [e2]
  have hsort : Sorted (joinP P) := by
    refine ⟨?_, fun m hm => ?_⟩
    · unfold joinP
      rw [List.pairwise_map]
      exact hP.asc.imp_of_mem fun {p q} hp hq h => by rw [laterM_name (hn p hp), laterM_name (hn q hq)]; exact h
    · obtain ⟨p, hp, rfl⟩ := List.mem_map.1 hm
      rw [laterM_ver]
      have := (hP.mem p hp).2.2
      omega
  refine ⟨hsort, fun s => ?_⟩
  have na := getM_nonneg (s := s) ha
  have nb := getM_nonneg (s := s) hb
  by_cases h : 0 < getM a s ∨ 0 < getM b s
  · obtain ⟨p, hp, rfl⟩ := hP.all s h
    have hm : laterM p.1 p.2 ∈ joinP P := List.mem_map.2 ⟨p, hp, rfl⟩
    have e := getM_mem hsort hm
    rw [laterM_name (hn p hp), laterM_ver] at e
    rw [e]
    obtain ⟨e1, e2, _⟩ := hP.mem p hp
    have f1 : p.1.2 = getM a p.1.1 := by rw [e1]
    have f2 : p.2.2 = getM b p.1.1 := by rw [e2]
    rw [f1, f2]
  · rw [getM_not_mem]
    · omega
    · intro m hm e
      obtain ⟨p, hp, rfl⟩ := List.mem_map.1 hm
      rw [laterM_name (hn p hp)] at e
      obtain ⟨e1, e2, e3⟩ := hP.mem p hp
      have f1 : p.1.2 = getM a p.1.1 := by rw [e1]
      have f2 : p.2.2 = getM b p.1.1 := by rw [e2]
      rw [f1, f2, e] at e3
      exact h e3

end Go.Proofs.Ytlhdjbepjfojbaa
/- Walks: isDigit, isNameByte, nameOk, l1Name: which texts are names. -/
namespace Go.Proofs.Ytlhdjbepjfojbaa
open Go.RowKit

/-- The call answered the bool that says whether 'p'. -/
def IsB (p : Prop) (e : Ending) : Prop := ∃ r : Bool, e = .returned (.bool r) ∧ (r = true ↔ p)
theorem isB_true {p : Prop} (h : p) : IsB p (.returned (.bool true)) := ⟨true, rfl, by simp [h]⟩
theorem isB_false {p : Prop} (h : ¬ p) : IsB p (.returned (.bool false)) := ⟨false, rfl, by simp [h]⟩

set_option maxHeartbeats 400000 in
theorem isDigit_any (c : Int) (w : World) :
    Calls Try.prog 84 #[.int .u8 c] w fun e w' => IsB (48 ≤ c ∧ c ≤ 57) e ∧ w' = w := by
  go_enter Try.func84, Try.ntmps84
  go_wp2
  all_goals go_ret
  all_goals refine ⟨⟨_, rfl, ?_⟩, rfl⟩
  all_goals simp
  all_goals omega

set_option maxHeartbeats 400000 in
theorem isNameByte_any (c : Int) (w : World) :
    Calls Try.prog 83 #[.int .u8 c] w fun e w' => IsB (NB c) e ∧ w' = w := by
  go_enter Try.func83, Try.ntmps83
  go_wp2_with (first | (go_at_call 84; refine (isDigit_any _ _).mono ?_; rintro e w' ⟨⟨r, rfl, hr⟩, rfl⟩))
  all_goals go_ret
  all_goals refine ⟨⟨_, rfl, ?_⟩, rfl⟩
  all_goals simp only [NB, Bool.or_eq_true, decide_eq_true_eq, beq_iff_eq, *]
  all_goals first | omega | (simp; done) | (simp; omega)

theorem nb_step {s : ByteArray} {k : Nat} (H : ∀ j, (h : j < s.size) → j < k → NB (s[j].toNat : Int)) (hk : k < s.size) (h : NB (s[k].toNat : Int)) : ∀ j, (h : j < s.size) → j < k + 1 → NB (s[j].toNat : Int) := fun j hj hlt => by
  by_cases e : j = k
  · subst e; exact h
  · exact H j hj (by omega)

set_option maxHeartbeats 400000 in
theorem nameOk_any (s : ByteArray) (w : World) (hs : s.size ≤ maxLen) :
    Calls Try.prog 75 #[.string s] w fun e w' => IsB (NameP s) e ∧ w' = w := by
  unfold maxLen at hs
  by_cases h1 : s.size < 1
  · go_enter Try.func75, Try.ntmps75
    go_wp2_with fail
    go_ret
    exact ⟨isB_false (fun h => by have := h.1; omega), rfl⟩
  by_cases h8 : 8 < s.size
  · go_enter Try.func75, Try.ntmps75
    go_wp2_with fail
    go_ret
    exact ⟨isB_false (fun h => by have := h.2.1; omega), rfl⟩
  go_enter Try.func75, Try.ntmps75
  go_wp2_with fail
  go_loop [14] (fun i => ∃ k : Nat, k ≤ s.size ∧ i = .int .i64 k ∧ (∀ j, (h : j < s.size) → j < k → NB (s[j].toNat : Int))) (fun i => s.size - (intOf i).toNat)
  case atStart => exact ⟨0, Nat.zero_le _, rfl, fun j _ h => by omega⟩
  case round =>
    obtain ⟨k, hk, rfl, hall⟩ := hrel
    by_cases hlt : k < s.size
    · have HST := nb_step hall hlt
      go_wp2_with (first | (go_at_call 83; refine (isNameByte_any _ _).mono ?_; rintro e w' ⟨⟨r, rfl, hr⟩, rfl⟩))
      · go_ret
        exact ⟨isB_false (fun h => by have := hr.2 (h.2.2 k hlt); simp_all), rfl⟩
      · exact ⟨⟨k + 1, by omega, by go_num, HST (hr.1 (by simp_all))⟩, by simp [intOf]; omega⟩
    · go_wp2_with fail
      go_ret
      exact ⟨isB_true ⟨by omega, by omega, fun j hj => hall j hj (by omega)⟩, rfl⟩

theorem byte_le (s : ByteArray) (k : Nat) (h : k < s.size) : (s[k].toNat : Int) ≤ 255 := by
  have := s[k].toNat_lt
  omega

set_option maxHeartbeats 400000 in
theorem l1Name_any (s : ByteArray) (w : World) (hs : s.size ≤ maxLen) :
    Calls Try.prog 47 #[.string s] w fun e w' => IsB (NameP s) e ∧ w' = w := by
  unfold maxLen at hs
  by_cases h1 : s.size < 1
  · go_enter Try.func47, Try.ntmps47
    go_wp2_with fail
    go_ret
    exact ⟨isB_false (fun h => by have := h.1; omega), rfl⟩
  by_cases h8 : 8 < s.size
  · go_enter Try.func47, Try.ntmps47
    go_wp2_with fail
    go_ret
    exact ⟨isB_false (fun h => by have := h.2.1; omega), rfl⟩
  go_enter Try.func47, Try.ntmps47
  go_wp2_with fail
  go_loop [3] (fun i => ∃ k : Nat, k ≤ s.size ∧ i = .int .i64 k ∧ (∀ j, (h : j < s.size) → j < k → NB (s[j].toNat : Int))) (fun i => s.size - (intOf i).toNat)
  case atStart => exact ⟨0, Nat.zero_le _, rfl, fun j _ h => by omega⟩
  case round =>
    obtain ⟨k, hk, rfl, hall⟩ := hrel
    by_cases hlt : k < s.size
    · have HST := nb_step hall hlt
      have hby := byte_le s k hlt
      by_cases hnb : NB (s[k].toNat : Int)
      · have hgo : NB (s[k].toNat : Int) := hnb
        unfold NB at hgo
        have HN := HST hnb
        clear HST hnb hall
        go_wp2_with fail
        all_goals exact ⟨⟨k + 1, by omega, by go_num, HN⟩, by simp [intOf]; omega⟩
      · have hgo := hnb
        unfold NB at hgo
        have hne : ((s[k].toNat : Int) != 45) = true := by rw [bne_iff_ne]; omega
        clear HST hall
        go_wp2_with fail
        all_goals first | (go_ret; exact ⟨isB_false (fun h => hnb (h.2.2 k hlt)), rfl⟩) | (exfalso; simp only [hne, Bool.true_eq_false, or_false] at *; omega)
    · go_wp2_with fail
      go_ret
      exact ⟨isB_true ⟨by omega, by omega, fun j hj => hall j hj (by omega)⟩, rfl⟩

end Go.Proofs.Ytlhdjbepjfojbaa
/- Walks: Mark.ok, spec.StampOk: which marks are a stamp. -/
namespace Go.Proofs.Ytlhdjbepjfojbaa
open Go.RowKit

set_option maxHeartbeats 400000 in
theorem ok_any (s : ByteArray) (v : Int) (w : World) (hs : s.size ≤ maxLen) :
    Calls Try.prog 51 #[.agg #[.string s, .int .i64 v]] w fun e w' => IsB (MarkP (s, v)) e ∧ Below w.heap.size w w' := by
  go_enter Try.func51, Try.ntmps51
  go_wp2_with (first | (go_at_call 75; refine (nameOk_any _ _ hs).mono ?_; rintro e w' ⟨⟨r, rfl, hr⟩, rfl⟩; have HR : Hid (r = true ↔ NameP s) := hr; clear hr))
  all_goals go_ret
  all_goals refine ⟨⟨_, rfl, ?_⟩, (Below.refl _ _).alloc (Nat.le_refl _) _⟩
  all_goals have HR' := HR.out
  · simp only [MarkP, decide_eq_true_eq]
    exact ⟨fun h => ⟨HR'.1 ‹_›, ‹_›, h⟩, fun h => h.2.2⟩
  · exact ⟨fun h => (by cases h), fun h => by have := h.2.1; simp only at this; omega⟩
  · exact ⟨fun h => (by cases h), fun h => absurd (HR'.2 h.1) ‹_›⟩

set_option maxHeartbeats 800000 in
theorem specStampOk_any (a : Option Addr) (cap : Nat) (l : List (ByteArray × Int)) (w : World) (hl : l.length ≤ maxLen) (hr : Row w a l) (hs : ∀ j, (h : j < l.length) → l[j].1.size ≤ maxLen) :
    Calls Try.prog 17 #[.slice a l.length cap] w fun e w' => IsB (StampP l) e ∧ ∃ n, w' = w.drewN n := by
  unfold maxLen at hl
  by_cases h12 : 12 < l.length
  · go_enter Try.func17, Try.ntmps17
    go_wp2_with fail
    go_ret
    exact ⟨isB_false (fun h => by have := h.1; omega), 0, rfl⟩
  go_enter Try.func17, Try.ntmps17
  go_wp2_with fail
  go_loopw [3] (fun i wr => ∃ k : Nat, k ≤ l.length ∧ i = .int .i64 k ∧ StampTo l k ∧ ∃ n, wr = w.drewN n) (fun i _ => l.length - (intOf i).toNat)
  case atStart => exact ⟨0, Nat.zero_le _, rfl, stampTo_zero l, 0, rfl⟩
  case round =>
    obtain ⟨k, hk, rfl, hall, nd, rfl⟩ := hrel
    by_cases hlt : k < l.length
    · obtain ⟨b, o, rfl, hblt, c0, c1⟩ := hr k hlt
      have HS := hs k hlt
      have HST := stampTo_step hall hlt
      by_cases hk0 : k < 1
      · have hd : decide (0 < k) = false := by simp; omega
        go_wp2_with (first | (go_at_call 47; refine (l1Name_any _ _ HS).mono ?_; rintro e w' ⟨⟨r, rfl, hr⟩, rfl⟩; have HR : Hid (r = true ↔ NameP l[k].1) := hr; clear hr))
        · go_ret
          exact ⟨isB_false (fun h => by have := (h.2.1 k hlt).2; omega), nd, rfl⟩
        · go_quiet (fail)
          go_wp2_with fail
          exact ⟨⟨k + 1, by omega, by go_num, HST ⟨HR.out.1 ‹_›, ‹_›⟩ (fun h => by omega), _, rfl⟩, by simp [intOf]; omega⟩
        · go_ret
          exact ⟨isB_false (fun h => by have := (h.2.1 k hlt).2; omega), nd, rfl⟩
        · go_ret
          exact ⟨isB_false (fun h => absurd (HR.out.2 (h.2.1 k hlt).1) ‹_›), nd, rfl⟩
      · obtain ⟨b', o', he, _, d0, _⟩ := hr (k - 1) (by omega)
        obtain ⟨rfl, rfl⟩ : b' = b ∧ o' = o := by simp at he; exact ⟨he.1.symm, he.2.symm⟩
        have hd : decide (0 < k) = true := by simp; omega
        go_wp2_with (first | (go_at_call 47; refine (l1Name_any _ _ HS).mono ?_; rintro e w' ⟨⟨r, rfl, hr⟩, rfl⟩; have HR : Hid (r = true ↔ NameP l[k].1) := hr; clear hr))
        · go_ret
          exact ⟨isB_false (fun h => by have := (h.2.1 k hlt).2; omega), nd, rfl⟩
        · go_quiet (fail)
          go_wp2_with fail
          · go_ret
            exact ⟨isB_false (fun h => by have := asc_at h hk0 hlt; unfold Asc at this; simp_all), nd + nq, by simp⟩
          · exact ⟨⟨k + 1, by omega, by go_num, HST ⟨HR.out.1 ‹_›, ‹_›⟩ (fun _ => by unfold Asc; simp_all), _, rfl⟩, by simp [intOf]; omega⟩
        · go_ret
          exact ⟨isB_false (fun h => by have := (h.2.1 k hlt).2; omega), nd, rfl⟩
        · go_ret
          exact ⟨isB_false (fun h => absurd (HR.out.2 (h.2.1 k hlt).1) ‹_›), nd, rfl⟩
    · go_wp2_with fail
      go_ret
      exact ⟨isB_true (stampP_of hall hlt (by omega)), nd, rfl⟩

theorem specOk_b (a : Option Addr) (cap : Nat) (l : List (ByteArray × Int)) (w : World) (hl : l.length ≤ maxLen) (hr : Row w a l) (hs : ∀ j, (h : j < l.length) → l[j].1.size ≤ maxLen) :
    Calls Try.prog 17 #[.slice a l.length cap] w fun e w' => IsB (StampP l) e ∧ Below w.heap.size w w' :=
  (specStampOk_any a cap l w hl hr hs).mono fun _ _ ⟨h, n, hw⟩ => ⟨h, by rw [hw]; exact below_drewN (Below.refl _ _) n⟩

end Go.Proofs.Ytlhdjbepjfojbaa
/- Walks: spec.l1Set, spec.StampJoin. -/
namespace Go.Proofs.Ytlhdjbepjfojbaa
open Go.RowKit Go.BigFrame

theorem setT_true_eq {m : ByteArray × Int} {o R l : List (ByteArray × Int)} {k : Nat} (hk : k < l.length) (h : o ++ setT m true (l.drop k) = R) (e : l[k].1 = m.1) : o ++ setT m true (l.drop (k + 1)) = R := by
  rw [List.drop_eq_getElem_cons hk] at h
  simp only [setT, if_true] at h ⊢
  rwa [List.filter_cons_of_neg (by simp [e])] at h
theorem setT_true_ne {m : ByteArray × Int} {o R l : List (ByteArray × Int)} {k : Nat} (hk : k < l.length) (h : o ++ setT m true (l.drop k) = R) (e : l[k].1 ≠ m.1) : (o ++ [(l[k].1, l[k].2)]) ++ setT m true (l.drop (k + 1)) = R := by
  rw [List.drop_eq_getElem_cons hk] at h
  simp only [setT, if_true] at h ⊢
  rw [List.filter_cons_of_pos (by simp [e])] at h
  rw [← h]; simp
theorem le_of_not {x m : ByteArray} (h : Op.bytesLess x.toList m.toList = false) : (Op.bytesLess m.toList x.toList || m.toList == x.toList) = true := by
  by_cases k : Op.bytesLess m.toList x.toList = true
  · simp [k]
  · have e := bl_tri (Bool.not_eq_true _ ▸ k) h
    simp [e]
theorem setT_lt {m : ByteArray × Int} {o R l : List (ByteArray × Int)} {k : Nat} (hk : k < l.length) (h : o ++ setT m false (l.drop k) = R) (e : Op.bytesLess l[k].1.toList m.1.toList = true) : (o ++ [(l[k].1, l[k].2)]) ++ setT m false (l.drop (k + 1)) = R := by
  rw [List.drop_eq_getElem_cons hk] at h
  simp only [setT, setR, e, if_true, Bool.false_eq_true, if_false] at h ⊢
  rw [← h]; simp
theorem setT_put {m : ByteArray × Int} {o R l : List (ByteArray × Int)} {k : Nat} (hk : k < l.length) (h : o ++ setT m false (l.drop k) = R) (e : Op.bytesLess l[k].1.toList m.1.toList = false) : (o ++ [(m.1, m.2)]) ++ setT m true (l.drop k) = R := by
  rw [List.drop_eq_getElem_cons hk] at h ⊢
  simp only [setT, setR, e, if_true, Bool.false_eq_true, if_false] at h ⊢
  rw [← h]; simp
theorem setT_end {m : ByteArray × Int} {o R l : List (ByteArray × Int)} {k : Nat} (hk : ¬ k < l.length) (h : o ++ setT m false (l.drop k) = R) : o ++ [(m.1, m.2)] = R := by
  rw [List.drop_of_length_le (by omega)] at h
  simpa [setT, setR] using h
theorem setT_end' {m : ByteArray × Int} {o R l : List (ByteArray × Int)} {k : Nat} (hk : ¬ k < l.length) (h : o ++ setT m true (l.drop k) = R) : o = R := by
  rw [List.drop_of_length_le (by omega)] at h
  simpa [setT] using h
theorem pre_len {o t R : List (ByteArray × Int)} (h : o ++ t = R) : o.length ≤ R.length := by rw [← h]; simp
/-- A world behind another by draws alone, named. -/
theorem drewN_named {W1 wr : World} {B B' n : Nat} {v : Value} {o : List (ByteArray × Int)} (hb : Below B W1 wr) (hg : Gath wr B' v o) : ∃ v1, wr.drewN n = v1 ∧ Below B W1 v1 ∧ Gath v1 B' v o := ⟨_, rfl, below_drewN hb n, hg⟩

set_option maxHeartbeats 3200000 in
theorem l1Set_any (a : Option Addr) (cap : Nat) (l : List (ByteArray × Int)) (m : ByteArray × Int) (w : World) (hl : l.length ≤ 1048576) (hr : Row w a l) :
    Calls Try.prog 43 #[.slice a l.length cap, .agg #[.string m.1, .int .i64 m.2]] w fun e w' => (∃ v, e = .returned v ∧ Gath w' w.heap.size v (setR m l)) ∧ Below w.heap.size w w' := by
  obtain ⟨i0, hi, hz0, hz1, hz2⟩ := info_parts Try.infoM
  have hRl := setR_length (m := m) (l := l)
  go_enter Try.func43, Try.ntmps43
  go_wp2_with fail
  have b0 := box0 w (.string m.1) (.int .i64 m.2) 65
  have b1 := box1 w (.string m.1) (.int .i64 m.2) 65
  have hbx := box_lt w (.cells #[.string m.1, .int .i64 m.2] 65)
  have hba : Below w.heap.size w (w.alloc (.cells #[.string m.1, .int .i64 m.2] 65)) := (Below.refl _ _).alloc (Nat.le_refl _) _
  have hra := hr.below hba
  generalize (w.alloc (.cells #[.string m.1, .int .i64 m.2] 65)) = W1 at *
  go_loopw [5, 6, 7] (fun out put i wr => ∃ k : Nat, k ≤ l.length ∧ i = .int .i64 k ∧ ∃ (o : List (ByteArray × Int)) (p : Bool), Gath wr W1.heap.size out o ∧ put = .bool p ∧ o ++ setT m p (l.drop k) = setR m l ∧ Below W1.heap.size W1 wr) (fun _ _ i _ => l.length - (intOf i).toNat)
  case atStart => exact ⟨0, Nat.zero_le _, rfl, [], false, Gath.none _ _, rfl, by simp [setT], Below.refl _ _⟩
  case round =>
    obtain ⟨k, hk, rfl, o, p, hg, rfl, hinv, hb⟩ := hrel
    have holen := pre_len hinv
    by_cases hlt : k < l.length
    · obtain ⟨b, ob, rfl, hblt, c0, c1⟩ := hra k hlt
      have x0 := cell_on hb hbx b0
      have x1 := cell_on hb hbx b1
      have e0 := cell_on hb hblt c0
      have e1 := cell_on hb hblt c1
      cases p
      · by_cases hA : Op.bytesLess l[k].1.toList m.1.toList = true
        · have hb' : (l[k].1.toList == m.1.toList) = false := toList_bne.2 (asc_ne hA)
          have HI : Hid _ := setT_lt hlt hinv hA
          have hb1' : Op.bytesLess m.1.toList l[k].1.toList = false := by simpa [Asc] using asc_not hA
          have hb2' : (m.1.toList == l[k].1.toList) = false := toList_bne.2 (Ne.symm (asc_ne hA))
          go_wp2_with fail
          go_quiet (fail)
          obtain ⟨u1, hvv, hb8, hg8⟩ := drewN_named (n := nq) hb hg
          rw [hvv]
          clear hvv
          have x0 := cell_on hb8 hbx b0
          have x1 := cell_on hb8 hbx b1
          have e0 := cell_on hb8 hblt c0
          have e1 := cell_on hb8 hblt c1
          have zz := hb8.size
          go_wp2_with fail
          go_quiet (fail)
          obtain ⟨u2, hvv, hb9, hg9⟩ := drewN_named (n := nq) hb8 hg8
          rw [hvv]
          clear hvv
          have x0 := cell_on hb9 hbx b0
          have x1 := cell_on hb9 hbx b1
          have e0 := cell_on hb9 hblt c0
          have e1 := cell_on hb9 hblt c1
          have zz := hb9.size
          go_wp2_with (at_builtin; refine wpList_append_lies _ rfl _ _ 23 rfl W1.heap.size 65 i0 (.agg #[.string .empty, .int .i64 0]) 2 24 Try.underlying23 hi hz0 hz1 hz2 rfl (by decide) _ _ _ rfl (hg9.alloc _) ⟨u2.heap.size, 0, none⟩ 1 1 [.string l[k].1, .int .i64 l[k].2] rfl rfl (two_new u2 _ _ _) (by simp [Value.oneCell']) (by decide) (by unfold maxLen; first | omega | (simp only [List.length_append, List.length_cons, List.length_nil]; omega)) (by first | omega | (simp only [List.length_append, List.length_cons, List.length_nil]; omega)) (by simp; omega) _ rfl ?_; intro g' cap' wx hown' hgrow _ _)
          have hb10 := Gath.grown (W := W1) (B := W1.heap.size) (w := u2.alloc (.cells #[.string l[k].1, .int .i64 l[k].2] 65)) (hg9.alloc _) (hb9.alloc hb9.size _) (by simp; omega) hgrow
          have hg10 := Gath.snoc hown'
          exact ⟨⟨k + 1, by omega, by go_num, _, _, (by first | exact hg10 | (have q := hg10; simp only [List.length_append, List.length_cons, List.length_nil, Nat.zero_add] at q; exact q)), rfl, HI.out, hb10⟩, by simp [intOf]; omega⟩
        · have hA : Op.bytesLess l[k].1.toList m.1.toList = false := by simpa using hA
          have hput := setT_put hlt hinv hA
          have hle' := le_of_not hA
          have HPL := pre_len hput
          simp only [List.length_append, List.length_cons, List.length_nil] at HPL
          go_wp2_with fail
          go_quiet (fail)
          obtain ⟨u1, hvv, hb8, hg8⟩ := drewN_named (n := nq) hb hg
          rw [hvv]
          clear hvv
          have x0 := cell_on hb8 hbx b0
          have x1 := cell_on hb8 hbx b1
          have e0 := cell_on hb8 hblt c0
          have e1 := cell_on hb8 hblt c1
          have zz := hb8.size
          go_wp2_with (at_builtin; refine wpList_append_lies _ rfl _ _ 23 rfl W1.heap.size 65 i0 (.agg #[.string .empty, .int .i64 0]) 2 24 Try.underlying23 hi hz0 hz1 hz2 rfl (by decide) _ _ _ rfl (hg8.alloc _) ⟨u1.heap.size, 0, none⟩ 1 1 [.string m.1, .int .i64 m.2] rfl rfl (two_new u1 _ _ _) (by simp [Value.oneCell']) (by decide) (by unfold maxLen; first | omega | (simp only [List.length_append, List.length_cons, List.length_nil]; omega)) (by first | omega | (simp only [List.length_append, List.length_cons, List.length_nil]; omega)) (by simp; omega) _ rfl ?_; intro g' cap' wx hown' hgrow _ _)
          have hb7 := Gath.grown (W := W1) (B := W1.heap.size) (w := u1.alloc (.cells #[.string m.1, .int .i64 m.2] 65)) (hg8.alloc _) (hb8.alloc hb8.size _) (by simp; omega) hgrow
          have hg7 := Gath.snoc hown'
          clear x0 x1 e0 e1
          have x0 := cell_on hb7 hbx b0
          have x1 := cell_on hb7 hbx b1
          have e0 := cell_on hb7 hblt c0
          have e1 := cell_on hb7 hblt c1
          by_cases he : l[k].1 = m.1
          · have hb' : (l[k].1.toList == m.1.toList) = true := toList_beq.2 he
            have HI : Hid _ := setT_true_eq hlt hput he
            clear he
            go_wp2_with fail
            go_quiet (fail)
            obtain ⟨u2, hvv, hb9, hg9⟩ := drewN_named (n := nq) hb7 hg7
            rw [hvv]
            clear hvv
            have x0 := cell_on hb9 hbx b0
            have x1 := cell_on hb9 hbx b1
            have e0 := cell_on hb9 hblt c0
            have e1 := cell_on hb9 hblt c1
            have zz := hb9.size
            go_wp2_with fail
            exact ⟨⟨k + 1, by omega, by go_num, _, _, hg9, rfl, HI.out, hb9⟩, by simp [intOf]; omega⟩
          · have hb' : (l[k].1.toList == m.1.toList) = false := toList_bne.2 he
            have HI : Hid _ := setT_true_ne hlt hput he
            clear he
            go_wp2_with fail
            go_quiet (fail)
            obtain ⟨u2, hvv, hb9, hg9⟩ := drewN_named (n := nq) hb7 hg7
            rw [hvv]
            clear hvv
            have x0 := cell_on hb9 hbx b0
            have x1 := cell_on hb9 hbx b1
            have e0 := cell_on hb9 hblt c0
            have e1 := cell_on hb9 hblt c1
            have zz := hb9.size
            go_wp2_with (at_builtin; refine wpList_append_lies _ rfl _ _ 23 rfl W1.heap.size 65 i0 (.agg #[.string .empty, .int .i64 0]) 2 24 Try.underlying23 hi hz0 hz1 hz2 rfl (by decide) _ _ _ rfl (hg9.alloc _) ⟨u2.heap.size, 0, none⟩ 1 1 [.string l[k].1, .int .i64 l[k].2] rfl rfl (two_new u2 _ _ _) (by simp [Value.oneCell']) (by decide) (by unfold maxLen; first | omega | (simp only [List.length_append, List.length_cons, List.length_nil]; omega)) (by first | omega | (simp only [List.length_append, List.length_cons, List.length_nil]; omega)) (by simp; omega) _ rfl ?_; intro g' cap' wx hown' hgrow _ _)
            have hb10 := Gath.grown (W := W1) (B := W1.heap.size) (w := u2.alloc (.cells #[.string l[k].1, .int .i64 l[k].2] 65)) (hg9.alloc _) (hb9.alloc hb9.size _) (by simp; omega) hgrow
            have hg10 := Gath.snoc hown'
            exact ⟨⟨k + 1, by omega, by go_num, _, _, (by first | exact hg10 | (have q := hg10; simp only [List.length_append, List.length_cons, List.length_nil, Nat.zero_add] at q; exact q)), rfl, HI.out, hb10⟩, by simp [intOf]; omega⟩
      · go_wp2_with fail
        go_quiet (fail)
        obtain ⟨u1, hvv, hb8, hg8⟩ := drewN_named (n := nq) hb hg
        rw [hvv]
        clear hvv
        have x0 := cell_on hb8 hbx b0
        have x1 := cell_on hb8 hbx b1
        have e0 := cell_on hb8 hblt c0
        have e1 := cell_on hb8 hblt c1
        have zz := hb8.size
        by_cases he : l[k].1 = m.1
        · have hb' : (l[k].1.toList == m.1.toList) = true := toList_beq.2 he
          have HI : Hid _ := setT_true_eq hlt hinv he
          clear he
          go_wp2_with fail
          go_quiet (fail)
          obtain ⟨u2, hvv, hb9, hg9⟩ := drewN_named (n := nq) hb8 hg8
          rw [hvv]
          clear hvv
          have x0 := cell_on hb9 hbx b0
          have x1 := cell_on hb9 hbx b1
          have e0 := cell_on hb9 hblt c0
          have e1 := cell_on hb9 hblt c1
          have zz := hb9.size
          go_wp2_with fail
          exact ⟨⟨k + 1, by omega, by go_num, _, _, hg9, rfl, HI.out, hb9⟩, by simp [intOf]; omega⟩
        · have hb' : (l[k].1.toList == m.1.toList) = false := toList_bne.2 he
          have HI : Hid _ := setT_true_ne hlt hinv he
          clear he
          go_wp2_with fail
          go_quiet (fail)
          obtain ⟨u2, hvv, hb9, hg9⟩ := drewN_named (n := nq) hb8 hg8
          rw [hvv]
          clear hvv
          have x0 := cell_on hb9 hbx b0
          have x1 := cell_on hb9 hbx b1
          have e0 := cell_on hb9 hblt c0
          have e1 := cell_on hb9 hblt c1
          have zz := hb9.size
          go_wp2_with (at_builtin; refine wpList_append_lies _ rfl _ _ 23 rfl W1.heap.size 65 i0 (.agg #[.string .empty, .int .i64 0]) 2 24 Try.underlying23 hi hz0 hz1 hz2 rfl (by decide) _ _ _ rfl (hg9.alloc _) ⟨u2.heap.size, 0, none⟩ 1 1 [.string l[k].1, .int .i64 l[k].2] rfl rfl (two_new u2 _ _ _) (by simp [Value.oneCell']) (by decide) (by unfold maxLen; first | omega | (simp only [List.length_append, List.length_cons, List.length_nil]; omega)) (by first | omega | (simp only [List.length_append, List.length_cons, List.length_nil]; omega)) (by simp; omega) _ rfl ?_; intro g' cap' wx hown' hgrow _ _)
          have hb10 := Gath.grown (W := W1) (B := W1.heap.size) (w := u2.alloc (.cells #[.string l[k].1, .int .i64 l[k].2] 65)) (hg9.alloc _) (hb9.alloc hb9.size _) (by simp; omega) hgrow
          have hg10 := Gath.snoc hown'
          exact ⟨⟨k + 1, by omega, by go_num, _, _, (by first | exact hg10 | (have q := hg10; simp only [List.length_append, List.length_cons, List.length_nil, Nat.zero_add] at q; exact q)), rfl, HI.out, hb10⟩, by simp [intOf]; omega⟩
    · cases p
      · have HE : Hid _ := setT_end hlt hinv
        have x0 := cell_on hb hbx b0
        have x1 := cell_on hb hbx b1
        have zz := hb.size
        go_wp2_with (at_builtin; refine wpList_append_lies _ rfl _ _ 23 rfl W1.heap.size 65 i0 (.agg #[.string .empty, .int .i64 0]) 2 24 Try.underlying23 hi hz0 hz1 hz2 rfl (by decide) _ _ _ rfl (hg.alloc _) ⟨wr.heap.size, 0, none⟩ 1 1 [.string m.1, .int .i64 m.2] rfl rfl (two_new wr _ _ _) (by simp [Value.oneCell']) (by decide) (by unfold maxLen; first | omega | (simp only [List.length_append, List.length_cons, List.length_nil]; omega)) (by first | omega | (simp only [List.length_append, List.length_cons, List.length_nil]; omega)) (by simp; omega) _ rfl ?_; intro g' cap' wx hown' hgrow _ _)
        have hb10 := Gath.grown (W := W1) (B := W1.heap.size) (w := wr.alloc (.cells #[.string m.1, .int .i64 m.2] 65)) (hg.alloc _) (hb.alloc hb.size _) (by simp; omega) hgrow
        have hg10 := Gath.snoc hown'
        go_ret
        exact ⟨⟨_, rfl, by rw [← HE.out]; exact hg10.lower (Nat.le_of_lt hbx)⟩, hba.trans (hb10.mono hba.size)⟩
      · have HE : Hid _ := setT_end' hlt hinv
        go_wp2_with fail
        go_ret
        exact ⟨⟨_, rfl, by rw [← HE.out]; exact hg.lower (Nat.le_of_lt hbx)⟩, hba.trans (hb.mono hba.size)⟩

end Go.Proofs.Ytlhdjbepjfojbaa
/- Walks: l6Marks, a stamp of drawn sources. -/
namespace Go.Proofs.Ytlhdjbepjfojbaa
open Go.RowKit Go.BigFrame
set_option maxRecDepth 100000

theorem mcells_take : ∀ (l : List (ByteArray × Int)) (k : Nat), mcells (l.take k) = (mcells l).take (k * 2)
  | [], k => by simp [mcells]
  | m :: r, 0 => by simp [mcells]
  | m :: r, k + 1 => by
    have e : (k + 1) * 2 = k * 2 + 1 + 1 := by omega
    rw [e]
    simp only [List.take_succ_cons, mcells, mcells_take r k]
theorem Gath.cut {w : World} {B k cap : Nat} {a : Option Addr} {l : List (ByteArray × Int)} (h : Gath w B (.slice a l.length cap) l) (hk : k ≤ l.length) (h0 : 0 < k) : l.length ≤ cap ∧ Gath w B (.slice a k cap) (l.take k) := by
  obtain ⟨hl, h | ⟨g, cap', cur, hv, hg, hh, hn, hc, hs, ht⟩⟩ := h
  · omega
  · simp only [Value.slice.injEq, true_and] at hv
    obtain ⟨rfl, rfl⟩ := hv
    have ek : (l.take k).length = k := by simp; omega
    refine ⟨hn, by rw [mcells_length], .inr ⟨g, cap, cur, by rw [ek], hg, hh, by omega, by omega, hs, ?_⟩⟩
    rw [mcells_take, ← ht, List.take_take, ek]
    congr 1
    omega

set_option maxHeartbeats 1600000 in
theorem l6Marks_any (R n c p : Nat) (ab : Option Addr) (w : World) (hr : Rd w R ab n c p) (hp : p ≤ 80000) :
    Calls Try.prog 39 #[.pointer (some ⟨R, 0, none⟩)] w fun e w' => (∃ v l p', e = .returned v ∧ Gath w' w.heap.size v l ∧ l.length ≤ 30 ∧ (∀ m ∈ l, m.1.size ≤ 2000) ∧ Rd w' R ab n c p' ∧ p' ≤ p + 100) ∧ But R w w' := by
  have hRl := hr.lt
  go_enter Try.func39, Try.ntmps39
  go_wp2_with fail
  refine (pick_any R n c p ab _ _ hr (by omega) (by omega) (by omega)).mono ?_
  rintro e w1 ⟨⟨x, rfl, hx0, hx1⟩, hr1, hb1⟩
  obtain ⟨nn, rfl⟩ := Int.eq_ofNat_of_zero_le hx0
  go_wp2_with fail
  go_loopw [3, 5] (fun out i wr => ∃ k : Nat, k ≤ nn ∧ i = .int .i64 k ∧ ∃ o p', Gath wr w.heap.size out o ∧ o.length ≤ k ∧ (∀ m ∈ o, m.1.size ≤ 2000) ∧ Rd wr R ab n c p' ∧ p' ≤ p + 1 + 2 * k ∧ But R w wr) (fun _ i _ => nn - (intOf i).toNat)
  case atStart => exact ⟨0, Nat.zero_le _, rfl, [], p + 1, Gath.none _ _, by simp, by simp, hr1, by omega, hb1⟩
  case round =>
    obtain ⟨k, hk, rfl, o, p', hg, hol, hos, hrr, hp', hbr⟩ := hrel
    obtain ⟨ao, co, rfl, hrow⟩ := hg.shape
    by_cases hlt : k < nn
    · have hlt' : decide ((k : Int) < (nn : Int)) = true := by simp; omega
      go_wp2_with fail
      refine (l6Src_any R n c p' ab _ hrr (by omega)).mono ?_
      rintro e w2 ⟨⟨s, rfl, hsz⟩, hr2, hb2⟩
      go_wp2_with fail
      refine (pick_any R n c _ ab _ _ hr2 (by omega) (by omega) (by omega)).mono ?_
      rintro e w3 ⟨⟨y, rfl, hy0, hy1⟩, hr3, hb3⟩
      have hg3 := (hg.but hb2 hRl).but hb3 hRl
      have hB3 := (hbr.trans hb2).trans hb3
      go_wp2_with fail
      obtain ⟨_, _, e1, hrow3⟩ := hg3.shape
      cases e1
      refine (l1Set_any ao co o (s, 1 + y) _ (by omega) hrow3).mono ?_
      rintro e w4 ⟨⟨v, rfl, hg4⟩, hb4⟩
      have hsl := setR_length (m := (s, 1 + y)) (l := o)
      go_wp2_with fail
      refine ⟨⟨k + 1, by omega, by simp, _, p' + 1 + 1, hg4.lower hB3.size, by omega, fun m hm => ?_, hr3.below hb4, by omega, hB3.trans (But.of_below hb4)⟩, by simp [intOf]; omega⟩
      rcases setR_mem hm with h | h
      · subst h; show s.size ≤ _; omega
      · exact hos m h
    · have hlt' : decide ((k : Int) < (nn : Int)) = false := by simp; omega
      go_wp2_with fail
      refine (pick_any R n c _ ab _ _ hrr (by omega) (by omega) (by omega)).mono ?_
      rintro e w2 ⟨⟨y, rfl, hy0, hy1⟩, hr2, hb2⟩
      have hg2 := hg.but hb2 hRl
      have hB2 := hbr.trans hb2
      by_cases hy : y = 0
      · subst hy
        go_wp2_with fail
        go_loopw [3, 6] (fun out i wr => ∃ k : Nat, k ≤ 12 ∧ i = .int .i64 k ∧ ∃ o p', Gath wr w.heap.size out o ∧ o.length ≤ 4 + k ∧ (∀ m ∈ o, m.1.size ≤ 2000) ∧ Rd wr R ab n c p' ∧ p' ≤ p + 12 + k ∧ But R w wr) (fun _ i _ => 12 - (intOf i).toNat)
        case atStart => exact ⟨0, Nat.zero_le _, rfl, o, p' + 1, hg2, by omega, hos, hr2, by omega, hB2⟩
        case round =>
          obtain ⟨k, hk, rfl, o, p', hg, hol, hos, hrr, hp', hbr⟩ := hrel
          obtain ⟨ao, co, rfl, hrow⟩ := hg.shape
          by_cases hlt : k < 12
          · have hlt' : decide ((k : Int) < 12) = true := by simp; omega
            go_wp2_with fail
            refine (l1Dec_any k _ (by omega)).mono ?_
            rintro e w3 ⟨⟨s, rfl, hsz⟩, hb3⟩
            go_wp2_with fail
            refine (pick_any R n c _ ab _ _ (hrr.below hb3) (by omega) (by omega) (by omega)).mono ?_
            rintro e w4 ⟨⟨y, rfl, hy0, hy1⟩, hr4, hb4⟩
            have hg4 := (hg.keep hb3).but hb4 hRl
            have hB4 := (hbr.trans (But.of_below hb3)).trans hb4
            have hqs : ((⟨#[113]⟩ : ByteArray) ++ s).size = 1 + s.size := by rw [ByteArray.size_append]; rfl
            generalize (⟨#[113]⟩ : ByteArray) ++ s = qs at *
            go_wp2_with fail
            obtain ⟨_, _, e1, hrow4⟩ := hg4.shape
            cases e1
            refine (l1Set_any ao co o (qs, 1 + y) _ (by omega) hrow4).mono ?_
            rintro e w5 ⟨⟨v, rfl, hg5⟩, hb5⟩
            have hsl := setR_length (m := (qs, 1 + y)) (l := o)
            go_wp2_with fail
            refine ⟨⟨k + 1, by omega, by simp, _, p' + 1, hg5.lower hB4.size, by omega, fun m hm => ?_, hr4.below hb5, by omega, hB4.trans (But.of_below hb5)⟩, by simp [intOf]; omega⟩
            rcases setR_mem hm with h | h
            · subst h; show qs.size ≤ _; omega
            · exact hos m h
          · have hlt' : decide ((k : Int) < 12) = false := by simp; omega
            by_cases hbig : 12 < o.length
            · have hbig' : decide ((12 : Int) < (o.length : Int)) = true := by simp; omega
              go_wp2_with fail
              refine (pick_any R n c _ ab _ _ hrr (by omega) (by omega) (by omega)).mono ?_
              rintro e w3 ⟨⟨y, rfl, hy0, hy1⟩, hr3, hb3⟩
              have hg3 := hg.but hb3 hRl
              have hB3 := hbr.trans hb3
              by_cases hy : y = 0
              · subst hy
                obtain ⟨hcap, hg3'⟩ := hg3.cut (k := 12) (by omega) (by omega)
                have hl12 : (o.take 12).length = 12 := by simp; omega
                have hg3' : Gath w3 w.heap.size (.slice ao 12 co) (o.take 12) := hg3'
                go_wp2_with fail
                refine (l6Spoil_any R n c _ w.heap.size ab _ (o.take 12) _ hr3 (by omega) hg3' hRl hB3.size (by omega) (fun m hm => hos m (List.mem_of_mem_take hm))).mono ?_
                rintro e w8 ⟨⟨v, l', p8, rfl, hg8, hl8, hs8, hr8, hp8⟩, hb8⟩
                go_wp2_with fail
                go_ret
                exact ⟨⟨v, l', p8, rfl, hg8, by omega, hs8, hr8, by omega⟩, ((hB3.upto (Nat.le_refl _)).trans hb8).but⟩
              · have hy' : (y == 0) = false := by simp [hy]
                go_wp2_with fail
                refine (l6Spoil_any R n c _ w.heap.size ab _ o _ hr3 (by omega) hg3 hRl hB3.size (by omega) hos).mono ?_
                rintro e w8 ⟨⟨v, l', p8, rfl, hg8, hl8, hs8, hr8, hp8⟩, hb8⟩
                go_wp2_with fail
                go_ret
                exact ⟨⟨v, l', p8, rfl, hg8, by omega, hs8, hr8, by omega⟩, ((hB3.upto (Nat.le_refl _)).trans hb8).but⟩
            · have hbig' : decide ((12 : Int) < (o.length : Int)) = false := by simp; omega
              go_wp2_with fail
              refine (l6Spoil_any R n c _ w.heap.size ab _ o _ hrr (by omega) hg hRl hbr.size (by omega) hos).mono ?_
              rintro e w8 ⟨⟨v, l', p8, rfl, hg8, hl8, hs8, hr8, hp8⟩, hb8⟩
              go_wp2_with fail
              go_ret
              exact ⟨⟨v, l', p8, rfl, hg8, by omega, hs8, hr8, by omega⟩, ((hbr.upto (Nat.le_refl _)).trans hb8).but⟩
      · have hy' : (y == 0) = false := by simp [hy]
        go_wp2_with fail
        refine (l6Spoil_any R n c _ w.heap.size ab _ o _ hr2 (by omega) hg2 hRl hB2.size (by omega) hos).mono ?_
        rintro e w3 ⟨⟨v, l', p3, rfl, hg3, hl3, hs3, hr3, hp3⟩, hb3⟩
        go_wp2_with fail
        go_ret
        exact ⟨⟨v, l', p3, rfl, hg3, by omega, hs3, hr3, by omega⟩, ((hB2.upto (Nat.le_refl _)).trans hb3).but⟩

end Go.Proofs.Ytlhdjbepjfojbaa
/- Rows of texts in memory. -/
namespace Go.Proofs.Ytlhdjbepjfojbaa
open Go.RowKit Go.BigFrame

/-- The slice at address 'a' holds the texts 'l', one a cell. -/
def RowS (w : World) (a : Option Addr) (l : List ByteArray) : Prop :=
  ∀ k, (h : k < l.length) → ∃ b o, a = some ⟨b, o, none⟩ ∧ b < w.heap.size ∧ w.cell? ⟨b, o + k, none⟩ = some (.string l[k])

theorem RowS.below {w w' : World} {a : Option Addr} {l : List ByteArray} (h : RowS w a l) (hb : Below w.heap.size w w') : RowS w' a l := fun k hk => by
  obtain ⟨b, o, ha, hlt, h0⟩ := h k hk
  exact ⟨b, o, ha, Nat.lt_of_lt_of_le hlt hb.size, by rw [hb.cell hlt]; exact h0⟩

/-- The first 'k' texts of 'l' lie in block 'b', which has room for all. -/
def PartS (w : World) (b : Nat) (l : List ByteArray) (k : Nat) : Prop :=
  ∃ f, w.rowIs b 9 l.length f ∧ ∀ j, (h : j < l.length) → j < k → f j = .string l[j]

theorem PartS.lt {w : World} {b k : Nat} {l : List ByteArray} (h : PartS w b l k) : b < w.heap.size := by
  obtain ⟨f, h, _⟩ := h
  exact h.lt
theorem PartS.below {w w' : World} {b k B : Nat} {l : List ByteArray} (h : PartS w b l k) (hB : b < B) (hb : Below B w w') : PartS w' b l k := by
  obtain ⟨f, h, hf⟩ := h
  exact ⟨f, h.of_block (hb.block b hB), hf⟩
theorem PartS.made (w : World) (l : List ByteArray) (z : Value) : PartS (w.alloc (.cells (madeCells #[z] l.length) 9)) w.heap.size l 0 :=
  ⟨fun _ => z, World.rowIs_made w z l.length 9, fun j _ h => by omega⟩
theorem PartS.row {w : World} {b : Nat} {l : List ByteArray} (h : PartS w b l l.length) : RowS w (some ⟨b, 0, none⟩) l := fun k hk => by
  have hlt := h.lt
  obtain ⟨f, h, hf⟩ := h
  exact ⟨b, 0, rfl, hlt, by rw [Nat.zero_add, h.cell hk, hf k hk hk]⟩
theorem PartS.cell {w : World} {b k : Nat} {l : List ByteArray} (h : PartS w b l k) {i : Nat} (hi : i < l.length) : ∃ v, w.cell? ⟨b, i, none⟩ = some v := by
  obtain ⟨f, h, _⟩ := h
  exact ⟨_, h.cell hi⟩
theorem PartS.frozen {w : World} {b k : Nat} {l : List ByteArray} (h : PartS w b l k) (i : Nat) : w.frozen? ⟨b, i, none⟩ = false := by
  obtain ⟨f, h, _⟩ := h
  exact h.frozen i
theorem PartS.step {w : World} {b k : Nat} {l : List ByteArray} (h : PartS w b l k) (hk : k < l.length) : PartS (w.setCell ⟨b, k, none⟩ (.string l[k])) b l (k + 1) := by
  obtain ⟨f, h, hf⟩ := h
  refine ⟨_, h.set _ _, fun j hj hlt => ?_⟩
  by_cases e : j = k
  · subst e
    simp
  · simp only [if_neg e]
    exact hf j hj (by omega)

end Go.Proofs.Ytlhdjbepjfojbaa
