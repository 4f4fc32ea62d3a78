/- What the four laws of stamps say, in the words of lists. -/
import Derived.Test.YtpfhegengmlkmacGreatDoorJoinM
import Derived.Test.YtpfhegengmlkmacGreatDoorSpecAO
import Derived.Test.YtpfhegengmlkmacGreatDoorOnly
namespace Go.Proofs.YtpfhegengmlkmacGreatDoor

theorem stampP_of_sorted {l : List (ByteArray × Int)} (h12 : l.length ≤ 12) (hm : ∀ m ∈ l, MarkP m) (hp : l.Pairwise (fun x y => Asc x.1 y.1)) : StampP l :=
  ⟨h12, fun _ hj => hm _ (List.getElem_mem hj), fun j hj => List.pairwise_iff_getElem.1 hp j (j + 1) (by omega) hj (by omega)⟩
theorem stampP_mark {l : List (ByteArray × Int)} (h : StampP l) {m : ByteArray × Int} (hm : m ∈ l) : MarkP m := by
  obtain ⟨j, hj, rfl⟩ := List.mem_iff_getElem.1 hm
  exact h.2.1 j hj
theorem stampP_nil : StampP [] := ⟨by simp, fun j h => absurd h (Nat.not_lt_zero j), fun j h => absurd h (Nat.not_lt_zero (j + 1))⟩
theorem only_stamp {l : List (ByteArray × Int)} (h : StampP l) (names : List ByteArray) : StampP (onlyM names l) :=
  stampP_of_sorted (Nat.le_trans (List.length_filter_le _ _) h.1) (fun _ hm => stampP_mark h (List.mem_filter.1 hm).1) (List.Pairwise.filter _ (stamp_sorted h).1)
theorem getM_only {names : List ByteArray} {s : ByteArray} : ∀ {l : List (ByteArray × Int)}, getM (onlyM names l) s = if amongB names s = true then getM l s else 0
  | [] => by simp [onlyM, getM]
  | x :: r => by
    have ih := getM_only (names := names) (s := s) (l := r)
    unfold onlyM at ih ⊢
    by_cases hx : amongB names x.1 = true
    · rw [List.filter_cons_of_pos (p := fun m : ByteArray × Int => amongB names m.1) hx]
      simp only [getM, ih]
      by_cases e : x.1 = s
      · subst e; simp [hx]
      · simp [e]
    · rw [List.filter_cons_of_neg (p := fun m : ByteArray × Int => amongB names m.1) hx, ih]
      simp only [getM]
      by_cases e : x.1 = s
      · subst e; simp [hx]
      · simp [e]
/-- What StampOnly answers is a stamp, whatever it was asked. -/
theorem IsO.stamp {l m : List (ByteArray × Int)} {names : List ByteArray} (h : IsO l names m) : StampP m := by
  by_cases hp : StampP l
  · rw [h.1 hp]; exact only_stamp hp names
  · rw [h.2 hp]; exact stampP_nil
theorem IsO.get {l m : List (ByteArray × Int)} {names : List ByteArray} (h : IsO l names m) {s : ByteArray} (hs : amongB names s = true) {u v : Int} (hu : IsG m s u) (hv : IsG l s v) : u = v := by
  rw [hu.1 h.stamp]
  by_cases hp : StampP l
  · rw [hv.1 hp, h.1 hp, getM_only, if_pos hs]
  · rw [hv.2 hp, h.2 hp]; rfl
theorem among_at {names : List ByteArray} {j : Nat} (hj : j < names.length) : amongB names names[j] = true := among_iff.2 ⟨j, hj, rfl⟩

/-- The join of two stamps that fits is a stamp. -/
theorem join_stamp {a b o : List (ByteArray × Int)} (ha : StampP a) (hb : StampP b) (h : JoinOf a b o) (h12 : o.length ≤ 12) : StampP o := by
  refine stampP_of_sorted h12 (fun m hm => ?_) h.1.1
  have e := getM_mem h.1 hm
  have e1 := h.1.2 m hm
  have e2 := h.2 m.1
  rw [e] at e2
  rcases Int.le_total (getM a m.1) (getM b m.1) with hle | hle
  · have e3 : m.2 = getM b m.1 := by omega
    have hmem := getM_pos (l := b) (s := m.1) (by omega)
    rw [← e3] at hmem
    exact stampP_mark hb hmem
  · have e3 : m.2 = getM a m.1 := by omega
    have hmem := getM_pos (l := a) (s := m.1) (by omega)
    rw [← e3] at hmem
    exact stampP_mark ha hmem
theorem IsJ.fits {a b m : List (ByteArray × Int)} (h : IsJ a b m true) : StampP a ∧ StampP b ∧ JoinOf a b m ∧ StampP m := by
  rcases h with ⟨_, _, h⟩ | ⟨ha, hb, o, ho, ⟨h12, rfl, _⟩ | ⟨_, _, h⟩⟩
  · cases h
  · exact ⟨ha, hb, ho, join_stamp ha hb ho h12⟩
  · cases h
theorem IsJ.none {a b m : List (ByteArray × Int)} (h : IsJ a b m false) : m = [] := by
  rcases h with ⟨_, h, _⟩ | ⟨_, _, o, _, ⟨_, _, h⟩ | ⟨_, h, _⟩⟩
  · exact h
  · cases h
  · exact h
theorem JoinOf.comm {a b o : List (ByteArray × Int)} (h : JoinOf a b o) : JoinOf b a o := ⟨h.1, fun s => by rw [h.2 s]; omega⟩
theorem IsJ.comm {a b m : List (ByteArray × Int)} {ok : Bool} (h : IsJ a b m ok) : IsJ b a m ok := by
  rcases h with ⟨h1, h2⟩ | ⟨ha, hb, o, ho, h⟩
  · exact .inl ⟨fun k => h1 ⟨k.2, k.1⟩, h2⟩
  · exact .inr ⟨hb, ha, o, ho.comm, h⟩
theorem IsJ.self {j : List (ByteArray × Int)} (h : StampP j) : IsJ j j j true := .inr ⟨h, h, j, ⟨stamp_sorted h, fun s => by omega⟩, .inl ⟨h.1, rfl, rfl⟩⟩
theorem sorted_len : ∀ {k l : List (ByteArray × Int)}, Sorted k → Sorted l → (∀ s, 0 < getM k s → 0 < getM l s) → k.length ≤ l.length
  | [], _, _, _, _ => by simp
  | x :: k, [], hk, _, h => by
    have := h x.1 (by rw [getM_mem hk (by simp : x ∈ x :: k)]; exact hk.2 x (by simp))
    simp [getM] at this
  | x :: k, y :: l, hk, hl, h => by
    have hx1 := sorted_head hk
    have hy1 := sorted_head hl
    have hx := h x.1 (by simp only [getM, if_true]; omega)
    by_cases e : x.1 = y.1
    · have := sorted_len (sorted_tail hk) (sorted_tail hl) (fun s hs => by
        have hmem := getM_pos hs
        have hasc : Asc x.1 s := sorted_above hk hmem
        have hs2 := h s (by simp only [getM]; rw [if_neg (asc_ne hasc)]; exact hs)
        simp only [getM] at hs2
        rw [if_neg (fun q => asc_ne hasc (e.trans q))] at hs2
        exact hs2)
      simp only [List.length_cons]; omega
    · have hasc : Asc y.1 x.1 := by
        simp only [getM] at hx
        rw [if_neg (fun q => e q.symm)] at hx
        exact sorted_above (x := (x.1, getM l x.1)) hl (getM_pos hx)
      have := sorted_len hk (sorted_tail hl) (fun s hs => by
        have hs2 := h s hs
        have hmem := getM_pos hs
        have hys : Asc y.1 s := by
          rcases List.mem_cons.1 hmem with q | q
          · have q1 : s = x.1 := by rw [← q]
            rw [q1]; exact hasc
          · exact asc_trans hasc (sorted_above hk q)
        simp only [getM] at hs2
        rw [if_neg (asc_ne hys)] at hs2
        exact hs2)
      simp only [List.length_cons] at this ⊢; omega
theorem JoinOf.mono {a b c o o2 o3 : List (ByteArray × Int)} (ha : Sorted a) (h1 : JoinOf a b o) (h2 : JoinOf b c o2) (h3 : JoinOf o c o3) : o2.length ≤ o3.length :=
  sorted_len h2.1 h3.1 fun s hs => by
    have := h1.2 s; have := h2.2 s; have := h3.2 s; have := getM_nonneg (s := s) ha
    omega
theorem JoinOf.assoc {a b c o o2 o3 o4 : List (ByteArray × Int)} (h1 : JoinOf a b o) (h2 : JoinOf b c o2) (h3 : JoinOf o c o3) (h4 : JoinOf a o2 o4) : o3 = o4 :=
  sorted_ext h3.1 h4.1 fun s => by
    have := h1.2 s; have := h2.2 s; have := h3.2 s; have := h4.2 s
    omega
/-- Three stamps, from the left or from the right. -/
theorem join_three {a b c j l m r : List (ByteArray × Int)} {left mid right : Bool} (hj : IsJ a b j true) (hl : IsJ j c l left) (hm : IsJ b c m mid) (hr : IsJ a m r right) :
    (mid = false → left = false) ∧ (mid = true → left = right ∧ l = r) := by
  obtain ⟨ha, hb, h1, hsj⟩ := hj.fits
  constructor
  · rintro rfl
    cases left
    · rfl
    · exfalso
      obtain ⟨_, hc, h3, hsl⟩ := hl.fits
      rcases hm with ⟨hn, _⟩ | ⟨_, _, o2, h2, ⟨_, _, h⟩ | ⟨h13, _, _⟩⟩
      · exact hn ⟨hb, hc⟩
      · cases h
      · have := JoinOf.mono (stamp_sorted ha) h1 h2 h3
        have := hsl.1
        omega
  · rintro rfl
    obtain ⟨_, hc, h2, hsm⟩ := hm.fits
    have key : IsJ j c r right := by
      rcases hr with ⟨hn, _⟩ | ⟨_, _, o4, h4, h⟩
      · exact absurd ⟨ha, hsm⟩ hn
      · refine .inr ⟨hsj, hc, o4, ⟨h4.1, fun s => ?_⟩, h⟩
        have := h1.2 s; have := h2.2 s; have := h4.2 s
        omega
    obtain ⟨e1, e2⟩ := hl.one key
    exact ⟨e2, e1⟩

theorem AgreeP.symm {a b : List (ByteArray × Int)} (h : AgreeP a b) : AgreeP b a := by
  obtain ⟨ha, hb, h⟩ := h
  refine ⟨hb, ha, fun i hi => ?_⟩
  have sb := stamp_sorted hb
  have sa := stamp_sorted ha
  have e := getM_mem sb (List.getElem_mem hi)
  have e1 := sb.2 _ (List.getElem_mem hi)
  have e2 := getM_nonneg (s := b[i].1) sa
  by_cases h0 : getM a b[i].1 = 0
  · exact .inl h0
  · right
    have hmem := getM_pos (l := a) (s := b[i].1) (by omega)
    obtain ⟨k, hk, ek⟩ := List.mem_iff_getElem.1 hmem
    have := h k hk
    rw [ek] at this
    simp only at this
    omega
/-- The names of marks. -/
def namesM (a : List (ByteArray × Int)) : List ByteArray := a.map (·.1)
theorem among_names {a : List (ByteArray × Int)} (ha : Sorted a) (s : ByteArray) : amongB (namesM a) s = true ↔ 0 < getM a s := by
  unfold amongB namesM
  simp only [List.any_eq_true, decide_eq_true_eq, List.mem_map]
  constructor
  · rintro ⟨_, ⟨m, hm, rfl⟩, rfl⟩
    rw [getM_mem ha hm]; exact ha.2 m hm
  · intro h
    exact ⟨s, ⟨_, getM_pos h, rfl⟩, rfl⟩
theorem cut_iff {a b o : List (ByteArray × Int)} (ha : Sorted a) (h : JoinOf a b o) : onlyM (namesM a) o = a ↔ ∀ s, 0 < getM a s → getM b s ≤ getM a s := by
  have hso : Sorted (onlyM (namesM a) o) := ⟨List.Pairwise.filter _ h.1.1, fun m hm => h.1.2 m (List.mem_filter.1 hm).1⟩
  constructor
  · intro e s hs
    have : getM (onlyM (namesM a) o) s = getM a s := by rw [e]
    rw [getM_only, if_pos ((among_names ha s).2 hs), h.2 s] at this
    omega
  · intro hall
    refine sorted_ext hso ha fun s => ?_
    rw [getM_only]
    have hn := getM_nonneg (s := s) ha
    by_cases hs : 0 < getM a s
    · rw [if_pos ((among_names ha s).2 hs), h.2 s]
      have := hall s hs
      omega
    · rw [if_neg (fun q => hs ((among_names ha s).1 q))]
      omega
theorem agree_cut {a b o : List (ByteArray × Int)} (ha : StampP a) (hb : StampP b) (h : JoinOf a b o) : AgreeP a b ↔ (onlyM (namesM a) o = a ∧ onlyM (namesM b) o = b) := by
  have sa := stamp_sorted ha
  have sb := stamp_sorted hb
  rw [cut_iff sa h, cut_iff sb h.comm]
  constructor
  · rintro hag
    refine ⟨fun s hs => ?_, fun s hs => ?_⟩
    · obtain ⟨i, hi, e⟩ := List.mem_iff_getElem.1 (getM_pos hs)
      have := hag.2.2 i hi
      rw [e] at this
      simp only at this
      omega
    · obtain ⟨i, hi, e⟩ := List.mem_iff_getElem.1 (getM_pos hs)
      have := hag.symm.2.2 i hi
      rw [e] at this
      simp only at this
      omega
  · rintro ⟨h1, h2⟩
    refine ⟨ha, hb, fun i hi => ?_⟩
    have e := getM_mem sa (List.getElem_mem hi)
    have e1 := sa.2 _ (List.getElem_mem hi)
    have e2 := getM_nonneg (s := a[i].1) sb
    have := h1 a[i].1 (by omega)
    by_cases h0 : getM b a[i].1 = 0
    · exact .inl h0
    · have := h2 a[i].1 (by omega)
      right
      omega

theorem belowP_iff {a b : List (ByteArray × Int)} (ha : Sorted a) (hb : Sorted b) : BelowP a b ↔ ∀ s, getM a s ≤ getM b s := by
  constructor
  · intro h s
    have hn := getM_nonneg (s := s) hb
    by_cases h0 : 0 < getM a s
    · obtain ⟨i, hi, e⟩ := List.mem_iff_getElem.1 (getM_pos h0)
      have := h i hi
      rw [e] at this
      exact this
    · omega
  · intro h i hi
    have e := getM_mem ha (List.getElem_mem hi)
    have := h a[i].1
    omega
/-- How the two sides of an order stand to each other. -/
theorem ord_flip {a b : List (ByteArray × Int)} {o p : Int} (h : IsOrd a b o) (k : IsOrd b a p) : (o = 1 → p = 2) ∧ (o = 2 → p = 1) ∧ (o ≠ 1 → o ≠ 2 → p = o) := by
  rcases h with ⟨h1, h2⟩ | ⟨h1, h2, h3⟩
  · rcases k with ⟨k1, k2⟩ | ⟨k1, k2, k3⟩
    · subst h2; subst k2; exact ⟨fun h => by omega, fun h => by omega, fun _ _ => rfl⟩
    · exact absurd ⟨k2, k1⟩ h1
  · rcases k with ⟨k1, k2⟩ | ⟨k1, k2, k3⟩
    · exact absurd ⟨h2, h1⟩ k1
    · rcases h3 with ⟨p1, q1, e⟩ | ⟨p1, q1, e⟩ | ⟨p1, q1, e⟩ | ⟨p1, q1, e⟩ <;> rcases k3 with ⟨p', q', e'⟩ | ⟨p', q', e'⟩ | ⟨p', q', e'⟩ | ⟨p', q', e'⟩ <;>
        first | (subst e; subst e'; exact ⟨fun h => by omega, fun h => by omega, fun h h' => by omega⟩) | exact absurd p1 q' | exact absurd q1 p' | exact absurd p' q1 | exact absurd q' p1
theorem ord_same {a b : List (ByteArray × Int)} {o : Int} (h : IsOrd a b o) : o = 0 ↔ (StampP a ∧ a = b) := by
  constructor
  · rintro rfl
    rcases h with ⟨_, h2⟩ | ⟨h1, h2, h3⟩
    · omega
    · refine ⟨h1, ?_⟩
      have sa := stamp_sorted h1
      have sb := stamp_sorted h2
      rcases h3 with ⟨p, q, _⟩ | ⟨_, _, e⟩ | ⟨_, _, e⟩ | ⟨_, _, e⟩
      · rw [belowP_iff sa sb] at p
        rw [belowP_iff sb sa] at q
        exact sorted_ext sa sb fun s => by have := p s; have := q s; omega
      · omega
      · omega
      · omega
  · rintro ⟨ha, rfl⟩
    have hbb : BelowP a a := (belowP_iff (stamp_sorted ha) (stamp_sorted ha)).2 fun _ => Int.le_refl _
    rcases h with ⟨h1, _⟩ | ⟨_, _, ⟨_, _, e⟩ | ⟨_, q, _⟩ | ⟨q, _, _⟩ | ⟨q, _, _⟩⟩
    · exact absurd ⟨ha, ha⟩ h1
    · exact e
    · exact absurd hbb q
    · exact absurd hbb q
    · exact absurd hbb q
theorem ord_le {a b : List (ByteArray × Int)} {o : Int} (h : IsOrd a b o) : (o = 0 ∨ o = 1) ↔ (StampP a ∧ StampP b ∧ BelowP a b) := by
  constructor
  · rintro ho
    rcases h with ⟨_, h2⟩ | ⟨h1, h2, ⟨p, _, _⟩ | ⟨p, _, _⟩ | ⟨_, _, e⟩ | ⟨_, _, e⟩⟩
    · omega
    · exact ⟨h1, h2, p⟩
    · exact ⟨h1, h2, p⟩
    · omega
    · omega
  · rintro ⟨ha, hb, hab⟩
    rcases h with ⟨h1, _⟩ | ⟨_, _, ⟨_, _, e⟩ | ⟨_, _, e⟩ | ⟨q, _, _⟩ | ⟨q, _, _⟩⟩
    · exact absurd ⟨ha, hb⟩ h1
    · exact .inl e
    · exact .inr e
    · exact absurd hab q
    · exact absurd hab q
theorem ord_less {a b : List (ByteArray × Int)} {o : Int} (h : IsOrd a b o) : o = 1 ↔ (StampP a ∧ StampP b ∧ BelowP a b ∧ ¬ BelowP b a) := by
  constructor
  · rintro rfl
    rcases h with ⟨_, h2⟩ | ⟨h1, h2, ⟨p, q, e⟩ | ⟨p, q, _⟩ | ⟨_, _, e⟩ | ⟨_, _, e⟩⟩
    · omega
    · omega
    · exact ⟨h1, h2, p, q⟩
    · omega
    · omega
  · rintro ⟨ha, hb, hab, hba⟩
    rcases h with ⟨h1, _⟩ | ⟨_, _, ⟨_, q, e⟩ | ⟨_, _, e⟩ | ⟨q, _, _⟩ | ⟨q, _, _⟩⟩
    · exact absurd ⟨ha, hb⟩ h1
    · exact absurd q hba
    · exact e
    · exact absurd hab q
    · exact absurd hab q
theorem join_above {a b j : List (ByteArray × Int)} (h : IsJ a b j true) : BelowP a j ∧ BelowP b j := by
  obtain ⟨ha, hb, ho, hj⟩ := h.fits
  have sj := stamp_sorted hj
  exact ⟨(belowP_iff (stamp_sorted ha) sj).2 fun s => by rw [ho.2 s]; omega, (belowP_iff (stamp_sorted hb) sj).2 fun s => by rw [ho.2 s]; omega⟩
theorem join_least {a b c j : List (ByteArray × Int)} (h : IsJ a b j true) (hc : StampP c) (h1 : BelowP a c) (h2 : BelowP b c) : BelowP j c := by
  obtain ⟨ha, hb, ho, hj⟩ := h.fits
  have sc := stamp_sorted hc
  rw [belowP_iff (stamp_sorted ha) sc] at h1
  rw [belowP_iff (stamp_sorted hb) sc] at h2
  exact (belowP_iff (stamp_sorted hj) sc).2 fun s => by rw [ho.2 s]; have := h1 s; have := h2 s; omega
/-- Below what is below a join. -/
theorem less_join {a b c j : List (ByteArray × Int)} {o v : Int} (h : IsOrd a b o) (ho : o = 1) (hj : IsJ b c j true) (hv : IsOrd a j v) : v = 1 := by
  obtain ⟨ha, hb, hab, hba⟩ := (ord_less h).1 ho
  obtain ⟨_, hc, hjo, hsj⟩ := hj.fits
  have hbj := (join_above hj).1
  have sa := stamp_sorted ha
  have sb := stamp_sorted hb
  have sj := stamp_sorted hsj
  rw [belowP_iff sa sb] at hab
  rw [belowP_iff sb sj] at hbj
  refine (ord_less hv).2 ⟨ha, hsj, (belowP_iff sa sj).2 fun s => Int.le_trans (hab s) (hbj s), fun q => hba ?_⟩
  rw [belowP_iff sj sa] at q
  exact (belowP_iff sb sa).2 fun s => Int.le_trans (hbj s) (q s)

end Go.Proofs.YtpfhegengmlkmacGreatDoor
