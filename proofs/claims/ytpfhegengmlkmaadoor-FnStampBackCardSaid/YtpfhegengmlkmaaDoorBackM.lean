/- Mathematics of a stamp's text, there and back. No program here. -/
import Derived.Test.YtpfhegengmlkmaaDoorRdM
import Derived.Test.YtpfhegengmlkmaaDoorTxM
namespace Go.Proofs.YtpfhegengmlkmaaDoor
set_option maxRecDepth 100000

theorem digs_dec : ∀ (n : Nat) (d : List UInt8), d.length ≤ n → d ≠ [] → d.head? ≠ some 48 → (∀ x ∈ d, DG x) → Lib.decDigits (dval 0 d) = d := by
  intro n
  induction n with
  | zero => intro d hd hne _ _; exact absurd (List.length_eq_zero_iff.1 (Nat.le_zero.1 hd)) hne
  | succ n ih =>
    intro d hd hne h48 hall
    rcases List.eq_nil_or_concat d with rfl | ⟨d', x, rfl⟩
    · exact absurd rfl hne
    have hx : DG x := hall x (by simp)
    have ex : UInt8.ofNat (48 + (x.toNat - 48)) = x := by
      rw [show 48 + (x.toNat - 48) = x.toNat by have := hx.1; omega]
      exact UInt8.ofNat_toNat
    rw [List.concat_eq_append] at *
    rw [dval_snoc]
    by_cases hd' : d' = []
    · subst hd'
      rw [dval_nil, decDigits_small (by have := hx.2; omega), Nat.mul_zero, Nat.zero_add, ex]
      rfl
    · have hh : d'.head? ≠ some 48 := fun e => h48 (by
        cases d' with
        | nil => exact absurd rfl hd'
        | cons y r => simpa using e)
      have hall' : ∀ y ∈ d', DG y := fun y hy => hall y (List.mem_append_left _ hy)
      have ihd := ih d' (by simp at hd; omega) hd' hh hall'
      have hpos : 1 ≤ dval 0 d' := by
        cases d' with
        | nil => exact absurd rfl hd'
        | cons y r =>
          have h1 := dval_head (r := r) (hall' y (List.mem_cons_self ..)) (fun e => hh (by rw [e]; rfl))
          have h2 := Nat.pow_pos (n := r.length) (show 0 < 10 by omega)
          omega
      have h9 : x.toNat - 48 < 10 := by have := hx.2; omega
      rw [decDigits_step (by omega), show (10 * dval 0 d' + (x.toNat - 48)) / 10 = dval 0 d' by omega, show (10 * dval 0 d' + (x.toNat - 48)) % 10 = x.toNat - 48 by omega, ihd, ex]
theorem dec_digs : ∀ (n u : Nat), u ≤ n → 1 ≤ u → Lib.decDigits u ≠ [] ∧ (Lib.decDigits u).head? ≠ some 48 ∧ (∀ x ∈ Lib.decDigits u, DG x) ∧ dval 0 (Lib.decDigits u) = u := by
  have hone : ∀ r, r < 10 → DG (UInt8.ofNat (48 + r)) ∧ (UInt8.ofNat (48 + r)).toNat - 48 = r ∧ (1 ≤ r → UInt8.ofNat (48 + r) ≠ 48) := by
    intro r hr
    have e : (UInt8.ofNat (48 + r)).toNat = 48 + r := by rw [UInt8.toNat_ofNat']; omega
    refine ⟨⟨by omega, by omega⟩, by omega, fun h1 h => ?_⟩
    have := congrArg UInt8.toNat h
    rw [e] at this
    have h48 : (48 : UInt8).toNat = 48 := rfl
    omega
  intro n
  induction n with
  | zero => intro u h1 h2; omega
  | succ n ih =>
    intro u hu h1
    by_cases h : u < 10
    · rw [decDigits_small h]
      obtain ⟨k1, k2, k3⟩ := hone u h
      refine ⟨by simp, by simpa using k3 h1, fun x hx => by rw [List.mem_singleton.1 hx]; exact k1, ?_⟩
      rw [show [UInt8.ofNat (48 + u)] = [] ++ [UInt8.ofNat (48 + u)] from rfl, dval_snoc, dval_nil, k2]
      omega
    · rw [decDigits_step h]
      obtain ⟨j1, j2, j3, j4⟩ := ih (u / 10) (by omega) (by omega)
      obtain ⟨k1, k2, _⟩ := hone (u % 10) (by omega)
      refine ⟨by simp, ?_, fun x hx => ?_, ?_⟩
      · cases hd : Lib.decDigits (u / 10) with
        | nil => exact absurd hd j1
        | cons y r => rw [hd] at j2; simpa using j2
      · rcases List.mem_append.1 hx with hx | hx
        · exact j3 x hx
        · rw [List.mem_singleton.1 hx]; exact k1
      · rw [dval_snoc, j4, k2]
        omega
theorem dec_len : ∀ (n u : Nat), 1 ≤ n → u < 10 ^ n → (Lib.decDigits u).length ≤ n := by
  intro n
  induction n with
  | zero => intro u h; omega
  | succ n ih =>
    intro u _ hu
    by_cases h : u < 10
    · rw [decDigits_small h]; simp
    · rw [decDigits_step h, List.length_append, List.length_singleton]
      have hn : 1 ≤ n := by
        rcases Nat.eq_zero_or_pos n with rfl | h'
        · simp at hu; omega
        · exact h'
      have := ih (u / 10) hn (by rw [Nat.pow_succ] at hu; omega)
      omega
theorem dig_iff {d : List UInt8} {v : Int} (h : Dig d v) : d = Lib.decDigits v.toNat := by
  have e : v.toNat = dval 0 d := by rw [h.2.2.2.1]; rfl
  rw [e, digs_dec _ d (Nat.le_refl _) h.1 h.2.1 h.2.2.1]
theorem word_of {m : ByteArray × Int} (h : MarkP m) (hn : NBs m.1.data.toList) : Word (wordB m) m := by
  have h1 := h.2.1
  have h2 := h.2.2
  obtain ⟨k1, k2, k3, k4⟩ := dec_digs _ m.2.toNat (Nat.le_refl _) (by omega)
  exact ⟨Lib.decDigits m.2.toNat, rfl, hn, k1, k2, k3, by rw [k4]; omega, by rw [k4]; omega⟩
theorem of_word {u : List UInt8} {m : ByteArray × Int} (h : Word u m) : u = wordB m := by
  obtain ⟨d, rfl, _, hd⟩ := h
  unfold wordB
  rw [← dig_iff hd]
theorem split_join : ∀ (ws : List (List UInt8)), ws ≠ [] → (∀ w ∈ ws, (32 : UInt8) ∉ w) → splitL 32 (Lib.join ws [32]) = ws
  | [], h, _ => absurd rfl h
  | [x], _, h => by rw [Lib.join_one]; exact splitL_no (h x (List.mem_cons_self ..))
  | x :: y :: r, _, h => by
    have e : Lib.join (x :: y :: r) [32] = x ++ 32 :: Lib.join (y :: r) [32] := by
      rw [Lib.join_cons, Lib.join_cons]
      simp [Lib.joinTail]
    rw [e, splitL_cut (h x (List.mem_cons_self ..)), split_join (y :: r) (by simp) (fun w hw => h w (List.mem_cons_of_mem _ hw))]
theorem join_split : ∀ (n : Nat) (t : List UInt8), t.length ≤ n → splitL 32 t ≠ [] ∧ Lib.join (splitL 32 t) [32] = t := by
  intro n
  induction n with
  | zero =>
    intro t ht
    obtain rfl := List.length_eq_zero_iff.1 (Nat.le_zero.1 ht)
    exact ⟨by simp [splitL], by rw [show splitL 32 [] = [[]] from rfl, Lib.join_one]⟩
  | succ n ih =>
    intro t ht
    rcases splitL_two (c := 32) t with h | ⟨a, r, rfl, h⟩
    · rw [splitL_no h]
      exact ⟨by simp, Lib.join_one _ _⟩
    · obtain ⟨h1, h2⟩ := ih r (by simp at ht; omega)
      rw [splitL_cut h]
      refine ⟨by simp, ?_⟩
      cases hs : splitL 32 r with
      | nil => exact absurd hs h1
      | cons y q =>
        rw [hs] at h2
        have e : Lib.join (a :: y :: q) [32] = a ++ 32 :: Lib.join (y :: q) [32] := by
          rw [Lib.join_cons, Lib.join_cons]
          simp [Lib.joinTail]
        rw [e, h2]
theorem words_map : ∀ {l : List (ByteArray × Int)}, (∀ m ∈ l, Word (wordB m) m) → Words (l.map wordB) l
  | [], _ => trivial
  | m :: _, h => ⟨h m (List.mem_cons_self ..), words_map fun x hx => h x (List.mem_cons_of_mem _ hx)⟩
theorem of_words : ∀ {us : List (List UInt8)} {l : List (ByteArray × Int)}, Words us l → us = l.map wordB
  | [], [], _ => rfl
  | u :: us, m :: ms, h => by rw [of_word h.1, of_words h.2]; rfl
  | [], _ :: _, h => h.elim
  | _ :: _, [], h => h.elim
theorem nbs_name {m : ByteArray × Int} (h : MarkP m) : NBs m.1.data.toList := fun x hx => by
  obtain ⟨j, hj⟩ := List.getElem?_of_mem hx
  obtain ⟨hl, he⟩ := List.getElem?_eq_some_iff.1 hj
  have hl' : j < m.1.size := by rw [show m.1.size = m.1.data.toList.length from Array.length_toList.symm]; exact hl
  have h1 := h.1.2.2 j hl'
  have e : m.1[j] = x := by rw [← he, Array.getElem_toList]; rfl
  rw [← e]
  exact h1
theorem wordB_short {m : ByteArray × Int} (h : MarkP m) : (wordB m).length ≤ 22 := by
  unfold wordB
  rw [List.length_append, List.length_cons, show m.1.data.toList.length = m.1.size from Array.length_toList]
  have h1 := h.1.2.1
  have h2 := dec_len 13 m.2.toNat (by omega) (by have := h.2.2; omega)
  omega
theorem textB_short {l : List (ByteArray × Int)} (h : ∀ j, (hj : j < l.length) → MarkP l[j]) : ∀ k, k ≤ l.length → (textB (l.take k)).length ≤ k * 23 := by
  intro k
  induction k with
  | zero => intro _; simp [textB, Lib.join_nil]
  | succ k ih =>
    intro hk
    have h1 := wordB_short (h k (by omega))
    by_cases h0 : 0 < k
    · rw [textB_snoc (by omega) h0, List.length_append, List.length_cons]
      have := ih (by omega)
      omega
    · obtain rfl : k = 0 := by omega
      rw [textB_first (by omega)]
      omega
theorem isTx_size {l : List (ByteArray × Int)} {s : ByteArray} (h : IsTx l s) : s.size ≤ 276 := by
  rw [show s.size = s.data.toList.length from Array.length_toList.symm]
  by_cases hp : StampP l
  · rw [h.1 hp]
    by_cases h0 : l = []
    · rw [if_pos h0]; simp
    · rw [if_neg h0]
      have := textB_short hp.2.1 l.length (Nat.le_refl _)
      rw [List.take_of_length_le (Nat.le_refl _)] at this
      have := hp.1
      omega
  · rw [h.2 hp]; simp
/-- What is written of a stamp is read as it; of what is no stamp nothing is read. -/
theorem text_back {l : List (ByteArray × Int)} {s : ByteArray} (h : IsTx l s) {u : List (ByteArray × Int)} {ok : Bool} (hr : IsR s u ok) : (ok = true ↔ StampP l) ∧ (ok = true → u = l) := by
  have hz := isTx_size h
  by_cases hp : StampP l
  · have hA : Acc s l := by
      refine ⟨by omega, ?_⟩
      have h1 := h.1 hp
      by_cases h0 : l = []
      · rw [if_pos h0] at h1
        exact .inl ⟨h1, h0⟩
      · rw [if_neg h0] at h1
        have hM : ∀ m ∈ l, MarkP m := fun m hm => by
          obtain ⟨j, hj⟩ := List.getElem?_of_mem hm
          obtain ⟨hl, rfl⟩ := List.getElem?_eq_some_iff.1 hj
          exact hp.2.1 j hl
        have hW : ∀ m ∈ l, Word (wordB m) m := fun m hm => word_of (hM m hm) (nbs_name (hM m hm))
        refine .inr ⟨?_, hp⟩
        rw [h1]
        unfold textB
        rw [split_join _ (by simpa using h0) (fun w hw => by
          obtain ⟨m, hm, rfl⟩ := List.mem_map.1 hw
          exact (hW m hm).free)]
        exact words_map hW
    rcases hr with ⟨rfl, hu⟩ | ⟨rfl, _, hu⟩
    · exact ⟨⟨fun _ => hp, fun _ => rfl⟩, fun _ => hu.one hA⟩
    · exact absurd hA (hu l)
  · have h1 := h.2 hp
    rcases hr with ⟨rfl, hu⟩ | ⟨rfl, _, hu⟩
    · exfalso
      rcases hu.2 with ⟨e, _⟩ | ⟨hw, _⟩
      · rw [h1] at e; cases e
      · rw [h1, show splitL 32 [] = [[]] from rfl] at hw
        match u, hw with
        | [], hw => exact hw
        | m :: _, hw =>
          obtain ⟨d, e, _⟩ := hw.1
          have := congrArg List.length e
          simp at this
    · exact ⟨⟨fun e => Bool.noConfusion e, fun h => absurd h hp⟩, fun e => Bool.noConfusion e⟩
/-- What is read of a text is written so. -/
theorem read_back {t s : ByteArray} {v : List (ByteArray × Int)} (hr : IsR t v true) (h : IsTx v s) : s = t := by
  rcases hr with ⟨_, hA⟩ | ⟨e, _⟩
  · apply data_eq
    rcases hA.2 with ⟨e, rfl⟩ | ⟨hw, hp⟩
    · rw [h.1 ⟨by simp, fun j h => absurd h (Nat.not_lt_zero j), fun j h => absurd h (Nat.not_lt_zero (j + 1))⟩, if_pos rfl, e]
    · obtain ⟨h1, h2⟩ := join_split _ t.data.toList (Nat.le_refl _)
      have h0 : v ≠ [] := fun e => by
        subst e
        exact h1 (List.length_eq_zero_iff.1 hw.length.symm)
      rw [h.1 hp, if_neg h0]
      unfold textB
      rw [← of_words hw, h2]
  · cases e

end Go.Proofs.YtpfhegengmlkmaaDoor
