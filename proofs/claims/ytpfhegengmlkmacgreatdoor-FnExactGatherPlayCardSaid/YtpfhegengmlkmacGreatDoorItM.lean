/- Marking of items: markItemS, heldItemS; what it leaves alone. -/
import Derived.Test.YtpfhegengmlkmacGreatDoorItD
import Derived.Test.YtpfhegengmlkmacGreatDoorItK
import Derived.Test.YtpfhegengmlkmacGreatDoorSafe
namespace Go.Proofs.YtpfhegengmlkmacGreatDoor
open Go.RowKit Go.BigFrame

/-- What marking from k on leaves of items. -/
def markedI (k : Int) : List ItemL → List ItemL
  | [] => []
  | x :: l => (k, marked (k + 1) x.2.length) :: markedI (k + 1 + 2 * (x.2.length : Int)) l
theorem markedI_length (k : Int) (l : List ItemL) : (markedI k l).length = l.length := by
  induction l generalizing k with
  | nil => rfl
  | cons x l ih => simp [markedI, ih]
theorem markedI_at (k : Int) (l : List ItemL) (j : Nat) (h : j < l.length) : (markedI k l)[j]'(by rw [markedI_length]; exact h) = (k + j + 2 * (lens (l.take j) : Int), marked (k + j + 2 * (lens (l.take j) : Int) + 1) l[j].2.length) := by
  induction l generalizing k j with
  | nil => exact absurd h (Nat.not_lt_zero j)
  | cons x l ih =>
    cases j with
    | zero => simp [markedI, lens]
    | succ j =>
      have h' : j < l.length := by simpa using h
      have e := ih (k + 1 + 2 * (x.2.length : Int)) j h'
      simp only [markedI, List.getElem_cons_succ, List.take_succ_cons, lens]
      rw [e]
      have q : k + 1 + 2 * (x.2.length : Int) + j + 2 * (lens (l.take j) : Int) = k + ((j + 1 : Nat) : Int) + 2 * ((x.2.length + lens (l.take j) : Nat) : Int) := by omega
      rw [q]
theorem markedI_lens (k : Int) (l : List ItemL) : lens (markedI k l) = lens l := by
  induction l generalizing k with
  | nil => rfl
  | cons x l ih => simp [markedI, lens, ih, marked_length]

/-- The first j are marked. -/
def mixI (k : Int) (l : List ItemL) (j : Nat) : List ItemL := (markedI k l).take j ++ l.drop j
theorem mixI_length (k : Int) (l : List ItemL) (j : Nat) (h : j ≤ l.length) : (mixI k l j).length = l.length := by
  simp [mixI, markedI_length]; omega
theorem mixI_zero (k : Int) (l : List ItemL) : mixI k l 0 = l := by simp [mixI]
theorem mixI_all (k : Int) (l : List ItemL) : mixI k l l.length = markedI k l := by
  rw [mixI, List.drop_of_length_le (Nat.le_refl _), List.append_nil, List.take_of_length_le (by rw [markedI_length]; exact Nat.le_refl _)]
theorem mixI_at (k : Int) (l : List ItemL) (j : Nat) (h : j < l.length) : (mixI k l j)[j]'(by rw [mixI_length k l j (by omega)]; exact h) = l[j] := by
  simp only [mixI]
  rw [List.getElem_append_right (by simp [markedI_length]; omega)]
  simp [markedI_length]
  congr 1
  omega
theorem mixI_set (k : Int) (l : List ItemL) (j : Nat) (h : j < l.length) : (mixI k l j).set j ((markedI k l)[j]'(by rw [markedI_length]; exact h)) = mixI k l (j + 1) := by
  have hm := markedI_length k l
  apply List.ext_getElem
  · rw [List.length_set, mixI_length k l j (by omega), mixI_length k l (j + 1) (by omega)]
  intro i h1 h2
  rw [List.getElem_set]
  rw [List.length_set, mixI_length k l j (by omega)] at h1
  by_cases e : j = i
  · subst e
    rw [if_pos rfl]
    simp only [mixI]
    rw [List.getElem_append_left (by simp; omega), List.getElem_take]
  · rw [if_neg e]
    simp only [mixI]
    by_cases hlt : i < j
    · rw [List.getElem_append_left (by simp; omega), List.getElem_append_left (by simp; omega), List.getElem_take, List.getElem_take]
    · rw [List.getElem_append_right (by simp; omega), List.getElem_append_right (by simp; omega), List.getElem_drop, List.getElem_drop]
      congr 1
      simp
      omega

/-- An item's marks are turned, and its value. -/
theorem PartI.turn {w : World} {lo T g : Nat} {l : List ItemL} (h : PartI w lo T g l l.length) {j : Nat} (hj : j < l.length) :
    ∃ b c, w.cell? ⟨g, j * 2 + 1, none⟩ = some (.slice (some ⟨b, 0, none⟩) l[j].2.length c) ∧ Own w b l[j].2 ∧ lo ≤ b ∧ b < T ∧ b ≠ g ∧
      ∀ (x : Int) (m : List (ByteArray × Int)) (w2 : World), m.length = l[j].2.length → But b (w.setCell ⟨g, j * 2, none⟩ (.int .i64 x)) w2 → Own w2 b m → PartI w2 lo T g (l.set j (x, m)) (l.set j (x, m)).length := by
  have hg := h.lt
  obtain ⟨G, C, m0, f, h, hm, hf, hd⟩ := h
  obtain ⟨f1, f2, f3, f4, f5, f6, f7⟩ := hf j hj hj
  refine ⟨G j, C j, by rw [h.cell (by omega), f2], f4, f5, f6, f7, fun x m w2 hml hb ho => ?_⟩
  refine ⟨G, C, m0, _, (h.set (j * 2) (.int .i64 x)).of_block (hb.block g (by simpa [World.setCell] using hg) (Ne.symm f7)), by rw [List.length_set]; exact hm, fun i hi _ => ?_, fun i k hi hk => hd i k (by simpa using hi) (by simpa using hk)⟩
  rw [List.length_set] at hi
  by_cases e : j = i
  · subst e
    simp only [List.getElem_set_self]
    refine ⟨by simp, ?_, by rw [hml]; exact f3, ho, f5, f6, f7⟩
    rw [hml]
    have e1 : j * 2 + 1 ≠ j * 2 := by omega
    simp only [if_neg e1]
    exact f2
  · obtain ⟨i1, i2, i3, i4, i5, i6, i7⟩ := hf i hi hi
    have e1 : i * 2 ≠ j * 2 := by omega
    have e2 : i * 2 + 1 ≠ j * 2 := by omega
    simp only [List.getElem_set_ne e, if_neg e1, if_neg e2]
    exact ⟨i1, i2, i3, hb.own (i4.setOther i7 _ _) (hd i j hi hj (Ne.symm e)), i5, i6, i7⟩

theorem Span.trans {lo hi : Nat} {x y z : World} (h : Span lo hi x y) (k : Span lo hi y z) : Span lo hi x z :=
  ⟨k.os.trans h.os, k.tape.trans h.tape, k.output.trans h.output, Nat.le_trans h.size k.size, fun i hi hn => (k.block i (Nat.lt_of_lt_of_le hi h.size) hn).trans (h.block i hi hn)⟩
theorem Span.setCell {lo hi g : Nat} {x w : World} (h : Span lo hi x w) (h1 : lo ≤ g) (h2 : g < hi) (i : Nat) (v : Value) : Span lo hi x (w.setCell ⟨g, i, none⟩ v) :=
  h.trans (((But.refl g w).setCell i v).span h1 h2)

set_option maxHeartbeats 800000 in
theorem markItemS_any (g cap lo T : Nat) (l : List ItemL) (k : Int) (w : World) (hn : l.length ≤ 1048576) (hlo : lo ≤ g) (hT : g < T) (hk0 : 0 ≤ k) (hk1 : k + (l.length : Int) + 2 * (lens l : Int) ≤ 10000000) (hs : ∀ j, (h : j < l.length) → l[j].2.length ≤ 1048576) (hp : PartI w lo T g l l.length) :
    Calls Tryz.prog 103 #[.slice (some ⟨g, 0, none⟩) l.length cap, .int .i64 k] w fun e w' => e = .returned (.int .i64 (k + (l.length : Int) + 2 * (lens l : Int))) ∧ PartI w' lo T g (markedI k l) (markedI k l).length ∧ Span lo T w w' := by
  go_enter Tryz.func103, Tryz.ntmps103
  go_wp2_with fail
  go_loopw [1, 5] (fun kk i wr => ∃ (j n : Nat) (L : List ItemL), j ≤ l.length ∧ i = .int .i64 j ∧ Hid (n = lens (l.take j)) ∧ n ≤ lens l ∧ kk = .int .i64 (k + (j : Int) + 2 * (n : Int)) ∧ Hid (L = mixI k l j) ∧ PartI wr lo T g L L.length ∧ Span lo T w wr) (fun _ i _ => l.length - (intOf i).toNat)
  case atStart => exact ⟨0, 0, l, Nat.zero_le _, rfl, rfl, Nat.zero_le _, by simp, (mixI_zero k l).symm, hp, Span.refl _ _ _⟩
  case round =>
    obtain ⟨j, n, L, hj, rfl, HN, hnl, rfl, HL, hpj, hb⟩ := hrel
    have hLl : L.length = l.length := by rw [HL.out, mixI_length k l j hj]
    by_cases hlt : j < l.length
    · have hltL : j < L.length := by omega
      have hLj : L[j].2.length = l[j].2.length := by
        have e := mixI_at k l j hlt
        have h1 := HL.out
        subst h1
        rw [e]
      have hN2 : n + l[j].2.length = lens (l.take (j + 1)) := by rw [lens_take hlt, ← HN.out]
      have hN3 : lens (l.take (j + 1)) ≤ lens l := by
        have := lens_append (l.take (j + 1)) (l.drop (j + 1))
        rw [List.take_append_drop] at this
        omega
      have hset : L.set j (k + (j : Int) + 2 * (n : Int), marked (k + (j : Int) + 2 * (n : Int) + 1) l[j].2.length) = mixI k l (j + 1) := by
        rw [← mixI_set k l j hlt, markedI_at k l j hlt, HL.out, HN.out]
      have HN2 : Hid (n + l[j].2.length = lens (l.take (j + 1))) := hN2
      have hle : n + l[j].2.length ≤ lens l := by omega
      have hsj := hs j hlt
      obtain ⟨b, c, c1, ho, g1, g2, g3, hturn⟩ := hpj.turn hltL
      have hgl := hpj.lt
      obtain ⟨v0, c0⟩ := hpj.cell (i := j * 2) (by omega)
      have f0 := hpj.frozen (j * 2)
      rw [hLj] at c1 hturn
      have k0 : (0 : Int) ≤ (j : Int) := by omega
      have k1 : (j : Int) < (l.length : Int) := by omega
      have HT : Hid (∀ (x : Int) (m : List (ByteArray × Int)) (w2 : World), m.length = l[j].2.length → But b (wr.setCell ⟨g, j * 2, none⟩ (.int .i64 x)) w2 → Own w2 b m → PartI w2 lo T g (L.set j (x, m)) (L.set j (x, m)).length) := hturn
      have HSET : Hid (L.set j (k + (j : Int) + 2 * (n : Int), marked (k + (j : Int) + 2 * (n : Int) + 1) l[j].2.length) = mixI k l (j + 1)) := hset
      have HLJ : Hid (L[j].2.length = l[j].2.length) := hLj
      clear hturn hset hN2 hN3 hLj
      go_wp2_with fail
      refine (markMarkS_any b c l[j].2.length (k + (j : Int) + 2 * (n : Int) + 1) _ hsj (by omega) (by omega) L[j].2 HLJ.out (ho.setOther g3 _ _)).mono ?_
      rintro e w1 ⟨rfl, ho1, hb1⟩
      have hnew := HT.out _ _ w1 (marked_length _ _) hb1 ho1
      rw [HSET.out] at hnew
      have hsp : Span lo T w w1 := (hb.setCell hlo hT _ _).trans (hb1.span g1 g2)
      go_wp2_with fail
      exact ⟨⟨j + 1, n + l[j].2.length, _, by omega, by go_num, HN2, hle, by congr 1; omega, rfl, hnew, hsp⟩, by simp [intOf]; omega⟩
    · obtain rfl : j = l.length := by omega
      have HN2 : Hid (n = lens l) := by rw [HN.out, List.take_of_length_le (Nat.le_refl _)]; rfl
      have HF : Hid (L = markedI k l) := by rw [HL.out, mixI_all]; rfl
      go_wp2_with fail
      go_ret
      exact ⟨by rw [HN2.out]; rfl, by rw [← HF.out]; exact hpj, hb⟩

set_option maxHeartbeats 400000 in
theorem markItemS_none (a : Option Addr) (cap : Nat) (k : Int) (w : World) :
    Calls Tryz.prog 103 #[.slice a 0 cap, .int .i64 k] w fun e w' => e = .returned (.int .i64 k) ∧ w' = w := by
  go_enter Tryz.func103, Tryz.ntmps103
  go_wp2_with fail
  go_loop [1, 5] (fun kk i => i = .int .i64 0 ∧ kk = .int .i64 k) (fun _ _ => 0)
  case atStart => exact ⟨rfl, rfl⟩
  case round =>
    obtain ⟨rfl, rfl⟩ := hrel
    go_wp2_with fail
    go_ret
    exact ⟨rfl, rfl⟩

set_option maxHeartbeats 800000 in
theorem heldItemS_any (a : Option Addr) (cap : Nat) (l : List ItemL) (k : Int) (w : World) (hn : l.length ≤ 1048576) (hk0 : 0 ≤ k) (hk1 : k + (l.length : Int) + 2 * (lens l : Int) ≤ 10000000) (hs : ∀ j, (h : j < l.length) → l[j].2.length ≤ 1048576) (hr : RowI w a (markedI k l)) :
    Calls Tryz.prog 104 #[.slice a l.length cap, .int .i64 k] w fun e w' => e = .returned (.int .i64 (k + (l.length : Int) + 2 * (lens l : Int))) ∧ Below w.heap.size w w' := by
  go_enter Tryz.func104, Tryz.ntmps104
  go_wp2_with fail
  go_loopw [1, 5] (fun kk i wr => ∃ (j n : Nat), j ≤ l.length ∧ i = .int .i64 j ∧ Hid (n = lens (l.take j)) ∧ n ≤ lens l ∧ kk = .int .i64 (k + (j : Int) + 2 * (n : Int)) ∧ Below w.heap.size w wr) (fun _ i _ => l.length - (intOf i).toNat)
  case atStart => exact ⟨0, 0, Nat.zero_le _, rfl, rfl, Nat.zero_le _, by simp, Below.refl _ _⟩
  case round =>
    obtain ⟨j, n, hj, rfl, HN, hnl, rfl, hb⟩ := hrel
    by_cases hlt : j < l.length
    · have hN2 : n + l[j].2.length = lens (l.take (j + 1)) := by rw [lens_take hlt, ← HN.out]
      have hN3 : lens (l.take (j + 1)) ≤ lens l := by
        have := lens_append (l.take (j + 1)) (l.drop (j + 1))
        rw [List.take_append_drop] at this
        omega
      have HN2 : Hid (n + l[j].2.length = lens (l.take (j + 1))) := hN2
      have hle : n + l[j].2.length ≤ lens l := by omega
      have hsj := hs j hlt
      obtain ⟨b, o, rfl, hblt, c0, v, c1, hv⟩ := hr.below hb j (by rw [markedI_length]; exact hlt)
      rw [markedI_at k l j hlt, ← HN.out] at c0 hv
      obtain ⟨sa, sc, rfl, _, hrow⟩ := hv
      simp only [marked_length] at c1
      have k0 : (0 : Int) ≤ (j : Int) := by omega
      have k1 : (j : Int) < (l.length : Int) := by omega
      clear hN2 hN3
      go_wp2_with fail
      refine (heldMarkS_any sa sc l[j].2.length (k + (j : Int) + 2 * (n : Int) + 1) _ hsj (by omega) (by omega) hrow).mono ?_
      rintro e w1 ⟨rfl, hb1⟩
      go_wp2_with fail
      exact ⟨⟨j + 1, n + l[j].2.length, by omega, by go_num, HN2, hle, by congr 1; omega, hb.trans (hb1.mono hb.size)⟩, by simp [intOf]; omega⟩
    · obtain rfl : j = l.length := by omega
      have HN2 : Hid (n = lens l) := by rw [HN.out, List.take_of_length_le (Nat.le_refl _)]; rfl
      go_wp2_with fail
      go_ret
      exact ⟨by rw [HN2.out]; rfl, hb⟩

end Go.Proofs.YtpfhegengmlkmacGreatDoor
