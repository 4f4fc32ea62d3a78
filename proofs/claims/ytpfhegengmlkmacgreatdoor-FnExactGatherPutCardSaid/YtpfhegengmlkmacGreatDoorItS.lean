/- Texts of an answer: marked, and held against the marks. -/
import Derived.Test.YtpfhegengmlkmacGreatDoorGathS
import Derived.Test.YtpfhegengmlkmacGreatDoorSafe
namespace Go.Proofs.YtpfhegengmlkmacGreatDoor
open Go.RowKit Go.BigFrame

/-- The marks of texts. -/
def textsM (k : Int) (n : Nat) : List ByteArray := (List.range n).map fun (i : Nat) => mt (k + (i : Int))
theorem textsM_len (k : Int) (n : Nat) : (textsM k n).length = n := by simp [textsM]
theorem textsM_at (k : Int) (n j : Nat) (h : j < (textsM k n).length) : (textsM k n)[j] = mt (k + (j : Int)) := by simp [textsM]
/-- Block 'g' begins with the texts 'l'. -/
def StrB (w : World) (g : Nat) (l : List ByteArray) : Prop := ∃ m f, w.rowIs g 9 m f ∧ l.length ≤ m ∧ ∀ j, (h : j < l.length) → f j = .string l[j]
theorem StrB.cell {w : World} {g : Nat} {l : List ByteArray} (h : StrB w g l) {j : Nat} (hj : j < l.length) : w.cell? ⟨g, j, none⟩ = some (.string l[j]) := by
  obtain ⟨m, f, h, hm, hf⟩ := h
  rw [h.cell (by omega), hf j hj]
theorem StrB.frozen {w : World} {g : Nat} {l : List ByteArray} (h : StrB w g l) (j : Nat) : w.frozen? ⟨g, j, none⟩ = false := by
  obtain ⟨m, f, h, _⟩ := h
  exact h.frozen j
theorem StrB.lt {w : World} {g : Nat} {l : List ByteArray} (h : StrB w g l) : g < w.heap.size := by
  obtain ⟨m, f, h, _⟩ := h
  exact h.lt
theorem StrB.set {w : World} {g : Nat} {l : List ByteArray} (h : StrB w g l) (j : Nat) (x : ByteArray) : StrB (w.setCell ⟨g, j, none⟩ (.string x)) g (l.set j x) := by
  obtain ⟨m, f, h, hm, hf⟩ := h
  refine ⟨m, _, h.set _ _, by rw [List.length_set]; exact hm, fun i hi => ?_⟩
  rw [List.length_set] at hi
  by_cases e : i = j
  · subst e; simp
  · simp only [if_neg e]
    rw [hf i hi, List.getElem_set_ne (fun h => e h.symm)]
theorem StrB.below {w w' : World} {g : Nat} {l : List ByteArray} (h : StrB w g l) (hb : Below w.heap.size w w') : StrB w' g l := by
  have hlt := h.lt
  obtain ⟨m, f, h, hf⟩ := h
  exact ⟨m, f, h.of_block (hb.block g hlt), hf⟩
theorem StrB.span {w w' : World} {g lo hi : Nat} {l : List ByteArray} (h : StrB w g l) (hs : Span lo hi w w') (hd : g < lo ∨ hi ≤ g) : StrB w' g l := by
  have hlt := h.lt
  obtain ⟨m, f, h, hf⟩ := h
  exact ⟨m, f, h.of_block (hs.block g hlt hd), hf⟩
theorem StrB.row {w : World} {g : Nat} {l : List ByteArray} (h : StrB w g l) : RowS w (some ⟨g, 0, none⟩) l := fun k hk => ⟨g, 0, rfl, h.lt, by rw [Nat.zero_add]; exact h.cell hk⟩
theorem GathS.block {w : World} {B : Nat} {v : Value} {l : List ByteArray} (h : GathS w B v l) (h0 : 0 < l.length) : ∃ g c, v = .slice (some ⟨g, 0, none⟩) l.length c ∧ B ≤ g ∧ StrB w g l := by
  rcases h.2 with ⟨_, e⟩ | ⟨g, cap, cur, e, hB, hh, hn, hc, hs, ht⟩
  · omega
  · refine ⟨g, cap, e, hB, cap * 1, fun i => (cur[i]?).getD undef, ⟨cur, hh, hs, fun i hi => ?_⟩, by omega, fun k hk => ?_⟩
    · have hi' : i < cur.size := by omega
      simp [Array.getElem?_eq_getElem hi']
    · have h2 : (l.map Value.string)[k]? = some (.string l[k]) := by simp [hk]
      rw [← ht, List.getElem?_take_of_lt (by simp; omega)] at h2
      simp only [Array.getElem?_toList] at h2
      simp only [h2]
      rfl
/-- The first j texts marked. -/
def mixT (k : Int) (l : List ByteArray) (j : Nat) : List ByteArray := (textsM k j) ++ l.drop j
theorem mixT_len (k : Int) (l : List ByteArray) {j : Nat} (h : j ≤ l.length) : (mixT k l j).length = l.length := by simp [mixT, textsM]; omega
theorem mixT_step (k : Int) (l : List ByteArray) {j : Nat} (h : j < l.length) : (mixT k l j).set j (mt (k + (j : Int))) = mixT k l (j + 1) := by
  apply List.ext_getElem
  · rw [List.length_set, mixT_len k l (by omega), mixT_len k l (by omega)]
  · intro i h1 h2
    have hl : i < l.length := by rw [List.length_set, mixT_len k l (by omega)] at h1; exact h1
    rw [List.getElem_set]
    simp only [mixT, List.getElem_append, textsM_len]
    by_cases e : j = i
    · subst e
      simp [textsM]
    · simp only [if_neg e]
      by_cases e2 : i < j
      · simp only [e2, ↓reduceDIte, show i < j + 1 by omega]
        simp [textsM]
      · simp only [e2, ↓reduceDIte, show ¬ i < j + 1 by omega, List.getElem_drop]
        congr 1
        omega

set_option maxHeartbeats 800000 in
theorem markStrB_any (g cap : Nat) (l : List ByteArray) (k : Int) (w : World) (hn : l.length ≤ 1048576) (hk0 : 0 ≤ k) (hk1 : k ≤ 10000000) (ho : StrB w g l) :
    Calls Tryz.prog 30 #[.slice (some ⟨g, 0, none⟩) l.length cap, .int .i64 k] w fun e w' => e = .returned (.int .i64 (k + (l.length : Int))) ∧ StrB w' g (textsM k l.length) ∧ But g w w' := by
  go_enter Tryz.func30, Tryz.ntmps30
  go_wp2_with fail
  go_loopw [1, 5] (fun kk i wr => ∃ j : Nat, j ≤ l.length ∧ i = .int .i64 j ∧ kk = .int .i64 (k + (j : Int)) ∧ StrB wr g (mixT k l j) ∧ But g w wr) (fun _ i _ => l.length - (intOf i).toNat)
  case atStart => exact ⟨0, Nat.zero_le _, rfl, by simp, by simpa [mixT, textsM] using ho, But.refl _ _⟩
  case round =>
    obtain ⟨j, hj, rfl, rfl, hnb, hb⟩ := hrel
    by_cases hlt : j < l.length
    · have hjm : j < (mixT k l j).length := by rw [mixT_len k l (by omega)]; omega
      go_wp2_with (first | (go_at_call 66; refine (markText_any _ _ (by omega)).mono ?_; rintro e w1 ⟨rfl, hb1⟩; have hp1 := hnb.below hb1; have hv0 := hp1.cell hjm; have hz0 := hp1.frozen j; have hset := hp1.set j (mt (k + (j : Int)))))
      rw [mixT_step k l hlt] at hset
      exact ⟨⟨j + 1, by omega, by go_num, by congr 1; omega, hset, (hb.trans (But.of_below hb1)).setCell _ _⟩, by simp [intOf]; omega⟩
    · obtain rfl : j = l.length := by omega
      have he : mixT k l l.length = textsM k l.length := by simp [mixT]
      rw [he] at hnb
      go_wp2_with fail
      go_ret
      exact ⟨rfl, hnb, hb⟩

set_option maxHeartbeats 800000 in
theorem heldStringS_any (a : Option Addr) (cap n : Nat) (k : Int) (w : World) (hn : n ≤ 1048576) (hk0 : 0 ≤ k) (hk1 : k ≤ 10000000) (hr : RowS w a (textsM k n)) :
    Calls Tryz.prog 61 #[.slice a n cap, .int .i64 k] w fun e w' => e = .returned (.int .i64 (k + (n : Int))) ∧ Below w.heap.size w w' := by
  go_enter Tryz.func61, Tryz.ntmps61
  go_wp2_with fail
  go_loopw [1, 5] (fun kk i wr => ∃ j : Nat, j ≤ n ∧ i = .int .i64 j ∧ kk = .int .i64 (k + (j : Int)) ∧ Below w.heap.size w wr) (fun _ i _ => n - (intOf i).toNat)
  case atStart => exact ⟨0, Nat.zero_le _, rfl, by simp, Below.refl _ _⟩
  case round =>
    obtain ⟨j, hj, rfl, rfl, hb⟩ := hrel
    by_cases hlt : j < n
    · obtain ⟨b, o, rfl, hblt, c0⟩ := hr.below hb j (by rw [textsM_len]; exact hlt)
      rw [textsM_at] at c0
      have j0 : (0 : Int) ≤ (j : Int) := by omega
      have j1 : (j : Int) < (n : Int) := by omega
      go_wp2_with fail
      refine wp_region_lat (by kernel_rfl) (by kernel_rfl) ?_
      have hne := Lat.some wr
      have q0 : ∀ n : Lat wr, n.w.cell? ⟨b, o + j, none⟩ = some (.string (mt (k + (j : Int)))) := fun n => n.cell hblt c0
      repeat (go_big_quiet_step ((go_at_call 66; exact Calls.lat_of (markText_any _ _ (by omega)))))
      refine wpQuiet_nil ?_
      rintro _ ⟨nq, rfl⟩
      go_wp2_with fail
      exact ⟨⟨j + 1, by omega, by go_num, by congr 1; omega, hb.trans (nq.h.mono hb.size)⟩, by simp [intOf]; omega⟩
    · obtain rfl : j = n := by omega
      go_wp2_with fail
      go_ret
      exact ⟨rfl, hb⟩

end Go.Proofs.YtpfhegengmlkmacGreatDoor
