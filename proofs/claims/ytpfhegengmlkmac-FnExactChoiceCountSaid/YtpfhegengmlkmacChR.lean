/- A window inside a row of windows: walks of slot, size, at, last at whatever place of a block. -/
import Derived.Test.YtpfhegengmlkmacWinI
import Derived.Test.YtpfhegengmlkmacChM
namespace Go.Proofs.Ytpfhegengmlkmac
open Go.RowKit Go.BigFrame

/-- From cell 'o' of block 'b' on lies a ring that begins at slot 0 and holds the items 'l', whose marks lie in W0. -/
def WinO (W0 w : World) (b o : Nat) (l : List ItemL) : Prop :=
  b < w.heap.size ∧ l.length ≤ 4 ∧ w.cell? ⟨b, o + 8, none⟩ = some (.int .i64 0) ∧ w.cell? ⟨b, o + 9, none⟩ = some (.int .i64 l.length) ∧
    ∀ k, (h : k < l.length) → w.cell? ⟨b, o + k * 2, none⟩ = some (.int .i64 l[k].1) ∧ ∃ v, w.cell? ⟨b, o + k * 2 + 1, none⟩ = some v ∧ IsSl W0 v l[k].2
theorem WinO.below {W0 w w' : World} {b o : Nat} {l : List ItemL} (h : WinO W0 w b o l) (hb : Below w.heap.size w w') : WinO W0 w' b o l := by
  obtain ⟨h0, h1, h2, h3, h4⟩ := h
  refine ⟨Nat.lt_of_lt_of_le h0 hb.size, h1, cell_on hb h0 h2, cell_on hb h0 h3, fun k hk => ?_⟩
  obtain ⟨e1, v, e2, e3⟩ := h4 k hk
  exact ⟨cell_on hb h0 e1, v, cell_on hb h0 e2, e3⟩

set_option maxHeartbeats 400000 in
theorem slot_off (w : World) (b o k : Nat) (c8 : w.cell? ⟨b, o + 8, none⟩ = some (.int .i64 0)) (hk : k < 4) :
    Calls Try.prog 83 #[.pointer (some ⟨b, o, none⟩), .int .i64 k] w fun e w' => e = .returned (.int .i64 (k : Int)) ∧ w' = w := by
  have HM : Hid ((k : Int) % 4 = (k : Int)) := by unfold Hid; omega
  go_enter Try.func83, Try.ntmps83
  go_wp2_with fail
  go_ret
  exact ⟨by rw [HM.out]; rfl, rfl⟩

set_option maxHeartbeats 400000 in
theorem size_off (W0 w : World) (b o : Nat) (l : List ItemL) (h : WinO W0 w b o l) :
    Calls Try.prog 52 #[.pointer (some ⟨b, o, none⟩)] w fun e w' => e = .returned (.int .i64 (l.length : Int)) ∧ w' = w := by
  have c9 := h.2.2.2.1
  go_enter Try.func52, Try.ntmps52
  go_wp2_with fail
  go_ret
  exact ⟨rfl, rfl⟩

set_option maxHeartbeats 400000 in
theorem at_val (w : World) (b o k : Nat) (x : Int) (sa : Option Addr) (n sc : Nat) (hwl : b < w.heap.size) (hk : k < 4) (c8 : w.cell? ⟨b, o + 8, none⟩ = some (.int .i64 0)) (c0 : w.cell? ⟨b, o + k * 2, none⟩ = some (.int .i64 x)) (c1 : w.cell? ⟨b, o + k * 2 + 1, none⟩ = some (.slice sa n sc)) :
    Calls Try.prog 54 #[.pointer (some ⟨b, o, none⟩), .int .i64 k] w fun e w' => e = .returned (.agg #[.int .i64 x, .slice sa n sc]) ∧ Below w.heap.size w w' := by
  have e8 := cell_on ((Below.refl w.heap.size w).alloc (Nat.le_refl _) (.cells #[.int .i64 0, .slice none 0 0] 74)) hwl c8
  have e0 := cell_on ((Below.refl w.heap.size w).alloc (Nat.le_refl _) (.cells #[.int .i64 0, .slice none 0 0] 74)) hwl c0
  have e1 := cell_on ((Below.refl w.heap.size w).alloc (Nat.le_refl _) (.cells #[.int .i64 0, .slice none 0 0] 74)) hwl c1
  have d0 : (w.alloc (.cells #[.int .i64 0, .slice none 0 0] 74)).cell? ⟨w.heap.size, 0, none⟩ = some (.int .i64 0) := box0 _ _ _ _
  have d1 : (w.alloc (.cells #[.int .i64 0, .slice none 0 0] 74)).cell? ⟨w.heap.size, 1, none⟩ = some (.slice none 0 0) := box1 _ _ _ _
  have f0 : (w.alloc (.cells #[.int .i64 0, .slice none 0 0] 74)).frozen? ⟨w.heap.size, 0, none⟩ = false := by simp [go_sem]
  have f1 : (w.alloc (.cells #[.int .i64 0, .slice none 0 0] 74)).frozen? ⟨w.heap.size, 1, none⟩ = false := by simp [go_sem]
  have hb0 : Below w.heap.size w (w.alloc (.cells #[.int .i64 0, .slice none 0 0] 74)) := (Below.refl w.heap.size w).alloc (Nat.le_refl _) _
  have hWl : b < (w.alloc (.cells #[.int .i64 0, .slice none 0 0] 74)).heap.size := Nat.lt_of_lt_of_le hwl hb0.size
  have hm1 : (0 : Int) ≤ (k : Int) := by omega
  have hm2 : (k : Int) < 4 := by omega
  go_enter Try.func54, Try.ntmps54
  go_wp2_with fail
  generalize hW : w.alloc (.cells #[.int .i64 0, .slice none 0 0] 74) = W at *
  clear hW
  have HS : ∀ u, Below W.heap.size W u → Calls Try.prog 83 #[.pointer (some ⟨b, o, none⟩), .int .i64 k] u fun e w' => e = .returned (.int .i64 (k : Int)) ∧ w' = u := fun u hu => slot_off u b o k (cell_on hu hWl e8) (by omega)
  clear c0 c1 c8 e8
  have hne : b ≠ w.heap.size := by omega
  go_region_held3 (fun w' => w'.cell? ⟨b, o + k * 2, none⟩ = some (.int .i64 x) ∧ w'.cell? ⟨b, o + k * 2 + 1, none⟩ = some (.slice sa n sc)) (first | exact ⟨e0, e1⟩ | (simp only [World.cell?_drew, set_far _ _ _ _ hne, e0, e1, and_self]; done))
    (first | (go_at_call 83; refine (HS _ (by first | exact Below.refl _ _ | exact (Below.refl _ _).drew | exact below_drewN (Below.refl _ _) _)).mono ?_; rintro e w1 ⟨rfl, rfl⟩))
  go_wp2_with fail
  exact bodyPost_ret (v := .agg #[.int .i64 x, .slice sa n sc]) (by simp [results, Try.results54, go_sem, d0, d1]) rfl ⟨rfl, ((hb0.setCell (Nat.le_refl _) _).setCell (Nat.le_refl _) _).drew⟩

theorem at_off (W0 w : World) (b o : Nat) (l : List ItemL) (k : Nat) (h : WinO W0 w b o l) (hk : k < l.length) :
    Calls Try.prog 54 #[.pointer (some ⟨b, o, none⟩), .int .i64 k] w fun e w' => (∃ v, e = .returned (.agg #[.int .i64 l[k].1, v]) ∧ IsSl W0 v l[k].2) ∧ Below w.heap.size w w' := by
  have h4 := h.2.1
  obtain ⟨c0, v, c1, hv⟩ := h.2.2.2.2 k hk
  obtain ⟨sa, sc, rfl, hcap, hrow⟩ := hv
  exact (at_val w b o k l[k].1 sa l[k].2.length sc h.1 (by omega) h.2.2.1 c0 c1).mono fun e w' ⟨he, hb⟩ => ⟨⟨_, he, sa, sc, rfl, hcap, hrow⟩, hb⟩

set_option maxHeartbeats 400000 in
theorem last_off (W0 w : World) (b o : Nat) (l : List ItemL) (h : WinO W0 w b o l) (h0 : 0 < l.length) :
    Calls Try.prog 107 #[.pointer (some ⟨b, o, none⟩)] w fun e w' => (∃ v, e = .returned (.agg #[.int .i64 (l[l.length - 1]'(by omega)).1, v]) ∧ IsSl W0 v (l[l.length - 1]'(by omega)).2) ∧ Below w.heap.size w w' := by
  have h4 := h.2.1
  have c9 := h.2.2.2.1
  have hwl := h.1
  have d0 : (w.alloc (.cells #[.int .i64 0, .slice none 0 0] 74)).cell? ⟨w.heap.size, 0, none⟩ = some (.int .i64 0) := box0 _ _ _ _
  have d1 : (w.alloc (.cells #[.int .i64 0, .slice none 0 0] 74)).cell? ⟨w.heap.size, 1, none⟩ = some (.slice none 0 0) := box1 _ _ _ _
  have f0 : (w.alloc (.cells #[.int .i64 0, .slice none 0 0] 74)).frozen? ⟨w.heap.size, 0, none⟩ = false := by simp [go_sem]
  have f1 : (w.alloc (.cells #[.int .i64 0, .slice none 0 0] 74)).frozen? ⟨w.heap.size, 1, none⟩ = false := by simp [go_sem]
  have hb0 : Below w.heap.size w (w.alloc (.cells #[.int .i64 0, .slice none 0 0] 74)) := (Below.refl w.heap.size w).alloc (Nat.le_refl _) _
  have hWl : w.heap.size < (w.alloc (.cells #[.int .i64 0, .slice none 0 0] 74)).heap.size := box_lt _ _
  have hkm : ((l.length : Int) - 1) = ((l.length - 1 : Nat) : Int) := by omega
  go_enter Try.func107, Try.ntmps107
  go_wp2_with fail
  generalize hW : w.alloc (.cells #[.int .i64 0, .slice none 0 0] 74) = W at *
  clear hW
  refine (at_off W0 W b o l (l.length - 1) (h.below hb0) (by omega)).mono ?_
  rintro e w1 ⟨⟨v, rfl, hv⟩, b1⟩
  obtain ⟨sa, sc, rfl, hcap, hrow⟩ := hv
  replace d0 := cell_on b1 hWl d0
  replace d1 := cell_on b1 hWl d1
  replace f0 := (b1.frozen (p := ⟨w.heap.size, 0, none⟩) hWl).trans f0
  replace f1 := (b1.frozen (p := ⟨w.heap.size, 1, none⟩) hWl).trans f1
  have B1 : Below w.heap.size w w1 := hb0.trans (b1.mono hb0.size)
  clear b1 hb0 c9
  go_wp2_with fail
  exact bodyPost_ret (v := .agg #[.int .i64 (l[l.length - 1]'(by omega)).1, .slice sa (l[l.length - 1]'(by omega)).2.length sc]) (by simp [results, Try.results107, go_sem, d0, d1]) rfl ⟨⟨_, rfl, sa, sc, rfl, hcap, hrow⟩, (B1.setCell (Nat.le_refl _) _).setCell (Nat.le_refl _) _⟩

end Go.Proofs.Ytpfhegengmlkmac
