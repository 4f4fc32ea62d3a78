/- Texts of this claim, one behind the other. -/
import Derived.Deep.RegionHeld3
import Derived.RangeFuncNested
import Derived.RangeFuncBound
import Derived.RangeFuncCalls
import Derived.RangeFuncLeaves
import Derived.Shelf.Abstract
import Derived.Shelf.RegionOpen
import Derived.OwnWalkIn
import Derived.TacticsInMore
import Derived.LoopNIn
import Derived.LoopIn
import Derived.Test.YtpfhegengmlkmaaGreatZK1
import Derived.Test.YtpfhegengmlkmaaGreatZK4
namespace Go.Proofs.YtpfhegengmlkmaaGreat
open Go.RowKit Go.BigFrame

set_option maxHeartbeats 400000 in
theorem had_any (s : ByteArray) (v : Int) (w : World) :
    Calls Tryz.prog 79 #[.agg #[.string s, .int .i64 v]] w fun e w' => e = .returned (.bool (decide (0 < v))) ∧ Below w.heap.size w w' := by
  go_enter Tryz.func79, Tryz.ntmps79
  go_wp2
  go_ret
  exact ⟨rfl, (Below.refl _ _).alloc (Nat.le_refl _) _⟩

set_option maxHeartbeats 400000 in
theorem later_any (x y : ByteArray × Int) (w : World) :
    Calls Tryz.prog 53 #[.agg #[.string x.1, .int .i64 x.2], .agg #[.string y.1, .int .i64 y.2]] w fun e w' => e = .returned (.agg #[.string (laterM x y).1, .int .i64 (laterM x y).2]) ∧ Below w.heap.size w w' := by
  by_cases h : x.2 < y.2
  · have H : Hid (laterM x y = y) := by unfold Hid laterM; rw [if_pos h]
    go_enter Tryz.func53, Tryz.ntmps53
    go_wp2
    rw [H.out]
    exact bodyPost_ret (v := .agg #[.string y.1, .int .i64 y.2]) (by simp [results, Tryz.results53, go_sem]) rfl ⟨rfl, (((Below.refl _ _).alloc (Nat.le_refl _) _).alloc (by simp) _).alloc (by simp; omega) _⟩
  · have H : Hid (laterM x y = x) := by unfold Hid laterM; rw [if_neg h]
    go_enter Tryz.func53, Tryz.ntmps53
    go_wp2
    rw [H.out]
    exact bodyPost_ret (v := .agg #[.string x.1, .int .i64 x.2]) (by simp [results, Tryz.results53, go_sem]) rfl ⟨rfl, (((Below.refl _ _).alloc (Nat.le_refl _) _).alloc (by simp) _).alloc (by simp; omega) _⟩

/-- The first mark of a row, and where it lies. -/
theorem Row.first {w : World} {a : Option Addr} {l : List (ByteArray × Int)} (h : Row w a l) (h0 : 0 < l.length) : ∃ b o, a = some ⟨b, o, none⟩ ∧ b < w.heap.size ∧ w.cell? ⟨b, o, none⟩ = some (.string l[0].1) ∧ w.cell? ⟨b, o + 1, none⟩ = some (.int .i64 l[0].2) := by
  obtain ⟨b, o, e, hb, c0, c1⟩ := h 0 h0
  exact ⟨b, o, e, hb, by simpa using c0, by simpa using c1⟩

theorem far_set (W : World) {h b i k : Nat} (v : Value) (hne : b ≠ h) : (W.setCell ⟨h, i, none⟩ v).cell? ⟨b, k, none⟩ = W.cell? ⟨b, k, none⟩ := World.cell?_of_block (Below.heap_setCell _ _ _ _ hne)

/-- The world in which two results lie in boxes of their own, named. -/
theorem two_boxes (w : World) (n : Nat) : ∃ W, ((w.alloc (.cells #[.string ⟨#[]⟩, .int .i64 0] 72)).alloc (.cells #[.string ⟨#[]⟩, .int .i64 0] 72)).drewN n = W ∧ ∃ x0 x1 y0 y1 : Value,
    W.cell? ⟨w.heap.size, 0, none⟩ = some x0 ∧ W.cell? ⟨w.heap.size, 1, none⟩ = some x1 ∧ W.cell? ⟨w.heap.size + 1, 0, none⟩ = some y0 ∧ W.cell? ⟨w.heap.size + 1, 1, none⟩ = some y1 ∧
    W.frozen? ⟨w.heap.size, 0, none⟩ = false ∧ W.frozen? ⟨w.heap.size, 1, none⟩ = false ∧ W.frozen? ⟨w.heap.size + 1, 0, none⟩ = false ∧ W.frozen? ⟨w.heap.size + 1, 1, none⟩ = false ∧ Below w.heap.size w W ∧ W.heap.size = w.heap.size + 2 :=
  ⟨_, rfl, _, _, _, _, by simp [go_sem]; rfl, by simp [go_sem]; rfl, by simp [go_sem]; rfl, by simp [go_sem]; rfl, by simp [go_sem], by simp [go_sem], by simp [go_sem], by simp [go_sem], below_drewN (((Below.refl _ _).alloc (Nat.le_refl _) _).alloc (by simp) _) n, by simp⟩

set_option maxHeartbeats 800000 in
/-- Only the first stamp has marks left. -/
theorem first_a0 (aa ab : Option Addr) (ca cb : Nat) (la lb : List (ByteArray × Int)) (w : World) (ha : Row w aa la) (h0 : 0 < la.length) (h1 : lb.length = 0) :
    Calls Tryz.prog 78 #[.slice aa la.length ca, .slice ab lb.length cb] w fun e w' => e = .returned (.tuple #[.agg #[.string la[0].1, .int .i64 la[0].2], .agg #[.string la[0].1, .int .i64 0]]) ∧ Below w.heap.size w w' := by
  obtain ⟨b, o, rfl, hblt, c0, c1⟩ := ha.first h0
  have ne1 : b ≠ w.heap.size := by omega
  have ne2 : b ≠ w.heap.size + 1 := by omega
  have g : ((lb.length : Int) == 0) = true := by simp [h1]
  clear h1
  go_enter Tryz.func78, Tryz.ntmps78
  go_wp2_with fail
  go_quiet (fail)
  go_wp2_with fail
  obtain ⟨W, hW, K⟩ := two_boxes w nq
  rw [hW]
  clear hW
  obtain ⟨x0, x1, y0, y1, d0, d1, e0, e1, f0, f1, f2, f3, hbel, hsz⟩ := K
  have c0 := cell_on hbel hblt c0
  have c1 := cell_on hbel hblt c1
  go_region_held3 (fun w' => w'.cell? ⟨b, o, none⟩ = some (.string la[0].1) ∧ w'.cell? ⟨b, o + 1, none⟩ = some (.int .i64 la[0].2)) (simp only [World.cell?_drew, far_set _ _ ne1, far_set _ _ ne2, c0, c1, and_self]) (fail)
  all_goals go_wp2_with fail
  all_goals exact bodyPost_ret (v := .tuple #[.agg #[.string la[0].1, .int .i64 la[0].2], .agg #[.string la[0].1, .int .i64 0]]) (by simp [results, Tryz.results78, go_sem, d0, d1, e0, e1]) rfl ⟨rfl, by repeat (first | exact hbel | apply Below.drew | apply below_drewN | refine Below.setCell ?_ (by simp) _)⟩

set_option maxHeartbeats 800000 in
/-- The first source of the first stamp comes first. -/
theorem first_lt (aa ab : Option Addr) (ca cb : Nat) (la lb : List (ByteArray × Int)) (w : World) (ha : Row w aa la) (hb : Row w ab lb) (h0 : 0 < la.length) (h0' : 0 < lb.length) (h1 : Op.bytesLess la[0].1.toList lb[0].1.toList = true) :
    Calls Tryz.prog 78 #[.slice aa la.length ca, .slice ab lb.length cb] w fun e w' => e = .returned (.tuple #[.agg #[.string la[0].1, .int .i64 la[0].2], .agg #[.string la[0].1, .int .i64 0]]) ∧ Below w.heap.size w w' := by
  obtain ⟨b, o, rfl, hblt, c0, c1⟩ := ha.first h0
  have ne1 : b ≠ w.heap.size := by omega
  have ne2 : b ≠ w.heap.size + 1 := by omega
  obtain ⟨b', o', rfl, hblt', k0, k1⟩ := hb.first h0'
  have ne3 : b' ≠ w.heap.size := by omega
  have ne4 : b' ≠ w.heap.size + 1 := by omega
  have g : ((lb.length : Int) == 0) = false := beq_eq_false_iff_ne.2 (by omega)
  have g1 : decide (0 < la.length) = true := by simpa using h0
  go_enter Tryz.func78, Tryz.ntmps78
  go_wp2_with fail
  go_quiet (fail)
  go_wp2_with fail
  obtain ⟨W, hW, K⟩ := two_boxes w nq
  rw [hW]
  clear hW
  obtain ⟨x0, x1, y0, y1, d0, d1, e0, e1, f0, f1, f2, f3, hbel, hsz⟩ := K
  have c0 := cell_on hbel hblt c0
  have c1 := cell_on hbel hblt c1
  have k0 := cell_on hbel hblt' k0
  have k1 := cell_on hbel hblt' k1
  go_region_held3 (fun w' => w'.cell? ⟨b, o, none⟩ = some (.string la[0].1) ∧ w'.cell? ⟨b, o + 1, none⟩ = some (.int .i64 la[0].2) ∧ w'.cell? ⟨b', o', none⟩ = some (.string lb[0].1) ∧ w'.cell? ⟨b', o' + 1, none⟩ = some (.int .i64 lb[0].2)) (simp only [World.cell?_drew, far_set _ _ ne1, far_set _ _ ne2, c0, c1, far_set _ _ ne3, far_set _ _ ne4, k0, k1, and_self]) (fail)
  all_goals go_wp2_with fail
  all_goals exact bodyPost_ret (v := .tuple #[.agg #[.string la[0].1, .int .i64 la[0].2], .agg #[.string la[0].1, .int .i64 0]]) (by simp [results, Tryz.results78, go_sem, d0, d1, e0, e1]) rfl ⟨rfl, by repeat (first | exact hbel | apply Below.drew | apply below_drewN | refine Below.setCell ?_ (by simp) _)⟩

set_option maxHeartbeats 800000 in
/-- Only the second stamp has marks left. -/
theorem first_b0 (aa ab : Option Addr) (ca cb : Nat) (la lb : List (ByteArray × Int)) (w : World) (hb : Row w ab lb) (h0' : 0 < lb.length) (h1 : la.length = 0) :
    Calls Tryz.prog 78 #[.slice aa la.length ca, .slice ab lb.length cb] w fun e w' => e = .returned (.tuple #[.agg #[.string lb[0].1, .int .i64 0], .agg #[.string lb[0].1, .int .i64 lb[0].2]]) ∧ Below w.heap.size w w' := by
  obtain ⟨b', o', rfl, hblt', k0, k1⟩ := hb.first h0'
  have ne3 : b' ≠ w.heap.size := by omega
  have ne4 : b' ≠ w.heap.size + 1 := by omega
  have g : ((lb.length : Int) == 0) = false := beq_eq_false_iff_ne.2 (by omega)
  have g1 : decide (0 < la.length) = false := by simp [h1]
  have g2 : ((la.length : Int) == 0) = true := by simp [h1]
  clear h1
  go_enter Tryz.func78, Tryz.ntmps78
  go_wp2_with fail
  go_quiet (fail)
  go_wp2_with fail
  go_quiet (fail)
  go_wp2_with fail
  obtain ⟨W, hW, K⟩ := two_boxes w _
  rw [hW]
  clear hW
  obtain ⟨x0, x1, y0, y1, d0, d1, e0, e1, f0, f1, f2, f3, hbel, hsz⟩ := K
  have k0 := cell_on hbel hblt' k0
  have k1 := cell_on hbel hblt' k1
  go_region_held3 (fun w' => w'.cell? ⟨b', o', none⟩ = some (.string lb[0].1) ∧ w'.cell? ⟨b', o' + 1, none⟩ = some (.int .i64 lb[0].2)) (simp only [World.cell?_drew, World.cell?_drewN, far_set _ _ ne3, far_set _ _ ne4, k0, k1, and_self]) (fail)
  all_goals go_wp2_with fail
  all_goals exact bodyPost_ret (v := .tuple #[.agg #[.string lb[0].1, .int .i64 0], .agg #[.string lb[0].1, .int .i64 lb[0].2]]) (by simp [results, Tryz.results78, go_sem, d0, d1, e0, e1]) rfl ⟨rfl, by repeat (first | exact hbel | apply Below.drew | apply below_drewN | refine Below.setCell ?_ (by simp) _)⟩

set_option maxHeartbeats 800000 in
/-- The first source of the second stamp comes first. -/
theorem first_gt (aa ab : Option Addr) (ca cb : Nat) (la lb : List (ByteArray × Int)) (w : World) (ha : Row w aa la) (hb : Row w ab lb) (h0 : 0 < la.length) (h0' : 0 < lb.length) (h1 : Op.bytesLess la[0].1.toList lb[0].1.toList = false) (h2 : Op.bytesLess lb[0].1.toList la[0].1.toList = true) :
    Calls Tryz.prog 78 #[.slice aa la.length ca, .slice ab lb.length cb] w fun e w' => e = .returned (.tuple #[.agg #[.string lb[0].1, .int .i64 0], .agg #[.string lb[0].1, .int .i64 lb[0].2]]) ∧ Below w.heap.size w w' := by
  obtain ⟨b, o, rfl, hblt, c0, c1⟩ := ha.first h0
  have ne1 : b ≠ w.heap.size := by omega
  have ne2 : b ≠ w.heap.size + 1 := by omega
  obtain ⟨b', o', rfl, hblt', k0, k1⟩ := hb.first h0'
  have ne3 : b' ≠ w.heap.size := by omega
  have ne4 : b' ≠ w.heap.size + 1 := by omega
  have g : ((lb.length : Int) == 0) = false := beq_eq_false_iff_ne.2 (by omega)
  have g1 : decide (0 < la.length) = true := by simpa using h0
  have g2 : ((la.length : Int) == 0) = false := beq_eq_false_iff_ne.2 (by omega)
  go_enter Tryz.func78, Tryz.ntmps78
  go_wp2_with fail
  go_quiet (fail)
  go_wp2_with fail
  go_quiet (fail)
  go_wp2_with fail
  obtain ⟨W, hW, K⟩ := two_boxes w _
  rw [hW]
  clear hW
  obtain ⟨x0, x1, y0, y1, d0, d1, e0, e1, f0, f1, f2, f3, hbel, hsz⟩ := K
  have c0 := cell_on hbel hblt c0
  have c1 := cell_on hbel hblt c1
  have k0 := cell_on hbel hblt' k0
  have k1 := cell_on hbel hblt' k1
  go_region_held3 (fun w' => w'.cell? ⟨b, o, none⟩ = some (.string la[0].1) ∧ w'.cell? ⟨b, o + 1, none⟩ = some (.int .i64 la[0].2) ∧ w'.cell? ⟨b', o', none⟩ = some (.string lb[0].1) ∧ w'.cell? ⟨b', o' + 1, none⟩ = some (.int .i64 lb[0].2)) (simp only [World.cell?_drew, World.cell?_drewN, far_set _ _ ne1, far_set _ _ ne2, c0, c1, far_set _ _ ne3, far_set _ _ ne4, k0, k1, and_self]) (fail)
  all_goals go_wp2_with fail
  all_goals exact bodyPost_ret (v := .tuple #[.agg #[.string lb[0].1, .int .i64 0], .agg #[.string lb[0].1, .int .i64 lb[0].2]]) (by simp [results, Tryz.results78, go_sem, d0, d1, e0, e1]) rfl ⟨rfl, by repeat (first | exact hbel | apply Below.drew | apply below_drewN | refine Below.setCell ?_ (by simp) _)⟩

set_option maxHeartbeats 800000 in
/-- Both have the source. -/
theorem first_eq (aa ab : Option Addr) (ca cb : Nat) (la lb : List (ByteArray × Int)) (w : World) (ha : Row w aa la) (hb : Row w ab lb) (h0 : 0 < la.length) (h0' : 0 < lb.length) (h1 : Op.bytesLess la[0].1.toList lb[0].1.toList = false) (h2 : Op.bytesLess lb[0].1.toList la[0].1.toList = false) :
    Calls Tryz.prog 78 #[.slice aa la.length ca, .slice ab lb.length cb] w fun e w' => e = .returned (.tuple #[.agg #[.string la[0].1, .int .i64 la[0].2], .agg #[.string lb[0].1, .int .i64 lb[0].2]]) ∧ Below w.heap.size w w' := by
  obtain ⟨b, o, rfl, hblt, c0, c1⟩ := ha.first h0
  have ne1 : b ≠ w.heap.size := by omega
  have ne2 : b ≠ w.heap.size + 1 := by omega
  obtain ⟨b', o', rfl, hblt', k0, k1⟩ := hb.first h0'
  have ne3 : b' ≠ w.heap.size := by omega
  have ne4 : b' ≠ w.heap.size + 1 := by omega
  have g : ((lb.length : Int) == 0) = false := beq_eq_false_iff_ne.2 (by omega)
  have g1 : decide (0 < la.length) = true := by simpa using h0
  have g2 : ((la.length : Int) == 0) = false := beq_eq_false_iff_ne.2 (by omega)
  go_enter Tryz.func78, Tryz.ntmps78
  go_wp2_with fail
  go_quiet (fail)
  go_wp2_with fail
  go_quiet (fail)
  go_wp2_with fail
  obtain ⟨W, hW, K⟩ := two_boxes w _
  rw [hW]
  clear hW
  obtain ⟨x0, x1, y0, y1, d0, d1, e0, e1, f0, f1, f2, f3, hbel, hsz⟩ := K
  have c0 := cell_on hbel hblt c0
  have c1 := cell_on hbel hblt c1
  have k0 := cell_on hbel hblt' k0
  have k1 := cell_on hbel hblt' k1
  go_region_held3 (fun w' => w'.cell? ⟨b, o, none⟩ = some (.string la[0].1) ∧ w'.cell? ⟨b, o + 1, none⟩ = some (.int .i64 la[0].2) ∧ w'.cell? ⟨b', o', none⟩ = some (.string lb[0].1) ∧ w'.cell? ⟨b', o' + 1, none⟩ = some (.int .i64 lb[0].2)) (simp only [World.cell?_drew, World.cell?_drewN, far_set _ _ ne1, far_set _ _ ne2, c0, c1, far_set _ _ ne3, far_set _ _ ne4, k0, k1, and_self]) (fail)
  all_goals go_wp2_with fail
  all_goals exact bodyPost_ret (v := .tuple #[.agg #[.string la[0].1, .int .i64 la[0].2], .agg #[.string lb[0].1, .int .i64 lb[0].2]]) (by simp [results, Tryz.results78, go_sem, d0, d1, e0, e1]) rfl ⟨rfl, by repeat (first | exact hbel | apply Below.drew | apply below_drewN | refine Below.setCell ?_ (by simp) _)⟩


/-- What firstOfBoth answers of two rests, not both empty. -/
theorem first_any (aa ab : Option Addr) (ca cb : Nat) (la lb : List (ByteArray × Int)) (w : World) (ha : Row w aa la) (hb : Row w ab lb) (p : (ByteArray × Int) × (ByteArray × Int)) (hp : headP la lb = some p) :
    Calls Tryz.prog 78 #[.slice aa la.length ca, .slice ab lb.length cb] w fun e w' => e = .returned (.tuple #[.agg #[.string p.1.1, .int .i64 p.1.2], .agg #[.string p.2.1, .int .i64 p.2.2]]) ∧ Below w.heap.size w w' := by
  cases la with
  | nil =>
    cases lb with
    | nil => simp [headP] at hp
    | cons y lb =>
      simp only [headP, Option.some.injEq] at hp
      subst hp
      exact first_b0 aa ab ca cb [] (y :: lb) w hb (by simp) rfl
  | cons x la =>
    cases lb with
    | nil =>
      simp only [headP, Option.some.injEq] at hp
      subst hp
      exact first_a0 aa ab ca cb (x :: la) [] w ha (by simp) rfl
    | cons y lb =>
      cases h1 : Op.bytesLess x.1.toList y.1.toList
      · cases h2 : Op.bytesLess y.1.toList x.1.toList
        · simp [headP, h1, h2] at hp
          subst hp
          exact first_eq aa ab ca cb (x :: la) (y :: lb) w ha hb (by simp) (by simp) h1 h2
        · simp [headP, h1, h2] at hp
          subst hp
          exact first_gt aa ab ca cb (x :: la) (y :: lb) w ha hb (by simp) (by simp) h1 h2
      · simp [headP, h1] at hp
        subst hp
        exact first_lt aa ab ca cb (x :: la) (y :: lb) w ha hb (by simp) (by simp) h1

end Go.Proofs.YtpfhegengmlkmaaGreat

namespace Go.Proofs.YtpfhegengmlkmaaGreat
open Go.RowKit Go.Shelf Go.WideShapes
attribute [local go_sem] Oper.semAt_some

/-- All cells of blocks ahead of 'lo', and those of small blocks from 'hi' on, are as they were. -/
structure KS (lo hi : Nat) (W W' : World) : Prop where
  size : W.heap.size ≤ W'.heap.size
  block : ∀ k o, (k < lo ∨ (hi ≤ k ∧ W.cell? ⟨k, 3, none⟩ = none)) → W.heap[k]? = some o → o.isCells = true → W'.heap[k]? = some o
theorem KS.refl (lo hi : Nat) (W : World) : KS lo hi W W := ⟨Nat.le_refl _, fun _ _ _ h _ => h⟩
theorem KS.trans {lo hi : Nat} {A B C : World} (h : KS lo hi A B) (k : KS lo hi B C) : KS lo hi A C :=
  ⟨Nat.le_trans h.size k.size, fun i o hn hi ho => by
    have h1 := h.block i o hn hi ho
    refine k.block i o (hn.imp id fun q => ⟨q.1, ?_⟩) h1 ho
    rw [World.cell?_of_block (w := A) (w' := B) (a := ⟨i, 3, none⟩) (by rw [h1, hi])]; exact q.2⟩
theorem KS.of_below {lo hi : Nat} {A B : World} (h : Below A.heap.size A B) : KS lo hi A B := ⟨h.size, fun k o _ hk _ => by
  rw [h.block k (Array.getElem?_eq_some_iff.1 hk).1]; exact hk⟩
theorem KS.put {lo hi : Nat} (W : World) (l : Nat) (o o' : Obj) (h : W.heap[l]? = some o) (ho : o.isCells = false) : KS lo hi W (W.putObj l o') := ⟨by simp, fun k o1 _ hk h1 => by
  have hne : k ≠ l := fun e => by subst e; rw [h] at hk; cases hk; rw [ho] at h1; cases h1
  rw [World.putObj_heap_other (fun e => hne e)]; exact hk⟩
theorem cell_obj {A : World} {b o : Nat} {v : Value} (h : A.cell? ⟨b, o, none⟩ = some v) : ∃ ob, A.heap[b]? = some ob ∧ ob.isCells = true := by
  unfold World.cell? at h
  cases hh : A.heap[b]? with
  | none => simp [hh] at h
  | some ob =>
    refine ⟨ob, rfl, ?_⟩
    cases ob <;> simp_all [Obj.isCells]
theorem KS.cell {lo hi : Nat} {A B : World} (h : KS lo hi A B) {b o : Nat} {v : Value} (hn : b < lo ∨ (hi ≤ b ∧ A.cell? ⟨b, 3, none⟩ = none)) (hc : A.cell? ⟨b, o, none⟩ = some v) : B.cell? ⟨b, o, none⟩ = some v := by
  obtain ⟨ob, h1, h2⟩ := cell_obj hc
  have h3 := h.block b ob hn h1 h2
  rw [World.cell?_of_block (w := A) (w' := B) (a := ⟨b, o, none⟩) (by rw [h3, h1])]; exact hc
theorem KS.row {lo hi : Nat} {A B : World} (h : KS lo hi A B) {a : Option Addr} {l : List (ByteArray × Int)} (hr : ∀ k, (hk : k < l.length) → ∃ b o, a = some ⟨b, o, none⟩ ∧ b < lo ∧ A.cell? ⟨b, o + k * 2, none⟩ = some (.string l[k].1) ∧ A.cell? ⟨b, o + k * 2 + 1, none⟩ = some (.int .i64 l[k].2)) (hB : lo ≤ B.heap.size) : Row B a l := fun k hk => by
  obtain ⟨b, o, ha, hb, c0, c1⟩ := hr k hk
  exact ⟨b, o, ha, by omega, h.cell (.inl hb) c0, h.cell (.inl hb) c1⟩

/-- A row of marks in blocks ahead of 'lo'. -/
def RowL (lo : Nat) (w : World) (a : Option Addr) (l : List (ByteArray × Int)) : Prop :=
  ∀ k, (hk : k < l.length) → ∃ b o, a = some ⟨b, o, none⟩ ∧ b < lo ∧ w.cell? ⟨b, o + k * 2, none⟩ = some (.string l[k].1) ∧ w.cell? ⟨b, o + k * 2 + 1, none⟩ = some (.int .i64 l[k].2)
theorem Row.low {w : World} {a : Option Addr} {l : List (ByteArray × Int)} (h : Row w a l) : RowL w.heap.size w a l := h
theorem RowL.below {lo : Nat} {w w' : World} {a : Option Addr} {l : List (ByteArray × Int)} (h : RowL lo w a l) (hb : Below lo w w') : RowL lo w' a l := fun k hk => by
  obtain ⟨b, o, ha, hlt, c0, c1⟩ := h k hk
  exact ⟨b, o, ha, hlt, by rw [hb.cell hlt]; exact c0, by rw [hb.cell hlt]; exact c1⟩

theorem Tryz.elemM : Tryz.prog.underlying 35 = some (.slice (Tryz.prog.elem 35)) := by kernel_rfl
theorem Tryz.sizeM (u : World) : (sizeOf (Tryz.prog.elem 35)).run Tryz.prog u = .ok 2 u := by kernel_rfl

/-- a[i:]: the rest of a row. -/
theorem slice_rest (aa : Option Addr) (cap i : Nat) (l : List (ByteArray × Int)) (hi : i ≤ l.length) (hc : l.length ≤ cap) : ∃ aa' : Option Addr,
    (∀ u : World, (Instr.slice 35 (.slice aa l.length cap) (some (.int .i64 (i : Int))) none none).run Tryz.prog u = .ok (.slice aa' (l.length - i) (cap - i)) u) ∧ (∀ w, Row w aa l → Row w aa' (l.drop i)) := by
  refine ⟨if cap = i then aa else aa.map (·.add (i * 2)), fun u => ?_, fun w h k hk => ?_⟩
  · rw [run_slice_l u 35 aa l.length cap Tryz.elemM .i64 (i : Int) (by omega) (by omega), Tryz.sizeM]
    simp [Result.andThen, sliced]
  · rw [List.length_drop] at hk
    obtain ⟨b, o, ha, hb, c0, c1⟩ := h (i + k) (by omega)
    refine ⟨b, o + i * 2, ?_, hb, ?_, ?_⟩
    · rw [if_neg (by omega), ha]
      simp [add_plain]
    · rw [List.getElem_drop]
      have e : o + i * 2 + k * 2 = o + (i + k) * 2 := by omega
      rw [e]; exact c0
    · rw [List.getElem_drop]
      have e : o + i * 2 + k * 2 + 1 = o + (i + k) * 2 + 1 := by omega
      rw [e]; exact c1

theorem first_len (aa ab : Option Addr) (ca cb na nb : Nat) (la lb : List (ByteArray × Int)) (hna : na = la.length) (hnb : nb = lb.length) (w : World) (ha : Row w aa la) (hb : Row w ab lb) (p : (ByteArray × Int) × (ByteArray × Int)) (hp : headP la lb = some p) :
    Calls Tryz.prog 78 #[.slice aa na ca, .slice ab nb cb] w fun e w' => e = .returned (.tuple #[.agg #[.string p.1.1, .int .i64 p.1.2], .agg #[.string p.2.1, .int .i64 p.2.2]]) ∧ Below w.heap.size w w' := by
  subst hna hnb
  exact first_any aa ab ca cb la lb w ha hb p hp

/-- A pair of marks with names of a bearable size. -/
structure PM where
  p : (ByteArray × Int) × (ByteArray × Int)
  h : p.1.1.size ≤ 1048576 ∧ p.2.1.size ≤ 1048576

theorem headP_size {a b : List (ByteArray × Int)} {p : (ByteArray × Int) × (ByteArray × Int)} (ha : ∀ m ∈ a, m.1.size ≤ 1048576) (hb : ∀ m ∈ b, m.1.size ≤ 1048576) (hp : headP a b = some p) : p.1.1.size ≤ 1048576 ∧ p.2.1.size ≤ 1048576 := by
  cases a with
  | nil =>
    cases b with
    | nil => simp [headP] at hp
    | cons y b => simp only [headP, Option.some.injEq] at hp; subst hp; exact ⟨hb y (by simp), hb y (by simp)⟩
  | cons x a =>
    cases b with
    | nil => simp only [headP, Option.some.injEq] at hp; subst hp; exact ⟨ha x (by simp), ha x (by simp)⟩
    | cons y b =>
      have h1 := ha x (by simp)
      have h2 := hb y (by simp)
      simp only [headP] at hp
      split at hp
      · simp only [Option.some.injEq] at hp; subst hp; exact ⟨h1, h1⟩
      · split at hp
        · simp only [Option.some.injEq] at hp; subst hp; exact ⟨h2, h2⟩
        · simp only [Option.some.injEq] at hp; subst hp; exact ⟨h1, h2⟩
theorem headP_pos {a b : List (ByteArray × Int)} {p : (ByteArray × Int) × (ByteArray × Int)} (ha : ∀ m ∈ a, 1 ≤ m.2) (hb : ∀ m ∈ b, 1 ≤ m.2) (hp : headP a b = some p) : (0 < p.1.2 → 0 < a.length) ∧ (0 < p.2.2 → 0 < b.length) ∧ (0 < p.1.2 ∨ 0 < p.2.2) := by
  cases a with
  | nil =>
    cases b with
    | nil => simp [headP] at hp
    | cons y b =>
      have h2 := hb y (by simp)
      simp only [headP, Option.some.injEq] at hp; subst hp; exact ⟨fun h => by simp at h, fun _ => by simp, .inr (by simp only; omega)⟩
  | cons x a =>
    have h1 := ha x (by simp)
    cases b with
    | nil => simp only [headP, Option.some.injEq] at hp; subst hp; exact ⟨fun _ => by simp, fun h => by simp at h, .inl (by simp only; omega)⟩
    | cons y b =>
      have h2 := hb y (by simp)
      refine ⟨fun _ => by simp, fun _ => by simp, ?_⟩
      simp only [headP] at hp
      split at hp
      · simp only [Option.some.injEq] at hp; subst hp; exact .inl (by simp only; omega)
      · split at hp
        · simp only [Option.some.injEq] at hp; subst hp; exact .inr (by simp only; omega)
        · simp only [Option.some.injEq] at hp; subst hp; exact .inl (by simp only; omega)
theorem headP_some {a b : List (ByteArray × Int)} (h : 0 < a.length + b.length) : ∃ p, headP a b = some p := by
  cases a with
  | nil =>
    cases b with
    | nil => simp at h
    | cons y b => exact ⟨_, rfl⟩
  | cons x a =>
    cases b with
    | nil => exact ⟨_, rfl⟩
    | cons y b =>
      simp only [headP]
      split
      · exact ⟨_, rfl⟩
      · split <;> exact ⟨_, rfl⟩

theorem set2 {W : World} {h : Nat} {a b x y : Value} (h0 : W.cell? ⟨h, 0, none⟩ = some x) (h1 : W.cell? ⟨h, 1, none⟩ = some y) : ((W.setCell ⟨h, 0, none⟩ a).setCell ⟨h, 1, none⟩ b).cell? ⟨h, 0, none⟩ = some a ∧ ((W.setCell ⟨h, 0, none⟩ a).setCell ⟨h, 1, none⟩ b).cell? ⟨h, 1, none⟩ = some b := by
  simp [go_sem, h0, h1]
/-- Two boxes that were laid ahead of a call, and filled behind it. -/
theorem box4 {wr w1 : World} {B : Nat} {t : TypeId} {p q p' q' : Value} (hB : wr.heap.size + 1 < B) (hb1 : Below B ((wr.alloc (.cells #[p, q] t)).alloc (.cells #[p', q'] t)).drew w1) : w1.cell? ⟨wr.heap.size, 0, none⟩ = some p ∧ w1.cell? ⟨wr.heap.size, 1, none⟩ = some q := by
  refine ⟨(hb1.cell (p := ⟨wr.heap.size, 0, none⟩) (by simp only; omega)).trans ?_, (hb1.cell (p := ⟨wr.heap.size, 1, none⟩) (by simp only; omega)).trans ?_⟩
  · simp [go_sem]
  · simp [go_sem]
end Go.Proofs.YtpfhegengmlkmaaGreat
