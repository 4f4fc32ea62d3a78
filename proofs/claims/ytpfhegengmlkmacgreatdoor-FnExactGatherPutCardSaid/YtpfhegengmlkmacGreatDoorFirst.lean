/- Walks: Mark.had, Mark.later, firstOfBoth. -/
import Derived.Test.YtpfhegengmlkmacGreatDoorMath3
import Derived.Test.YtpfhegengmlkmacGreatDoorLat
import Derived.Deep.RegionHeld3
namespace Go.Proofs.YtpfhegengmlkmacGreatDoor
open Go.RowKit Go.BigFrame

set_option maxHeartbeats 400000 in
theorem had_any (s : ByteArray) (v : Int) (w : World) :
    Calls Tryz.prog 179 #[.agg #[.string s, .int .i64 v]] w fun e w' => e = .returned (.bool (decide (0 < v))) ∧ Below w.heap.size w w' := by
  go_enter Tryz.func179, Tryz.ntmps179
  go_wp2
  go_ret
  exact ⟨rfl, (Below.refl _ _).alloc (Nat.le_refl _) _⟩

set_option maxHeartbeats 400000 in
theorem later_any (x y : ByteArray × Int) (w : World) :
    Calls Tryz.prog 144 #[.agg #[.string x.1, .int .i64 x.2], .agg #[.string y.1, .int .i64 y.2]] w fun e w' => e = .returned (.agg #[.string (laterM x y).1, .int .i64 (laterM x y).2]) ∧ Below w.heap.size w w' := by
  by_cases h : x.2 < y.2
  · have H : Hid (laterM x y = y) := by unfold Hid laterM; rw [if_pos h]
    go_enter Tryz.func144, Tryz.ntmps144
    go_wp2
    rw [H.out]
    exact bodyPost_ret (v := .agg #[.string y.1, .int .i64 y.2]) (by simp [results, Tryz.results144, go_sem]) rfl ⟨rfl, (((Below.refl _ _).alloc (Nat.le_refl _) _).alloc (by simp) _).alloc (by simp; omega) _⟩
  · have H : Hid (laterM x y = x) := by unfold Hid laterM; rw [if_neg h]
    go_enter Tryz.func144, Tryz.ntmps144
    go_wp2
    rw [H.out]
    exact bodyPost_ret (v := .agg #[.string x.1, .int .i64 x.2]) (by simp [results, Tryz.results144, go_sem]) rfl ⟨rfl, (((Below.refl _ _).alloc (Nat.le_refl _) _).alloc (by simp) _).alloc (by simp; omega) _⟩

/-- The first mark of a row, and where it lies. -/
theorem Row.first {w : World} {a : Option Addr} {l : List (ByteArray × Int)} (h : Row w a l) (h0 : 0 < l.length) : ∃ b o, a = some ⟨b, o, none⟩ ∧ b < w.heap.size ∧ w.cell? ⟨b, o, none⟩ = some (.string l[0].1) ∧ w.cell? ⟨b, o + 1, none⟩ = some (.int .i64 l[0].2) := by
  obtain ⟨b, o, e, hb, c0, c1⟩ := h 0 h0
  exact ⟨b, o, e, hb, by simpa using c0, by simpa using c1⟩

theorem far_set (W : World) {h b i k : Nat} (v : Value) (hne : b ≠ h) : (W.setCell ⟨h, i, none⟩ v).cell? ⟨b, k, none⟩ = W.cell? ⟨b, k, none⟩ := World.cell?_of_block (Below.heap_setCell _ _ _ _ hne)

theorem far2 {W : World} {h b i j k : Nat} {u v : Value} (hne : b ≠ h) : ((W.setCell ⟨h, i, none⟩ u).setCell ⟨h, j, none⟩ v).cell? ⟨b, k, none⟩ = W.cell? ⟨b, k, none⟩ := (far_set _ _ hne).trans (far_set _ _ hne)

theorem far2d {W : World} {h b i j k : Nat} {u v : Value} (hne : b ≠ h) : ((W.setCell ⟨h, i, none⟩ u).setCell ⟨h, j, none⟩ v).drew.cell? ⟨b, k, none⟩ = W.cell? ⟨b, k, none⟩ := far2 hne
theorem far4d {W : World} {h h' b i j i' j' k : Nat} {u v u' v' : Value} (hne : b ≠ h) (hne' : b ≠ h') : ((((W.setCell ⟨h, i, none⟩ u).setCell ⟨h, j, none⟩ v).setCell ⟨h', i', none⟩ u').setCell ⟨h', j', none⟩ v').drew.cell? ⟨b, k, none⟩ = W.cell? ⟨b, k, none⟩ := (far2 hne').trans (far2 hne)

/-- The world in which two results lie in boxes of their own, named. -/
theorem two_boxes (w : World) (n : Nat) : ∃ W, ((w.alloc (.cells #[.string ⟨#[]⟩, .int .i64 0] 144)).alloc (.cells #[.string ⟨#[]⟩, .int .i64 0] 144)).drewN n = W ∧ ∃ x0 x1 y0 y1 : Value,
    W.cell? ⟨w.heap.size, 0, none⟩ = some x0 ∧ W.cell? ⟨w.heap.size, 1, none⟩ = some x1 ∧ W.cell? ⟨w.heap.size + 1, 0, none⟩ = some y0 ∧ W.cell? ⟨w.heap.size + 1, 1, none⟩ = some y1 ∧
    W.frozen? ⟨w.heap.size, 0, none⟩ = false ∧ W.frozen? ⟨w.heap.size, 1, none⟩ = false ∧ W.frozen? ⟨w.heap.size + 1, 0, none⟩ = false ∧ W.frozen? ⟨w.heap.size + 1, 1, none⟩ = false ∧ Below w.heap.size w W ∧ W.heap.size = w.heap.size + 2 :=
  ⟨_, rfl, _, _, _, _, by simp [go_sem]; rfl, by simp [go_sem]; rfl, by simp [go_sem]; rfl, by simp [go_sem]; rfl, by simp [go_sem], by simp [go_sem], by simp [go_sem], by simp [go_sem], below_drewN (((Below.refl _ _).alloc (Nat.le_refl _) _).alloc (by simp) _) n, by simp⟩

set_option maxHeartbeats 800000 in
/-- Only the first stamp has marks left. -/
theorem first_a0 (aa ab : Option Addr) (ca cb : Nat) (la lb : List (ByteArray × Int)) (w : World) (ha : Row w aa la) (h0 : 0 < la.length) (h1 : lb.length = 0) :
    Calls Tryz.prog 178 #[.slice aa la.length ca, .slice ab lb.length cb] w fun e w' => e = .returned (.tuple #[.agg #[.string la[0].1, .int .i64 la[0].2], .agg #[.string la[0].1, .int .i64 0]]) ∧ Below w.heap.size w w' := by
  obtain ⟨b, o, rfl, hblt, c0, c1⟩ := ha.first h0
  have ne1 : b ≠ w.heap.size := by omega
  have ne2 : b ≠ w.heap.size + 1 := by omega
  have g : ((lb.length : Int) == 0) = true := by simp [h1]
  clear h1
  go_enter Tryz.func178, Tryz.ntmps178
  go_wp2_with fail
  go_quiet (fail)
  go_wp2_with fail
  obtain ⟨W, hW, K⟩ := two_boxes w nq
  rw [hW]
  clear hW
  obtain ⟨x0, x1, y0, y1, d0, d1, e0, e1, f0, f1, f2, f3, hbel, hsz⟩ := K
  have c0 := cell_on hbel hblt c0
  have c1 := cell_on hbel hblt c1
  go_region_held3 (fun w' => w'.cell? ⟨b, o, none⟩ = some (.string la[0].1) ∧ w'.cell? ⟨b, o + 1, none⟩ = some (.int .i64 la[0].2)) (simp only [World.cell?_drew, far_set _ _ ne1, far_set _ _ ne2, c0, c1, and_self]) (fail)
  all_goals go_wp2_with fail
  all_goals exact bodyPost_ret (v := .tuple #[.agg #[.string la[0].1, .int .i64 la[0].2], .agg #[.string la[0].1, .int .i64 0]]) (by simp [results, Tryz.results178, go_sem, d0, d1, e0, e1]) rfl ⟨rfl, by repeat (first | exact hbel | apply Below.drew | apply below_drewN | refine Below.setCell ?_ (by simp) _)⟩

set_option maxHeartbeats 800000 in
/-- The first source of the first stamp comes first. -/
theorem first_lt (aa ab : Option Addr) (ca cb : Nat) (la lb : List (ByteArray × Int)) (w : World) (ha : Row w aa la) (hb : Row w ab lb) (h0 : 0 < la.length) (h0' : 0 < lb.length) (h1 : Op.bytesLess la[0].1.toList lb[0].1.toList = true) :
    Calls Tryz.prog 178 #[.slice aa la.length ca, .slice ab lb.length cb] w fun e w' => e = .returned (.tuple #[.agg #[.string la[0].1, .int .i64 la[0].2], .agg #[.string la[0].1, .int .i64 0]]) ∧ Below w.heap.size w w' := by
  obtain ⟨b, o, rfl, hblt, c0, c1⟩ := ha.first h0
  have ne1 : b ≠ w.heap.size := by omega
  have ne2 : b ≠ w.heap.size + 1 := by omega
  obtain ⟨b', o', rfl, hblt', k0, k1⟩ := hb.first h0'
  have ne3 : b' ≠ w.heap.size := by omega
  have ne4 : b' ≠ w.heap.size + 1 := by omega
  have g : ((lb.length : Int) == 0) = false := beq_eq_false_iff_ne.2 (by omega)
  have g1 : decide (0 < la.length) = true := by simpa using h0
  go_enter Tryz.func178, Tryz.ntmps178
  go_wp2_with fail
  go_quiet (fail)
  go_wp2_with fail
  obtain ⟨W, hW, K⟩ := two_boxes w nq
  rw [hW]
  clear hW
  obtain ⟨x0, x1, y0, y1, d0, d1, e0, e1, f0, f1, f2, f3, hbel, hsz⟩ := K
  have c0 := cell_on hbel hblt c0
  have c1 := cell_on hbel hblt c1
  have k0 := cell_on hbel hblt' k0
  have k1 := cell_on hbel hblt' k1
  go_region_held3 (fun w' => w'.cell? ⟨b, o, none⟩ = some (.string la[0].1) ∧ w'.cell? ⟨b, o + 1, none⟩ = some (.int .i64 la[0].2) ∧ w'.cell? ⟨b', o', none⟩ = some (.string lb[0].1) ∧ w'.cell? ⟨b', o' + 1, none⟩ = some (.int .i64 lb[0].2)) (simp only [World.cell?_drew, far_set _ _ ne1, far_set _ _ ne2, c0, c1, far_set _ _ ne3, far_set _ _ ne4, k0, k1, and_self]) (fail)
  all_goals go_wp2_with fail
  all_goals exact bodyPost_ret (v := .tuple #[.agg #[.string la[0].1, .int .i64 la[0].2], .agg #[.string la[0].1, .int .i64 0]]) (by simp [results, Tryz.results178, go_sem, d0, d1, e0, e1]) rfl ⟨rfl, by repeat (first | exact hbel | apply Below.drew | apply below_drewN | refine Below.setCell ?_ (by simp) _)⟩

set_option maxHeartbeats 800000 in
/-- Only the second stamp has marks left. -/
theorem first_b0 (aa ab : Option Addr) (ca cb : Nat) (la lb : List (ByteArray × Int)) (w : World) (hb : Row w ab lb) (h0' : 0 < lb.length) (h1 : la.length = 0) :
    Calls Tryz.prog 178 #[.slice aa la.length ca, .slice ab lb.length cb] w fun e w' => e = .returned (.tuple #[.agg #[.string lb[0].1, .int .i64 0], .agg #[.string lb[0].1, .int .i64 lb[0].2]]) ∧ Below w.heap.size w w' := by
  obtain ⟨b', o', rfl, hblt', k0, k1⟩ := hb.first h0'
  have ne3 : b' ≠ w.heap.size := by omega
  have ne4 : b' ≠ w.heap.size + 1 := by omega
  have g : ((lb.length : Int) == 0) = false := beq_eq_false_iff_ne.2 (by omega)
  have g1 : decide (0 < la.length) = false := by simp [h1]
  have g2 : ((la.length : Int) == 0) = true := by simp [h1]
  clear h1
  go_enter Tryz.func178, Tryz.ntmps178
  go_wp2_with fail
  go_quiet (fail)
  go_wp2_with fail
  go_quiet (fail)
  go_wp2_with fail
  obtain ⟨W, hW, K⟩ := two_boxes w _
  rw [hW]
  clear hW
  obtain ⟨x0, x1, y0, y1, d0, d1, e0, e1, f0, f1, f2, f3, hbel, hsz⟩ := K
  have k0 := cell_on hbel hblt' k0
  have k1 := cell_on hbel hblt' k1
  go_region_held3 (fun w' => w'.cell? ⟨b', o', none⟩ = some (.string lb[0].1) ∧ w'.cell? ⟨b', o' + 1, none⟩ = some (.int .i64 lb[0].2)) (simp only [World.cell?_drew, World.cell?_drewN, far_set _ _ ne3, far_set _ _ ne4, k0, k1, and_self]) (fail)
  all_goals go_wp2_with fail
  all_goals exact bodyPost_ret (v := .tuple #[.agg #[.string lb[0].1, .int .i64 0], .agg #[.string lb[0].1, .int .i64 lb[0].2]]) (by simp [results, Tryz.results178, go_sem, d0, d1, e0, e1]) rfl ⟨rfl, by repeat (first | exact hbel | apply Below.drew | apply below_drewN | refine Below.setCell ?_ (by simp) _)⟩

set_option maxHeartbeats 800000 in
/-- The first source of the second stamp comes first. -/
theorem first_gt (aa ab : Option Addr) (ca cb : Nat) (la lb : List (ByteArray × Int)) (w : World) (ha : Row w aa la) (hb : Row w ab lb) (h0 : 0 < la.length) (h0' : 0 < lb.length) (h1 : Op.bytesLess la[0].1.toList lb[0].1.toList = false) (h2 : Op.bytesLess lb[0].1.toList la[0].1.toList = true) :
    Calls Tryz.prog 178 #[.slice aa la.length ca, .slice ab lb.length cb] w fun e w' => e = .returned (.tuple #[.agg #[.string lb[0].1, .int .i64 0], .agg #[.string lb[0].1, .int .i64 lb[0].2]]) ∧ Below w.heap.size w w' := by
  obtain ⟨b, o, rfl, hblt, c0, c1⟩ := ha.first h0
  have ne1 : b ≠ w.heap.size := by omega
  have ne2 : b ≠ w.heap.size + 1 := by omega
  obtain ⟨b', o', rfl, hblt', k0, k1⟩ := hb.first h0'
  have ne3 : b' ≠ w.heap.size := by omega
  have ne4 : b' ≠ w.heap.size + 1 := by omega
  have g : ((lb.length : Int) == 0) = false := beq_eq_false_iff_ne.2 (by omega)
  have g1 : decide (0 < la.length) = true := by simpa using h0
  have g2 : ((la.length : Int) == 0) = false := beq_eq_false_iff_ne.2 (by omega)
  go_enter Tryz.func178, Tryz.ntmps178
  go_wp2_with fail
  go_quiet (fail)
  go_wp2_with fail
  go_quiet (fail)
  go_wp2_with fail
  obtain ⟨W, hW, K⟩ := two_boxes w _
  rw [hW]
  clear hW
  obtain ⟨x0, x1, y0, y1, d0, d1, e0, e1, f0, f1, f2, f3, hbel, hsz⟩ := K
  have c0 := cell_on hbel hblt c0
  have c1 := cell_on hbel hblt c1
  have k0 := cell_on hbel hblt' k0
  have k1 := cell_on hbel hblt' k1
  go_region_held3 (fun w' => w'.cell? ⟨b, o, none⟩ = some (.string la[0].1) ∧ w'.cell? ⟨b, o + 1, none⟩ = some (.int .i64 la[0].2) ∧ w'.cell? ⟨b', o', none⟩ = some (.string lb[0].1) ∧ w'.cell? ⟨b', o' + 1, none⟩ = some (.int .i64 lb[0].2)) (simp only [World.cell?_drew, World.cell?_drewN, far_set _ _ ne1, far_set _ _ ne2, c0, c1, far_set _ _ ne3, far_set _ _ ne4, k0, k1, and_self]) (fail)
  all_goals go_wp2_with fail
  all_goals exact bodyPost_ret (v := .tuple #[.agg #[.string lb[0].1, .int .i64 0], .agg #[.string lb[0].1, .int .i64 lb[0].2]]) (by simp [results, Tryz.results178, go_sem, d0, d1, e0, e1]) rfl ⟨rfl, by repeat (first | exact hbel | apply Below.drew | apply below_drewN | refine Below.setCell ?_ (by simp) _)⟩

set_option maxHeartbeats 800000 in
/-- Both have the source. -/
theorem first_eq (aa ab : Option Addr) (ca cb : Nat) (la lb : List (ByteArray × Int)) (w : World) (ha : Row w aa la) (hb : Row w ab lb) (h0 : 0 < la.length) (h0' : 0 < lb.length) (h1 : Op.bytesLess la[0].1.toList lb[0].1.toList = false) (h2 : Op.bytesLess lb[0].1.toList la[0].1.toList = false) :
    Calls Tryz.prog 178 #[.slice aa la.length ca, .slice ab lb.length cb] w fun e w' => e = .returned (.tuple #[.agg #[.string la[0].1, .int .i64 la[0].2], .agg #[.string lb[0].1, .int .i64 lb[0].2]]) ∧ Below w.heap.size w w' := by
  obtain ⟨b, o, rfl, hblt, c0, c1⟩ := ha.first h0
  have ne1 : b ≠ w.heap.size := by omega
  have ne2 : b ≠ w.heap.size + 1 := by omega
  obtain ⟨b', o', rfl, hblt', k0, k1⟩ := hb.first h0'
  have ne3 : b' ≠ w.heap.size := by omega
  have ne4 : b' ≠ w.heap.size + 1 := by omega
  have g : ((lb.length : Int) == 0) = false := beq_eq_false_iff_ne.2 (by omega)
  have g1 : decide (0 < la.length) = true := by simpa using h0
  have g2 : ((la.length : Int) == 0) = false := beq_eq_false_iff_ne.2 (by omega)
  go_enter Tryz.func178, Tryz.ntmps178
  go_wp2_with fail
  go_quiet (fail)
  go_wp2_with fail
  go_quiet (fail)
  go_wp2_with fail
  obtain ⟨W, hW, K⟩ := two_boxes w _
  rw [hW]
  clear hW
  obtain ⟨x0, x1, y0, y1, d0, d1, e0, e1, f0, f1, f2, f3, hbel, hsz⟩ := K
  have c0 := cell_on hbel hblt c0
  have c1 := cell_on hbel hblt c1
  have k0 := cell_on hbel hblt' k0
  have k1 := cell_on hbel hblt' k1
  go_region_held3 (fun w' => w'.cell? ⟨b, o, none⟩ = some (.string la[0].1) ∧ w'.cell? ⟨b, o + 1, none⟩ = some (.int .i64 la[0].2) ∧ w'.cell? ⟨b', o', none⟩ = some (.string lb[0].1) ∧ w'.cell? ⟨b', o' + 1, none⟩ = some (.int .i64 lb[0].2)) (simp only [World.cell?_drew, World.cell?_drewN, far_set _ _ ne1, far_set _ _ ne2, c0, c1, far_set _ _ ne3, far_set _ _ ne4, k0, k1, and_self]) (fail)
  all_goals go_wp2_with fail
  all_goals exact bodyPost_ret (v := .tuple #[.agg #[.string la[0].1, .int .i64 la[0].2], .agg #[.string lb[0].1, .int .i64 lb[0].2]]) (by simp [results, Tryz.results178, go_sem, d0, d1, e0, e1]) rfl ⟨rfl, by repeat (first | exact hbel | apply Below.drew | apply below_drewN | refine Below.setCell ?_ (by simp) _)⟩


/-- What firstOfBoth answers of two rests, not both empty. -/
theorem first_any (aa ab : Option Addr) (ca cb : Nat) (la lb : List (ByteArray × Int)) (w : World) (ha : Row w aa la) (hb : Row w ab lb) (p : (ByteArray × Int) × (ByteArray × Int)) (hp : headP la lb = some p) :
    Calls Tryz.prog 178 #[.slice aa la.length ca, .slice ab lb.length cb] w fun e w' => e = .returned (.tuple #[.agg #[.string p.1.1, .int .i64 p.1.2], .agg #[.string p.2.1, .int .i64 p.2.2]]) ∧ Below w.heap.size w w' := by
  cases la with
  | nil =>
    cases lb with
    | nil => simp [headP] at hp
    | cons y lb =>
      simp only [headP, Option.some.injEq] at hp
      subst hp
      exact first_b0 aa ab ca cb [] (y :: lb) w hb (by simp) rfl
  | cons x la =>
    cases lb with
    | nil =>
      simp only [headP, Option.some.injEq] at hp
      subst hp
      exact first_a0 aa ab ca cb (x :: la) [] w ha (by simp) rfl
    | cons y lb =>
      cases h1 : Op.bytesLess x.1.toList y.1.toList
      · cases h2 : Op.bytesLess y.1.toList x.1.toList
        · simp [headP, h1, h2] at hp
          subst hp
          exact first_eq aa ab ca cb (x :: la) (y :: lb) w ha hb (by simp) (by simp) h1 h2
        · simp [headP, h1, h2] at hp
          subst hp
          exact first_gt aa ab ca cb (x :: la) (y :: lb) w ha hb (by simp) (by simp) h1 h2
      · simp [headP, h1] at hp
        subst hp
        exact first_lt aa ab ca cb (x :: la) (y :: lb) w ha hb (by simp) (by simp) h1

end Go.Proofs.YtpfhegengmlkmacGreatDoor
