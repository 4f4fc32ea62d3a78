/- Walks: spec.l1Set, spec.StampJoin. -/
import Derived.Test.YtpfhegengmlkmaaDoorJoinM
import Derived.Test.YtpfhegengmlkmaaDoorWe
import Derived.Test.YtpfhegengmlkmaaDoorGath
namespace Go.Proofs.YtpfhegengmlkmaaDoor
open Go.RowKit Go.BigFrame

theorem setT_true_eq {m : ByteArray × Int} {o R l : List (ByteArray × Int)} {k : Nat} (hk : k < l.length) (h : o ++ setT m true (l.drop k) = R) (e : l[k].1 = m.1) : o ++ setT m true (l.drop (k + 1)) = R := by
  rw [List.drop_eq_getElem_cons hk] at h
  simp only [setT, if_true] at h ⊢
  rwa [List.filter_cons_of_neg (by simp [e])] at h
theorem setT_true_ne {m : ByteArray × Int} {o R l : List (ByteArray × Int)} {k : Nat} (hk : k < l.length) (h : o ++ setT m true (l.drop k) = R) (e : l[k].1 ≠ m.1) : (o ++ [(l[k].1, l[k].2)]) ++ setT m true (l.drop (k + 1)) = R := by
  rw [List.drop_eq_getElem_cons hk] at h
  simp only [setT, if_true] at h ⊢
  rw [List.filter_cons_of_pos (by simp [e])] at h
  rw [← h]; simp
theorem le_of_not {x m : ByteArray} (h : Op.bytesLess x.toList m.toList = false) : (Op.bytesLess m.toList x.toList || m.toList == x.toList) = true := by
  by_cases k : Op.bytesLess m.toList x.toList = true
  · simp [k]
  · have e := bl_tri (Bool.not_eq_true _ ▸ k) h
    simp [e]
theorem setT_lt {m : ByteArray × Int} {o R l : List (ByteArray × Int)} {k : Nat} (hk : k < l.length) (h : o ++ setT m false (l.drop k) = R) (e : Op.bytesLess l[k].1.toList m.1.toList = true) : (o ++ [(l[k].1, l[k].2)]) ++ setT m false (l.drop (k + 1)) = R := by
  rw [List.drop_eq_getElem_cons hk] at h
  simp only [setT, setR, e, if_true, Bool.false_eq_true, if_false] at h ⊢
  rw [← h]; simp
theorem setT_put {m : ByteArray × Int} {o R l : List (ByteArray × Int)} {k : Nat} (hk : k < l.length) (h : o ++ setT m false (l.drop k) = R) (e : Op.bytesLess l[k].1.toList m.1.toList = false) : (o ++ [(m.1, m.2)]) ++ setT m true (l.drop k) = R := by
  rw [List.drop_eq_getElem_cons hk] at h ⊢
  simp only [setT, setR, e, if_true, Bool.false_eq_true, if_false] at h ⊢
  rw [← h]; simp
theorem setT_end {m : ByteArray × Int} {o R l : List (ByteArray × Int)} {k : Nat} (hk : ¬ k < l.length) (h : o ++ setT m false (l.drop k) = R) : o ++ [(m.1, m.2)] = R := by
  rw [List.drop_of_length_le (by omega)] at h
  simpa [setT, setR] using h
theorem setT_end' {m : ByteArray × Int} {o R l : List (ByteArray × Int)} {k : Nat} (hk : ¬ k < l.length) (h : o ++ setT m true (l.drop k) = R) : o = R := by
  rw [List.drop_of_length_le (by omega)] at h
  simpa [setT] using h
theorem pre_len {o t R : List (ByteArray × Int)} (h : o ++ t = R) : o.length ≤ R.length := by rw [← h]; simp
/-- A world behind another by draws alone, named. -/
theorem drewN_named {W1 wr : World} {B B' n : Nat} {v : Value} {o : List (ByteArray × Int)} (hb : Below B W1 wr) (hg : Gath wr B' v o) : ∃ v1, wr.drewN n = v1 ∧ Below B W1 v1 ∧ Gath v1 B' v o := ⟨_, rfl, below_drewN hb n, hg⟩

set_option maxHeartbeats 3200000 in
theorem l1Set_any (a : Option Addr) (cap : Nat) (l : List (ByteArray × Int)) (m : ByteArray × Int) (w : World) (hl : l.length ≤ 1048576) (hr : Row w a l) :
    Calls Tryd.prog 24 #[.slice a l.length cap, .agg #[.string m.1, .int .i64 m.2]] w fun e w' => (∃ v, e = .returned v ∧ Gath w' w.heap.size v (setR m l)) ∧ Below w.heap.size w w' := by
  obtain ⟨i0, hi, hz0, hz1, hz2⟩ := info_parts Tryd.infoM
  have hRl := setR_length (m := m) (l := l)
  go_enter Tryd.func24, Tryd.ntmps24
  go_wp2_with fail
  have b0 := box0 w (.string m.1) (.int .i64 m.2) 37
  have b1 := box1 w (.string m.1) (.int .i64 m.2) 37
  have hbx := box_lt w (.cells #[.string m.1, .int .i64 m.2] 37)
  have hba : Below w.heap.size w (w.alloc (.cells #[.string m.1, .int .i64 m.2] 37)) := (Below.refl _ _).alloc (Nat.le_refl _) _
  have hra := hr.below hba
  generalize (w.alloc (.cells #[.string m.1, .int .i64 m.2] 37)) = W1 at *
  go_loopw [5, 6, 7] (fun out put i wr => ∃ k : Nat, k ≤ l.length ∧ i = .int .i64 k ∧ ∃ (o : List (ByteArray × Int)) (p : Bool), Gath wr W1.heap.size out o ∧ put = .bool p ∧ o ++ setT m p (l.drop k) = setR m l ∧ Below W1.heap.size W1 wr) (fun _ _ i _ => l.length - (intOf i).toNat)
  case atStart => exact ⟨0, Nat.zero_le _, rfl, [], false, Gath.none _ _, rfl, by simp [setT], Below.refl _ _⟩
  case round =>
    obtain ⟨k, hk, rfl, o, p, hg, rfl, hinv, hb⟩ := hrel
    have holen := pre_len hinv
    by_cases hlt : k < l.length
    · obtain ⟨b, ob, rfl, hblt, c0, c1⟩ := hra k hlt
      have x0 := cell_on hb hbx b0
      have x1 := cell_on hb hbx b1
      have e0 := cell_on hb hblt c0
      have e1 := cell_on hb hblt c1
      cases p
      · by_cases hA : Op.bytesLess l[k].1.toList m.1.toList = true
        · have hb' : (l[k].1.toList == m.1.toList) = false := toList_bne.2 (asc_ne hA)
          have HI : Hid _ := setT_lt hlt hinv hA
          have hb1' : Op.bytesLess m.1.toList l[k].1.toList = false := by simpa [Asc] using asc_not hA
          have hb2' : (m.1.toList == l[k].1.toList) = false := toList_bne.2 (Ne.symm (asc_ne hA))
          go_wp2_with fail
          go_quiet (fail)
          obtain ⟨u1, hvv, hb8, hg8⟩ := drewN_named (n := nq) hb hg
          rw [hvv]
          clear hvv
          have x0 := cell_on hb8 hbx b0
          have x1 := cell_on hb8 hbx b1
          have e0 := cell_on hb8 hblt c0
          have e1 := cell_on hb8 hblt c1
          have zz := hb8.size
          go_wp2_with fail
          go_quiet (fail)
          obtain ⟨u2, hvv, hb9, hg9⟩ := drewN_named (n := nq) hb8 hg8
          rw [hvv]
          clear hvv
          have x0 := cell_on hb9 hbx b0
          have x1 := cell_on hb9 hbx b1
          have e0 := cell_on hb9 hblt c0
          have e1 := cell_on hb9 hblt c1
          have zz := hb9.size
          go_wp2_with (at_builtin; refine wpList_append_lies _ rfl _ _ 23 rfl W1.heap.size 37 i0 (.agg #[.string .empty, .int .i64 0]) 2 24 Tryd.underlying23 hi hz0 hz1 hz2 rfl (by decide) _ _ _ rfl (hg9.alloc _) ⟨u2.heap.size, 0, none⟩ 1 1 [.string l[k].1, .int .i64 l[k].2] rfl rfl (two_new u2 _ _ _) (by simp [Value.oneCell']) (by decide) (by unfold maxLen; first | omega | (simp only [List.length_append, List.length_cons, List.length_nil]; omega)) (by first | omega | (simp only [List.length_append, List.length_cons, List.length_nil]; omega)) (by simp; omega) _ rfl ?_; intro g' cap' wx hown' hgrow _ _)
          have hb10 := Gath.grown (W := W1) (B := W1.heap.size) (w := u2.alloc (.cells #[.string l[k].1, .int .i64 l[k].2] 37)) (hg9.alloc _) (hb9.alloc hb9.size _) (by simp; omega) hgrow
          have hg10 := Gath.snoc hown'
          exact ⟨⟨k + 1, by omega, by go_num, _, _, (by first | exact hg10 | (have q := hg10; simp only [List.length_append, List.length_cons, List.length_nil, Nat.zero_add] at q; exact q)), rfl, HI.out, hb10⟩, by simp [intOf]; omega⟩
        · have hA : Op.bytesLess l[k].1.toList m.1.toList = false := by simpa using hA
          have hput := setT_put hlt hinv hA
          have hle' := le_of_not hA
          have HPL := pre_len hput
          simp only [List.length_append, List.length_cons, List.length_nil] at HPL
          go_wp2_with fail
          go_quiet (fail)
          obtain ⟨u1, hvv, hb8, hg8⟩ := drewN_named (n := nq) hb hg
          rw [hvv]
          clear hvv
          have x0 := cell_on hb8 hbx b0
          have x1 := cell_on hb8 hbx b1
          have e0 := cell_on hb8 hblt c0
          have e1 := cell_on hb8 hblt c1
          have zz := hb8.size
          go_wp2_with (at_builtin; refine wpList_append_lies _ rfl _ _ 23 rfl W1.heap.size 37 i0 (.agg #[.string .empty, .int .i64 0]) 2 24 Tryd.underlying23 hi hz0 hz1 hz2 rfl (by decide) _ _ _ rfl (hg8.alloc _) ⟨u1.heap.size, 0, none⟩ 1 1 [.string m.1, .int .i64 m.2] rfl rfl (two_new u1 _ _ _) (by simp [Value.oneCell']) (by decide) (by unfold maxLen; first | omega | (simp only [List.length_append, List.length_cons, List.length_nil]; omega)) (by first | omega | (simp only [List.length_append, List.length_cons, List.length_nil]; omega)) (by simp; omega) _ rfl ?_; intro g' cap' wx hown' hgrow _ _)
          have hb7 := Gath.grown (W := W1) (B := W1.heap.size) (w := u1.alloc (.cells #[.string m.1, .int .i64 m.2] 37)) (hg8.alloc _) (hb8.alloc hb8.size _) (by simp; omega) hgrow
          have hg7 := Gath.snoc hown'
          clear x0 x1 e0 e1
          have x0 := cell_on hb7 hbx b0
          have x1 := cell_on hb7 hbx b1
          have e0 := cell_on hb7 hblt c0
          have e1 := cell_on hb7 hblt c1
          by_cases he : l[k].1 = m.1
          · have hb' : (l[k].1.toList == m.1.toList) = true := toList_beq.2 he
            have HI : Hid _ := setT_true_eq hlt hput he
            clear he
            go_wp2_with fail
            go_quiet (fail)
            obtain ⟨u2, hvv, hb9, hg9⟩ := drewN_named (n := nq) hb7 hg7
            rw [hvv]
            clear hvv
            have x0 := cell_on hb9 hbx b0
            have x1 := cell_on hb9 hbx b1
            have e0 := cell_on hb9 hblt c0
            have e1 := cell_on hb9 hblt c1
            have zz := hb9.size
            go_wp2_with fail
            exact ⟨⟨k + 1, by omega, by go_num, _, _, hg9, rfl, HI.out, hb9⟩, by simp [intOf]; omega⟩
          · have hb' : (l[k].1.toList == m.1.toList) = false := toList_bne.2 he
            have HI : Hid _ := setT_true_ne hlt hput he
            clear he
            go_wp2_with fail
            go_quiet (fail)
            obtain ⟨u2, hvv, hb9, hg9⟩ := drewN_named (n := nq) hb7 hg7
            rw [hvv]
            clear hvv
            have x0 := cell_on hb9 hbx b0
            have x1 := cell_on hb9 hbx b1
            have e0 := cell_on hb9 hblt c0
            have e1 := cell_on hb9 hblt c1
            have zz := hb9.size
            go_wp2_with (at_builtin; refine wpList_append_lies _ rfl _ _ 23 rfl W1.heap.size 37 i0 (.agg #[.string .empty, .int .i64 0]) 2 24 Tryd.underlying23 hi hz0 hz1 hz2 rfl (by decide) _ _ _ rfl (hg9.alloc _) ⟨u2.heap.size, 0, none⟩ 1 1 [.string l[k].1, .int .i64 l[k].2] rfl rfl (two_new u2 _ _ _) (by simp [Value.oneCell']) (by decide) (by unfold maxLen; first | omega | (simp only [List.length_append, List.length_cons, List.length_nil]; omega)) (by first | omega | (simp only [List.length_append, List.length_cons, List.length_nil]; omega)) (by simp; omega) _ rfl ?_; intro g' cap' wx hown' hgrow _ _)
            have hb10 := Gath.grown (W := W1) (B := W1.heap.size) (w := u2.alloc (.cells #[.string l[k].1, .int .i64 l[k].2] 37)) (hg9.alloc _) (hb9.alloc hb9.size _) (by simp; omega) hgrow
            have hg10 := Gath.snoc hown'
            exact ⟨⟨k + 1, by omega, by go_num, _, _, (by first | exact hg10 | (have q := hg10; simp only [List.length_append, List.length_cons, List.length_nil, Nat.zero_add] at q; exact q)), rfl, HI.out, hb10⟩, by simp [intOf]; omega⟩
      · go_wp2_with fail
        go_quiet (fail)
        obtain ⟨u1, hvv, hb8, hg8⟩ := drewN_named (n := nq) hb hg
        rw [hvv]
        clear hvv
        have x0 := cell_on hb8 hbx b0
        have x1 := cell_on hb8 hbx b1
        have e0 := cell_on hb8 hblt c0
        have e1 := cell_on hb8 hblt c1
        have zz := hb8.size
        by_cases he : l[k].1 = m.1
        · have hb' : (l[k].1.toList == m.1.toList) = true := toList_beq.2 he
          have HI : Hid _ := setT_true_eq hlt hinv he
          clear he
          go_wp2_with fail
          go_quiet (fail)
          obtain ⟨u2, hvv, hb9, hg9⟩ := drewN_named (n := nq) hb8 hg8
          rw [hvv]
          clear hvv
          have x0 := cell_on hb9 hbx b0
          have x1 := cell_on hb9 hbx b1
          have e0 := cell_on hb9 hblt c0
          have e1 := cell_on hb9 hblt c1
          have zz := hb9.size
          go_wp2_with fail
          exact ⟨⟨k + 1, by omega, by go_num, _, _, hg9, rfl, HI.out, hb9⟩, by simp [intOf]; omega⟩
        · have hb' : (l[k].1.toList == m.1.toList) = false := toList_bne.2 he
          have HI : Hid _ := setT_true_ne hlt hinv he
          clear he
          go_wp2_with fail
          go_quiet (fail)
          obtain ⟨u2, hvv, hb9, hg9⟩ := drewN_named (n := nq) hb8 hg8
          rw [hvv]
          clear hvv
          have x0 := cell_on hb9 hbx b0
          have x1 := cell_on hb9 hbx b1
          have e0 := cell_on hb9 hblt c0
          have e1 := cell_on hb9 hblt c1
          have zz := hb9.size
          go_wp2_with (at_builtin; refine wpList_append_lies _ rfl _ _ 23 rfl W1.heap.size 37 i0 (.agg #[.string .empty, .int .i64 0]) 2 24 Tryd.underlying23 hi hz0 hz1 hz2 rfl (by decide) _ _ _ rfl (hg9.alloc _) ⟨u2.heap.size, 0, none⟩ 1 1 [.string l[k].1, .int .i64 l[k].2] rfl rfl (two_new u2 _ _ _) (by simp [Value.oneCell']) (by decide) (by unfold maxLen; first | omega | (simp only [List.length_append, List.length_cons, List.length_nil]; omega)) (by first | omega | (simp only [List.length_append, List.length_cons, List.length_nil]; omega)) (by simp; omega) _ rfl ?_; intro g' cap' wx hown' hgrow _ _)
          have hb10 := Gath.grown (W := W1) (B := W1.heap.size) (w := u2.alloc (.cells #[.string l[k].1, .int .i64 l[k].2] 37)) (hg9.alloc _) (hb9.alloc hb9.size _) (by simp; omega) hgrow
          have hg10 := Gath.snoc hown'
          exact ⟨⟨k + 1, by omega, by go_num, _, _, (by first | exact hg10 | (have q := hg10; simp only [List.length_append, List.length_cons, List.length_nil, Nat.zero_add] at q; exact q)), rfl, HI.out, hb10⟩, by simp [intOf]; omega⟩
    · cases p
      · have HE : Hid _ := setT_end hlt hinv
        have x0 := cell_on hb hbx b0
        have x1 := cell_on hb hbx b1
        have zz := hb.size
        go_wp2_with (at_builtin; refine wpList_append_lies _ rfl _ _ 23 rfl W1.heap.size 37 i0 (.agg #[.string .empty, .int .i64 0]) 2 24 Tryd.underlying23 hi hz0 hz1 hz2 rfl (by decide) _ _ _ rfl (hg.alloc _) ⟨wr.heap.size, 0, none⟩ 1 1 [.string m.1, .int .i64 m.2] rfl rfl (two_new wr _ _ _) (by simp [Value.oneCell']) (by decide) (by unfold maxLen; first | omega | (simp only [List.length_append, List.length_cons, List.length_nil]; omega)) (by first | omega | (simp only [List.length_append, List.length_cons, List.length_nil]; omega)) (by simp; omega) _ rfl ?_; intro g' cap' wx hown' hgrow _ _)
        have hb10 := Gath.grown (W := W1) (B := W1.heap.size) (w := wr.alloc (.cells #[.string m.1, .int .i64 m.2] 37)) (hg.alloc _) (hb.alloc hb.size _) (by simp; omega) hgrow
        have hg10 := Gath.snoc hown'
        go_ret
        exact ⟨⟨_, rfl, by rw [← HE.out]; exact hg10.lower (Nat.le_of_lt hbx)⟩, hba.trans (hb10.mono hba.size)⟩
      · have HE : Hid _ := setT_end' hlt hinv
        go_wp2_with fail
        go_ret
        exact ⟨⟨_, rfl, by rw [← HE.out]; exact hg.lower (Nat.le_of_lt hbx)⟩, hba.trans (hb.mono hba.size)⟩

end Go.Proofs.YtpfhegengmlkmaaDoor
