/- Texts of this claim, one behind the other. -/
import Derived.Test.YtpfhegengmlkmaaGreatRows
import Derived.ProofKit
import Derived.OpenShut
import Derived.ChangeOld
import Derived.ChangeSlices
import Derived.Test.YtpfhegengmlkmaaGreatZK1
import Derived.Test.YtpfhegengmlkmaaGreatZK3
import Derived.Test.YtpfhegengmlkmaaGreatZK4
namespace Go.Proofs.YtpfhegengmlkmaaGreat
open Go.RowKit Go.BigFrame

theorem setT_true_eq {m : ByteArray × Int} {o R l : List (ByteArray × Int)} {k : Nat} (hk : k < l.length) (h : o ++ setT m true (l.drop k) = R) (e : l[k].1 = m.1) : o ++ setT m true (l.drop (k + 1)) = R := by
  rw [List.drop_eq_getElem_cons hk] at h
  simp only [setT, if_true] at h ⊢
  rwa [List.filter_cons_of_neg (by simp [e])] at h
theorem setT_true_ne {m : ByteArray × Int} {o R l : List (ByteArray × Int)} {k : Nat} (hk : k < l.length) (h : o ++ setT m true (l.drop k) = R) (e : l[k].1 ≠ m.1) : (o ++ [(l[k].1, l[k].2)]) ++ setT m true (l.drop (k + 1)) = R := by
  rw [List.drop_eq_getElem_cons hk] at h
  simp only [setT, if_true] at h ⊢
  rw [List.filter_cons_of_pos (by simp [e])] at h
  rw [← h]; simp
theorem le_of_not {x m : ByteArray} (h : Op.bytesLess x.toList m.toList = false) : (Op.bytesLess m.toList x.toList || m.toList == x.toList) = true := by
  by_cases k : Op.bytesLess m.toList x.toList = true
  · simp [k]
  · have e := bl_tri (Bool.not_eq_true _ ▸ k) h
    simp [e]
theorem setT_lt {m : ByteArray × Int} {o R l : List (ByteArray × Int)} {k : Nat} (hk : k < l.length) (h : o ++ setT m false (l.drop k) = R) (e : Op.bytesLess l[k].1.toList m.1.toList = true) : (o ++ [(l[k].1, l[k].2)]) ++ setT m false (l.drop (k + 1)) = R := by
  rw [List.drop_eq_getElem_cons hk] at h
  simp only [setT, setR, e, if_true, Bool.false_eq_true, if_false] at h ⊢
  rw [← h]; simp
theorem setT_put {m : ByteArray × Int} {o R l : List (ByteArray × Int)} {k : Nat} (hk : k < l.length) (h : o ++ setT m false (l.drop k) = R) (e : Op.bytesLess l[k].1.toList m.1.toList = false) : (o ++ [(m.1, m.2)]) ++ setT m true (l.drop k) = R := by
  rw [List.drop_eq_getElem_cons hk] at h ⊢
  simp only [setT, setR, e, if_true, Bool.false_eq_true, if_false] at h ⊢
  rw [← h]; simp
theorem setT_end {m : ByteArray × Int} {o R l : List (ByteArray × Int)} {k : Nat} (hk : ¬ k < l.length) (h : o ++ setT m false (l.drop k) = R) : o ++ [(m.1, m.2)] = R := by
  rw [List.drop_of_length_le (by omega)] at h
  simpa [setT, setR] using h
theorem setT_end' {m : ByteArray × Int} {o R l : List (ByteArray × Int)} {k : Nat} (hk : ¬ k < l.length) (h : o ++ setT m true (l.drop k) = R) : o = R := by
  rw [List.drop_of_length_le (by omega)] at h
  simpa [setT] using h
theorem pre_len {o t R : List (ByteArray × Int)} (h : o ++ t = R) : o.length ≤ R.length := by rw [← h]; simp
/-- A world behind another by draws alone, named. -/
theorem drewN_named {W1 wr : World} {B B' n : Nat} {v : Value} {o : List (ByteArray × Int)} (hb : Below B W1 wr) (hg : Gath wr B' v o) : ∃ v1, wr.drewN n = v1 ∧ Below B W1 v1 ∧ Gath v1 B' v o := ⟨_, rfl, below_drewN hb n, hg⟩

set_option maxHeartbeats 3200000 in
theorem l1Set_any (a : Option Addr) (cap : Nat) (l : List (ByteArray × Int)) (m : ByteArray × Int) (w : World) (hl : l.length ≤ 1048576) (hr : Row w a l) :
    Calls Tryz.prog 56 #[.slice a l.length cap, .agg #[.string m.1, .int .i64 m.2]] w fun e w' => (∃ v, e = .returned v ∧ Gath w' w.heap.size v (setR m l)) ∧ Below w.heap.size w w' := by
  obtain ⟨i0, hi, hz0, hz1, hz2⟩ := info_parts Tryz.infoM
  have hRl := setR_length (m := m) (l := l)
  go_enter Tryz.func56, Tryz.ntmps56
  go_wp2_with fail
  have b0 := box0 w (.string m.1) (.int .i64 m.2) 72
  have b1 := box1 w (.string m.1) (.int .i64 m.2) 72
  have hbx := box_lt w (.cells #[.string m.1, .int .i64 m.2] 72)
  have hba : Below w.heap.size w (w.alloc (.cells #[.string m.1, .int .i64 m.2] 72)) := (Below.refl _ _).alloc (Nat.le_refl _) _
  have hra := hr.below hba
  generalize (w.alloc (.cells #[.string m.1, .int .i64 m.2] 72)) = W1 at *
  go_loopw [5, 6, 7] (fun out put i wr => ∃ k : Nat, k ≤ l.length ∧ i = .int .i64 k ∧ ∃ (o : List (ByteArray × Int)) (p : Bool), Gath wr W1.heap.size out o ∧ put = .bool p ∧ o ++ setT m p (l.drop k) = setR m l ∧ Below W1.heap.size W1 wr) (fun _ _ i _ => l.length - (intOf i).toNat)
  case atStart => exact ⟨0, Nat.zero_le _, rfl, [], false, Gath.none _ _, rfl, by simp [setT], Below.refl _ _⟩
  case round =>
    obtain ⟨k, hk, rfl, o, p, hg, rfl, hinv, hb⟩ := hrel
    have holen := pre_len hinv
    by_cases hlt : k < l.length
    · obtain ⟨b, ob, rfl, hblt, c0, c1⟩ := hra k hlt
      have x0 := cell_on hb hbx b0
      have x1 := cell_on hb hbx b1
      have e0 := cell_on hb hblt c0
      have e1 := cell_on hb hblt c1
      cases p
      · by_cases hA : Op.bytesLess l[k].1.toList m.1.toList = true
        · have hb' : (l[k].1.toList == m.1.toList) = false := toList_bne.2 (asc_ne hA)
          have HI : Hid _ := setT_lt hlt hinv hA
          have hb1' : Op.bytesLess m.1.toList l[k].1.toList = false := by simpa [Asc] using asc_not hA
          have hb2' : (m.1.toList == l[k].1.toList) = false := toList_bne.2 (Ne.symm (asc_ne hA))
          go_wp2_with fail
          go_quiet (fail)
          obtain ⟨u1, hvv, hb8, hg8⟩ := drewN_named (n := nq) hb hg
          rw [hvv]
          clear hvv
          have x0 := cell_on hb8 hbx b0
          have x1 := cell_on hb8 hbx b1
          have e0 := cell_on hb8 hblt c0
          have e1 := cell_on hb8 hblt c1
          have zz := hb8.size
          go_wp2_with fail
          go_quiet (fail)
          obtain ⟨u2, hvv, hb9, hg9⟩ := drewN_named (n := nq) hb8 hg8
          rw [hvv]
          clear hvv
          have x0 := cell_on hb9 hbx b0
          have x1 := cell_on hb9 hbx b1
          have e0 := cell_on hb9 hblt c0
          have e1 := cell_on hb9 hblt c1
          have zz := hb9.size
          go_wp2_with (at_builtin; refine wpList_append_lies _ rfl _ _ 35 rfl W1.heap.size 72 i0 (.agg #[.string .empty, .int .i64 0]) 2 24 Tryz.underlying35 hi hz0 hz1 hz2 rfl (by decide) _ _ _ rfl (hg9.alloc _) ⟨u2.heap.size, 0, none⟩ 1 1 [.string l[k].1, .int .i64 l[k].2] rfl rfl (two_new u2 _ _ _) (by simp [Value.oneCell']) (by decide) (by unfold maxLen; first | omega | (simp only [List.length_append, List.length_cons, List.length_nil]; omega)) (by first | omega | (simp only [List.length_append, List.length_cons, List.length_nil]; omega)) (by simp; omega) _ rfl ?_; intro g' cap' wx hown' hgrow _ _)
          have hb10 := Gath.grown (W := W1) (B := W1.heap.size) (w := u2.alloc (.cells #[.string l[k].1, .int .i64 l[k].2] 72)) (hg9.alloc _) (hb9.alloc hb9.size _) (by simp; omega) hgrow
          have hg10 := Gath.snoc hown'
          exact ⟨⟨k + 1, by omega, by go_num, _, _, (by first | exact hg10 | (have q := hg10; simp only [List.length_append, List.length_cons, List.length_nil, Nat.zero_add] at q; exact q)), rfl, HI.out, hb10⟩, by simp [intOf]; omega⟩
        · have hA : Op.bytesLess l[k].1.toList m.1.toList = false := by simpa using hA
          have hput := setT_put hlt hinv hA
          have hle' := le_of_not hA
          have HPL := pre_len hput
          simp only [List.length_append, List.length_cons, List.length_nil] at HPL
          go_wp2_with fail
          go_quiet (fail)
          obtain ⟨u1, hvv, hb8, hg8⟩ := drewN_named (n := nq) hb hg
          rw [hvv]
          clear hvv
          have x0 := cell_on hb8 hbx b0
          have x1 := cell_on hb8 hbx b1
          have e0 := cell_on hb8 hblt c0
          have e1 := cell_on hb8 hblt c1
          have zz := hb8.size
          go_wp2_with (at_builtin; refine wpList_append_lies _ rfl _ _ 35 rfl W1.heap.size 72 i0 (.agg #[.string .empty, .int .i64 0]) 2 24 Tryz.underlying35 hi hz0 hz1 hz2 rfl (by decide) _ _ _ rfl (hg8.alloc _) ⟨u1.heap.size, 0, none⟩ 1 1 [.string m.1, .int .i64 m.2] rfl rfl (two_new u1 _ _ _) (by simp [Value.oneCell']) (by decide) (by unfold maxLen; first | omega | (simp only [List.length_append, List.length_cons, List.length_nil]; omega)) (by first | omega | (simp only [List.length_append, List.length_cons, List.length_nil]; omega)) (by simp; omega) _ rfl ?_; intro g' cap' wx hown' hgrow _ _)
          have hb7 := Gath.grown (W := W1) (B := W1.heap.size) (w := u1.alloc (.cells #[.string m.1, .int .i64 m.2] 72)) (hg8.alloc _) (hb8.alloc hb8.size _) (by simp; omega) hgrow
          have hg7 := Gath.snoc hown'
          clear x0 x1 e0 e1
          have x0 := cell_on hb7 hbx b0
          have x1 := cell_on hb7 hbx b1
          have e0 := cell_on hb7 hblt c0
          have e1 := cell_on hb7 hblt c1
          by_cases he : l[k].1 = m.1
          · have hb' : (l[k].1.toList == m.1.toList) = true := toList_beq.2 he
            have HI : Hid _ := setT_true_eq hlt hput he
            clear he
            go_wp2_with fail
            go_quiet (fail)
            obtain ⟨u2, hvv, hb9, hg9⟩ := drewN_named (n := nq) hb7 hg7
            rw [hvv]
            clear hvv
            have x0 := cell_on hb9 hbx b0
            have x1 := cell_on hb9 hbx b1
            have e0 := cell_on hb9 hblt c0
            have e1 := cell_on hb9 hblt c1
            have zz := hb9.size
            go_wp2_with fail
            exact ⟨⟨k + 1, by omega, by go_num, _, _, hg9, rfl, HI.out, hb9⟩, by simp [intOf]; omega⟩
          · have hb' : (l[k].1.toList == m.1.toList) = false := toList_bne.2 he
            have HI : Hid _ := setT_true_ne hlt hput he
            clear he
            go_wp2_with fail
            go_quiet (fail)
            obtain ⟨u2, hvv, hb9, hg9⟩ := drewN_named (n := nq) hb7 hg7
            rw [hvv]
            clear hvv
            have x0 := cell_on hb9 hbx b0
            have x1 := cell_on hb9 hbx b1
            have e0 := cell_on hb9 hblt c0
            have e1 := cell_on hb9 hblt c1
            have zz := hb9.size
            go_wp2_with (at_builtin; refine wpList_append_lies _ rfl _ _ 35 rfl W1.heap.size 72 i0 (.agg #[.string .empty, .int .i64 0]) 2 24 Tryz.underlying35 hi hz0 hz1 hz2 rfl (by decide) _ _ _ rfl (hg9.alloc _) ⟨u2.heap.size, 0, none⟩ 1 1 [.string l[k].1, .int .i64 l[k].2] rfl rfl (two_new u2 _ _ _) (by simp [Value.oneCell']) (by decide) (by unfold maxLen; first | omega | (simp only [List.length_append, List.length_cons, List.length_nil]; omega)) (by first | omega | (simp only [List.length_append, List.length_cons, List.length_nil]; omega)) (by simp; omega) _ rfl ?_; intro g' cap' wx hown' hgrow _ _)
            have hb10 := Gath.grown (W := W1) (B := W1.heap.size) (w := u2.alloc (.cells #[.string l[k].1, .int .i64 l[k].2] 72)) (hg9.alloc _) (hb9.alloc hb9.size _) (by simp; omega) hgrow
            have hg10 := Gath.snoc hown'
            exact ⟨⟨k + 1, by omega, by go_num, _, _, (by first | exact hg10 | (have q := hg10; simp only [List.length_append, List.length_cons, List.length_nil, Nat.zero_add] at q; exact q)), rfl, HI.out, hb10⟩, by simp [intOf]; omega⟩
      · go_wp2_with fail
        go_quiet (fail)
        obtain ⟨u1, hvv, hb8, hg8⟩ := drewN_named (n := nq) hb hg
        rw [hvv]
        clear hvv
        have x0 := cell_on hb8 hbx b0
        have x1 := cell_on hb8 hbx b1
        have e0 := cell_on hb8 hblt c0
        have e1 := cell_on hb8 hblt c1
        have zz := hb8.size
        by_cases he : l[k].1 = m.1
        · have hb' : (l[k].1.toList == m.1.toList) = true := toList_beq.2 he
          have HI : Hid _ := setT_true_eq hlt hinv he
          clear he
          go_wp2_with fail
          go_quiet (fail)
          obtain ⟨u2, hvv, hb9, hg9⟩ := drewN_named (n := nq) hb8 hg8
          rw [hvv]
          clear hvv
          have x0 := cell_on hb9 hbx b0
          have x1 := cell_on hb9 hbx b1
          have e0 := cell_on hb9 hblt c0
          have e1 := cell_on hb9 hblt c1
          have zz := hb9.size
          go_wp2_with fail
          exact ⟨⟨k + 1, by omega, by go_num, _, _, hg9, rfl, HI.out, hb9⟩, by simp [intOf]; omega⟩
        · have hb' : (l[k].1.toList == m.1.toList) = false := toList_bne.2 he
          have HI : Hid _ := setT_true_ne hlt hinv he
          clear he
          go_wp2_with fail
          go_quiet (fail)
          obtain ⟨u2, hvv, hb9, hg9⟩ := drewN_named (n := nq) hb8 hg8
          rw [hvv]
          clear hvv
          have x0 := cell_on hb9 hbx b0
          have x1 := cell_on hb9 hbx b1
          have e0 := cell_on hb9 hblt c0
          have e1 := cell_on hb9 hblt c1
          have zz := hb9.size
          go_wp2_with (at_builtin; refine wpList_append_lies _ rfl _ _ 35 rfl W1.heap.size 72 i0 (.agg #[.string .empty, .int .i64 0]) 2 24 Tryz.underlying35 hi hz0 hz1 hz2 rfl (by decide) _ _ _ rfl (hg9.alloc _) ⟨u2.heap.size, 0, none⟩ 1 1 [.string l[k].1, .int .i64 l[k].2] rfl rfl (two_new u2 _ _ _) (by simp [Value.oneCell']) (by decide) (by unfold maxLen; first | omega | (simp only [List.length_append, List.length_cons, List.length_nil]; omega)) (by first | omega | (simp only [List.length_append, List.length_cons, List.length_nil]; omega)) (by simp; omega) _ rfl ?_; intro g' cap' wx hown' hgrow _ _)
          have hb10 := Gath.grown (W := W1) (B := W1.heap.size) (w := u2.alloc (.cells #[.string l[k].1, .int .i64 l[k].2] 72)) (hg9.alloc _) (hb9.alloc hb9.size _) (by simp; omega) hgrow
          have hg10 := Gath.snoc hown'
          exact ⟨⟨k + 1, by omega, by go_num, _, _, (by first | exact hg10 | (have q := hg10; simp only [List.length_append, List.length_cons, List.length_nil, Nat.zero_add] at q; exact q)), rfl, HI.out, hb10⟩, by simp [intOf]; omega⟩
    · cases p
      · have HE : Hid _ := setT_end hlt hinv
        have x0 := cell_on hb hbx b0
        have x1 := cell_on hb hbx b1
        have zz := hb.size
        go_wp2_with (at_builtin; refine wpList_append_lies _ rfl _ _ 35 rfl W1.heap.size 72 i0 (.agg #[.string .empty, .int .i64 0]) 2 24 Tryz.underlying35 hi hz0 hz1 hz2 rfl (by decide) _ _ _ rfl (hg.alloc _) ⟨wr.heap.size, 0, none⟩ 1 1 [.string m.1, .int .i64 m.2] rfl rfl (two_new wr _ _ _) (by simp [Value.oneCell']) (by decide) (by unfold maxLen; first | omega | (simp only [List.length_append, List.length_cons, List.length_nil]; omega)) (by first | omega | (simp only [List.length_append, List.length_cons, List.length_nil]; omega)) (by simp; omega) _ rfl ?_; intro g' cap' wx hown' hgrow _ _)
        have hb10 := Gath.grown (W := W1) (B := W1.heap.size) (w := wr.alloc (.cells #[.string m.1, .int .i64 m.2] 72)) (hg.alloc _) (hb.alloc hb.size _) (by simp; omega) hgrow
        have hg10 := Gath.snoc hown'
        go_ret
        exact ⟨⟨_, rfl, by rw [← HE.out]; exact hg10.lower (Nat.le_of_lt hbx)⟩, hba.trans (hb10.mono hba.size)⟩
      · have HE : Hid _ := setT_end' hlt hinv
        go_wp2_with fail
        go_ret
        exact ⟨⟨_, rfl, by rw [← HE.out]; exact hg.lower (Nat.le_of_lt hbx)⟩, hba.trans (hb.mono hba.size)⟩

end Go.Proofs.YtpfhegengmlkmaaGreat

namespace Go.Proofs.YtpfhegengmlkmaaGreat
open Go.RowKit Go.BigFrame
set_option maxRecDepth 100000

theorem mcells_take : ∀ (l : List (ByteArray × Int)) (k : Nat), mcells (l.take k) = (mcells l).take (k * 2)
  | [], k => by simp [mcells]
  | m :: r, 0 => by simp [mcells]
  | m :: r, k + 1 => by
    have e : (k + 1) * 2 = k * 2 + 1 + 1 := by omega
    rw [e]
    simp only [List.take_succ_cons, mcells, mcells_take r k]
theorem Gath.cut {w : World} {B k cap : Nat} {a : Option Addr} {l : List (ByteArray × Int)} (h : Gath w B (.slice a l.length cap) l) (hk : k ≤ l.length) (h0 : 0 < k) : l.length ≤ cap ∧ Gath w B (.slice a k cap) (l.take k) := by
  obtain ⟨hl, h | ⟨g, cap', cur, hv, hg, hh, hn, hc, hs, ht⟩⟩ := h
  · omega
  · simp only [Value.slice.injEq, true_and] at hv
    obtain ⟨rfl, rfl⟩ := hv
    have ek : (l.take k).length = k := by simp; omega
    refine ⟨hn, by rw [mcells_length], .inr ⟨g, cap, cur, by rw [ek], hg, hh, by omega, by omega, hs, ?_⟩⟩
    rw [mcells_take, ← ht, List.take_take, ek]
    congr 1
    omega

set_option maxHeartbeats 1600000 in
theorem l6Marks_any (R n c p : Nat) (ab : Option Addr) (w : World) (hr : Rd w R ab n c p) (hp : p ≤ 80000) :
    Calls Tryz.prog 64 #[.pointer (some ⟨R, 0, none⟩)] w fun e w' => (∃ v l p', e = .returned v ∧ Gath w' w.heap.size v l ∧ l.length ≤ 30 ∧ (∀ m ∈ l, m.1.size ≤ 2000) ∧ Rd w' R ab n c p' ∧ p' ≤ p + 100) ∧ But R w w' := by
  have hRl := hr.lt
  go_enter Tryz.func64, Tryz.ntmps64
  go_wp2_with fail
  refine (pick_any R n c p ab _ _ hr (by omega) (by omega) (by omega)).mono ?_
  rintro e w1 ⟨⟨x, rfl, hx0, hx1⟩, hr1, hb1⟩
  obtain ⟨nn, rfl⟩ := Int.eq_ofNat_of_zero_le hx0
  go_wp2_with fail
  go_loopw [3, 5] (fun out i wr => ∃ k : Nat, k ≤ nn ∧ i = .int .i64 k ∧ ∃ o p', Gath wr w.heap.size out o ∧ o.length ≤ k ∧ (∀ m ∈ o, m.1.size ≤ 2000) ∧ Rd wr R ab n c p' ∧ p' ≤ p + 1 + 2 * k ∧ But R w wr) (fun _ i _ => nn - (intOf i).toNat)
  case atStart => exact ⟨0, Nat.zero_le _, rfl, [], p + 1, Gath.none _ _, by simp, by simp, hr1, by omega, hb1⟩
  case round =>
    obtain ⟨k, hk, rfl, o, p', hg, hol, hos, hrr, hp', hbr⟩ := hrel
    obtain ⟨ao, co, rfl, hrow⟩ := hg.shape
    by_cases hlt : k < nn
    · have hlt' : decide ((k : Int) < (nn : Int)) = true := by simp; omega
      go_wp2_with fail
      refine (l6Src_any R n c p' ab _ hrr (by omega)).mono ?_
      rintro e w2 ⟨⟨s, rfl, hsz⟩, hr2, hb2⟩
      go_wp2_with fail
      refine (pick_any R n c _ ab _ _ hr2 (by omega) (by omega) (by omega)).mono ?_
      rintro e w3 ⟨⟨y, rfl, hy0, hy1⟩, hr3, hb3⟩
      have hg3 := (hg.but hb2 hRl).but hb3 hRl
      have hB3 := (hbr.trans hb2).trans hb3
      go_wp2_with fail
      obtain ⟨_, _, e1, hrow3⟩ := hg3.shape
      cases e1
      refine (l1Set_any ao co o (s, 1 + y) _ (by omega) hrow3).mono ?_
      rintro e w4 ⟨⟨v, rfl, hg4⟩, hb4⟩
      have hsl := setR_length (m := (s, 1 + y)) (l := o)
      go_wp2_with fail
      refine ⟨⟨k + 1, by omega, by simp, _, p' + 1 + 1, hg4.lower hB3.size, by omega, fun m hm => ?_, hr3.below hb4, by omega, hB3.trans (But.of_below hb4)⟩, by simp [intOf]; omega⟩
      rcases setR_mem hm with h | h
      · subst h; show s.size ≤ _; omega
      · exact hos m h
    · have hlt' : decide ((k : Int) < (nn : Int)) = false := by simp; omega
      go_wp2_with fail
      refine (pick_any R n c _ ab _ _ hrr (by omega) (by omega) (by omega)).mono ?_
      rintro e w2 ⟨⟨y, rfl, hy0, hy1⟩, hr2, hb2⟩
      have hg2 := hg.but hb2 hRl
      have hB2 := hbr.trans hb2
      by_cases hy : y = 0
      · subst hy
        go_wp2_with fail
        go_loopw [3, 6] (fun out i wr => ∃ k : Nat, k ≤ 12 ∧ i = .int .i64 k ∧ ∃ o p', Gath wr w.heap.size out o ∧ o.length ≤ 4 + k ∧ (∀ m ∈ o, m.1.size ≤ 2000) ∧ Rd wr R ab n c p' ∧ p' ≤ p + 12 + k ∧ But R w wr) (fun _ i _ => 12 - (intOf i).toNat)
        case atStart => exact ⟨0, Nat.zero_le _, rfl, o, p' + 1, hg2, by omega, hos, hr2, by omega, hB2⟩
        case round =>
          obtain ⟨k, hk, rfl, o, p', hg, hol, hos, hrr, hp', hbr⟩ := hrel
          obtain ⟨ao, co, rfl, hrow⟩ := hg.shape
          by_cases hlt : k < 12
          · have hlt' : decide ((k : Int) < 12) = true := by simp; omega
            go_wp2_with fail
            refine (l1Dec_any k _ (by omega)).mono ?_
            rintro e w3 ⟨⟨s, rfl, hsz⟩, hb3⟩
            go_wp2_with fail
            refine (pick_any R n c _ ab _ _ (hrr.below hb3) (by omega) (by omega) (by omega)).mono ?_
            rintro e w4 ⟨⟨y, rfl, hy0, hy1⟩, hr4, hb4⟩
            have hg4 := (hg.keep hb3).but hb4 hRl
            have hB4 := (hbr.trans (But.of_below hb3)).trans hb4
            have hqs : ((⟨#[113]⟩ : ByteArray) ++ s).size = 1 + s.size := by rw [ByteArray.size_append]; rfl
            generalize (⟨#[113]⟩ : ByteArray) ++ s = qs at *
            go_wp2_with fail
            obtain ⟨_, _, e1, hrow4⟩ := hg4.shape
            cases e1
            refine (l1Set_any ao co o (qs, 1 + y) _ (by omega) hrow4).mono ?_
            rintro e w5 ⟨⟨v, rfl, hg5⟩, hb5⟩
            have hsl := setR_length (m := (qs, 1 + y)) (l := o)
            go_wp2_with fail
            refine ⟨⟨k + 1, by omega, by simp, _, p' + 1, hg5.lower hB4.size, by omega, fun m hm => ?_, hr4.below hb5, by omega, hB4.trans (But.of_below hb5)⟩, by simp [intOf]; omega⟩
            rcases setR_mem hm with h | h
            · subst h; show qs.size ≤ _; omega
            · exact hos m h
          · have hlt' : decide ((k : Int) < 12) = false := by simp; omega
            by_cases hbig : 12 < o.length
            · have hbig' : decide ((12 : Int) < (o.length : Int)) = true := by simp; omega
              go_wp2_with fail
              refine (pick_any R n c _ ab _ _ hrr (by omega) (by omega) (by omega)).mono ?_
              rintro e w3 ⟨⟨y, rfl, hy0, hy1⟩, hr3, hb3⟩
              have hg3 := hg.but hb3 hRl
              have hB3 := hbr.trans hb3
              by_cases hy : y = 0
              · subst hy
                obtain ⟨hcap, hg3'⟩ := hg3.cut (k := 12) (by omega) (by omega)
                have hl12 : (o.take 12).length = 12 := by simp; omega
                have hg3' : Gath w3 w.heap.size (.slice ao 12 co) (o.take 12) := hg3'
                go_wp2_with fail
                refine (l6Spoil_any R n c _ w.heap.size ab _ (o.take 12) _ hr3 (by omega) hg3' hRl hB3.size (by omega) (fun m hm => hos m (List.mem_of_mem_take hm))).mono ?_
                rintro e w8 ⟨⟨v, l', p8, rfl, hg8, hl8, hs8, hr8, hp8⟩, hb8⟩
                go_wp2_with fail
                go_ret
                exact ⟨⟨v, l', p8, rfl, hg8, by omega, hs8, hr8, by omega⟩, ((hB3.upto (Nat.le_refl _)).trans hb8).but⟩
              · have hy' : (y == 0) = false := by simp [hy]
                go_wp2_with fail
                refine (l6Spoil_any R n c _ w.heap.size ab _ o _ hr3 (by omega) hg3 hRl hB3.size (by omega) hos).mono ?_
                rintro e w8 ⟨⟨v, l', p8, rfl, hg8, hl8, hs8, hr8, hp8⟩, hb8⟩
                go_wp2_with fail
                go_ret
                exact ⟨⟨v, l', p8, rfl, hg8, by omega, hs8, hr8, by omega⟩, ((hB3.upto (Nat.le_refl _)).trans hb8).but⟩
            · have hbig' : decide ((12 : Int) < (o.length : Int)) = false := by simp; omega
              go_wp2_with fail
              refine (l6Spoil_any R n c _ w.heap.size ab _ o _ hrr (by omega) hg hRl hbr.size (by omega) hos).mono ?_
              rintro e w8 ⟨⟨v, l', p8, rfl, hg8, hl8, hs8, hr8, hp8⟩, hb8⟩
              go_wp2_with fail
              go_ret
              exact ⟨⟨v, l', p8, rfl, hg8, by omega, hs8, hr8, by omega⟩, ((hbr.upto (Nat.le_refl _)).trans hb8).but⟩
      · have hy' : (y == 0) = false := by simp [hy]
        go_wp2_with fail
        refine (l6Spoil_any R n c _ w.heap.size ab _ o _ hr2 (by omega) hg2 hRl hB2.size (by omega) hos).mono ?_
        rintro e w3 ⟨⟨v, l', p3, rfl, hg3, hl3, hs3, hr3, hp3⟩, hb3⟩
        go_wp2_with fail
        go_ret
        exact ⟨⟨v, l', p3, rfl, hg3, by omega, hs3, hr3, by omega⟩, ((hB2.upto (Nat.le_refl _)).trans hb3).but⟩

end Go.Proofs.YtpfhegengmlkmaaGreat

namespace Go.Proofs.YtpfhegengmlkmaaGreat
open Go.RowKit Go.BigFrame

/-- The slice at address 'a' holds the texts 'l', one a cell. -/
def RowS (w : World) (a : Option Addr) (l : List ByteArray) : Prop :=
  ∀ k, (h : k < l.length) → ∃ b o, a = some ⟨b, o, none⟩ ∧ b < w.heap.size ∧ w.cell? ⟨b, o + k, none⟩ = some (.string l[k])

theorem RowS.below {w w' : World} {a : Option Addr} {l : List ByteArray} (h : RowS w a l) (hb : Below w.heap.size w w') : RowS w' a l := fun k hk => by
  obtain ⟨b, o, ha, hlt, h0⟩ := h k hk
  exact ⟨b, o, ha, Nat.lt_of_lt_of_le hlt hb.size, by rw [hb.cell hlt]; exact h0⟩

/-- The first 'k' texts of 'l' lie in block 'b', which has room for all. -/
def PartS (w : World) (b : Nat) (l : List ByteArray) (k : Nat) : Prop :=
  ∃ f, w.rowIs b 9 l.length f ∧ ∀ j, (h : j < l.length) → j < k → f j = .string l[j]

theorem PartS.lt {w : World} {b k : Nat} {l : List ByteArray} (h : PartS w b l k) : b < w.heap.size := by
  obtain ⟨f, h, _⟩ := h
  exact h.lt
theorem PartS.below {w w' : World} {b k B : Nat} {l : List ByteArray} (h : PartS w b l k) (hB : b < B) (hb : Below B w w') : PartS w' b l k := by
  obtain ⟨f, h, hf⟩ := h
  exact ⟨f, h.of_block (hb.block b hB), hf⟩
theorem PartS.made (w : World) (l : List ByteArray) (z : Value) : PartS (w.alloc (.cells (madeCells #[z] l.length) 9)) w.heap.size l 0 :=
  ⟨fun _ => z, World.rowIs_made w z l.length 9, fun j _ h => by omega⟩
theorem PartS.row {w : World} {b : Nat} {l : List ByteArray} (h : PartS w b l l.length) : RowS w (some ⟨b, 0, none⟩) l := fun k hk => by
  have hlt := h.lt
  obtain ⟨f, h, hf⟩ := h
  exact ⟨b, 0, rfl, hlt, by rw [Nat.zero_add, h.cell hk, hf k hk hk]⟩
theorem PartS.cell {w : World} {b k : Nat} {l : List ByteArray} (h : PartS w b l k) {i : Nat} (hi : i < l.length) : ∃ v, w.cell? ⟨b, i, none⟩ = some v := by
  obtain ⟨f, h, _⟩ := h
  exact ⟨_, h.cell hi⟩
theorem PartS.frozen {w : World} {b k : Nat} {l : List ByteArray} (h : PartS w b l k) (i : Nat) : w.frozen? ⟨b, i, none⟩ = false := by
  obtain ⟨f, h, _⟩ := h
  exact h.frozen i
theorem PartS.step {w : World} {b k : Nat} {l : List ByteArray} (h : PartS w b l k) (hk : k < l.length) : PartS (w.setCell ⟨b, k, none⟩ (.string l[k])) b l (k + 1) := by
  obtain ⟨f, h, hf⟩ := h
  refine ⟨_, h.set _ _, fun j hj hlt => ?_⟩
  by_cases e : j = k
  · subst e
    simp
  · simp only [if_neg e]
    exact hf j hj (by omega)

end Go.Proofs.YtpfhegengmlkmaaGreat

namespace Go.Proofs.YtpfhegengmlkmaaGreat
open Go.RowKit Go.BigFrame
set_option maxRecDepth 100000

/-- The slice 'ab' of 'n' bytes. -/
structure Bytes (w : World) (ab : Option Addr) (n c : Nat) : Prop where
  cap : n ≤ c
  byte : ∀ k, k < n → ∃ b o, ∃ v : Int, ab = some ⟨b, o, none⟩ ∧ b < w.heap.size ∧ 0 ≤ v ∧ v ≤ 255 ∧ w.cell? ⟨b, o + k, none⟩ = some (.int .u8 v)

theorem Bytes.below {w w' : World} {ab : Option Addr} {n c : Nat} (h : Bytes w ab n c) (hb : Below w.heap.size w w') : Bytes w' ab n c :=
  ⟨h.cap, fun k hk => by
    obtain ⟨b, o, v, h1, h2, h4, h5, h6⟩ := h.byte k hk
    exact ⟨b, o, v, h1, Nat.lt_of_lt_of_le h2 hb.size, h4, h5, (hb.cell h2).trans h6⟩⟩

theorem Bytes.rd {w : World} {ab : Option Addr} {n m c : Nat} (h : Bytes w ab n c) (hm : m ≤ n) (hs : m ≤ 2000) : Rd (w.alloc (.cells #[.slice ab m c, .int .i64 0] 77)) w.heap.size ab m c 0 :=
  ⟨by simp [go_sem], by simp [go_sem], by simp [go_sem], hs, fun k hk => by
    obtain ⟨b, o, v, h1, h2, h4, h5, h6⟩ := h.byte k (by omega)
    exact ⟨b, o, v, h1, h2, h4, h5, (World.cell?_of_block (Below.heap_alloc _ _ _ h2)).trans h6⟩⟩

set_option maxHeartbeats 800000 in
theorem l1Open_any (ab : Option Addr) (n c : Nat) (w : World) (h : Bytes w ab n c) :
    Calls Tryz.prog 19 #[.slice ab n c] w fun e w' => (∃ m, e = .returned (.pointer (some ⟨w.heap.size, 0, none⟩)) ∧ Rd w' w.heap.size ab m c 0) ∧ Below w.heap.size w w' := by
  have hcap := h.cap
  by_cases hlt : 2000 < n
  · have hlt' : decide ((2000 : Int) < (n : Int)) = true := by simp; omega
    have HRD : Hid (Rd (w.alloc (.cells #[.slice ab 2000 c, .int .i64 0] 77)) w.heap.size ab 2000 c 0) := h.rd (by omega) (by omega)
    clear h
    go_enter Tryz.func19, Tryz.ntmps19
    go_wp2_with fail
    go_ret
    exact ⟨⟨2000, rfl, HRD.out⟩, (Below.refl _ _).alloc (Nat.le_refl _) _⟩
  · have hlt' : decide ((2000 : Int) < (n : Int)) = false := by simp; omega
    have HRD : Hid (Rd (w.alloc (.cells #[.slice ab n c, .int .i64 0] 77)) w.heap.size ab n c 0) := h.rd (by omega) (by omega)
    clear h
    go_enter Tryz.func19, Tryz.ntmps19
    go_wp2_with fail
    go_ret
    exact ⟨⟨n, rfl, HRD.out⟩, (Below.refl _ _).alloc (Nat.le_refl _) _⟩

/-- Marks that were drawn: few, of short names. -/
structure Mks (w : World) (B : Nat) (v : Value) (l : List (ByteArray × Int)) : Prop where
  g : Gath w B v l
  len : l.length ≤ 40
  size : ∀ m ∈ l, m.1.size ≤ 2000
theorem Mks.but {w w' : World} {R B : Nat} {v : Value} {l : List (ByteArray × Int)} (h : Mks w B v l) (hb : But R w w') (hR : R < B) : Mks w' B v l := ⟨h.g.but hb hR, h.len, h.size⟩
theorem Mks.keep {w w' : World} {B : Nat} {v : Value} {l : List (ByteArray × Int)} (h : Mks w B v l) (hb : Below w.heap.size w w') : Mks w' B v l := ⟨h.g.keep hb, h.len, h.size⟩
theorem Mks.lower {w : World} {B B' : Nat} {v : Value} {l : List (ByteArray × Int)} (h : Mks w B v l) (hB : B' ≤ B) : Mks w B' v l := ⟨h.g.lower hB, h.len, h.size⟩

/-- l6Marks, with what the draws need. -/
theorem l6Marks_mks (R n c p : Nat) (ab : Option Addr) (w : World) (hr : Rd w R ab n c p) (hp : p ≤ 80000) :
    Calls Tryz.prog 64 #[.pointer (some ⟨R, 0, none⟩)] w fun e w' => (∃ v l p', e = .returned v ∧ Mks w' w.heap.size v l ∧ l.length ≤ 30 ∧ Rd w' R ab n c p' ∧ p' ≤ p + 100) ∧ But R w w' :=
  (l6Marks_any R n c p ab w hr hp).mono fun _ _ ⟨⟨v, l, p', he, hg, hl, hs, hr, hp⟩, hb⟩ => ⟨⟨v, l, p', he, ⟨hg, by omega, hs⟩, hl, hr, hp⟩, hb⟩

end Go.Proofs.YtpfhegengmlkmaaGreat

namespace Go.Proofs.YtpfhegengmlkmaaGreat
open Go.ChangeShapes Go.WideShapes Go.ChangeAt Go.RowKit

theorem Tryz.cells5 : Tryz.prog.cellsOf 5 = 1 := by kernel_rfl
theorem Tryz.own : ownKnob Tryz.prog.godebug = none := by kernel_rfl
theorem Tryz.laidOut : laidOutB Tryz.prog = true := by kernel_rfl

theorem open_bytes {H : Type} {enc : TypeId × Value → H} {W : World} {a : Option Addr} {len cap : Nat} {d : DataW H} {ps : List MemPlace}
    (h : DataW.Trod enc Tryz.prog W 0 (fun _ => true) true 22 (.slice a len cap) d ps) : Bytes W a len cap ∧ len ≤ maxLen := by
  obtain ⟨fuel, hf⟩ := h
  rcases open_ints Tryz.underlying22 Tryz.underlying5 Tryz.cells5 hf with ⟨hcs, _⟩ | hh
  · simp [Value.cells] at hcs
    obtain ⟨rfl, rfl, rfl⟩ := hcs
    exact ⟨⟨Nat.le_refl _, fun k h => absurd h (Nat.not_lt_zero k)⟩, Nat.zero_le _⟩
  · obtain ⟨x, n, c, zs, hcs, _, hl, hm, hz, _, hcell, hwf⟩ := hh
    simp [Value.cells] at hcs
    obtain ⟨rfl, rfl, rfl⟩ := hcs
    simp only [if_true] at hz
    refine ⟨⟨hl, fun k hk => ?_⟩, Nat.le_trans hl hm⟩
    have e0 := hcell k (by omega)
    obtain ⟨b, o, spot⟩ := x
    have hspot : spot = none := by simpa [Addr.add] using World.cell?_spot (hcell 0 (by omega))
    subst hspot
    rw [add_plain] at e0
    have hw := hwf (zs.getD k 0) (by
      have hkz : k < zs.length := by omega
      simp only [List.getD_eq_getElem?_getD, List.getElem?_eq_getElem hkz, Option.getD_some]
      exact List.getElem_mem hkz)
    simp [Lit.wf, IntKind.min, IntKind.max, IntKind.signed, IntKind.bits] at hw
    exact ⟨b, o, zs.getD k 0, rfl, block_lt_of_cell e0, by simpa using hw.1, by simpa using hw.2, e0⟩

end Go.Proofs.YtpfhegengmlkmaaGreat
