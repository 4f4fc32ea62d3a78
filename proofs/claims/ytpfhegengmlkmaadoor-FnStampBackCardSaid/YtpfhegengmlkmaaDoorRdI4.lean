/- Walks: impl's reader of a stamp's text: marks; impl.StampRead. -/
import Derived.Test.YtpfhegengmlkmaaDoorRdI3
namespace Go.Proofs.YtpfhegengmlkmaaDoor
open Go.RowKit Go.BigFrame

theorem Gath.but2 {w w' : World} {R B : Nat} {v : Value} {l : List (ByteArray × Int)} (h : Gath w B v l) (hb : But R w w') (hR : R < B) : Gath w' B v l := by
  obtain ⟨hl, h | ⟨g, cap, cur, hv, hgB, hh, r⟩⟩ := h
  · exact ⟨hl, .inl h⟩
  · exact ⟨hl, .inr ⟨g, cap, cur, hv, hgB, (hb.block g (Array.getElem?_eq_some_iff.1 hh).1 (by omega)).trans hh, r⟩⟩
theorem first_word {r : List UInt8} {ms : List (ByteArray × Int)} (h : Words (splitL 32 r) ms) : ∃ (m' : ByteArray × Int) (d q : List UInt8), r = bl m'.1 ++ 58 :: (d ++ q) ∧ NBs (bl m'.1) ∧ Dig d m'.2 ∧ NoDig q ∧ (q = [] ∨ q.head? = some 32) := by
  rcases splitL_two (c := 32) r with h1 | ⟨a, r', rfl, h1⟩
  · rw [splitL_no h1] at h
    match ms, h with
    | m :: _, h =>
      obtain ⟨d, e, h2, h3⟩ := h.1
      exact ⟨m, d, [], by rw [List.append_nil]; exact e, h2, h3, fun x hx => by simp at hx, .inl rfl⟩
  · rw [splitL_cut h1] at h
    match ms, h with
    | m :: _, h =>
      obtain ⟨d, e, h2, h3⟩ := h.1
      exact ⟨m, d, 32 :: r', by rw [e, List.append_assoc]; rfl, h2, h3, fun x hx => by simp at hx; subst hx; unfold DG; decide, .inr rfl⟩
theorem marks_no {L r : List UInt8} {pw : List (List UInt8)} {m : ByteArray × Int} {r' : List UInt8} (hs : splitL 32 L = pw ++ splitL 32 r) (h : MarkR r m false r') : ∀ m', ¬ Words (splitL 32 L) m' := fun m' hw => by
  rw [hs] at hw
  obtain ⟨_, m2, _, _, h2⟩ := hw.cut
  obtain ⟨x, d, q, e, h3, h4, h5, _⟩ := first_word h2
  exact h.2 rfl x d q e h3 h4 h5
theorem marks_bad {L r : List UInt8} {pw : List (List UInt8)} {m : ByteArray × Int} {r' : List UInt8} (hs : splitL 32 L = pw ++ splitL 32 r) (h : MarkR r m true r') (hr : r' ≠ []) (h32 : r'.head? ≠ some 32) : ∀ m', ¬ Words (splitL 32 L) m' := fun m' hw => by
  rw [hs] at hw
  obtain ⟨_, m2, _, _, h2⟩ := hw.cut
  obtain ⟨x, d, q, e, h3, h4, h5, h6⟩ := first_word h2
  obtain ⟨d0, e0, h7, h8, h9⟩ := h.1 rfl
  rw [e0] at e
  obtain ⟨_, e2⟩ := cut_one e (nbs_not h7 (.inl rfl)) (nbs_not h3 (.inl rfl))
  obtain ⟨_, rfl⟩ := run_one e2 h8.2.2.1 h4.2.2.1 h9 h5
  rcases h6 with h6 | h6
  · exact hr h6
  · exact h32 h6
theorem mark_word {r r' : List UInt8} {m : ByteArray × Int} (h : MarkR r m true r') : ∃ u, r = u ++ r' ∧ Word u m ∧ (32 : UInt8) ∉ u := by
  obtain ⟨d0, e0, h7, h8, h9⟩ := h.1 rfl
  have hw : Word (bl m.1 ++ 58 :: d0) m := ⟨d0, rfl, h7, h8⟩
  exact ⟨_, by rw [e0, List.append_assoc]; rfl, hw, hw.free⟩
theorem marks_end {L r : List UInt8} {pw : List (List UInt8)} {o : List (ByteArray × Int)} {m : ByteArray × Int} (hs : splitL 32 L = pw ++ splitL 32 r) (ho : Words pw o) (h : MarkR r m true []) : Words (splitL 32 L) (o ++ [m]) := by
  obtain ⟨u, e, hw, hf⟩ := mark_word h
  rw [List.append_nil] at e
  subst e
  rw [hs, splitL_no hf]
  exact ho.snoc hw
theorem marks_next {L r q : List UInt8} {pw : List (List UInt8)} {o : List (ByteArray × Int)} {m : ByteArray × Int} (hs : splitL 32 L = pw ++ splitL 32 r) (ho : Words pw o) (h : MarkR r m true (32 :: q)) : ∃ pw', splitL 32 L = pw' ++ splitL 32 q ∧ Words pw' (o ++ [m]) := by
  obtain ⟨u, e, hw, hf⟩ := mark_word h
  subst e
  exact ⟨pw ++ [u], by rw [hs, splitL_cut hf]; simp, ho.snoc hw⟩

/-- What marks() read. -/
def MksE (w : World) (B : Nat) (t : ByteArray) (e : Ending) : Prop := ∃ v o ok, e = .returned (.tuple #[v, .bool ok]) ∧ Gath w B v o ∧ (ok = true → Words (splitL 32 (bl t)) o) ∧ (ok = false → ∀ m', ¬ Words (splitL 32 (bl t)) m') ∧ o.length ≤ 1001 ∧ (∀ m ∈ o, m.1.size ≤ 1000)

set_option maxHeartbeats 1600000 in
theorem marks_any (R : Nat) (t : ByteArray) (w : World) (hr : Sr w R t 0) :
    Calls Tryd.prog 18 #[.pointer (some ⟨R, 0, none⟩)] w fun e w' => MksE w' w.heap.size t e ∧ But R w w' := by
  obtain ⟨i0, hi, hz0, hz1, hz2⟩ := info_parts Tryd.infoM
  have hR := hr.lt
  go_enter Tryd.func18, Tryd.ntmps18
  go_wp2_with fail
  go_loopw [4] (fun sv wr => ∃ (k : Nat) (o : List (ByteArray × Int)) (pw : List (List UInt8)), k ≤ t.size ∧ Gath wr w.heap.size sv o ∧ o.length ≤ k ∧ (∀ m ∈ o, m.1.size ≤ 1000) ∧ Words pw o ∧ splitL 32 (bl t) = pw ++ splitL 32 ((bl t).drop k) ∧ Sr wr R t k ∧ But R w wr) (fun _ wr => t.size - atOf wr R)
  case atStart => exact ⟨0, [], [], Nat.zero_le _, Gath.none _ _, Nat.le_refl _, by simp, trivial, by simp, hr, But.refl _ _⟩
  case round =>
    obtain ⟨k, o, pw, hkt, hg, hol, hos, hW, hS, hrr, hbr⟩ := hrel
    have hsm := hrr.small
    have HM : Hid (atOf wr R = k) := hrr.atOf
    have HW : Hid (Words pw o) := hW
    have HS : Hid (splitL 32 (bl t) = pw ++ splitL 32 ((bl t).drop k)) := hS
    clear hW hS
    go_wp2_with fail
    refine (mark_any R k t _ hrr).mono ?_
    rintro e w2 ⟨⟨⟨ms, mv⟩, ok, p', rfl, hr2, hp2, hmr, hms⟩, b2⟩
    have hg2 := hg.but2 b2 hR
    have hB2 := hbr.trans b2
    have z2 := hB2.size
    have hle := hr2.le
    have HMR : Hid (MarkR ((bl t).drop k) (ms, mv) ok ((bl t).drop p')) := hmr
    have hms : ms.size ≤ 1000 := hms
    clear hmr b2 hg hrr hbr
    have hba : Below w2.heap.size w2 (w2.alloc (.cells #[.string ms, .int .i64 mv] 37)) := (Below.refl _ _).alloc (Nat.le_refl _) _
    cases ok
    · have HNO : Hid (∀ m', ¬ Words (splitL 32 (bl t)) m') := marks_no HS.out HMR.out
      clear HMR HS HW
      go_wp2_with fail
      exact bodyPost_ret (v := .tuple #[.slice none 0 0, .bool false]) (by simp [results, Tryd.results18, go_sem]) rfl ⟨⟨_, [], false, rfl, Gath.none _ _, fun e => Bool.noConfusion e, fun _ => HNO.out, by simp, by simp⟩, hB2.trans (But.of_below hba)⟩
    · have hg3 : (w2.alloc (.cells #[.string ms, .int .i64 mv] 37)).ownsRow w.heap.size 37 2 _ o.length (mcells o) := World.ownsRow.alloc hg2 _
      have hob := ownsRow_block hg3
      have x0 := box0 w2 (.string ms) (.int .i64 mv) 37
      have x1 := box1 w2 (.string ms) (.int .i64 mv) 37
      have tn : ∀ j u, [Value.string ms, .int .i64 mv][j]? = some u → ((w2.alloc (.cells #[.string ms, .int .i64 mv] 37)).alloc (.cells #[.string ms, .int .i64 mv] 37)).cell? ((⟨w2.heap.size + 1, 0, none⟩ : Addr).add j) = some u := by
        have h := two_new (w2.alloc (.cells #[.string ms, .int .i64 mv] 37)) (.string ms) (.int .i64 mv) 37
        rw [World.size_alloc] at h
        exact h
      have hba2 : Below w2.heap.size w2 ((w2.alloc (.cells #[.string ms, .int .i64 mv] 37)).alloc (.cells #[.string ms, .int .i64 mv] 37)) := hba.alloc hba.size _
      have hos2 : ∀ m ∈ o ++ [(ms, mv)], m.1.size ≤ 1000 := fun m hm => by
        rcases List.mem_append.1 hm with h | h
        · exact hos m h
        · rw [List.mem_singleton.1 h]; exact hms
      by_cases hend : p' = t.size
      · have hend' : ((p' : Int) == (t.size : Int)) = true := by rw [hend]; simp
        have HOK : Hid (Words (splitL 32 (bl t)) (o ++ [(ms, mv)])) := by
          have h := HMR.out
          have e : (bl t).drop p' = [] := List.drop_of_length_le (by rw [bl_length]; omega)
          rw [e] at h
          exact marks_end HS.out HW.out h
        clear HMR HS HW hend
        go_wp2_with (at_builtin; refine wpList_append_lies _ rfl _ _ 23 rfl w.heap.size 37 i0 (.agg #[.string .empty, .int .i64 0]) 2 24 Tryd.underlying23 hi hz0 hz1 hz2 rfl (by decide) _ _ _ rfl (World.ownsRow.alloc hg3 _) ⟨w2.heap.size + 1, 0, none⟩ 1 1 [.string ms, .int .i64 mv] rfl rfl tn (by simp [Value.oneCell']) (by decide) (by unfold maxLen; omega) (by omega) (by simp; omega) _ rfl ?_; intro g' cap' w5 hown' hgrow _ _; have hr5 := (hr2.below hba2).grown hgrow (fun q e => by have := hob q e; omega); have hc0 := hr5.c0; have hc1 := hr5.c1; have hf1 := hr5.f1)
        have hB5 : But R w w5 := (hB2.trans (But.of_below hba2)).grown2 hgrow hob
        go_quiet (fail)
        go_wp2_with fail
        exact bodyPost_ret (v := .tuple #[.slice (some ⟨g', 0, none⟩) (o.length + 1) cap', .bool true]) (by simp [results, Tryd.results18, go_sem]) rfl ⟨⟨_, o ++ [(ms, mv)], true, rfl, (Gath.snoc hown').keep (below_drewN (Below.refl _ _) nq), fun _ => HOK.out, fun e => Bool.noConfusion e, by simp; omega, hos2⟩, hB5.trans (But.of_below (below_drewN (Below.refl _ _) nq))⟩
      · have hend' : ((p' : Int) == (t.size : Int)) = false := by rw [beq_eq_false_iff_ne]; omega
        have hlt : p' < t.size := by omega
        clear hend
        go_wp2_with (at_builtin; refine wpList_append_lies _ rfl _ _ 23 rfl w.heap.size 37 i0 (.agg #[.string .empty, .int .i64 0]) 2 24 Tryd.underlying23 hi hz0 hz1 hz2 rfl (by decide) _ _ _ rfl (World.ownsRow.alloc hg3 _) ⟨w2.heap.size + 1, 0, none⟩ 1 1 [.string ms, .int .i64 mv] rfl rfl tn (by simp [Value.oneCell']) (by decide) (by unfold maxLen; omega) (by omega) (by simp; omega) _ rfl ?_; intro g' cap' w5 hown' hgrow _ _; have hr5 := (hr2.below hba2).grown hgrow (fun q e => by have := hob q e; omega); have hc0 := hr5.c0; have hc1 := hr5.c1; have hf1 := hr5.f1)
        have hB5 : But R w w5 := (hB2.trans (But.of_below hba2)).grown2 hgrow hob
        go_quiet (fail)
        have hbq : Below w5.heap.size w5 (w5.drewN nq) := below_drewN (Below.refl _ _) nq
        have hg6 := (Gath.snoc hown').keep hbq
        have hB6 := hB5.trans (But.of_below hbq)
        have hr6 := hr5.below hbq
        clear hown' hgrow hB5 hr5 hc0 hc1 hf1 x0 x1 tn
        go_wp2_with fail
        refine (take_32 R p' t _ hr6).mono ?_
        rintro e w7 ⟨hT, b7⟩
        rcases hT with ⟨_, h32, rfl, hr7⟩ | ⟨hno, rfl, hr7⟩
        · have HNX : Hid (∃ pw', splitL 32 (bl t) = pw' ++ splitL 32 ((bl t).drop (p' + 1)) ∧ Words pw' (o ++ [(ms, mv)])) := by
            have h := HMR.out
            rw [pk_drop hlt, h32] at h
            exact marks_next HS.out HW.out h
          have hg7 := hg6.but2 b7 hR
          have hB7 := hB6.trans b7
          clear h32 HMR HS HW
          go_wp2_with fail
          obtain ⟨pw', e1, e2⟩ := HNX.out
          refine ⟨⟨p' + 1, o ++ [(ms, mv)], pw', hlt, hg7, by simp; omega, hos2, e2, e1, hr7, hB7⟩, ?_⟩
          rw [hr7.atOf, HM.out]
          omega
        · have HNO : Hid (∀ m', ¬ Words (splitL 32 (bl t)) m') := marks_bad HS.out HMR.out (fun e => by rw [pk_drop hlt] at e; cases e) (fun e => hno (pk_head.1 e))
          have hB7 := hB6.trans b7
          clear HMR HS HW hno
          go_wp2_with fail
          exact bodyPost_ret (v := .tuple #[.slice none 0 0, .bool false]) (by simp [results, Tryd.results18, go_sem]) rfl ⟨⟨_, [], false, rfl, Gath.none _ _, fun e => Bool.noConfusion e, fun _ => HNO.out, by simp, by simp⟩, hB7⟩

set_option maxHeartbeats 1600000 in
theorem implRead_any (t : ByteArray) (w : World) (ht : t.size ≤ 1048576) :
    Calls Tryd.prog 7 #[.string t] w fun e w' => RE w' w.heap.size t e ∧ Below w.heap.size w w' := by
  by_cases h4 : 400 < t.size
  · have H : Hid (IsR t [] false) := .inr ⟨rfl, rfl, fun m' h => by have := h.1; omega⟩
    go_enter Tryd.func7, Tryd.ntmps7
    go_wp2_with fail
    exact bodyPost_ret (v := .tuple #[.slice none 0 0, .bool false]) (by simp [results, Tryd.results7, go_sem]) rfl ⟨⟨_, [], false, rfl, Gath.none _ _, H.out⟩, Below.refl _ _⟩
  by_cases hd : t = ⟨#[45]⟩
  · have hd' : (t.toList == [45]) = true := by rw [hd, ByteArray.toList_eq]; rfl
    have H : Hid (IsR t [] true) := .inl ⟨rfl, by omega, .inl ⟨by rw [hd], rfl⟩⟩
    clear hd
    go_enter Tryd.func7, Tryd.ntmps7
    go_wp2_with fail
    exact bodyPost_ret (v := .tuple #[.slice none 0 0, .bool true]) (by simp [results, Tryd.results7, go_sem]) rfl ⟨⟨_, [], true, rfl, Gath.none _ _, H.out⟩, Below.refl _ _⟩
  have hd' : (t.toList == [45]) = false := by
    have h := toList_bne.2 hd
    rwa [show (⟨#[45]⟩ : ByteArray).toList = [45] from by rw [ByteArray.toList_eq]] at h
  have HD : Hid (bl t ≠ [45]) := fun e => hd (data_inj e)
  clear hd
  go_enter Tryd.func7, Tryd.ntmps7
  go_wp2_with fail
  have hba : Below w.heap.size w (w.alloc (.cells #[.string t, .int .i64 0] 42)) := (Below.refl _ _).alloc (Nat.le_refl _) _
  have hsr : Sr (w.alloc (.cells #[.string t, .int .i64 0] 42)) w.heap.size t 0 := ⟨by simp [go_sem], by simp [go_sem], by simp [go_sem], Nat.zero_le _, by omega⟩
  have hlx := box_lt w (.cells #[.string t, .int .i64 0] 42)
  generalize w.alloc (.cells #[.string t, .int .i64 0] 42) = W0 at *
  refine (marks_any w.heap.size t _ hsr).mono ?_
  rintro e w2 ⟨⟨v, o, ok, rfl, hg2, hyes, hno, hl2, hs2⟩, b2⟩
  have B2 : Below w.heap.size w w2 := hba.trans (b2.below (Nat.le_refl _) (by omega))
  have HFAIL : Hid ((∀ m', Words (splitL 32 (bl t)) m' → ¬ StampP m') → IsR t [] false) := fun h => .inr ⟨rfl, rfl, fun m' hA => by
    rcases hA.2 with ⟨h1, _⟩ | ⟨h1, h2⟩
    · exact HD.out h1
    · exact h m' h1 h2⟩
  cases ok
  · have H : Hid (IsR t [] false) := HFAIL.out fun m' h => absurd h (hno rfl m')
    clear hno hyes HFAIL HD
    go_wp2_with fail
    exact bodyPost_ret (v := .tuple #[.slice none 0 0, .bool false]) (by simp [results, Tryd.results7, go_sem]) rfl ⟨⟨_, [], false, rfl, Gath.none _ _, H.out⟩, B2⟩
  have HY : Hid (Words (splitL 32 (bl t)) o) := hyes rfl
  have hg3 := hg2.lower (B' := w.heap.size) (by omega)
  obtain ⟨ao, co, rfl, hrow⟩ := hg3.shape
  clear hno hyes hg2
  go_wp2_with fail
  refine (implStampOk_any ao co o _ (by unfold maxLen; omega) hrow (fun j hj => by have := hs2 _ (List.getElem_mem hj); unfold maxLen; omega)).mono ?_
  rintro e w3 ⟨⟨r, rfl, hr3⟩, b3⟩
  have B3 : Below w.heap.size w w3 := B2.trans (b3.mono B2.size)
  cases r
  · have H : Hid (IsR t [] false) := HFAIL.out fun m' h hs => by
      rw [h.one HY.out] at hs
      exact absurd (hr3.2 hs) (by simp)
    clear HFAIL HD HY hr3
    go_wp2_with fail
    exact bodyPost_ret (v := .tuple #[.slice none 0 0, .bool false]) (by simp [results, Tryd.results7, go_sem]) rfl ⟨⟨_, [], false, rfl, Gath.none _ _, H.out⟩, B3⟩
  · have H : Hid (IsR t o true) := .inl ⟨rfl, by omega, .inr ⟨HY.out, hr3.1 rfl⟩⟩
    have hg4 := hg3.keep b3
    clear HFAIL HD HY hr3
    go_wp2_with fail
    exact bodyPost_ret (v := .tuple #[.slice ao o.length co, .bool true]) (by simp [results, Tryd.results7, go_sem]) rfl ⟨⟨_, o, true, rfl, hg4, H.out⟩, B3⟩

end Go.Proofs.YtpfhegengmlkmaaDoor
