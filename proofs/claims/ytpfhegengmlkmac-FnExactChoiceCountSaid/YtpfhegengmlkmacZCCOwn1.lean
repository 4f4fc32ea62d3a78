/- Texts of this claim, one behind the other. -/
import Derived.Test.YtpfhegengmlkmacChW
import Derived.Test.YtpfhegengmlkmacCCs
import Derived.Test.YtpfhegengmlkmacLat
import Derived.RangeFuncNested
import Derived.Sort.LoopGhostIn
import Derived.Test.YtpfhegengmlkmacGath
import Derived.Test.YtpfhegengmlkmacStrsM
import Derived.Sort.KeysCollected
import Derived.Test.YtpfhegengmlkmacIter
import Derived.Test.YtpfhegengmlkmacWinL
/- Walks: has, version, agrees of choices. -/
namespace Go.Proofs.Ytpfhegengmlkmac
open Go.RowKit Go.BigFrame
set_option maxRecDepth 100000

set_option maxHeartbeats 1600000 in
theorem has_any (W0 w : World) (b : Nat) (ws : List (List ItemL)) (sh : List (List Spot)) (a' : Option Addr) (cap' : Nat) (ps : List Int) (h : ChB W0 w b ws sh) (h6 : ws.length ≤ 6) (hp : ps.length ≤ maxLen) (hr' : RowZ w a' ps) :
    Calls Try.prog 59 #[.pointer (some ⟨b, 0, none⟩), .slice a' ps.length cap'] w fun e w' => IsB (ps.length = ws.length ∧ InW ws ps) e ∧ Below w.heap.size w w' := by
  have hpl : ps.length ≤ 2 ^ 63 - 1 := hp
  clear hp
  obtain ⟨hb, a, c, a2, c2, e0, hc, e1, hc2, hv, hg⟩ := h
  by_cases hlen : ps.length = ws.length
  · have hlen' : ((ps.length : Int) != (ws.length : Int)) = false := by rw [bne_eq_false_iff_eq]; omega
    have HL : Hid (ps.length = ws.length) := hlen
    have hle1 : ps.length ≤ ws.length := by omega
    clear hlen
    go_enter Try.func59, Try.ntmps59
    go_wp2_with fail
    go_loopw [17] (fun i wr => ∃ k : Nat, k ≤ ps.length ∧ i = .int .i64 k ∧ Hid (∀ j, (h : j < ps.length) → j < k → 0 ≤ ps[j] ∧ ps[j] < ((ws.getD j []).length : Int)) ∧ wr = w) (fun i _ => ps.length - (intOf i).toNat)
    case atStart => exact ⟨0, Nat.zero_le _, rfl, fun _ _ h => absurd h (Nat.not_lt_zero _), rfl⟩
    case round =>
      obtain ⟨k, hk, rfl, HI, rfl⟩ := hrel
      by_cases hlt : k < ps.length
      · have hwk : k < ws.length := by omega
        obtain ⟨g, o, rfl, hwo⟩ := hv k hwk
        obtain ⟨c1, p1, rfl, gc, z1⟩ := hr' k hlt
        have k0 : (0 : Int) ≤ (k : Int) := by omega
        have k1 : (k : Int) < (ps.length : Int) := by omega
        have k2 : (k : Int) < (ws.length : Int) := by omega
        have HG : Hid (ws.getD k [] = ws[k]) := getD_at hwk
        by_cases hn : ps[k] < 0
        · have HN : Hid (¬ (ps.length = ws.length ∧ InW ws ps)) := fun h => by have := (h.2.2 k hlt).1; omega
          clear HG
          go_wp2_with fail
          go_ret
          exact ⟨isB_false HN.out, Below.refl _ _⟩
        have hn' : decide (ps[k] < 0) = false := decide_eq_false hn
        go_wp2_with fail
        refine (size_off W0 _ g (o + k * 10) ws[k] hwo).mono ?_
        rintro e w2 ⟨rfl, rfl⟩
        by_cases hq : ps[k] < (ws[k].length : Int)
        · have HST : Hid (∀ j, (h : j < ps.length) → j < k + 1 → 0 ≤ ps[j] ∧ ps[j] < ((ws.getD j []).length : Int)) := fun j hj hlt' => by
            by_cases e : j = k
            · subst e; rw [HG.out]; exact ⟨by omega, hq⟩
            · exact HI.out j hj (by omega)
          have hq' : decide ((ws[k].length : Int) ≤ ps[k]) = false := decide_eq_false (by omega)
          clear HG
          go_wp2_with fail
          exact ⟨⟨k + 1, by omega, by go_num, HST, by trivial⟩, by simp [intOf]; omega⟩
        · have HN : Hid (¬ (ps.length = ws.length ∧ InW ws ps)) := fun h => by have h3 := (h.2.2 k hlt).2; rw [HG.out] at h3; omega
          have hq' : decide ((ws[k].length : Int) ≤ ps[k]) = true := decide_eq_true (by omega)
          clear HG
          go_wp2_with fail
          go_ret
          exact ⟨isB_false HN.out, Below.refl _ _⟩
      · have HF : Hid (ps.length = ws.length ∧ InW ws ps) := ⟨HL.out, hle1, fun j hj => HI.out j hj (by omega)⟩
        go_wp2_with fail
        go_ret
        exact ⟨isB_true HF.out, Below.refl _ _⟩
  · have hlen' : ((ps.length : Int) != (ws.length : Int)) = true := by rw [bne_iff_ne]; omega
    go_enter Try.func59, Try.ntmps59
    go_wp2_with fail
    go_ret
    exact ⟨isB_false (fun h => hlen h.1), Below.refl _ _⟩

theorem ver_facts {ws : List (List ItemL)} {ps : List Int} (hok : OkW ws) (hl : ps.length = ws.length) (hin : InW ws ps) {s : ByteArray} {p : Spot} (hs : SpotOf ws s p) : ∃ (hw : p.1 < ws.length) (_ : p.1 < ps.length) (q : Nat) (hq : q < ws[p.1].length) (hm : p.2 < ws[p.1][q].2.length), ps[p.1] = (q : Int) ∧ verM ws ps p = (ws[p.1][q].2[p.2]).2 := by
  have hpw := hs.1
  have hpp : p.1 < ps.length := by omega
  obtain ⟨hmk, _, hver, _, _⟩ := verM_eq hok hl hin hs
  obtain ⟨_, q, hqe, hq, hpk⟩ := in_nat hin hpp
  have hm : p.2 < ws[p.1][q].2.length := by rw [← hpk]; exact hmk
  refine ⟨hpw, hpp, q, hq, hm, hqe, ?_⟩
  rw [hver]
  congr 1
  simp only [hpk]

set_option maxHeartbeats 1600000 in
theorem version_any (W0 w : World) (b : Nat) (ws : List (List ItemL)) (sh : List (List Spot)) (a' : Option Addr) (cap' : Nat) (ps : List Int) (p : Spot) (s : ByteArray) (h : ChB W0 w b ws sh) (hW : Below W0.heap.size W0 w) (hok : OkW ws) (hl : ps.length = ws.length) (hin : InW ws ps) (hr' : RowZ w a' ps) (hs : SpotOf ws s p) :
    Calls Try.prog 86 #[.pointer (some ⟨b, 0, none⟩), .slice a' ps.length cap', .agg #[.int .i64 (p.1 : Int), .int .i64 (p.2 : Int)]] w fun e w' => e = .returned (.int .i64 (verM ws ps p)) ∧ Below w.heap.size w w' := by
  obtain ⟨hb, a, c, a2, c2, e0, hc, e1, hc2, hv, hg⟩ := h
  obtain ⟨hpw, hpp, q, hq, hmk2, hqe, hver⟩ := ver_facts hok hl hin hs
  have HV : Hid (verM ws ps p = (ws[p.1][q].2[p.2]).2) := hver
  have h6 := hok.2.1
  obtain ⟨g, o, rfl, hwo⟩ := hv p.1 hpw
  obtain ⟨c1, p1, rfl, gc, z1⟩ := hr' p.1 hpp
  have h4 := hwo.2.1
  obtain ⟨y0, yv, y1, sa, sc, rfl, hcap, hrow⟩ := hwo.2.2.2.2 q hq
  rw [hqe] at z1
  obtain ⟨bm, om, rfl, hbm, _, m1⟩ := hrow p.2 hmk2
  clear hver hqe hv hg hs hin
  have hgl := hwo.1
  have c8 := hwo.2.2.1
  have hz0 := hW.size
  go_enter Try.func86, Try.ntmps86
  go_wp2_with fail
  have hb0 : Below w.heap.size w (w.alloc (.cells #[.int .i64 (p.1 : Int), .int .i64 (p.2 : Int)] 119)) := (Below.refl _ _).alloc (Nat.le_refl _) _
  have hlt0 := box_lt w (.cells #[.int .i64 (p.1 : Int), .int .i64 (p.2 : Int)] 119)
  have d0 := box0 w (.int .i64 (p.1 : Int)) (.int .i64 (p.2 : Int)) 119
  have d1 := box1 w (.int .i64 (p.1 : Int)) (.int .i64 (p.2 : Int)) 119
  generalize w.alloc (.cells #[.int .i64 (p.1 : Int), .int .i64 (p.2 : Int)] 119) = W at *
  have hne := Lat.some W
  have n0 : ∀ n : Lat W, n.w.cell? ⟨b, 0, none⟩ = some (.slice (some ⟨g, o, none⟩) ws.length c) := fun n => n.cell (Nat.lt_of_lt_of_le hb hb0.size) (cell_on hb0 hb e0)
  have n1 : ∀ n : Lat W, n.w.cell? ⟨w.heap.size, 0, none⟩ = some (.int .i64 (p.1 : Int)) := fun n => n.cell hlt0 d0
  have n2 : ∀ n : Lat W, n.w.cell? ⟨w.heap.size, 1, none⟩ = some (.int .i64 (p.2 : Int)) := fun n => n.cell hlt0 d1
  have n3 : ∀ n : Lat W, n.w.cell? ⟨c1, p1 + p.1, none⟩ = some (.int .i64 (q : Int)) := fun n => n.cell (Nat.lt_of_lt_of_le gc hb0.size) (cell_on hb0 gc z1)
  have hbm' : bm < w.heap.size := Nat.lt_of_lt_of_le hbm hz0
  have n4 : ∀ n : Lat W, n.w.cell? ⟨bm, om + p.2 * 2 + 1, none⟩ = some (.int .i64 ((ws[p.1][q]).2[p.2]).2) := fun n => n.cell (Nat.lt_of_lt_of_le hbm' hb0.size) (cell_on hb0 hbm' (cell_on hW hbm m1))
  have ce : ∀ n : Lat W, Calls Try.prog 54 #[.pointer (some ⟨g, o + p.1 * 10, none⟩), .int .i64 q] n.w fun e w'' => e = .returned (.agg #[.int .i64 (ws[p.1][q]).1, .slice (some ⟨bm, om, none⟩) (ws[p.1][q]).2.length sc]) ∧ Below n.w.heap.size n.w w'' := fun n => by
    have hx : ∀ {i : Nat} {v : Value}, w.cell? ⟨g, i, none⟩ = some v → n.w.cell? ⟨g, i, none⟩ = some v := fun h => n.cell (Nat.lt_of_lt_of_le hgl hb0.size) (cell_on hb0 hgl h)
    exact at_val n.w g (o + p.1 * 10) q _ _ _ _ (Nat.lt_of_lt_of_le (Nat.lt_of_lt_of_le hgl hb0.size) n.h.size) (by omega) (hx c8) (hx y0) (hx y1)
  have i0 : (0 : Int) ≤ (p.1 : Int) := by omega
  have i1 : (p.1 : Int) < (ws.length : Int) := by omega
  have i2 : (p.1 : Int) < (ps.length : Int) := by omega
  have i3 : (0 : Int) ≤ (p.2 : Int) := by omega
  have i4 : (p.2 : Int) < ((ws[p.1][q]).2.length : Int) := by omega
  have hfd := field_stamp (ws[p.1][q]).1 (some ⟨bm, om, none⟩) (ws[p.1][q]).2.length sc
  clear e0 e1 z1 m1 y0 y1 d0 d1 hrow hwo c8
  refine wp_region_lat (by kernel_rfl) (by kernel_rfl) ?_
  repeat (go_big_quiet_step ((go_at_call 54; exact Calls.lat_of (ce _))))
  refine wpQuiet_nil ?_
  rintro _ ⟨nq, rfl⟩
  go_wp2_with fail
  go_ret
  exact ⟨by rw [HV.out]; rfl, hb0.trans (nq.h.mono hb0.size)⟩

end Go.Proofs.Ytpfhegengmlkmac
/- Walk: step of choices. -/
namespace Go.Proofs.Ytpfhegengmlkmac
open Go.RowKit Go.BigFrame
set_option maxRecDepth 100000

/-- The next choice: from place i down to the first. -/
def stepM (ws : List (List ItemL)) : Nat → List Int → List Int
  | 0, ps => ps.set 0 (ps.getD 0 0 + 1)
  | i + 1, ps => if ps.getD (i + 1) 0 + 1 < ((ws.getD (i + 1) []).length : Int) then ps.set (i + 1) (ps.getD (i + 1) 0 + 1) else stepM ws i (ps.set (i + 1) 0)

theorem stepM_pos (ws : List (List ItemL)) {k : Nat} (h : k ≠ 0) (ps : List Int) : stepM ws k ps = if ps.getD k 0 + 1 < ((ws.getD k []).length : Int) then ps.set k (ps.getD k 0 + 1) else stepM ws (k - 1) (ps.set k 0) := by
  cases k with
  | zero => exact absurd rfl h
  | succ i => rfl

set_option maxHeartbeats 1600000 in
/-- The windows and the spots lie below block g; the places at it. -/
theorem step_any (W0 w0 w : World) (b g c : Nat) (ws : List (List ItemL)) (sh : List (List Spot)) (ps : List Int) (h : ChB W0 w0 b ws sh) (hw0 : w0.heap.size ≤ g) (hb0 : Below w0.heap.size w0 w) (h6 : ws.length ≤ 6) (h4 : ∀ k, (h : k < ws.length) → ws[k].length ≤ 4) (hl : ps.length = ws.length) (h0 : 0 < ps.length) (hin : InW ws ps) (hn : NumB w g ps) :
    Calls Try.prog 88 #[.pointer (some ⟨b, 0, none⟩), .slice (some ⟨g, 0, none⟩) ps.length c] w fun e w' => (∃ v, e = .returned v) ∧ NumB w' g (stepM ws (ps.length - 1) ps) ∧ But g w w' := by
  have HL : Hid (ps.length = ws.length) := hl
  have HIN : Hid (InW ws ps) := hin
  have hp6 : ps.length ≤ 6 := by omega
  clear hl hin
  go_enter Try.func88, Try.ntmps88
  go_wp2_with fail
  go_loopw [4] (fun i wr => ∃ (k : Nat) (qs : List Int), k < ps.length ∧ i = .int .i64 k ∧ qs.length = ps.length ∧ Hid (stepM ws k qs = stepM ws (ps.length - 1) ps) ∧ Hid (∀ j, (h : j < qs.length) → -4 ≤ qs[j] ∧ qs[j] ≤ 4) ∧ NumB wr g qs ∧ But g w wr) (fun i _ => (intOf i).toNat)
  case atStart => exact ⟨ps.length - 1, ps, by omega, by congr 1; omega, rfl, rfl, fun j hj => by
    have h1 := HIN.out.2 j hj
    have hw : j < ws.length := by rw [← HL.out]; exact hj
    have e : ws.getD j [] = ws[j] := by simp [List.getD, hw]
    rw [e] at h1
    have := h4 j hw
    omega, hn, But.refl _ _⟩
  case round =>
    obtain ⟨k, qs, hk, rfl, hql, HS, HB, hnb, hbut⟩ := hrel
    have HQL : Hid (qs.length = ps.length) := hql
    have hkq : k < qs.length := by omega
    have hkw : k < ws.length := by rw [← HL.out]; exact hk
    have p0 := hnb.cell hkq
    have p1 := hnb.frozen k
    have k0 : (0 : Int) ≤ (k : Int) := by omega
    have k1 : (k : Int) < (ps.length : Int) := by omega
    have hbd := HB.out k hkq
    have q0 := hbd.1
    have q1 := hbd.2
    have hset := hnb.set k (qs[k] + 1)
    have hB' : Below w0.heap.size w0 wr := hb0.trans (hbut.below hw0 hb0.size)
    clear hql hbd
    go_wp2_with fail
    have hbw : Below wr.heap.size wr wr := Below.refl _ _
    have hset0 : Below w0.heap.size w0 (wr.setCell ⟨g, k, none⟩ (.int .i64 (qs[k] + 1))) := hB'.setCell hw0 _
    have hbut2 := hbut.setCell k (.int .i64 (qs[k] + 1))
    generalize wr.setCell ⟨g, k, none⟩ (.int .i64 (qs[k] + 1)) = W at *
    have hcb := h.below hset0
    obtain ⟨hbb, va, vc, va', vc', e0, _, _, _, hv, _⟩ := hcb
    obtain ⟨gv, ov, rfl, hwo⟩ := hv k hkw
    have hne := Lat.some W
    have k2 : (k : Int) < (ws.length : Int) := by omega
    have hkm : k < (qs.set k (qs[k] + 1)).length := by rw [List.length_set]; exact hkq
    have p2 := hset.cell hkm
    rw [List.getElem_set_self] at p2
    have n0 : ∀ n : Lat W, n.w.cell? ⟨g, k, none⟩ = some (.int .i64 (qs[k] + 1)) := fun n => n.cell hset.lt p2
    have n1 : ∀ n : Lat W, n.w.cell? ⟨b, 0, none⟩ = some (.slice (some ⟨gv, ov, none⟩) ws.length vc) := fun n => n.cell hbb e0
    have ce : ∀ n : Lat W, Calls Try.prog 52 #[.pointer (some ⟨gv, ov + k * 10, none⟩)] n.w fun e w' => e = .returned (.int .i64 (ws[k].length : Int)) ∧ Below n.w.heap.size n.w w' := fun n => (size_off W0 n.w gv (ov + k * 10) ws[k] (hwo.below n.h)).mono fun e w' ⟨h1, h2⟩ => ⟨h1, by rw [h2]; exact Below.refl _ _⟩
    by_cases hz : k = 0
    · subst hz
      refine wp_region_lat (by kernel_rfl) (by kernel_rfl) ?_
      repeat (go_big_quiet_step ((go_at_call 52; exact Calls.lat_of (ce _))))
      refine wpQuiet_nil ?_
      rintro _ ⟨nq, rfl⟩
      have HE : Hid (qs.set 0 (qs[0] + 1) = stepM ws (ps.length - 1) ps) := by
        unfold Hid
        rw [← HS.out]
        simp [stepM, List.getD, hkq]
      go_wp2_with fail
      exact bodyPost_ret (v := .tuple #[]) (by simp [results, Try.results88, go_sem]) rfl ⟨⟨_, rfl⟩, by rw [← HE.out]; exact hset.below nq.h, hbut2.trans (But.of_below nq.h)⟩
    · have hz' : ((k : Int) == 0) = false := by rw [beq_eq_false_iff_ne]; omega
      have eg : qs.getD k 0 = qs[k] := by simp [List.getD, hkq]
      have ew : ws.getD k [] = ws[k] := by simp [List.getD, hkw]
      by_cases hc : qs[k] + 1 < (ws[k].length : Int)
      · have HE : Hid (qs.set k (qs[k] + 1) = stepM ws (ps.length - 1) ps) := by
          unfold Hid
          rw [← HS.out]
          rw [stepM_pos ws hz, eg, ew, if_pos hc]
        have hc' : decide (qs[k] + 1 < (ws[k].length : Int)) = true := decide_eq_true hc
        have hz1 : 1 ≤ k := by omega
        clear eg ew hz
        refine wp_region_lat (by kernel_rfl) (by kernel_rfl) ?_
        repeat (go_big_quiet_step ((go_at_call 52; exact Calls.lat_of (ce _))))
        refine wpQuiet_nil ?_
        rintro _ ⟨nq, rfl⟩
        go_wp2_with fail
        exact bodyPost_ret (v := .tuple #[]) (by simp [results, Try.results88, go_sem]) rfl ⟨⟨_, rfl⟩, by rw [← HE.out]; exact hset.below nq.h, hbut2.trans (But.of_below nq.h)⟩
      · have HE : Hid (stepM ws (k - 1) (qs.set k 0) = stepM ws (ps.length - 1) ps) := by
          unfold Hid
          rw [← HS.out]
          rw [stepM_pos ws hz, eg, ew, if_neg hc]
        have hc' : decide (qs[k] + 1 < (ws[k].length : Int)) = false := decide_eq_false hc
        have hz1 : 1 ≤ k := by omega
        clear eg ew hz
        refine wp_region_lat (by kernel_rfl) (by kernel_rfl) ?_
        repeat (go_big_quiet_step ((go_at_call 52; exact Calls.lat_of (ce _))))
        refine wpQuiet_nil ?_
        rintro _ ⟨nq, rfl⟩
        have hnq := hset.below nq.h
        have p4 := hnq.cell hkm
        have p5 := hnq.frozen k
        have hset2 := hnq.set k 0
        rw [List.set_set] at hset2
        have HB2 : Hid (∀ j, (h : j < (qs.set k 0).length) → -4 ≤ (qs.set k 0)[j] ∧ (qs.set k 0)[j] ≤ 4) := fun j hj => by
          have hj' : j < qs.length := by simpa using hj
          by_cases e : j = k
          · subst e
            rw [List.getElem_set_self]
            omega
          · rw [List.getElem_set_ne (fun h => e h.symm)]
            exact HB.out j hj'
        go_wp2_with fail
        exact ⟨⟨k - 1, qs.set k 0, by omega, by congr 1; omega, by rw [List.length_set]; exact HQL.out, HE, HB2, hset2, (hbut2.trans (But.of_below nq.h)).setCell _ _⟩, by simp [intOf]; omega⟩

end Go.Proofs.Ytpfhegengmlkmac
/- Mathematics: the choices from one on, in the order of their places. -/
namespace Go.Proofs.Ytpfhegengmlkmac

/-- All choices from pre ++ t on that begin with pre. -/
def fromL (ws : List (List ItemL)) : List Int → List Int → List (List Int)
  | pre, [] => [pre]
  | pre, x :: t => fromL ws (pre ++ [x]) t ++ ((List.range (ws.getD pre.length []).length).drop (x.toNat + 1)).flatMap fun i : Nat => allL ws t.length (pre ++ [(i : Int)])

theorem range_first {n : Nat} (h : 0 < n) : List.range n = 0 :: (List.range n).drop 1 := by
  cases n with
  | zero => omega
  | succ n => rw [List.range_succ_eq_map]; rfl

/-- From the first places on: all. -/
theorem fromL_zeros {ws : List (List ItemL)} : ∀ (m : Nat) (pre : List Int), (∀ j, pre.length ≤ j → j < pre.length + m → 0 < (ws.getD j []).length) → fromL ws pre (List.replicate m 0) = allL ws m pre
  | 0, pre, _ => rfl
  | m + 1, pre, h => by
    have h0 := h pre.length (Nat.le_refl _) (by omega)
    have ih := fromL_zeros (ws := ws) m (pre ++ [0]) (fun j h1 h2 => h j (by simp at h1; omega) (by simp at h2; omega))
    rw [List.replicate_succ]
    simp only [fromL, allL, List.length_replicate]
    rw [ih]
    conv => rhs; rw [range_first h0]
    rw [List.flatMap_cons]
    rfl

theorem fromL_head {ws : List (List ItemL)} : ∀ (t pre : List Int), ∃ r, fromL ws pre t = (pre ++ t) :: r
  | [], pre => ⟨[], by simp [fromL]⟩
  | x :: t, pre => by
    obtain ⟨r, hr⟩ := fromL_head (ws := ws) t (pre ++ [x])
    exact ⟨_, by simp only [fromL]; rw [hr, List.cons_append]; simp; rfl⟩

/-- The places of the next choice, from window d on; none behind the last. -/
def nxtT (ws : List (List ItemL)) : Nat → List Int → Option (List Int)
  | _, [] => none
  | d, x :: t => match nxtT ws (d + 1) t with
    | some t' => some (x :: t')
    | none => if x + 1 < ((ws.getD d []).length : Int) then some ((x + 1) :: List.replicate t.length 0) else none
theorem nxtT_len {ws : List (List ItemL)} : ∀ (t : List Int) (d : Nat) (r : List Int), nxtT ws d t = some r → r.length = t.length
  | [], d, r, h => by simp [nxtT] at h
  | x :: t, d, r, h => by
    simp only [nxtT] at h
    cases hn : nxtT ws (d + 1) t with
    | some t' =>
      rw [hn] at h
      have := nxtT_len t (d + 1) t' hn
      simp only [Option.some.injEq] at h
      rw [← h]
      simp [this]
    | none =>
      rw [hn] at h
      simp only at h
      split at h
      · simp only [Option.some.injEq] at h
        rw [← h]
        simp
      · cases h

theorem drop_range {n i : Nat} (h : i < n) : (List.range n).drop i = i :: (List.range n).drop (i + 1) := by
  rw [List.drop_eq_getElem_cons (by simpa using h)]
  simp

/-- The choices from one on: itself, then those from the next on. -/
theorem fromL_next {ws : List (List ItemL)} : ∀ (t pre : List Int), (∀ j, pre.length ≤ j → j < pre.length + t.length → 0 < (ws.getD j []).length) → (∀ x ∈ t, 0 ≤ x) → fromL ws pre t = (pre ++ t) :: (match nxtT ws pre.length t with | some t' => fromL ws pre t' | none => [])
  | [], pre, _, _ => by simp [fromL, nxtT]
  | x :: t, pre, h, hx => by
    have hx0 := hx x (by simp)
    have ih := fromL_next (ws := ws) t (pre ++ [x]) (fun j h1 h2 => h j (by simp at h1; omega) (by simp at h2 ⊢; omega)) (fun y hy => hx y (by simp [hy]))
    have hl : (pre ++ [x]).length = pre.length + 1 := by simp
    rw [hl] at ih
    simp only [fromL, nxtT]
    rw [ih]
    cases hn : nxtT ws (pre.length + 1) t with
    | some t' =>
      have hlen := nxtT_len t _ t' hn
      simp only [fromL, hlen]
      simp
    | none =>
      simp only
      by_cases hc : x + 1 < ((ws.getD pre.length []).length : Int)
      · rw [if_pos hc]
        have e1 : x.toNat + 1 < (ws.getD pre.length []).length := by omega
        have e2 : (((x.toNat + 1 : Nat) : Int)) = x + 1 := by omega
        have e3 : (x + 1).toNat + 1 = x.toNat + 1 + 1 := by omega
        have hz := fromL_zeros (ws := ws) t.length (pre ++ [x + 1]) (fun j h1 h2 => h j (by simp at h1; omega) (by simp at h2 ⊢; omega))
        simp only [fromL, List.length_replicate]
        rw [drop_range e1, List.flatMap_cons, e2, hz, e3]
        simp
      · rw [if_neg hc]
        have e1 : (ws.getD pre.length []).length ≤ x.toNat + 1 := by omega
        rw [List.drop_eq_nil_of_le (by simpa using e1)]
        simp

theorem getD_mid (pre t : List Int) (x : Int) : (pre ++ x :: t).getD pre.length 0 = x := by simp [List.getD]
theorem set_mid (pre t : List Int) (x y : Int) : (pre ++ x :: t).set pre.length y = pre ++ y :: t := by simp

/-- step goes on to the next one. -/
theorem stepM_tail {ws : List (List ItemL)} : ∀ (t pre : List Int), pre ≠ [] → stepM ws (pre.length + t.length - 1) (pre ++ t) = match nxtT ws pre.length t with | some t' => pre ++ t' | none => stepM ws (pre.length - 1) (pre ++ List.replicate t.length 0)
  | [], pre, _ => by simp [nxtT]
  | x :: t, pre, hp => by
    have hpos : pre.length ≠ 0 := fun h => hp (List.length_eq_zero_iff.1 h)
    have ih := stepM_tail (ws := ws) t (pre ++ [x]) (by simp)
    have hl : (pre ++ [x]).length = pre.length + 1 := by simp
    rw [hl] at ih
    have e1 : pre.length + (x :: t).length - 1 = pre.length + 1 + t.length - 1 := by simp only [List.length_cons]; omega
    have e2 : pre ++ x :: t = (pre ++ [x]) ++ t := by simp
    rw [e1, e2, ih]
    simp only [nxtT]
    cases hn : nxtT ws (pre.length + 1) t with
    | some t' => simp
    | none =>
      simp only
      have e3 : (pre ++ [x]) ++ List.replicate t.length 0 = pre ++ x :: List.replicate t.length 0 := by simp
      have e4 : pre.length + 1 - 1 = pre.length := by omega
      rw [e3, e4, stepM_pos ws hpos, getD_mid, set_mid, set_mid]
      by_cases hc : x + 1 < ((ws.getD pre.length []).length : Int)
      · rw [if_pos hc, if_pos hc]
      · rw [if_neg hc, if_neg hc]
        simp [List.replicate_succ]
theorem stepM_next {ws : List (List ItemL)} (x : Int) (t : List Int) : match nxtT ws 0 (x :: t) with | some r => stepM ws ((x :: t).length - 1) (x :: t) = r | none => ¬ x + 1 < ((ws.getD 0 []).length : Int) ∧ stepM ws ((x :: t).length - 1) (x :: t) = (x + 1) :: List.replicate t.length 0 := by
  have h := stepM_tail (ws := ws) t [x] (by simp)
  have e1 : [x].length + t.length - 1 = (x :: t).length - 1 := by simp only [List.length_cons, List.length_nil]; omega
  have e2 : [x] ++ t = x :: t := rfl
  have e3 : [x].length = 0 + 1 := rfl
  rw [e1, e2, e3] at h
  simp only [nxtT]
  cases hn : nxtT ws (0 + 1) t with
  | some t' =>
    rw [hn] at h
    simpa using h
  | none =>
    rw [hn] at h
    simp only at h ⊢
    have h2 : stepM ws (0 + 1 - 1) ([x] ++ List.replicate t.length 0) = (x + 1) :: List.replicate t.length 0 := by
      show stepM ws 0 (x :: List.replicate t.length 0) = _
      simp [stepM]
    rw [h2] at h
    by_cases hc : x + 1 < ((ws.getD 0 []).length : Int)
    · rw [if_pos hc]
      exact h
    · rw [if_neg hc]
      exact ⟨hc, h⟩

end Go.Proofs.Ytpfhegengmlkmac
/- Mathematics: step walks through all choices. -/
namespace Go.Proofs.Ytpfhegengmlkmac

theorem stepM_len (ws : List (List ItemL)) : ∀ (i : Nat) (ps : List Int), (stepM ws i ps).length = ps.length
  | 0, ps => by simp [stepM]
  | i + 1, ps => by
    simp only [stepM]
    split
    · simp
    · rw [stepM_len ws i]; simp

theorem allL_none {ws : List (List ItemL)} : ∀ (m : Nat) (pre : List Int), (∃ j, pre.length ≤ j ∧ j < pre.length + m ∧ (ws.getD j []).length = 0) → allL ws m pre = []
  | 0, pre, ⟨j, h1, h2, _⟩ => by omega
  | m + 1, pre, ⟨j, h1, h2, h3⟩ => by
    simp only [allL]
    by_cases e : j = pre.length
    · subst e
      rw [h3]
      rfl
    · refine List.flatMap_eq_nil_iff.2 fun i _ => allL_none m _ ⟨j, ?_, ?_, h3⟩
      · simp; omega
      · simp; omega

/-- Each place within its window, from window d on. -/
def InF (ws : List (List ItemL)) : Nat → List Int → Prop
  | _, [] => True
  | d, x :: t => 0 ≤ x ∧ x < ((ws.getD d []).length : Int) ∧ InF ws (d + 1) t

theorem inF_iff {ws : List (List ItemL)} : ∀ (t : List Int) (d : Nat), InF ws d t ↔ ∀ i, (h : i < t.length) → 0 ≤ t[i] ∧ t[i] < ((ws.getD (d + i) []).length : Int)
  | [], d => by simp [InF]
  | x :: t, d => by
    simp only [InF, inF_iff t (d + 1)]
    constructor
    · rintro ⟨h1, h2, h3⟩ i hi
      cases i with
      | zero => exact ⟨h1, h2⟩
      | succ i =>
        have := h3 i (by simpa using hi)
        rw [show d + 1 + i = d + (i + 1) by omega] at this
        simpa using this
    · intro h
      refine ⟨(h 0 (by simp)).1, (h 0 (by simp)).2, fun i hi => ?_⟩
      have := h (i + 1) (by simpa using hi)
      rw [show d + (i + 1) = d + 1 + i by omega] at this
      simpa using this

theorem inF_zeros {ws : List (List ItemL)} : ∀ (m d : Nat), (∀ j, d ≤ j → j < d + m → 0 < (ws.getD j []).length) → InF ws d (List.replicate m 0)
  | 0, d, _ => trivial
  | m + 1, d, h => by
    rw [List.replicate_succ]
    have := h d (Nat.le_refl _) (by omega)
    exact ⟨by omega, by omega, inF_zeros m (d + 1) fun j h1 h2 => h j (by omega) (by omega)⟩

theorem inF_next {ws : List (List ItemL)} : ∀ (t : List Int) (d : Nat) (r : List Int), InF ws d t → nxtT ws d t = some r → InF ws d r
  | [], d, r, _, h => by simp [nxtT] at h
  | x :: t, d, r, hi, h => by
    simp only [nxtT] at h
    obtain ⟨h1, h2, h3⟩ := hi
    cases hn : nxtT ws (d + 1) t with
    | some t' =>
      rw [hn] at h
      simp only [Option.some.injEq] at h
      subst h
      exact ⟨h1, h2, inF_next t (d + 1) t' h3 hn⟩
    | none =>
      rw [hn] at h
      simp only at h
      split at h
      · rename_i hc
        simp only [Option.some.injEq] at h
        subst h
        refine ⟨by omega, hc, inF_zeros _ _ fun j h4 h5 => ?_⟩
        have := (inF_iff t (d + 1)).1 h3 (j - (d + 1)) (by omega)
        rw [show d + 1 + (j - (d + 1)) = j by omega] at this
        omega
      · cases h

open Classical in
/-- What is still to come, from some places on. -/
noncomputable def restL (ws : List (List ItemL)) (cur : List Int) : List (List Int) := if InW ws cur then fromL ws [] cur else []

theorem rest_in {ws : List (List ItemL)} {cur : List Int} (h : InW ws cur) : restL ws cur = fromL ws [] cur := if_pos h
theorem rest_out {ws : List (List ItemL)} {cur : List Int} (h : ¬ InW ws cur) : restL ws cur = [] := if_neg h

theorem inW_F {ws : List (List ItemL)} {cur : List Int} (hl : cur.length = ws.length) : InW ws cur ↔ InF ws 0 cur := by
  rw [inF_iff]
  simp only [Nat.zero_add]
  exact ⟨fun h => h.2, fun h => ⟨by omega, h⟩⟩

theorem rest_zeros (ws : List (List ItemL)) : restL ws (List.replicate ws.length 0) = allL ws ws.length [] := by
  by_cases h : InW ws (List.replicate ws.length 0)
  · rw [rest_in h]
    refine fromL_zeros _ [] fun j h1 h2 => ?_
    have hj : j < ws.length := by simpa using h2
    have := h.2 j (by simpa using hj)
    simp only [List.getElem_replicate] at this
    omega
  · rw [rest_out h]
    refine (allL_none _ [] ?_).symm
    refine Classical.byContradiction fun hn => h ⟨by simp, fun i hi => ?_⟩
    have hi' : i < ws.length := by simpa using hi
    have : (ws.getD i []).length ≠ 0 := fun e => hn ⟨i, by simp, by simpa using hi', e⟩
    simp only [List.getElem_replicate]
    omega

theorem rest_step {ws : List (List ItemL)} {cur : List Int} (h : InW ws cur) (hl : cur.length = ws.length) (h0 : 0 < ws.length) : restL ws cur = cur :: restL ws (stepM ws (cur.length - 1) cur) := by
  have hF := (inW_F hl).1 h
  cases cur with
  | nil => simp at hl; omega
  | cons x t =>
    have hnx := fromL_next (ws := ws) (x :: t) [] (fun j h1 h2 => by
      have := (inF_iff (x :: t) 0).1 hF j (by simpa using h2)
      rw [Nat.zero_add] at this
      omega) (fun y hy => by
      obtain ⟨j, hj, rfl⟩ := List.mem_iff_getElem.1 hy
      exact ((inF_iff (x :: t) 0).1 hF j hj).1)
    rw [rest_in h, hnx]
    have hs := stepM_next (ws := ws) x t
    have e0 : ([] : List Int).length = 0 := rfl
    rw [e0]
    cases hn : nxtT ws 0 (x :: t) with
    | some r =>
      rw [hn] at hs
      simp only at hs ⊢
      have hr := inF_next (x :: t) 0 r hF hn
      have hrl := nxtT_len (x :: t) 0 r hn
      rw [hs, rest_in ((inW_F (hrl.trans hl)).2 hr)]
      rfl
    | none =>
      rw [hn] at hs
      simp only at hs ⊢
      rw [hs.2, rest_out]
      · rfl
      · intro hi
        have := (hi.2 0 (by simp)).2
        simp only [List.getElem_cons_zero] at this
        exact hs.1 this

end Go.Proofs.Ytpfhegengmlkmac
/- A range over a function whose rounds all go on: what a round is handed lies in memory that the function turns between rounds. -/
namespace Go.Proofs.Ytpfhegengmlkmac
open Go.RowKit

/-- Whatever lies from block B on lies as it lay. -/
structure Over (B : Nat) (W W' : World) : Prop where
  size : W.heap.size ≤ W'.heap.size
  block : ∀ k, B ≤ k → k < W.heap.size → W'.heap[k]? = W.heap[k]?
theorem Over.refl (B : Nat) (W : World) : Over B W W := ⟨Nat.le_refl _, fun _ _ _ => rfl⟩
theorem Over.trans {B : Nat} {X Y Z : World} (h : Over B X Y) (k : Over B Y Z) : Over B X Z := ⟨Nat.le_trans h.size k.size, fun i h1 h2 => (k.block i h1 (Nat.lt_of_lt_of_le h2 h.size)).trans (h.block i h1 h2)⟩
theorem Over.of_below {B : Nat} {W W' : World} (h : Below W.heap.size W W') : Over B W W' := ⟨h.size, fun k _ hk => h.block k hk⟩
theorem Over.setCell (B : Nat) (W : World) {p : Addr} (hp : p.block < B) (v : Value) : Over B W (W.setCell p v) := ⟨(KeepsWalks.setCell W p v).size, fun k h1 _ => Below.heap_setCell _ _ _ k (by omega)⟩
theorem Over.putObj (B : Nat) (W : World) {r : Nat} (hr : r < B) (o : Obj) : Over B W (W.putObj r o) := ⟨by simp, fun k h1 _ => World.putObj_heap_other (by omega)⟩
theorem below_putObj (B : Nat) (W : World) {r : Nat} (hr : B ≤ r) (o : Obj) : Below B W (W.putObj r o) := ⟨rfl, rfl, rfl, by simp, fun k hk => World.putObj_heap_other (by omega)⟩

variable {F : Fence} {n : Nat} {P : Program}

theorem wpIn_rangeFunc_mem {α : Type} {g : Operand} {ps : Array Tmp} {assign body : Code} {Q : Exit → Act → World → Prop} {a : Act} {w : World}
    (hro : F.round = none) (h1 : 1 ≤ n) {gf : Nat} {lb : Array Value} (hg : a.eval g = .func (.func gf) #[] lb) (hFg : F.fn gf) (eg : ∀ args w, (callFunc gf args).run P w = .ok (.enter gf args) w)
    {encs : α → Array Value} {M : α → World → Prop} {S : List α → Prop} {N : Nat} (hps : ∀ x, (encs x).size = ps.size)
    (I : List α → World → Prop) (hI : ∀ s A A', I s A → Below w.heap.size A A' → I s A') (hM : ∀ x A l o o', M x A → A.heap[l]? = some o → o.isCells = false → M x (A.putObj l o'))
    (hseq : ∀ (l : Nat) (J : List α → World → Prop) (W : World), W.heap.size = w.heap.size + 2 → (∀ s A, J s A → I s A) → (∀ s A A', J s A → Below (w.heap.size + 2) A A' → J s A') →
      (∀ pre x A, J pre A → M x A → pre.length < N → YieldAt F (n - 1 - 1) P l (encs x) A fun e A' => e = .returned (.bool true) ∧ J (pre ++ [x]) A' ∧ Over (w.heap.size + 2) A A') → J [] W →
      CallsIn F (n - 1) P gf (#[.func (.yield l) #[] #[]] ++ lb) W fun e W' => (∃ v, e = .returned v) ∧ ∃ xs, S xs ∧ J xs W')
    (h0 : I [] w) (a₁ : α → Act)
    (hassign : ∀ (l : Nat) (x : α) (W : World) (K : Act → World → Prop), K (a₁ x) W → assign.wpIn (F.inRound l) (n - 1 - 1) P (Exit.then K (fun _ _ _ => False)) { tmps := (ps.zip (encs x)).foldl (fun t (p, v) => t.setIfInBounds p v) a.tmps, defers := [] } W)
    (hbody : ∀ (l : Nat) (pre : List α) (x : α) (W : World), w.heap.size ≤ l → (∃ r, W.heap[l]? = some (.loop r)) → I pre W → M x W → pre.length < N → body.wpIn (F.inRound l) (n - 1 - 1) P (ownPostG w.heap.size (Over (w.heap.size + 2)) I (fun _ _ _ => False) (pre ++ [x]) W) (a₁ x) W)
    (hdone : ∀ (D : Nat) (xs : List α) (W : World), w.heap.size ≤ D → S xs → I xs W → W.heap[D]? = some (.deferred (some [])) → Q .normal { a with defers := { target := .collected D, args := #[] } :: a.defers } W) :
    (Code.rangeFunc g ps assign body).wpIn F n P Q a w := by
  refine wpIn_rangeFunc ?_
  intro fn hfn
  rw [hro]
  obtain ⟨rec, hrec⟩ : ∃ rec : LoopState → Option Code → Loop, rec = fun st pe => { state := st, pending := pe, fn, tmps := a.tmps, params := ps, assign, body, defers := w.heap.size } := ⟨_, rfl⟩
  obtain ⟨W1, hW1⟩ : ∃ W1, (w.alloc (.deferred (some []))).alloc (.loop (rec .ready none)) = W1 := ⟨_, rfl⟩
  have hL1 : W1.heap[w.heap.size + 1]? = some (.loop (rec .ready none)) := by
    rw [← hW1]; have := World.alloc_heap_new (w.alloc (.deferred (some []))) (.loop (rec .ready none)); rwa [World.size_alloc] at this
  have hK1 : W1.heap[w.heap.size]? = some (.deferred (some [])) := by
    rw [← hW1]; exact (Below.heap_alloc _ _ _ (by simp)).trans (World.alloc_heap_new w _)
  have hb1 : Below w.heap.size w W1 := by rw [← hW1]; exact ((Below.refl _ w).alloc (Nat.le_refl _) _).alloc (by simp) _
  have hsz : W1.heap.size = w.heap.size + 2 := by rw [← hW1]; simp
  have hI1 : I [] W1 := hI _ _ _ h0 hb1
  refine ⟨w.heap.size + 1, [{ target := .collected w.heap.size, args := #[] }], W1, { target := .fn (.func gf) lb, args := #[.func (.yield (w.heap.size + 1)) #[] #[]] }, W1, gf,
    #[.func (.yield (w.heap.size + 1)) #[] #[]] ++ lb, W1, ?_, ?_, ?_, ?_, fun _ => h1, ?_⟩
  · rw [← hW1, hrec]; exact run_enterLoop_outer _ _ _ _ _
  · simp only [resolve, hg]
    simp [go_sem]
  · intro f' hf'; simp [Target.leads] at hf'; subst hf'; exact hFg
  · simp [invoke, go_sem, eg]
  · refine (hseq (w.heap.size + 1)
      (fun pre W => I pre W ∧ W.heap[w.heap.size + 1]? = some (.loop (rec .ready none)) ∧ W.heap[w.heap.size]? = some (.deferred (some [])))
      W1 hsz (fun s A h => h.1) (fun s A A' h hb => ⟨hI s A A' h.1 (hb.mono (by omega)), (hb.block _ (by omega)).trans h.2.1, (hb.block _ (by omega)).trans h.2.2⟩) ?_ ⟨hI1, hL1, hK1⟩).mono ?_
    · rintro pre x W ⟨hi, hl, hk⟩ hm hlen
      have hlt : w.heap.size + 1 < W.heap.size := (Array.getElem?_eq_some_iff.1 hl).1
      have hy := run_yield (P := P) (args := encs x) hl (by rw [hrec]; exact hps x)
      rw [hrec] at hy
      refine ⟨fn, _, assign, body, hy, roundIn_of_wpIn hfn (hassign _ x W _ ⟨_, run_beginRound hl (by rw [hrec]), ?_⟩)⟩
      have hl2 : (W.putObj (w.heap.size + 1) (.loop { rec .ready none with state := .busy })).heap[w.heap.size + 1]? = some (.loop { rec .ready none with state := .busy }) := World.putObj_heap_same hlt
      have hk2 : (W.putObj (w.heap.size + 1) (.loop { rec .ready none with state := .busy })).heap[w.heap.size]? = some (.deferred (some [])) := (World.putObj_heap_other (by omega)).trans hk
      refine wpIn_mono (hbody _ pre x _ (by omega) ⟨_, hl2⟩ (hI _ _ _ hi (below_putObj _ _ (by omega) _)) (hM _ _ _ _ _ hm hl rfl) hlen) ?_
      rintro e a3 W3 hp
      cases e with
      | normal =>
        obtain ⟨hk3, hov, hi3⟩ := hp
        have hl3 := hk3.same _ _ (by omega) hl2 rfl
        have hr := run_endRound (P := P) none hl3
        refine ⟨_, _, hr, rfl, ⟨hI _ _ _ hi3 (below_putObj _ _ (by omega) _), ?_, (World.putObj_heap_other (by omega)).trans (hk3.same _ _ (Nat.le_refl _) hk2 rfl)⟩, ((Over.putObj _ _ (by omega) _).trans hov).trans (Over.putObj _ _ (by omega) _)⟩
        rw [World.putObj_heap_same (Array.getElem?_eq_some_iff.1 hl3).1]
        simp [hrec]
      | ret => exact hp.2.elim
      | exit id => exact hp.2.elim
      | goto t => exact hp.2.elim
      | panic ch => exact hp.elim
      | outgrown => exact hp.elim
    · rintro e W2 ⟨⟨v, rfl⟩, xs, hS, hi, hl, hk⟩
      exact ⟨none, _, by have := run_endLoop (P := P) hl (by rw [hrec]; simp); rw [hrec] at this; exact this, hdone _ xs _ (Nat.le_refl _) hS (hI _ _ _ hi (below_putObj _ _ (by omega) _)) ((World.putObj_heap_other (by omega)).trans hk)⟩

end Go.Proofs.Ytpfhegengmlkmac
/- Walk: all of choices, and the function that it gives. -/
namespace Go.Proofs.Ytpfhegengmlkmac
open Go.RowKit Go.Shelf Go.BigFrame
set_option maxRecDepth 100000
attribute [local go_sem] Oper.semAt_some

set_option maxHeartbeats 400000 in
theorem all_any (b : Nat) (w : World) :
    Calls Try.prog 62 #[.pointer (some ⟨b, 0, none⟩)] w fun e w' => e = .returned (.func (.func 87) #[] #[.pointer (some ⟨w.heap.size, 0, none⟩)]) ∧ w' = w.alloc (.cells #[.pointer (some ⟨b, 0, none⟩)] 116) := by
  go_enter Try.func62, Try.ntmps62
  go_wp2
  go_ret
  exact ⟨rfl, rfl⟩

theorem numB_over {B g : Nat} {w w' : World} {l : List Int} (h : NumB w g l) (hov : Over B w w') (hg : B ≤ g) : NumB w' g l := by
  have hlt := h.lt
  obtain ⟨m, f, h, hf⟩ := h
  exact ⟨m, f, h.of_block (hov.block g hg hlt), hf⟩
theorem numB_made (w : World) (n : Nat) : NumB (w.alloc (.cells (madeCells #[.int .i64 0] n) 3)) w.heap.size (List.replicate n 0) := by
  refine ⟨n, fun _ => .int .i64 0, ?_, by simp, fun j hj => by simp⟩
  have h := World.rowIs_alloc w (madeCells #[.int .i64 0] n) 3 (fun _ => .int .i64 0) (fun i hi => by
    rw [size_madeCells] at hi
    simp [madeCells, hi, Nat.mod_one])
  rwa [size_madeCells] at h

set_option maxHeartbeats 4000000 in
theorem all1_in (n l B : Nat) (W0 w0 : World) (b Bc : Nat) (ws : List (List ItemL)) (sh : List (List Spot)) (hcb : ChB W0 w0 b ws sh) (hw0 : w0.heap.size ≤ B) (hok : OkW ws)
    (J : List (List Int) → World → Prop) (W : World) (hW : W.heap.size = B)
    (hR : ∀ s A, J s A → A.cell? ⟨Bc, 0, none⟩ = some (.pointer (some ⟨b, 0, none⟩)) ∧ Below w0.heap.size w0 A)
    (hJ : ∀ s A A', J s A → Below B A A' → J s A')
    (hY : ∀ pre x A, J pre A → (NumB A B x ∧ x.length = ws.length ∧ InW ws x) → pre.length < 4096 → YieldAt Fence.wide (n - 1) Try.prog l #[.slice (some ⟨B, 0, none⟩) ws.length ws.length] A fun e A' => e = .returned (.bool true) ∧ J (pre ++ [x]) A' ∧ Over B A A')
    (h0 : J [] W) :
    CallsIn Fence.wide n Try.prog 87 #[.func (.yield l) #[] #[], .pointer (some ⟨Bc, 0, none⟩)] W fun e W' => (∃ v, e = .returned v) ∧ ∃ xs, xs = allL ws ws.length [] ∧ J xs W' := by
  have HOK : Hid (OkW ws) := hok
  have h6 := hok.2.1
  have h1l := hok.1
  clear hok
  refine callsIn_of_wp Try.func87 rfl trivial ?_ rfl
  simp only [Try.ntmps87, List.size_toArray, List.length_cons, List.length_nil, Nat.reduceAdd, Nat.reduceSub, Array.replicate_succ, Array.replicate_zero, List.push_toArray, List.append_toArray, List.nil_append, List.cons_append]
  obtain ⟨cB, hb0⟩ := hR _ _ h0
  have hcW := hcb.below hb0
  obtain ⟨hbb, va, vc, va', vc', e0, _, _, _, _, _⟩ := hcW
  obtain ⟨i0, hi, hy0, hy1, hy2⟩ := info_parts Try.infoZ
  have hmk : ∀ u : World, (Instr.makeSlice 30 (.int .i64 (ws.length : Int)) (.int .i64 (ws.length : Int))).run Try.prog u = .ok (.slice (some ⟨u.heap.size, 0, none⟩) ws.length ws.length) (u.alloc (.cells (madeCells #[.int .i64 0] ws.length) 3)) := fun u => by
    have h := run_make (P := Try.prog) u 30 3 i0 (.int .i64 0) Try.underlying30 hi hy0 .i64 .i64 (ws.length : Int) (ws.length : Int) (by omega) (Int.le_refl _) (by rw [hy2]; omega) (by omega)
    simpa [hy1, Value.cells] using h
  have hnb := numB_made W ws.length
  have hb1 : Below W.heap.size W (W.alloc (.cells (madeCells #[.int .i64 0] ws.length) 3)) := (Below.refl _ _).alloc (Nat.le_refl _) _
  have hJ1 := hJ _ _ _ h0 (by rw [← hW]; exact hb1)
  rw [hW] at hnb
  have HW : Hid (W.heap.size = B) := hW
  clear hb1 h0
  gi_wp2_with fail
  clear cB hb0 hbb e0
  generalize W.alloc (.cells (madeCells #[.int .i64 0] ws.length) 3) = W1 at *
  clear hmk
  have hlen : (allL ws ws.length []).length ≤ 4096 := Nat.le_trans (allL_len (fun k hk => (HOK.out.2.2 k hk).1) _ _) (Nat.le_trans (Nat.pow_le_pow_right (by omega) h6) (by decide))
  gi_loopg [12] 4096 (fun gk u wr => ∃ (pre : List (List Int)) (cur : List Int), gk + pre.length = 4096 ∧ cur.length = ws.length ∧ Hid (allL ws ws.length [] = pre ++ restL ws cur) ∧ NumB wr B cur ∧ J pre wr)
  case atStart => exact ⟨[], List.replicate ws.length 0, rfl, by simp, by unfold Hid; rw [rest_zeros]; rfl, hnb, hJ1⟩
  case round =>
    obtain ⟨pre, cur, hgk, hcl, HP, hnum, hJp⟩ := hrel
    obtain ⟨cB, hb0⟩ := hR _ _ hJp
    have hcw := hcb.below hb0
    have hcl' := hnum.row
    have HHAS := has_any W0 wr b ws sh (some ⟨B, 0, none⟩) ws.length cur hcw h6 (by unfold maxLen; omega) hcl'
    rw [hcl] at HHAS
    clear hcl'
    gi_wp2_with fail
    refine ⟨trivial, fun h => (by cases h), (callsIn_wide.2 HHAS).mono ?_⟩
    rintro e w2 ⟨⟨r, rfl, hr2⟩, b2⟩
    have HR : Hid (r = true ↔ InW ws cur) := hr2.trans ⟨fun h => h.2, fun h => ⟨by trivial, h⟩⟩
    have hBw := hnum.lt
    clear hr2 HHAS
    have hJ2 := hJ _ _ _ hJp (b2.mono (by omega))
    have hn2 := hnum.below b2
    cases r with
    | false =>
      have HD : Hid (pre = allL ws ws.length []) := by
        have hno : ¬ InW ws cur := fun h => by have := HR.out.2 h; simp at this
        have := HP.out
        rw [rest_out hno, List.append_nil] at this
        exact this.symm
      gi_wp2
      refine ⟨fun f h => (by cases h), ?_⟩
      gi_wp2
      go_end0
      exact ⟨⟨_, rfl⟩, pre, HD.out, hJ2⟩
    | true =>
      have HIN : Hid (InW ws cur) := HR.out.1 rfl
      clear HR
      have HP2 : Hid (allL ws ws.length [] = (pre ++ [cur]) ++ restL ws (stepM ws (cur.length - 1) cur)) := by
        have := HP.out
        rw [rest_step HIN.out hcl (by omega)] at this
        unfold Hid
        rw [this]
        simp
      have hpl : pre.length < 4096 := by
        have h1 := congrArg List.length HP2.out
        simp only [List.length_append, List.length_cons, List.length_nil] at h1
        omega
      obtain ⟨fn, tmps, assign, body, hy, hRd⟩ := hY pre cur w2 hJ2 ⟨hn2, hcl, HIN.out⟩ hpl
      gi_wp2_with fail
      refine ⟨fun h => (by cases h), hRd.mono ?_⟩
      rintro e w3 ⟨rfl, hJ3, hov⟩
      have hn3 := numB_over hn2 hov (Nat.le_refl _)
      obtain ⟨cB3, hb3⟩ := hR _ _ hJ3
      have HST := step_any W0 w0 w3 b B ws.length ws sh cur hcb hw0 hb3 h6 (fun k hk => (HOK.out.2.2 k hk).1) hcl (by omega) HIN.out hn3
      rw [hcl] at HST
      clear hy hRd hY
      gi_wp2_with fail
      refine ⟨trivial, fun h => (by cases h), (callsIn_wide.2 HST).mono ?_⟩
      rintro e w4 ⟨⟨v, rfl⟩, hn4, hbut⟩
      have hJ4 := hJ _ _ _ hJ3 (hbut.below (Nat.le_refl _) (by have := hn3.lt; omega))
      rw [hcl] at HP2
      gi_wp2_with fail
      gi_roundg (gk - 1)
      case measure => omega
      case rel => exact ⟨pre ++ [cur], stepM ws (ws.length - 1) cur, by simp only [List.length_append, List.length_cons, List.length_nil]; omega, by rw [stepM_len]; exact hcl, HP2, hn4, hJ4⟩

end Go.Proofs.Ytpfhegengmlkmac
/- Walks: agrees, least of choices. -/
namespace Go.Proofs.Ytpfhegengmlkmac
open Go.RowKit Go.BigFrame
set_option maxRecDepth 100000

/-- The lists of spots are such as sources have, each of two at least. -/
def ShW (ws : List (List ItemL)) (sh : List (List Spot)) : Prop := SharedP ws sh ∧ (∀ src ∈ sh, 1 < src.length ∧ src.length ≤ 1000) ∧ sh.length ≤ 1000

/-- The first spots of a source have what its first spot has. -/
def SameTo (ws : List (List ItemL)) (ps : List Int) (src : List Spot) (n : Nat) : Prop := ∀ i, (h : i < src.length) → i < n → ∀ h0 : 0 < src.length, verM ws ps src[i] = verM ws ps src[0]
theorem sameTo_step {ws : List (List ItemL)} {ps : List Int} {src : List Spot} {n : Nat} (H : SameTo ws ps src n) (hn : n < src.length) (h0 : 0 < src.length) (h : verM ws ps src[n] = verM ws ps src[0]) : SameTo ws ps src (n + 1) := fun i hi hlt _ => by
  by_cases e : i = n
  · subst e; exact h
  · exact H i hi (by omega) h0
theorem agW_same {ws : List (List ItemL)} {ps : List Int} {sh : List (List Spot)} (hok : OkW ws) (hl : ps.length = ws.length) (hin : InW ws ps) (hsh : SharedP ws sh) (H : ∀ j, (h : j < sh.length) → SameTo ws ps sh[j] sh[j].length) : AgW ws ps := by
  rw [agW_iff hok hl hin hsh]
  intro src hs p hp q hq
  obtain ⟨j, hj, rfl⟩ := List.mem_iff_getElem.1 hs
  obtain ⟨x, hx, rfl⟩ := List.mem_iff_getElem.1 hp
  obtain ⟨y, hy, rfl⟩ := List.mem_iff_getElem.1 hq
  rw [H j hj x hx hx (by omega), H j hj y hy hy (by omega)]
theorem agW_not {ws : List (List ItemL)} {ps : List Int} {sh : List (List Spot)} (hok : OkW ws) (hl : ps.length = ws.length) (hin : InW ws ps) (hsh : SharedP ws sh) {j i : Nat} (hj : j < sh.length) (hi : i < sh[j].length) (h0 : 0 < sh[j].length) (h : verM ws ps sh[j][i] ≠ verM ws ps sh[j][0]) : ¬ AgW ws ps := fun hA =>
  h ((agW_iff hok hl hin hsh).1 hA sh[j] (List.getElem_mem hj) _ (List.getElem_mem hi) _ (List.getElem_mem h0))

/-- What version answers at a spot of the shared ones, at any world behind. -/
theorem version_lat {W0 W : World} {b : Nat} {ws : List (List ItemL)} {sh : List (List Spot)} {a' : Option Addr} {cap' : Nat} {ps : List Int} (h : ChB W0 W b ws sh) (hW : Below W0.heap.size W0 W) (hok : OkW ws) (hl : ps.length = ws.length) (hin : InW ws ps) (hr' : RowZ W a' ps) (hsh : SharedP ws sh) {src : List Spot} (hs : src ∈ sh) {p : Spot} (hp : p ∈ src) (n : Lat W) :
    Calls Try.prog 86 #[.pointer (some ⟨b, 0, none⟩), .slice a' ps.length cap', .agg #[.int .i64 (p.1 : Int), .int .i64 (p.2 : Int)]] n.w fun e w' => e = .returned (.int .i64 (verM ws ps p)) ∧ Below n.w.heap.size n.w w' := by
  obtain ⟨s, hall⟩ := hsh.1 src hs
  exact version_any W0 n.w b ws sh a' cap' ps p s (h.below n.h) (hW.trans (n.h.mono hW.size)) hok hl hin (hr'.below n.h) (hall p hp)

set_option maxHeartbeats 1200000 in
theorem agrees_any (W0 w : World) (b : Nat) (ws : List (List ItemL)) (sh : List (List Spot)) (a' : Option Addr) (cap' : Nat) (ps : List Int) (h : ChB W0 w b ws sh) (hW : Below W0.heap.size W0 w) (hok : OkW ws) (hl : ps.length = ws.length) (hin : InW ws ps) (hr' : RowZ w a' ps) (hsh : ShW ws sh) :
    Calls Try.prog 60 #[.pointer (some ⟨b, 0, none⟩), .slice a' ps.length cap'] w fun e w' => IsB (AgW ws ps) e ∧ Below w.heap.size w w' := by
  have HIN : Hid (InW ws ps) := hin
  have HOK : Hid (OkW ws) := hok
  have HSH : Hid (ShW ws sh) := hsh
  have HC : Hid (ChB W0 w b ws sh) := h
  have HL : Hid (ps.length = ws.length) := hl
  have HZ : Hid (RowZ w a' ps) := hr'
  have hshl := hsh.2.2
  obtain ⟨hb, a, c, a2, c2, e0, hc, e1, hc2, hv, hg⟩ := h
  clear hin hok hsh hv hc hl hr'
  go_enter Try.func60, Try.ntmps60
  go_wp2_with fail
  go_loopw [14] (fun i wr => ∃ k : Nat, k ≤ sh.length ∧ i = .int .i64 k ∧ Hid (∀ j, (h : j < sh.length) → j < k → SameTo ws ps sh[j] sh[j].length) ∧ Below w.heap.size w wr) (fun i _ => sh.length - (intOf i).toNat)
  case atStart => exact ⟨0, Nat.zero_le _, rfl, fun _ _ h => absurd h (Nat.not_lt_zero _), Below.refl _ _⟩
  case round =>
    obtain ⟨k, hk, rfl, HI, hbl⟩ := hrel
    by_cases hlt : k < sh.length
    · obtain ⟨b1, o1, rfl, hb1, s1, t1, f1, ht1, hp⟩ := hg.below hbl k hlt
      have k0 : (0 : Int) ≤ (k : Int) := by omega
      have k1 : (k : Int) < (sh.length : Int) := by omega
      have hsrc := HSH.out.2.1 sh[k] (List.getElem_mem hlt)
      have hs1 := hsrc.1
      have hs2 := hsrc.2
      have hmem : sh[k] ∈ sh := List.getElem_mem hlt
      clear hsrc
      go_wp2_with fail
      go_loopw [20] (fun i2 wr2 => ∃ j : Nat, j ≤ sh[k].length ∧ i2 = .int .i64 j ∧ Hid (SameTo ws ps sh[k] j) ∧ Below wr.heap.size wr wr2) (fun i2 _ => sh[k].length - (intOf i2).toNat)
      case atStart => exact ⟨0, Nat.zero_le _, rfl, fun _ _ h => absurd h (Nat.not_lt_zero _), Below.refl _ _⟩
      case round =>
        obtain ⟨j, hj, rfl, HJ, hbl2⟩ := hrel
        have B2 : Below w.heap.size w wr := hbl.trans (hbl2.mono hbl.size)
        by_cases hjlt : j < sh[k].length
        · obtain ⟨b2, o2, rfl, hb2, f2, f3⟩ := hp.below hbl2 j hjlt
          obtain ⟨b3, o3, e3, _, f4, f5⟩ := hp.below hbl2 0 (by omega)
          cases e3
          have j0 : (0 : Int) ≤ (j : Int) := by omega
          have j1 : (j : Int) < (sh[k].length : Int) := by omega
          have j2 : (0 : Int) < (sh[k].length : Int) := by omega
          go_wp2_with fail
          simp only [Nat.zero_mul, Nat.add_zero] at f4 f5
          have hb0 : Below wr.heap.size wr (wr.alloc (.cells #[.int .i64 (sh[k][j].1 : Int), .int .i64 (sh[k][j].2 : Int)] 119)) := (Below.refl _ _).alloc (Nat.le_refl _) _
          have hlt0 := box_lt wr (.cells #[.int .i64 (sh[k][j].1 : Int), .int .i64 (sh[k][j].2 : Int)] 119)
          have d0 := box0 wr (.int .i64 (sh[k][j].1 : Int)) (.int .i64 (sh[k][j].2 : Int)) 119
          have d1 := box1 wr (.int .i64 (sh[k][j].1 : Int)) (.int .i64 (sh[k][j].2 : Int)) 119
          generalize wr.alloc (.cells #[.int .i64 (sh[k][j].1 : Int), .int .i64 (sh[k][j].2 : Int)] 119) = W at *
          have B3 : Below w.heap.size w W := B2.trans (hb0.mono B2.size)
          have hne := Lat.some W
          have n0 : ∀ n : Lat W, n.w.cell? ⟨wr.heap.size, 0, none⟩ = some (.int .i64 (sh[k][j].1 : Int)) := fun n => n.cell hlt0 d0
          have n1 : ∀ n : Lat W, n.w.cell? ⟨wr.heap.size, 1, none⟩ = some (.int .i64 (sh[k][j].2 : Int)) := fun n => n.cell hlt0 d1
          have n2 : ∀ n : Lat W, n.w.cell? ⟨b2, o2, none⟩ = some (.int .i64 (sh[k][0].1 : Int)) := fun n => n.cell (Nat.lt_of_lt_of_le hb2 hb0.size) (cell_on hb0 hb2 f4)
          have n3 : ∀ n : Lat W, n.w.cell? ⟨b2, o2 + 1, none⟩ = some (.int .i64 (sh[k][0].2 : Int)) := fun n => n.cell (Nat.lt_of_lt_of_le hb2 hb0.size) (cell_on hb0 hb2 f5)
          have c1 : ∀ n : Lat W, Calls Try.prog 86 #[.pointer (some ⟨b, 0, none⟩), .slice a' ps.length cap', .agg #[.int .i64 (sh[k][j].1 : Int), .int .i64 (sh[k][j].2 : Int)]] n.w fun e w' => e = .returned (.int .i64 (verM ws ps sh[k][j])) ∧ Below n.w.heap.size n.w w' :=
            fun n => version_lat (HC.out.below B3) (hW.trans (B3.mono hW.size)) HOK.out HL.out HIN.out (HZ.out.below B3) HSH.out.1 hmem (List.getElem_mem hjlt) n
          have c3 : ∀ n : Lat W, Calls Try.prog 86 #[.pointer (some ⟨b, 0, none⟩), .slice a' ps.length cap', .agg #[.int .i64 (sh[k][0].1 : Int), .int .i64 (sh[k][0].2 : Int)]] n.w fun e w' => e = .returned (.int .i64 (verM ws ps sh[k][0])) ∧ Below n.w.heap.size n.w w' :=
            fun n => version_lat (HC.out.below B3) (hW.trans (B3.mono hW.size)) HOK.out HL.out HIN.out (HZ.out.below B3) HSH.out.1 hmem (List.getElem_mem (by omega)) n
          clear f2 f3 f4 f5 d0 d1
          have HE : Hid (verM ws ps sh[k][j] = verM ws ps sh[k][0] → SameTo ws ps sh[k] (j + 1)) := fun he => sameTo_step HJ.out hjlt (by omega) he
          have HNE : Hid (¬ verM ws ps sh[k][j] = verM ws ps sh[k][0] → ¬ AgW ws ps) := fun he => agW_not HOK.out HL.out HIN.out HSH.out.1 hlt hjlt (by omega) he
          clear HIN HOK HSH HC HL HZ HJ hp f1 hmem hg
          generalize verM ws ps sh[k][j] = va at *
          generalize verM ws ps sh[k][0] = vb at *
          generalize (sh[k][j].1 : Int) = pa at *
          generalize (sh[k][j].2 : Int) = pb at *
          generalize (sh[k][0].1 : Int) = qa at *
          generalize (sh[k][0].2 : Int) = qb at *
          by_cases he : va = vb
          · have HST : Hid (SameTo ws ps sh[k] (j + 1)) := HE.out he
            clear HE HNE
            have he' : (va != vb) = false := by rw [bne_eq_false_iff_eq]; exact he
            refine wp_region_lat (by kernel_rfl) (by kernel_rfl) ?_
            iterate 4 (go_big_quiet_step ((go_at_call 86; exact Calls.lat_of (c1 _))))
            iterate 7 (go_big_quiet_step ((go_at_call 86; exact Calls.lat_of (c3 _))))
            refine wpQuiet_nil ?_
            rintro _ ⟨nq, rfl⟩
            go_wp2_with fail
            exact ⟨⟨j + 1, by omega, by go_num, HST, (hbl2.trans (hb0.mono hbl2.size)).trans (nq.h.mono (Nat.le_trans hbl2.size hb0.size))⟩, by simp [intOf]; omega⟩
          · have HN : Hid (¬ AgW ws ps) := HNE.out he
            clear HE HNE
            have he' : (va != vb) = true := by rw [bne_iff_ne]; exact he
            refine wp_region_lat (by kernel_rfl) (by kernel_rfl) ?_
            iterate 4 (go_big_quiet_step ((go_at_call 86; exact Calls.lat_of (c1 _))))
            iterate 7 (go_big_quiet_step ((go_at_call 86; exact Calls.lat_of (c3 _))))
            refine wpQuiet_nil ?_
            rintro _ ⟨nq, rfl⟩
            go_wp2_with fail
            go_ret
            exact ⟨isB_false HN.out, B3.trans (nq.h.mono B3.size)⟩
        · have HST : Hid (∀ q, (h : q < sh.length) → q < k + 1 → SameTo ws ps sh[q] sh[q].length) := fun q hq hlt' => by
            by_cases e : q = k
            · subst e
              exact fun i hi _ h0 => HJ.out i hi (by omega) h0
            · exact HI.out q hq (by omega)
          go_wp2_with fail
          exact ⟨⟨k + 1, by omega, by go_num, HST, B2⟩, by simp [intOf]; omega⟩
    · have HF : Hid (AgW ws ps) := agW_same HOK.out HL.out HIN.out HSH.out.1 (fun j hj => HI.out j hj (by omega))
      go_wp2_with fail
      go_ret
      exact ⟨isB_true HF.out, hbl⟩

end Go.Proofs.Ytpfhegengmlkmac
/- One spot more in the map of spots: the operations of a drawn region. -/
namespace Go.Proofs.Ytpfhegengmlkmac
open Go.RowKit Go.BigFrame

theorem GrpS.keep {w w' : World} {B b n : Nat} {D : DataW Value} {V : ByteArray → Value} {S : ByteArray → List Spot} (h : GrpS w B b n D V S) (hb : Below w.heap.size w w') : GrpS w' B b n D V S :=
  ⟨h.own.kept (grown_below hb none) (by simp), h.lt, h.eq, h.has, fun s => own_keep (h.row s) hb, h.far⟩

theorem Try.infoP : (Try.prog.info? 119).map (fun i => (i.zero, i.size, i.bytes)) = some (some (.agg #[.int .i64 0, .int .i64 0]), 2, 16) := by kernel_rfl

theorem wp_append_spot {o : Oper} {a : Act} {w : World} {K : Act → World → Prop} {Q : Exit → Act → World → Prop} (s x : Operand)
    (ho : o.op = .call { callee := .builtin .append, args := #[s, x], argTypes := #[117, 117] }) (base : Nat) (v : Value) (l : List Spot) (hs : a.eval s = v) (hg : GathP w base v l) (hbase : base ≤ w.heap.size)
    (ad : Nat) (p : Spot) (hx : a.eval x = .slice (some ⟨ad, 0, none⟩) 1 1) (c0 : w.cell? ⟨ad, 0, none⟩ = some (.int .i64 (p.1 : Int))) (c1 : w.cell? ⟨ad, 1, none⟩ = some (.int .i64 (p.2 : Int))) (hl : l.length ≤ 1048576)
    (h : ∀ v' w', w'.ownsRow base 119 2 v' (l.length + 1) (scells l ++ [.int .i64 (p.1 : Int), .int .i64 (p.2 : Int)]) → w.grownBy w' v.ownBlock → (v'.ownBlock = v.ownBlock ∨ v'.ownBlock = some w.heap.size) → K (a.put o.dst v') w') : o.wp Try.prog a w K Q := by
  obtain ⟨i0, hi, hz0, hz1, hz2⟩ := info_parts Try.infoP
  obtain ⟨v', w', hr, h2, h3, _, h5⟩ := run_append_own_at (P := Try.prog) w base 117 o.type 119 i0 (.agg #[.int .i64 0, .int .i64 0]) 2 16 Try.underlying117 hi hz0 hz1 hz2 rfl (by decide) v l.length (scells l) hg ⟨ad, 0, none⟩ 1 1 [.int .i64 (p.1 : Int), .int .i64 (p.2 : Int)] rfl (by
      intro j u hj
      match j, hj with
      | 0, hj => simp at hj; subst hj; exact c0
      | 1, hj => simp at hj; subst hj; exact c1) (by simp [Value.oneCell']) (by unfold maxLen; omega) (by omega) hbase
  unfold Oper.wp execOp
  simp only [ho, resolve, invoke, builtin, Sem.run_bind, Sem.run_pure, Result.andThen_ok, List.map_toArray, List.map_cons, List.map_nil, hs, hx, hr]
  exact h _ w' h2 h3 h5

theorem Try.keyed : Maps.Keyed Try.prog 9 := Maps.string_keyed Try.underlying9

theorem key_text (s : ByteArray) (hs : s.size ≤ maxLen) : keyOf Try.prog 9 (.string s) = some (litS s) := by
  rw [keyOf_string Try.underlying9]
  simp [mapKey, Try.underlying9, litS, hs]

theorem Try.zeroSp (w : World) : (zeroValue 117).run Try.prog w = .ok (.slice none 0 0) w := by kernel_rfl

theorem wp_update_spot {o : Oper} {a : Act} {w : World} {K : Act → World → Prop} {Q : Exit → Act → World → Prop} (m x y : Operand) (hop : o.op = Op.mapUpdate 141 m x y) (b n : Nat) (D : DataW Value) (hm : a.eval m = .map (some b)) (hown : w.ownsMap Try.prog 9 heldE b n D) (hn : n < maxLen) (s : ByteArray) (hs : s.size ≤ maxLen) (v : Value) (hx : a.eval x = .string s) (hy : a.eval y = v)
    (h : ∀ w', w'.ownsMap Try.prog 9 heldE b (n + 1) (D.put (litS s) (.held v)) → w.grownBy w' (some b) → K (a.put o.dst undef) w') : o.wp Try.prog a w K Q := by
  obtain ⟨w', hrun, r1, r2⟩ := hown.update Try.keyed Try.underlying141 hn (key := .string s) (val := v) (kl := litS s) (d := .held v) (ps := []) (key_text s hs) rfl
  unfold Oper.wp
  simp [execOp, hop, hm, hx, hy, hrun, Result.andThen]
  exact h w' r1 r2

theorem lookup_spot {w : World} {b n : Nat} {D : DataW Value} {V : ByteArray → Value} {S : ByteArray → List Spot} {B : Nat} (h : GrpS w B b n D V S) (s : ByteArray) (hs : s.size ≤ maxLen) : (Instr.lookup 141 (.map (some b)) (.string s) false).run Try.prog w = .ok (V s) w := by
  obtain ⟨v, ps, hrun, hv⟩ := h.own.lookup Try.keyed Try.underlying141 (Try.zeroSp w) (zd := .held (.slice none 0 0)) (zp := []) rfl (key_text s hs)
  unfold heldE at hv
  simp only [Option.some.injEq, Prod.mk.injEq] at hv
  rw [h.eq s] at hv
  obtain rfl : v = V s := by simpa using hv.1
  exact hrun

/-- All spots ahead of place (k, j) are in S; and S has no others than spots. -/
def SpotsTo (ws : List (List ItemL)) (k j : Nat) (S : ByteArray → List Spot) : Prop := (∀ s p, p ∈ S s → SpotOf ws s p) ∧ ∀ s p, SpotOf ws s p → (p.1 < k ∨ (p.1 = k ∧ p.2 < j)) → p ∈ S s
theorem spotsTo_start (ws : List (List ItemL)) : SpotsTo ws 0 0 (fun _ => []) := ⟨fun s p h => by simp at h, fun s p _ h => by omega⟩
theorem SpotsTo.empty {ws : List (List ItemL)} {k : Nat} {S : ByteArray → List Spot} (h : SpotsTo ws k 0 S) (hk : k < ws.length) (h0 : ws[k].length = 0) : SpotsTo ws (k + 1) 0 S := ⟨h.1, fun s p hp hlt => by
  rcases Nat.lt_or_ge p.1 k with hl | hl
  · exact h.2 s p hp (.inl hl)
  · obtain ⟨_, h3, _⟩ := hp
    have e : p.1 = k := by omega
    exfalso
    simp only [e] at h3
    omega⟩
theorem SpotsTo.whole {ws : List (List ItemL)} {k : Nat} {S : ByteArray → List Spot} (hk : k < ws.length) (h0 : 0 < ws[k].length) (h : SpotsTo ws k (ws[k][ws[k].length - 1]).2.length S) : SpotsTo ws (k + 1) 0 S := ⟨h.1, fun s p hp hlt => by
  rcases Nat.lt_or_ge p.1 k with hl | hl
  · exact h.2 s p hp (.inl hl)
  · have e : p.1 = k := by omega
    have hp2 := hp
    obtain ⟨_, _, h4, _⟩ := hp2
    refine h.2 s p hp (.inr ⟨e, ?_⟩)
    simp only [e] at h4
    exact h4⟩
open Classical in
theorem SpotsTo.step {ws : List (List ItemL)} {k j : Nat} {S : ByteArray → List Spot} (h : SpotsTo ws k j S) (hk : k < ws.length) (h0 : 0 < ws[k].length) (hj : j < (ws[k][ws[k].length - 1]).2.length) {s : ByteArray} (hs : ((ws[k][ws[k].length - 1]).2[j]).1 = s) : SpotsTo ws k (j + 1) (fun t => if t = s then S s ++ [(k, j)] else S t) := by
  have hnew : SpotOf ws s (k, j) := ⟨hk, h0, hj, hs⟩
  refine ⟨fun t p hp => ?_, fun t p hp hlt => ?_⟩
  · by_cases e : t = s
    · subst e
      simp only [↓reduceIte] at hp
      rcases List.mem_append.1 hp with hp | hp
      · exact h.1 _ p hp
      · obtain rfl : p = (k, j) := by simpa using hp
        exact hnew
    · simp only [if_neg e] at hp
      exact h.1 t p hp
  · by_cases hq : p.1 < k ∨ (p.1 = k ∧ p.2 < j)
    · have hm := h.2 t p hp hq
      by_cases e : t = s
      · subst e
        simp only [↓reduceIte]
        exact List.mem_append_left _ hm
      · simp only [if_neg e]
        exact hm
    · have e1 : p = (k, j) := Prod.ext (by show p.1 = k; omega) (by show p.2 = j; omega)
      subst e1
      obtain ⟨_, _, _, hs'⟩ := hp
      simp only at hs'
      have e : t = s := by rw [← hs', hs]
      simp only [if_pos e]
      exact List.mem_append_right _ (by simp)

end Go.Proofs.Ytpfhegengmlkmac
/- A slice of texts that the call itself gathers by append. -/
namespace Go.Proofs.Ytpfhegengmlkmac
open Go.RowKit Go.BigFrame

/-- The slice value 'v' holds the texts 'l', in a block of the call's own, from number 'B' on; or it is nil, and there are none. -/
def GathS (w : World) (B : Nat) (v : Value) (l : List ByteArray) : Prop := w.ownsRow B 9 1 v l.length (l.map .string)

theorem gathS_none (w : World) (B : Nat) : GathS w B (.slice none 0 0) [] := World.ownsRow_nil _ _ _ _
theorem GathS.shape {w : World} {B : Nat} {v : Value} {l : List ByteArray} (h : GathS w B v l) : ∃ a cap, v = .slice a l.length cap ∧ RowS w a l := by
  rcases id h with ⟨hl, h1 | ⟨g, cap, cur, hv, hg, hh, r⟩⟩
  · refine ⟨_, _, by rw [h1.2]; exact h1.1, fun k hk => absurd hk (by omega)⟩
  · refine ⟨_, _, hv, fun k hk => ⟨g, 0, rfl, (Array.getElem?_eq_some_iff.1 hh).1, ?_⟩⟩
    subst hv
    have e := World.ownsRow.cellAt h k (by omega)
    rw [Nat.zero_add, e]
    simp [hk]
theorem GathS.keep {w w' : World} {B : Nat} {v : Value} {l : List ByteArray} (h : GathS w B v l) (hb : Below w.heap.size w w') : GathS w' B v l := by
  obtain ⟨hl, h | ⟨g, cap, cur, hv, hg, hh, r⟩⟩ := h
  · exact ⟨hl, .inl h⟩
  · exact ⟨hl, .inr ⟨g, cap, cur, hv, hg, (hb.block g (Array.getElem?_eq_some_iff.1 hh).1).trans hh, r⟩⟩
theorem GathS.but {w w' : World} {R B : Nat} {v : Value} {l : List ByteArray} (h : GathS w B v l) (hb : But R w w') (hR : R < B) : GathS w' B v l := by
  obtain ⟨hl, h | ⟨g, cap, cur, hv, hgB, hh, r⟩⟩ := h
  · exact ⟨hl, .inl h⟩
  · exact ⟨hl, .inr ⟨g, cap, cur, hv, hgB, (hb.block g (Array.getElem?_eq_some_iff.1 hh).1 (by omega)).trans hh, r⟩⟩
theorem GathS.lower {w : World} {B B' : Nat} {v : Value} {l : List ByteArray} (h : GathS w B v l) (hB : B' ≤ B) : GathS w B' v l := by
  obtain ⟨hl, h | ⟨g, cap, cur, hv, hg, r⟩⟩ := h
  · exact ⟨hl, .inl h⟩
  · exact ⟨hl, .inr ⟨g, cap, cur, hv, Nat.le_trans hB hg, r⟩⟩
theorem GathS.snoc {w : World} {B : Nat} {v : Value} {l : List ByteArray} {s : ByteArray} (h : w.ownsRow B 9 1 v (l.length + 1) (l.map .string ++ [.string s])) : GathS w B v (l ++ [s]) := by
  unfold GathS
  rw [List.length_append, List.map_append]
  exact h
theorem ownsRow_block {w : World} {B s n : Nat} {t : TypeId} {v : Value} {xs : List Value} (h : w.ownsRow B t s v n xs) : ∀ k, v.ownBlock = some k → B ≤ k := fun k e => by
  obtain ⟨_, h | ⟨g, cap, cur, rfl, hle, _⟩⟩ := h
  · rw [h.1] at e; cases e
  · simp [Value.ownBlock] at e; omega
theorem one_new (w : World) (x : Value) (t : TypeId) : ∀ j u, [x][j]? = some u → (w.alloc (.cells #[x] t)).cell? ((⟨w.heap.size, 0, none⟩ : Addr).add j) = some u := by
  intro j u hj
  match j, hj with
  | 0, hj => simp at hj; subst hj; simp [Addr.add, go_sem]
theorem Try.infoS : (Try.prog.info? 9).map (fun i => (i.zero, i.size, i.bytes)) = some (some (.string .empty), 1, 16) := by kernel_rfl

end Go.Proofs.Ytpfhegengmlkmac
/- The sources that two windows or more have: gathered off the map of spots. -/
namespace Go.Proofs.Ytpfhegengmlkmac
open Go.RowKit Go.BigFrame

/-- The texts of some lists of bytes. -/
def textsL (ss : List (List UInt8)) : List ByteArray := ss.map fun l => ⟨l.toArray⟩
theorem textsL_cells (ss : List (List UInt8)) : ss.map encStr = (textsL ss).map .string := by simp [textsL, Function.comp_def]

theorem GrpS.listed {w : World} {B b n : Nat} {D : DataW Value} {V : ByteArray → Value} {S : ByteArray → List Spot} (h : GrpS w B b n D V S) {ss : List (List UInt8)} (hp : ss.Perm (strKeys D)) {s : ByteArray} (hs : S s ≠ []) : s ∈ textsL (ss.mergeSort (fun x y => decide (x ≤ y))) := by
  have h1 := (h.has s).2 hs
  obtain ⟨es, rfl, _⟩ := World.ownsMap.keysOf h.own
  rw [Maps.has_eq, List.any_eq_true] at h1
  obtain ⟨p, hm, hk⟩ := h1
  have e : p.1 = litS s := by
    by_cases e : p.1 = litS s
    · exact e
    · rw [Maps.sameKey_ne e] at hk
      cases hk
  have h2 : s.data.toList ∈ strKeys (DataW.map es) := List.mem_map.2 ⟨p, hm, by rw [e]; rfl⟩
  have h3 := (List.mergeSort_perm ss (fun x y => decide (x ≤ y))).mem_iff.2 (hp.mem_iff.2 h2)
  exact List.mem_map.2 ⟨_, h3, by simp⟩

/-- Lists of spots that the call itself gathers, with the slices that they lie in. -/
def GathG (w : World) (B : Nat) (v : Value) (L : List (List Spot × Value)) : Prop := w.ownsRow B 117 1 v L.length (L.map (·.2)) ∧ ∀ p ∈ L, GathP w B p.2 p.1
theorem gathG_none (w : World) (B : Nat) : GathG w B (.slice none 0 0) [] := ⟨World.ownsRow_nil _ _ _ _, by simp⟩
theorem GathG.keep {w w' : World} {B : Nat} {v : Value} {L : List (List Spot × Value)} (h : GathG w B v L) (hb : Below w.heap.size w w') : GathG w' B v L := ⟨own_keep h.1 hb, fun p hp => own_keep (h.2 p hp) hb⟩
theorem GathG.snoc {w w' : World} {B : Nat} {v v' y : Value} {L : List (List Spot × Value)} {l : List Spot} (h : GathG w B v L) (hl : GathP w B y l) (hne : 119 ≠ 117)
    (h' : w'.ownsRow B 117 1 v' (L.length + 1) ((L.map (·.2)) ++ [y])) (hg : w.grownBy w' v.ownBlock) : GathG w' B v' (L ++ [(l, y)]) := by
  refine ⟨?_, fun p hp => ?_⟩
  · rw [List.length_append, List.map_append]
    exact h'
  · rcases List.mem_append.1 hp with hp | hp
    · exact World.ownsRow.kept (h.2 p hp) hg (own_types (h.2 p hp) h.1 hne)
    · obtain rfl : p = (l, y) := by simpa using hp
      exact World.ownsRow.kept hl hg (own_types hl h.1 hne)
theorem GrpS.kept {w w' : World} {B b n k : Nat} {D : DataW Value} {V : ByteArray → Value} {S : ByteArray → List Spot} {v : Value} {xs : List Value} (h : GrpS w B b n D V S) (hv : w.ownsRow B 117 1 v k xs) (hg : w.grownBy w' v.ownBlock) (hne : 119 ≠ 117) : GrpS w' B b n D V S :=
  ⟨h.own.kept hg (fun e => by have := own_from hv _ e.symm; have := h.lt; omega), h.lt, h.eq, h.has, fun s => World.ownsRow.kept (h.row s) hg (own_types (h.row s) hv hne), h.far⟩
theorem GathG.row {w : World} {B : Nat} {v : Value} {L : List (List Spot × Value)} (h : GathG w B v L) : ∃ a cap, v = .slice a L.length cap ∧ L.length ≤ cap ∧ RowG w a (L.map (·.1)) := by
  rcases h.1.2 with ⟨rfl, h0⟩ | ⟨g, cap, cur, rfl, hB, hh, hn, _⟩
  · exact ⟨none, 0, by rw [h0], by omega, fun k hk => by rw [List.length_map] at hk; omega⟩
  · have hlt : g < w.heap.size := (Array.getElem?_eq_some_iff.1 hh).1
    refine ⟨_, cap, rfl, hn, fun k hk => ⟨g, 0, rfl, hlt, ?_⟩⟩
    rw [List.length_map] at hk
    obtain ⟨a, c, e, hc, hr⟩ := (h.2 L[k] (List.getElem_mem hk)).row
    refine ⟨a, c, ?_, by simpa using hc, by simpa using hr⟩
    rw [Nat.zero_add, World.ownsRow.cellAt h.1 _ (by omega)]
    simp [hk, e]

theorem Try.infoQ : (Try.prog.info? 117).map (fun i => (i.zero, i.size, i.bytes)) = some (some (.slice none 0 0), 1, 24) := by kernel_rfl
theorem spot_unlike : 119 ≠ 117 := by decide
theorem text_unlike : 9 ≠ 117 := by decide

theorem GathP.keep {w w' : World} {B : Nat} {v : Value} {l : List Spot} (h : GathP w B v l) (hb : Below w.heap.size w w') : GathP w' B v l := own_keep h hb
theorem GathS.beside {w w' : World} {B k : Nat} {v y : Value} {l : List ByteArray} {xs : List Value} (h : GathS w B v l) (hv : w.ownsRow B 117 1 y k xs) (hg : w.grownBy w' y.ownBlock) : GathS w' B v l := World.ownsRow.kept h hg (own_types h hv text_unlike)

/-- Of the first i texts those that have two spots or more are in L, and no others. -/
def SharedTo (S : ByteArray → List Spot) (names : List ByteArray) (i : Nat) (L : List (List Spot × Value)) : Prop :=
  (∀ p ∈ L, ∃ s, p.1 = S s ∧ 1 < (S s).length) ∧ ∀ q, (hq : q < names.length) → q < i → 1 < (S names[q]).length → ∃ p ∈ L, p.1 = S names[q]
theorem SharedTo.skip {S : ByteArray → List Spot} {names : List ByteArray} {i : Nat} {L : List (List Spot × Value)} (h : SharedTo S names i L) (hi : i < names.length) (hn : ¬ 1 < (S names[i]).length) : SharedTo S names (i + 1) L := ⟨h.1, fun q hq hlt h1 => by
  by_cases e : q = i
  · subst e; exact absurd h1 hn
  · exact h.2 q hq (by omega) h1⟩
theorem SharedTo.take {S : ByteArray → List Spot} {names : List ByteArray} {i : Nat} {L : List (List Spot × Value)} (h : SharedTo S names i L) (hi : i < names.length) (hn : 1 < (S names[i]).length) (y : Value) : SharedTo S names (i + 1) (L ++ [(S names[i], y)]) := by
  refine ⟨fun p hp => ?_, fun q hq hlt h1 => ?_⟩
  · rcases List.mem_append.1 hp with hp | hp
    · exact h.1 p hp
    · obtain rfl : p = (S names[i], y) := by simpa using hp
      exact ⟨names[i], rfl, hn⟩
  · by_cases e : q = i
    · subst e
      exact ⟨(S names[q], y), by simp, rfl⟩
    · obtain ⟨p, hp, he⟩ := h.2 q hq (by omega) h1
      exact ⟨p, List.mem_append_left _ hp, he⟩
theorem SharedTo.shared {ws : List (List ItemL)} {S : ByteArray → List Spot} {names : List ByteArray} {L : List (List Spot × Value)} (h : SharedTo S names names.length L) (hS : SpotsTo ws ws.length 0 S) (hn : ∀ s, S s ≠ [] → s ∈ names) (h72 : ∀ s, (S s).length ≤ 1000) (hL : L.length ≤ 1000) : ShW ws (L.map (·.1)) := by
  refine ⟨⟨fun src hs => ?_, fun s i k j l hik h1 h2 => ?_⟩, fun src hs => ?_, by rw [List.length_map]; exact hL⟩
  · obtain ⟨p, hp, rfl⟩ := List.mem_map.1 hs
    obtain ⟨s, e, _⟩ := h.1 p hp
    exact ⟨s, fun q hq => hS.1 s q (by rw [← e]; exact hq)⟩
  · have m1 := hS.2 s _ h1 (.inl h1.1)
    have m2 := hS.2 s _ h2 (.inl h2.1)
    have hlen : 1 < (S s).length := by
      match hS' : S s, m1, m2 with
      | [], m1, _ => simp at m1
      | [x], m1, m2 =>
        have e1 : (i, j) = x := by simpa using m1
        have e2 : (k, l) = x := by simpa using m2
        rw [← e1] at e2
        exact absurd (Prod.mk.inj e2).1.symm hik
      | _ :: _ :: _, _, _ => simp
    obtain ⟨q, hq, e⟩ := List.mem_iff_getElem.1 (hn s (fun e => by rw [e] at hlen; simp at hlen))
    obtain ⟨p, hp, he⟩ := h.2 q hq hq (by rw [e]; exact hlen)
    rw [e] at he
    exact ⟨p.1, List.mem_map.2 ⟨p, hp, rfl⟩, by rw [he]; exact m1, by rw [he]; exact m2⟩
  · obtain ⟨p, hp, rfl⟩ := List.mem_map.1 hs
    obtain ⟨s, e, h1⟩ := h.1 p hp
    rw [e]
    exact ⟨h1, h72 s⟩

end Go.Proofs.Ytpfhegengmlkmac
/- Walk: sharedSpots. -/
namespace Go.Proofs.Ytpfhegengmlkmac
open Go.RowKit Go.BigFrame
set_option maxRecDepth 100000

open Classical in
set_option maxHeartbeats 1600000 in
theorem sharedSpots_any (W0 w : World) (a : Option Addr) (c : Nat) (ws : List (List ItemL)) (hr : RowV W0 w a ws) (hW : Below W0.heap.size W0 w) (hok : OkW ws) :
    Calls Try.prog 85 #[.slice a ws.length c] w fun e w' => (∃ v L, e = .returned v ∧ GathG w' (w.heap.size + 1) v L ∧ ShW ws (L.map (·.1))) ∧ Below w.heap.size w w' := by
  have h6 := hok.2.1
  have hmm := @run_makeMap Try.prog
  go_enter Try.func85, Try.ntmps85
  go_wp2_with fail
  have HOK : Hid (OkW ws) := hok
  have hz0 := hW.size
  clear hok hmm
  go_loopw [13] (fun i wr => ∃ (k n : Nat) (D : DataW Value) (V : ByteArray → Value) (S : ByteArray → List Spot), k ≤ ws.length ∧ i = .int .i64 k ∧ n ≤ k * 12 ∧ GrpS wr (w.heap.size + 1) w.heap.size n D V S ∧ Hid (SpotsTo ws k 0 S) ∧ Hid (∀ s, (S s).length ≤ n) ∧ Below w.heap.size w wr) (fun i _ => ws.length - (intOf i).toNat)
  case atStart => exact ⟨0, 0, _, _, _, Nat.zero_le _, rfl, by omega, grpS_made w, spotsTo_start ws, fun s => Nat.le_refl _, (Below.refl _ _).alloc (Nat.le_refl _) _⟩
  case round =>
    obtain ⟨k, n, D, V, S, hk, rfl, hn, hg, HS, HL, hbl⟩ := hrel
    by_cases hlt : k < ws.length
    · obtain ⟨g, o, rfl, hwo⟩ := hr.below hbl k hlt
      have k0 : (0 : Int) ≤ (k : Int) := by omega
      have k1 : (k : Int) < (ws.length : Int) := by omega
      go_wp2_with fail
      refine (size_off W0 _ g (o + k * 10) ws[k] hwo).mono ?_
      rintro e w2 ⟨rfl, rfl⟩
      by_cases h0 : ws[k].length = 0
      · have HST : Hid (SpotsTo ws (k + 1) 0 S) := HS.out.empty hlt h0
        have h0' : ((ws[k].length : Int) == 0) = true := by rw [beq_iff_eq]; omega
        go_wp2_with fail
        exact ⟨⟨k + 1, n, D, V, S, by omega, by go_num, by omega, hg, HST, HL, hbl⟩, by simp [intOf]; omega⟩
      · have h0' : ((ws[k].length : Int) == 0) = false := by rw [beq_eq_false_iff_ne]; omega
        go_wp2_with fail
        refine (last_off W0 _ g (o + k * 10) ws[k] hwo (by omega)).mono ?_
        rintro e w3 ⟨⟨v, rfl, hv⟩, b3⟩
        obtain ⟨sa, sc, rfl, hcap, hrow⟩ := hv
        have B3 : Below w.heap.size w w3 := hbl.trans (b3.mono hbl.size)
        replace hg := hg.keep b3
        have hst := (HOK.out.2.2 k hlt).2.1 (ws[k].length - 1) (by omega)
        have HST : Hid (StampP (ws[k][ws[k].length - 1]).2) := hst.1
        have h12 := hst.1.1
        clear hst
        have hfd := field_stamp (ws[k][ws[k].length - 1]).1 sa (ws[k][ws[k].length - 1]).2.length sc
        go_wp2_with fail
        go_loopw [29] (fun i2 wr2 => ∃ (j n : Nat) (D : DataW Value) (V : ByteArray → Value) (S : ByteArray → List Spot), j ≤ (ws[k][ws[k].length - 1]).2.length ∧ i2 = .int .i64 j ∧ n ≤ k * 12 + j ∧ GrpS wr2 (w.heap.size + 1) w.heap.size n D V S ∧ Hid (SpotsTo ws k j S) ∧ Hid (∀ s, (S s).length ≤ n) ∧ Below w.heap.size w wr2) (fun i2 _ => (ws[k][ws[k].length - 1]).2.length - (intOf i2).toNat)
        case atStart => exact ⟨0, n, D, V, S, Nat.zero_le _, rfl, by omega, hg, HS, HL, B3⟩
        case round =>
          clear hg HS HL hn
          obtain ⟨j, n, D, V, S, hj, rfl, hn, hg, HS, HL, B4⟩ := hrel
          by_cases hjlt : j < (ws[k][ws[k].length - 1]).2.length
          · obtain ⟨bm, om, rfl, hbm, m0, m1⟩ := hrow j hjlt
            have j0 : (0 : Int) ≤ (j : Int) := by omega
            have j1 : (j : Int) < ((ws[k][ws[k].length - 1]).2.length : Int) := by omega
            have hbm' : bm < w.heap.size := by omega
            replace m0 := cell_on B4 hbm' (cell_on hW hbm m0)
            replace m1 := cell_on B4 hbm' (cell_on hW hbm m1)
            have hname := (HST.out.2.1 j hjlt).1
            have hss : ((ws[k][ws[k].length - 1]).2[j]).1.size ≤ maxLen := by have := hname.2.1; unfold maxLen; omega
            clear hname
            obtain ⟨s, hsn⟩ : ∃ s, ((ws[k][ws[k].length - 1]).2[j]).1 = s := ⟨_, rfl⟩
            obtain ⟨x, hxn⟩ : ∃ x, ((ws[k][ws[k].length - 1]).2[j]).2 = x := ⟨_, rfl⟩
            rw [hsn] at m0 hss
            rw [hxn] at m1
            have HSN : Hid (((ws[k][ws[k].length - 1]).2[j]).1 = s) := hsn
            clear hsn hxn
            go_wp2_with fail
            have hb0 : Below wr.heap.size wr (wr.alloc (.cells #[.string s, .int .i64 x] 104)) := (Below.refl _ _).alloc (Nat.le_refl _) _
            have hlt0 := box_lt wr (.cells #[.string s, .int .i64 x] 104)
            have d0 := box0 wr (.string s) (.int .i64 x) 104
            generalize wr.alloc (.cells #[.string s, .int .i64 x] 104) = W at *
            have hgd : GrpS W.drew (w.heap.size + 1) w.heap.size n D V S := (hg.keep hb0).keep (Below.refl _ _).drew
            have hl1 := lookup_spot hgd s hss
            have hb1 : Below W.heap.size W ((W.alloc (.cells #[.int .i64 (k : Int), .int .i64 (j : Int)] 119)).drew) := ((Below.refl _ _).alloc (Nat.le_refl _) _).drew
            have hga := (hg.keep hb0).keep hb1
            have hl2 := lookup_spot hga s hss
            have SW : (W.drew).cell? ⟨wr.heap.size, 0, none⟩ = some (.string s) := d0
            have S2 : ((W.alloc (.cells #[.int .i64 (k : Int), .int .i64 (j : Int)] 119)).drew).cell? ⟨wr.heap.size, 0, none⟩ = some (.string s) := cell_on hb1 hlt0 d0
            have z4 := B4.size
            have zm := hg.own.lt
            have zx := hb0.size
            have BX : Below w.heap.size w ((W.alloc (.cells #[.int .i64 (k : Int), .int .i64 (j : Int)] 119)).drew) := (B4.trans (hb0.mono z4)).trans (hb1.mono (Nat.le_trans z4 zx))
            have hXs := BX.size
            have hfar : some wr.heap.size ≠ (V s).ownBlock := fun e => by have := (World.ownsRow.lt (hg.row s) _ e.symm).2; omega
            have hown : some w.heap.size ≠ (V s).ownBlock := fun e => by have := own_from (hg.row s) _ e.symm; omega
            have HST2 : Hid (SpotsTo ws k (j + 1) (fun t => if t = s then S s ++ [(k, j)] else S t)) := HS.out.step hlt (by omega) hjlt HSN.out
            have HL2 : Hid (∀ t, (if t = s then S s ++ [(k, j)] else S t).length ≤ n + 1) := fun t => by
              by_cases e : t = s
              · rw [if_pos e, List.length_append]
                have := HL.out s
                simp only [List.length_singleton]
                omega
              · rw [if_neg e]
                have := HL.out t
                omega
            refine wp_region_held_drew (S := fun u => u.cell? ⟨wr.heap.size, 0, none⟩ = some (.string s)) (by kernel_rfl) SW (fun _ => ?_)
            refine wpAnyH_take (i := 0) (v := .map (some w.heap.size)) rfl (by kernel_rfl) (by kernel_rfl) (by kernel_rfl) (fun _ _ _ h => h) (Or.inl ⟨by rfl, ?_⟩) SW ?_
            · rintro u q1
              go_simp
            simp only [Act.put, List.setIfInBounds_toArray]
            refine wpAnyH_take (i := 1) (v := .pointer (some ⟨wr.heap.size, 0, none⟩)) rfl (by kernel_rfl) (by kernel_rfl) (by kernel_rfl) (fun _ _ _ h => h) (Or.inl ⟨by rfl, ?_⟩) SW ?_
            · rintro u q1
              go_simp
            simp only [Act.put]
            refine wpAnyH_take (i := 2) (v := .string s) rfl (by kernel_rfl) (by kernel_rfl) (by kernel_rfl) (fun _ _ _ h => h) (Or.inl ⟨by rfl, ?_⟩) SW ?_
            · rintro u q1
              go_simp
            simp only [Act.put]
            refine wpAnyH_take (i := 3) (v := .map (some w.heap.size)) rfl (by kernel_rfl) (by kernel_rfl) (by kernel_rfl) (fun _ _ _ h => h) (Or.inl ⟨by rfl, ?_⟩) SW ?_
            · rintro u q1
              go_simp
            simp only [Act.put]
            refine wpAnyH_take (i := 4) (v := .pointer (some ⟨wr.heap.size, 0, none⟩)) rfl (by kernel_rfl) (by kernel_rfl) (by kernel_rfl) (fun _ _ _ h => h) (Or.inl ⟨by rfl, ?_⟩) SW ?_
            · rintro u q1
              go_simp
            simp only [Act.put]
            refine wpAnyH_take (i := 5) (v := .string s) rfl (by kernel_rfl) (by kernel_rfl) (by kernel_rfl) (fun _ _ _ h => h) (Or.inl ⟨by rfl, ?_⟩) SW ?_
            · rintro u q1
              go_simp
            simp only [Act.put]
            refine wpAnyH_take (i := 7) (v := .int .i64 k) rfl (by kernel_rfl) (by kernel_rfl) (by kernel_rfl) (fun _ _ _ h => h) (Or.inl ⟨by rfl, ?_⟩) SW ?_
            · rintro u q1
              go_simp
            simp only [Act.put]
            refine wpAnyH_take (i := 8) (v := .int .i64 j) rfl (by kernel_rfl) (by kernel_rfl) (by kernel_rfl) (fun _ _ _ h => h) (Or.inl ⟨by rfl, ?_⟩) SW ?_
            · rintro u q1
              go_simp
            simp only [Act.put]
            refine wpAnyH_take (i := 9) (v := .agg #[.int .i64 k, .int .i64 j]) rfl (by kernel_rfl) (by kernel_rfl) (by kernel_rfl) (fun _ _ _ h => h) (Or.inl ⟨by rfl, ?_⟩) SW ?_
            · rintro u q1
              go_simp
            simp only [Act.put]
            refine wpAnyH_ready (rs := [6, 10]) (by kernel_rfl) (by simp) ?_
            refine AllReadyH.cons rfl (fun K hK => ?_) (AllReadyH.cons rfl (fun K hK => ?_) AllReadyH.nil)
            · rw [if_pos (by rfl)]
              go_simp
              refine hK.out _ _ SW (fun _ => ?_)
              clear hK K
              refine wpAnyH_ready (rs := [10]) (by kernel_rfl) (by simp) ?_
              refine AllReadyH.cons rfl (fun K hK => ?_) AllReadyH.nil
              rw [if_pos (by rfl)]
              go_simp
              refine hK.out _ _ S2 (fun _ => ?_)
              clear hK K
              refine wpAnyH_ready (rs := [11]) (by kernel_rfl) (by simp) ?_
              refine AllReadyH.cons rfl (fun K hK => ?_) AllReadyH.nil
              rw [if_pos (by rfl)]
              refine wp_append_spot _ _ rfl (w.heap.size + 1) (V s) (S s) rfl (hga.row s) (by have := hb1.size; omega) W.heap.size (k, j) rfl (by simp [go_sem]) (by simp [go_sem]) (by have := HL.out s; omega) ?_
              intro v' w4 ho hgb hloc
              have S4 : w4.cell? ⟨wr.heap.size, 0, none⟩ = some (.string s) := grown_cell hgb hfar S2
              refine hK.out _ _ S4 (fun _ => ?_)
              clear hK K
              refine wpAnyH_ready (rs := [12]) (by kernel_rfl) (by simp) ?_
              refine AllReadyH.cons rfl (fun K hK => ?_) AllReadyH.nil
              rw [if_pos (by rfl)]
              refine wp_update_spot _ _ _ rfl w.heap.size n D rfl (hga.own.kept hgb hown) (by unfold maxLen; omega) s hss v' rfl rfl ?_
              intro w5 h2 hg2
              have S5 : w5.cell? ⟨wr.heap.size, 0, none⟩ = some (.string s) := grown_cell hg2 (fun q => by have := Option.some.inj q; omega) S4
              refine hK.out _ _ S5 (fun _ => ?_)
              clear hK K
              refine wpAnyH_done (by kernel_rfl) ?_ _
              go_wp2_with fail
              exact ⟨⟨j + 1, n + 1, _, _, _, by omega, by go_num, by omega, hga.put s (k, j) hgb ho (hloc.imp_right fun e => ⟨_, e, Nat.le_refl _⟩) h2 hg2, HST2, HL2, (BX.grown hgb hXs (fun q hq => by have := own_from (hga.row s) q hq; omega)).grown hg2 (Nat.le_trans hXs hgb.size) (fun q hq => by cases hq; exact Nat.le_refl _)⟩, by simp [intOf]; omega⟩
            · rw [if_pos (by rfl)]
              go_simp
              refine hK.out _ _ S2 (fun _ => ?_)
              clear hK K
              refine wpAnyH_ready (rs := [6]) (by kernel_rfl) (by simp) ?_
              refine AllReadyH.cons rfl (fun K hK => ?_) AllReadyH.nil
              rw [if_pos (by rfl)]
              go_simp
              refine hK.out _ _ S2 (fun _ => ?_)
              clear hK K
              refine wpAnyH_ready (rs := [11]) (by kernel_rfl) (by simp) ?_
              refine AllReadyH.cons rfl (fun K hK => ?_) AllReadyH.nil
              rw [if_pos (by rfl)]
              refine wp_append_spot _ _ rfl (w.heap.size + 1) (V s) (S s) rfl (hga.row s) (by have := hb1.size; omega) W.heap.size (k, j) rfl (by simp [go_sem]) (by simp [go_sem]) (by have := HL.out s; omega) ?_
              intro v' w4 ho hgb hloc
              have S4 : w4.cell? ⟨wr.heap.size, 0, none⟩ = some (.string s) := grown_cell hgb hfar S2
              refine hK.out _ _ S4 (fun _ => ?_)
              clear hK K
              refine wpAnyH_ready (rs := [12]) (by kernel_rfl) (by simp) ?_
              refine AllReadyH.cons rfl (fun K hK => ?_) AllReadyH.nil
              rw [if_pos (by rfl)]
              refine wp_update_spot _ _ _ rfl w.heap.size n D rfl (hga.own.kept hgb hown) (by unfold maxLen; omega) s hss v' rfl rfl ?_
              intro w5 h2 hg2
              have S5 : w5.cell? ⟨wr.heap.size, 0, none⟩ = some (.string s) := grown_cell hg2 (fun q => by have := Option.some.inj q; omega) S4
              refine hK.out _ _ S5 (fun _ => ?_)
              clear hK K
              refine wpAnyH_done (by kernel_rfl) ?_ _
              go_wp2_with fail
              exact ⟨⟨j + 1, n + 1, _, _, _, by omega, by go_num, by omega, hga.put s (k, j) hgb ho (hloc.imp_right fun e => ⟨_, e, Nat.le_refl _⟩) h2 hg2, HST2, HL2, (BX.grown hgb hXs (fun q hq => by have := own_from (hga.row s) q hq; omega)).grown hg2 (Nat.le_trans hXs hgb.size) (fun q hq => by cases hq; exact Nat.le_refl _)⟩, by simp [intOf]; omega⟩
          · have HX : Hid (SpotsTo ws (k + 1) 0 S) := SpotsTo.whole hlt (by omega) (by
              have e : j = (ws[k][ws[k].length - 1]).2.length := by omega
              rw [← e]; exact HS.out)
            go_wp2_with fail
            exact ⟨⟨k + 1, n, D, V, S, by omega, by go_num, by omega, hg, HX, HL, B4⟩, by simp [intOf]; omega⟩
    · clear hr
      have HOW : Hid (∃ n0, n0 ≤ 72 ∧ GrpS wr (w.heap.size + 1) w.heap.size n0 D V S ∧ ∀ s, (S s).length ≤ n0) := ⟨n, by omega, hg, HL.out⟩
      go_wp2_with fail
      refine (callsIn_wide.1 (Try.maps_Keys_111 (some w.heap.size) _)).mono ?_
      rintro e w1 ⟨rfl, rfl⟩
      go_wp2_with fail
      have hsz := hg.own.size_le
      refine (callsIn_wide.1 (Try.slices_Sorted_keys_110_111 w.heap.size n D heldE _ hg.own (by unfold maxLen; omega) (by omega))).mono ?_
      rintro e w2 ⟨v, ss, rfl, hperm, hsown, _, b2⟩
      obtain ⟨names, hnm⟩ : ∃ l, l = textsL (ss.mergeSort (fun x y => decide (x ≤ y))) := ⟨_, rfl⟩
      have hnl : names.length = ss.length := by rw [hnm]; simp [textsL]
      have hgs : GathS w2 (wr.alloc (.cells #[.map (some w.heap.size)] 141)).heap.size v names := by
        unfold GathS
        rw [hnl, hnm, ← textsL_cells]
        exact hsown
      obtain ⟨sa, sc, rfl, hnrow⟩ := hgs.shape
      have HN : Hid (∀ s, S s ≠ [] → s ∈ names) := fun s hs => by rw [hnm]; exact hg.listed hperm hs
      have hn72 : names.length ≤ 72 := by
        rw [hnl, hperm.length_eq]
        have e : (strKeys D).length = Maps.size D := by
          obtain ⟨es, rfl, _⟩ := World.ownsMap.keysOf hg.own
          simp [strKeys, Maps.size]
        omega
      have HSZ : Hid (∀ q, (h : q < names.length) → names[q].size ≤ maxLen) := fun q hq => by
        subst hnm
        have hm := (List.mergeSort_perm ss (fun x y => decide (x ≤ y))).mem_iff.1 (List.getElem_mem (by simpa [textsL] using hq : q < (ss.mergeSort (fun x y => decide (x ≤ y))).length))
        have := strKeys_le hg.own Try.underlying9 _ (hperm.mem_iff.1 hm)
        simpa [textsL, ByteArray.size] using this
      have hb2 : Below wr.heap.size wr w2 := ((Below.refl _ _).alloc (Nat.le_refl _) _).trans (b2.mono (by simp))
      have B2 : Below w.heap.size w w2 := hbl.trans (hb2.mono hbl.size)
      have hg2 := hg.keep hb2
      have hgn : GathS w2 (w.heap.size + 1) (.slice sa names.length sc) names := hgs.lower (by have := hg.own.lt; simp; omega)
      have hmlt := hg2.own.lt
      clear hg hsown hgs hperm hnm hnl b2 hsz HOW hnrow
      obtain ⟨i0, hi, hy0, hy1, hy2⟩ := info_parts Try.infoQ
      go_wp2_with fail
      go_loopw [7, 52] (fun vs i wr3 => ∃ (q : Nat) (L : List (List Spot × Value)), q ≤ names.length ∧ i = .int .i64 q ∧ L.length ≤ q ∧ GathG wr3 (w.heap.size + 1) vs L ∧ Hid (SharedTo S names q L) ∧ GrpS wr3 (w.heap.size + 1) w.heap.size n D V S ∧ GathS wr3 (w.heap.size + 1) (.slice sa names.length sc) names ∧ Below w.heap.size w wr3) (fun _ i _ => names.length - (intOf i).toNat)
      case atStart => exact ⟨0, [], Nat.zero_le _, rfl, Nat.le_refl _, gathG_none _ _, ⟨fun p hp => by simp at hp, fun q _ h => by omega⟩, hg2, hgn, B2⟩
      case round =>
        clear hg2 hgn B2 hb2
        obtain ⟨q, L, hq, rfl, hLq, hL, HSH, hg, hgn, B3⟩ := hrel
        have hmlt := hg.own.lt
        by_cases hqlt : q < names.length
        · have hnrow : RowS wr sa names := by
            obtain ⟨a9, c9, e9, h9⟩ := hgn.shape
            cases e9
            exact h9
          obtain ⟨bn, on, rfl, hbn, n0⟩ := hnrow q hqlt
          have q0 : (0 : Int) ≤ (q : Int) := by omega
          have q1 : (q : Int) < (names.length : Int) := by omega
          have hlk := lookup_spot hg names[q] (HSZ.out q hqlt)
          have hgp := hg.row names[q]
          obtain ⟨va, vc, ev, hvc, _⟩ := GathP.row hgp
          rw [ev] at hlk hgp
          by_cases h1 : 1 < (S names[q]).length
          · have HX : Hid (SharedTo S names (q + 1) (L ++ [(S names[q], .slice va (S names[q]).length vc)])) := HSH.out.take hqlt h1 _
            have h1' : decide (1 < ((S names[q]).length : Int)) = true := decide_eq_true (by omega)
            go_wp2_with (first | (at_builtin; refine wpList_append_own_at _ rfl _ _ 88 rfl (w.heap.size + 1) 117 i0 (.slice none 0 0) 1 24 Try.underlying88 hi hy0 hy1 hy2 rfl (by decide) _ L.length (L.map (·.2)) rfl (own_keep hL.1 ((Below.refl _ _).alloc (Nat.le_refl _) _)) ⟨wr.heap.size, 0, none⟩ 1 1 [.slice va (S names[q]).length vc] rfl rfl (one_new _ _ _) (by simp [Value.oneCell']) (by unfold maxLen; omega) (by omega) (by simp; omega) ?_; intro v' w5 hown' hgrow _ hloc))
            have hbx : Below wr.heap.size wr (wr.alloc (.cells #[.slice va (S names[q]).length vc] 117)) := (Below.refl _ _).alloc (Nat.le_refl _) _
            have hkL := hL.keep hbx
            exact ⟨⟨q + 1, L ++ [(S names[q], .slice va (S names[q]).length vc)], by omega, by go_num, by simp; omega, hkL.snoc (hgp.keep hbx) spot_unlike hown' hgrow, HX, (hg.keep hbx).kept hkL.1 hgrow spot_unlike, (hgn.keep hbx).beside hkL.1 hgrow, ((B3.trans (hbx.mono B3.size)).grown hgrow (by simp; omega) (fun k hk => by have := own_from hkL.1 k hk; omega))⟩, by simp [intOf]; omega⟩
          · have HX : Hid (SharedTo S names (q + 1) L) := HSH.out.skip hqlt h1
            have h1' : decide (1 < ((S names[q]).length : Int)) = false := decide_eq_false (by omega)
            go_wp2_with fail
            exact ⟨⟨q + 1, L, by omega, by go_num, by omega, hL, HX, hg, hgn, B3⟩, by simp [intOf]; omega⟩
        · have HF : Hid (ShW ws (L.map (·.1))) := SharedTo.shared (by have e : q = names.length := by omega
                                                                      rw [← e]; exact HSH.out) (by have e : ws.length = k := by omega
                                                                                                   rw [e]; exact HS.out) HN.out (fun s => by have := HL.out s; omega) (by omega)
          obtain ⟨fa, fc, rfl, _, _⟩ := hL.row
          go_wp2_with fail
          go_ret
          exact ⟨⟨_, L, rfl, hL, HF.out⟩, B3⟩

end Go.Proofs.Ytpfhegengmlkmac
/- readWindow once more: the items lie in an older world. -/
namespace Go.Proofs.Ytpfhegengmlkmac
open Go.RowKit Go.BigFrame
set_option maxRecDepth 100000

set_option maxHeartbeats 3200000 in
theorem readWindow_from (W0 : World) (a : Option Addr) (cap : Nat) (l : List ItemL) (w : World) (hf : FitI l) (hr : RowI W0 a l) (h0 : Below W0.heap.size W0 w) :
    Calls Try.prog 51 #[.slice a l.length cap] w fun e w' => ReadE W0 l e ∧ Below w.heap.size w w' := by
  have hl := hf.1
  unfold maxLen at hl
  by_cases h4 : 4 < l.length
  · have HN : Hid (¬ WinP l) := fun h => by have := h.1; omega
    go_enter Try.func51, Try.ntmps51
    go_wp2_with fail
    exact bodyPost_ret (v := .tuple #[.agg zero10, .bool false]) (by simp [results, Try.results51, go_sem]) rfl ⟨.inr ⟨_, rfl, HN.out, winV_zero _⟩, ((Below.refl _ _).alloc (Nat.le_refl _) _).alloc (by simp) _⟩
  go_enter Try.func51, Try.ntmps51
  go_wp2_with fail
  have hA1 : Below w.heap.size w (w.alloc (.cells zero10 80)) := (Below.refl _ _).alloc (Nat.le_refl _) _
  have hA2 : Below w.heap.size w ((w.alloc (.cells zero10 80)).alloc (.cells zero10 80)) := hA1.alloc hA1.size _
  have hZ : ZeroB ((w.alloc (.cells zero10 80)).alloc (.cells zero10 80)) w.heap.size := (zeroB_new w).below ((Below.refl _ _).alloc (Nat.le_refl _) _)
  have hWn : WinB W0 ((w.alloc (.cells zero10 80)).alloc (.cells zero10 80)) (w.heap.size + 1) 0 [] := by
    have h := winB_new W0 (w.alloc (.cells zero10 80)) (Nat.le_trans h0.size hA1.size)
    rw [World.size_alloc] at h
    exact h
  go_loopw [13] (fun i wr => ∃ k : Nat, k ≤ l.length ∧ i = .int .i64 k ∧ WinB W0 wr (w.heap.size + 1) 0 (l.take k) ∧ Hid (WinTo l k) ∧ ZeroB wr w.heap.size ∧ Below w.heap.size w wr) (fun i _ => l.length - (intOf i).toNat)
  case atStart => exact ⟨0, Nat.zero_le _, rfl, hWn, winTo_zero l, hZ, hA2⟩
  case round =>
    obtain ⟨k, hk, rfl, hW, HTO, hz, hb⟩ := hrel
    clear hA1 hA2 hZ hWn
    by_cases hlt : k < l.length
    · obtain ⟨b1, o1, rfl, g1, e0, v1, e1, ⟨s1, t1, rfl, hc1, r1⟩⟩ := hr k hlt
      have k0 : (0 : Int) ≤ (k : Int) := by omega
      have k1 : (k : Int) < (l.length : Int) := by omega
      have x0 := cell_on (h0.trans (hb.mono h0.size)) g1 e0
      have x1 := cell_on (h0.trans (hb.mono h0.size)) g1 e1
      have fk := hf.2 k hlt
      clear e0 e1
      go_wp2_with fail
      have hb0 : Below wr.heap.size wr (wr.alloc (.cells #[.int .i64 l[k].1, .slice s1 l[k].2.length t1] 74)) := (Below.refl _ _).alloc (Nat.le_refl _) _
      have d0 := box0 wr (.int .i64 l[k].1) (.slice s1 l[k].2.length t1) 74
      have d1 := box1 wr (.int .i64 l[k].1) (.slice s1 l[k].2.length t1) 74
      have hlt0 := box_lt wr (.cells #[.int .i64 l[k].1, .slice s1 l[k].2.length t1] 74)
      replace hW := hW.below hb0
      replace hz := hz.below hb0
      have B1 : Below w.heap.size w (wr.alloc (.cells #[.int .i64 l[k].1, .slice s1 l[k].2.length t1] 74)) := hb.trans (hb0.mono hb.size)
      generalize hq : wr.heap.size = q at *
      generalize wr.alloc (.cells #[.int .i64 l[k].1, .slice s1 l[k].2.length t1] 74) = W1 at *
      clear hb0 x0 x1 hq hb
      refine (itemOk_any l[k].1 s1 t1 l[k].2 W1 (r1.below (h0.trans (B1.mono h0.size))) fk).mono ?_
      rintro e w2 ⟨⟨r, rfl, hr2⟩, b2⟩
      replace hW := hW.below b2
      replace hz := hz.below b2
      replace d0 := cell_on b2 hlt0 d0
      replace d1 := cell_on b2 hlt0 d1
      have B2 : Below w.heap.size w w2 := B1.trans (b2.mono B1.size)
      have hlt2 : q < w2.heap.size := Nat.lt_of_lt_of_le hlt0 b2.size
      have HR2 : Hid (r = true ↔ StampP l[k].2 ∧ l[k].2 ≠ []) := hr2
      clear hr2 b2 B1 hlt0
      cases r
      · have HN : Hid (¬ WinP l) := fun h => by simpa using HR2.out.2 (h.2.1 k hlt)
        obtain ⟨z0, z1, z2, z3, z4, z5, z6, z7, z8, z9⟩ := hz.cells
        obtain ⟨y0, y1, y2, y3, y4, y5, y6, y7, y8, y9⟩ := hz.free
        have HY : Hid _ := put10_cells hz (.int .i64 0) (.slice none 0 0) (.int .i64 0) (.slice none 0 0) (.int .i64 0) (.slice none 0 0) (.int .i64 0) (.slice none 0 0) (.int .i64 0) (.int .i64 0)
        clear HR2 hz hW
        go_wp2_with fail
        obtain ⟨Y0, Y1, Y2, Y3, Y4, Y5, Y6, Y7, Y8, Y9⟩ := HY.out
        unfold put10 at Y0 Y1 Y2 Y3 Y4 Y5 Y6 Y7 Y8 Y9
        exact bodyPost_ret (v := .tuple #[.agg zero10, .bool false]) (by simp [results, Try.results51, go_sem, Y0, Y1, Y2, Y3, Y4, Y5, Y6, Y7, Y8, Y9]) rfl ⟨.inr ⟨_, rfl, HN.out, winV_zero _⟩, put10_below B2 (Nat.le_refl _) _ _ _ _ _ _ _ _ _ _⟩
      · go_wp2_with fail
        refine (takes_any W0 w2 _ 0 (l.take k) l[k].1 _ l[k].2 hW (h0.trans (B2.mono h0.size)) (stamps_take HTO.out) ⟨s1, t1, rfl, hc1, r1⟩ (HR2.out.1 (by trivial)).1).mono ?_
        rintro e w3 ⟨⟨r, rfl, hr3⟩, b3⟩
        replace hW := hW.below b3
        replace hz := hz.below b3
        replace d0 := cell_on b3 hlt2 d0
        replace d1 := cell_on b3 hlt2 d1
        have B3 : Below w.heap.size w w3 := B2.trans (b3.mono B2.size)
        have HR3 : Hid (r = true ↔ ∀ h : 0 < (l.take k).length, AboveP ((l.take k)[(l.take k).length - 1]'(by omega)).2 l[k].2) := hr3
        clear hr3 b3 B2 hlt2
        cases r
        · have HN : Hid (¬ WinP l) := fun h => by
            have h3 := HR3.out.2 (take_above h hlt)
            simp at h3
          obtain ⟨z0, z1, z2, z3, z4, z5, z6, z7, z8, z9⟩ := hz.cells
          obtain ⟨y0, y1, y2, y3, y4, y5, y6, y7, y8, y9⟩ := hz.free
          have HY : Hid _ := put10_cells hz (.int .i64 0) (.slice none 0 0) (.int .i64 0) (.slice none 0 0) (.int .i64 0) (.slice none 0 0) (.int .i64 0) (.slice none 0 0) (.int .i64 0) (.int .i64 0)
          clear HR2 HR3 hz hW
          go_wp2_with fail
          obtain ⟨Y0, Y1, Y2, Y3, Y4, Y5, Y6, Y7, Y8, Y9⟩ := HY.out
          unfold put10 at Y0 Y1 Y2 Y3 Y4 Y5 Y6 Y7 Y8 Y9
          exact bodyPost_ret (v := .tuple #[.agg zero10, .bool false]) (by simp [results, Try.results51, go_sem, Y0, Y1, Y2, Y3, Y4, Y5, Y6, Y7, Y8, Y9]) rfl ⟨.inr ⟨_, rfl, HN.out, winV_zero _⟩, put10_below B3 (Nat.le_refl _) _ _ _ _ _ _ _ _ _ _⟩
        · have HST : Hid (WinTo l (k + 1)) := winTo_step HTO.out hlt (HR2.out.1 (by trivial)) (fun h => above_take hlt h (HR3.out.1 (by trivial)))
          have HT : Hid (l.take (k + 1) = l.take k ++ [(l[k].1, l[k].2)]) := List.take_succ_eq_append_getElem hlt
          clear HR2 HR3 HTO
          go_wp2_with fail
          refine (push_room W0 w3 _ 0 (l.take k) l[k].1 _ l[k].2 hW ⟨s1, t1, rfl, hc1, r1⟩ (by rw [List.length_take]; omega)).mono ?_
          rintro e w4 ⟨rfl, hW4, b4⟩
          have hz4 := hz.but b4 (by omega)
          have B4 : Below w.heap.size w w4 := B3.trans (b4.below (by omega) B3.size)
          clear hW hz d0 d1 b4
          go_wp2_with fail
          exact ⟨⟨k + 1, by omega, by go_num, by rw [HT.out]; exact hW4, HST, hz4, B4⟩, by simp [intOf]; omega⟩
    · have HF : Hid (WinP l) := winP_of HTO.out hlt (by omega)
      rw [List.take_of_length_le (by omega)] at hW
      obtain ⟨z0, z1, z2, z3, z4, z5, z6, z7, z8, z9⟩ := hz.cells
      obtain ⟨y0, y1, y2, y3, y4, y5, y6, y7, y8, y9⟩ := hz.free
      obtain ⟨_, _, _, f, ⟨hrow, hsh⟩, e8, e9, hf'⟩ := hW
      obtain ⟨x0, a0, n0, c0, p0, p1⟩ := hsh 0 (by omega)
      obtain ⟨x1, a1, n1, c1, p2, p3⟩ := hsh 1 (by omega)
      obtain ⟨x2, a2, n2, c2, p4, p5⟩ := hsh 2 (by omega)
      obtain ⟨x3, a3, n3, c3, p6, p7⟩ := hsh 3 (by omega)
      have HV : Hid (WinV W0 (.agg #[.int .i64 x0, .slice a0 n0 c0, .int .i64 x1, .slice a1 n1 c1, .int .i64 x2, .slice a2 n2 c2, .int .i64 x3, .slice a3 n3 c3, .int .i64 0, .int .i64 l.length]) l) := winV_of (by omega) p0 p1 p2 p3 p4 p5 p6 p7 hf'
      have r0 : wr.cell? ⟨w.heap.size + 1, 0, none⟩ = some (.int .i64 x0) := by rw [hrow.cell (by omega), ← p0]
      have r1 : wr.cell? ⟨w.heap.size + 1, 1, none⟩ = some (.slice a0 n0 c0) := by rw [hrow.cell (by omega), ← p1]
      have r2 : wr.cell? ⟨w.heap.size + 1, 2, none⟩ = some (.int .i64 x1) := by rw [hrow.cell (by omega), ← p2]
      have r3 : wr.cell? ⟨w.heap.size + 1, 3, none⟩ = some (.slice a1 n1 c1) := by rw [hrow.cell (by omega), ← p3]
      have r4 : wr.cell? ⟨w.heap.size + 1, 4, none⟩ = some (.int .i64 x2) := by rw [hrow.cell (by omega), ← p4]
      have r5 : wr.cell? ⟨w.heap.size + 1, 5, none⟩ = some (.slice a2 n2 c2) := by rw [hrow.cell (by omega), ← p5]
      have r6 : wr.cell? ⟨w.heap.size + 1, 6, none⟩ = some (.int .i64 x3) := by rw [hrow.cell (by omega), ← p6]
      have r7 : wr.cell? ⟨w.heap.size + 1, 7, none⟩ = some (.slice a3 n3 c3) := by rw [hrow.cell (by omega), ← p7]
      have r8 : wr.cell? ⟨w.heap.size + 1, 8, none⟩ = some (.int .i64 0) := by rw [hrow.cell (by omega), e8]; rfl
      have r9 : wr.cell? ⟨w.heap.size + 1, 9, none⟩ = some (.int .i64 l.length) := by rw [hrow.cell (by omega), e9]
      have HY : Hid _ := put10_cells hz (.int .i64 x0) (.slice a0 n0 c0) (.int .i64 x1) (.slice a1 n1 c1) (.int .i64 x2) (.slice a2 n2 c2) (.int .i64 x3) (.slice a3 n3 c3) (.int .i64 0) (.int .i64 l.length)
      clear HTO hz hrow hsh e8 e9 hf' p0 p1 p2 p3 p4 p5 p6 p7 f
      go_wp2_with fail
      obtain ⟨Y0, Y1, Y2, Y3, Y4, Y5, Y6, Y7, Y8, Y9⟩ := HY.out
      unfold put10 at Y0 Y1 Y2 Y3 Y4 Y5 Y6 Y7 Y8 Y9
      exact bodyPost_ret (v := .tuple #[.agg #[.int .i64 x0, .slice a0 n0 c0, .int .i64 x1, .slice a1 n1 c1, .int .i64 x2, .slice a2 n2 c2, .int .i64 x3, .slice a3 n3 c3, .int .i64 0, .int .i64 l.length], .bool true]) (by simp [results, Try.results51, go_sem, Y0, Y1, Y2, Y3, Y4, Y5, Y6, Y7, Y8, Y9]) rfl ⟨.inl ⟨_, rfl, HF.out, HV.out⟩, put10_below hb (Nat.le_refl _) _ _ _ _ _ _ _ _ _ _⟩

end Go.Proofs.Ytpfhegengmlkmac
