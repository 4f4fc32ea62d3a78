/- Texts of this claim, one behind the other. -/
import Derived.Deep.LoopGhost
import Derived.Test.YtpfhegengmlkmaaGreatZK15
import Derived.Test.YtpfhegengmlkmaaGreatZK19
import Derived.Test.YtpfhegengmlkmaaGreatZK25
import Derived.Test.YtpfhegengmlkmaaGreatZK28
import Derived.Test.YtpfhegengmlkmaaGreatZK30
import Derived.Test.YtpfhegengmlkmaaGreatZK40
namespace Go.Proofs.YtpfhegengmlkmaaGreat
open Go.RowKit Go.BigFrame
set_option maxRecDepth 100000

theorem take_set_next {ps : List Int} {k : Nat} (hk : k < ps.length) (v : Int) : (List.replicate k 0 ++ ps.drop k).set k v = List.replicate k 0 ++ v :: ps.drop (k + 1) := by
  rw [List.set_append_right _ _ (by simp), List.length_replicate, Nat.sub_self, List.drop_eq_getElem_cons hk]
  rfl
theorem next_zero {ps : List Int} {k : Nat} (v : Int) : (List.replicate k 0 ++ v :: ps.drop (k + 1)).set k 0 = List.replicate (k + 1) 0 ++ ps.drop (k + 1) := by
  rw [List.set_append_right _ _ (by simp), List.length_replicate, Nat.sub_self, List.replicate_succ']
  simp
/-- The lengths of windows. -/
def lensN (ws : List (List ItemL)) : List Nat := ws.map List.length
theorem NumB.own {w : World} {B g n cap : Nat} {l : List Int} (h : w.ownsRow B 3 1 (.slice (some ⟨g, 0, none⟩) n cap) n (l.map fun x => .int .i64 x)) (hn : n = l.length) : B ≤ g ∧ NumB w g l := by
  subst hn
  exact ⟨(GathN.block (show GathN w B _ l from h)).1, (GathN.block (show GathN w B _ l from h)).2⟩

set_option maxHeartbeats 1600000 in
theorem bsNext_any (a ap : Option Addr) (cap cp : Nat) (ws : List (List ItemL)) (ps : List Int) (w : World) (h6 : ws.length ≤ 6) (hw5 : ∀ k, (h : k < ws.length) → ws[k].length ≤ 5) (h1 : 1 ≤ ps.length) (hl : ps.length = ws.length) (hr : RowW w a ws) (hp : RowZ w ap ps) (hI : InR (lensN ws) ps) :
    Calls Tryz.prog 12 #[.slice a ws.length cap, .slice ap ps.length cp] w fun e w' => (∃ g c qs r, e = .returned (.tuple #[.slice (some ⟨g, 0, none⟩) (List.length qs) c, .bool r]) ∧ qs.length = ps.length ∧ w.heap.size ≤ g ∧ NumB w' g qs ∧ (r = true → InR (lensN ws) qs ∧ radV (lensN ws) qs = radV (lensN ws) ps + 1)) ∧ Below w.heap.size w w' := by
  obtain ⟨i0, hi, hz0, hz1, hz2⟩ := info_parts Tryz.infoZ
  obtain ⟨b0, o0, rfl, hb0, hx0⟩ := hp 0 (by omega)
  clear hx0
  have hba : Below w.heap.size w (w.alloc (.cells #[] 3)) := (Below.refl _ _).alloc (Nat.le_refl _) _
  have hown : (w.alloc (.cells #[] 3)).ownsRow w.heap.size 3 1 (.slice (some ⟨w.heap.size, 0, none⟩) 0 0) 0 [] := ⟨by simp, .inr ⟨w.heap.size, 0, #[], rfl, Nat.le_refl _, heap_alloc_new w _, by simp, by unfold maxLen; omega, by simp, by simp⟩⟩
  have hnews : ∀ j u, (ps.map fun x => (.int .i64 x : Value))[j]? = some u → (w.alloc (.cells #[] 3)).cell? ((⟨b0, o0, none⟩ : Addr).add j) = some u := fun j u hu => by
    have hj : j < ps.length := by
      have := (List.getElem?_eq_some_iff.1 hu).1
      simpa using this
    obtain ⟨b, o, e, _, hc⟩ := hp.below hba j hj
    obtain ⟨rfl, rfl⟩ : b0 = b ∧ o0 = o := by simpa using e
    have e1 : (ps.map fun x => (.int .i64 x : Value))[j]? = some (.int .i64 ps[j]) := by simp [hj]
    rw [e1] at hu
    have ea : (⟨b0, o0, none⟩ : Addr).add j = ⟨b0, o0 + j, none⟩ := by
      by_cases h0 : j = 0
      · subst h0; simp [Addr.add]
      · simp [Addr.add, h0]
    rw [← Option.some.inj hu, ea]
    exact hc
  have HL : Hid (ps.length = ws.length) := hl
  have HI : Hid (InR (lensN ws) ps) := hI
  have hp6 : ps.length ≤ 6 := by omega
  clear hl hI
  go_enter Tryz.func12, Tryz.ntmps12
  go_wp2_with (at_builtin; refine wpList_append_lies _ rfl _ _ 25 rfl w.heap.size 3 i0 (.int .i64 0) 1 8 Tryz.underlying25 hi hz0 hz1 hz2 rfl (by decide) _ _ _ rfl hown ⟨b0, o0, none⟩ ps.length cp (ps.map fun x => .int .i64 x) rfl (by simp) hnews (by simp [Value.oneCell']) (by omega) (by unfold maxLen; omega) (by omega) (by simp) _ rfl ?_; intro g c1 w1 hown1 hgr1 _ _)
  have B1 : Below w.heap.size w w1 := hba.grown hgr1 (by simp) (own_from hown)
  simp only [Nat.zero_add, List.nil_append] at hown1
  obtain ⟨hge, hnb⟩ := NumB.own hown1 rfl
  have hgl := hnb.lt
  clear hown1 hgr1 hown hnews hba
  go_loopw [7] (fun iv wr => ∃ k : Nat, k ≤ ps.length ∧ iv = .int .i64 k ∧ NumB wr g (List.replicate k 0 ++ ps.drop k) ∧ Hid (∀ j, (h : j < ps.length) → (h' : j < (lensN ws).length) → j < k → ((lensN ws)[j] : Int) ≤ ps[j] + 1) ∧ Below w.heap.size w wr) (fun iv _ => ps.length - (intOf iv).toNat)
  case atStart => exact ⟨0, by omega, rfl, by simpa using hnb, fun j _ _ h => absurd h (Nat.not_lt_zero j), B1⟩
  case round =>
    clear hnb hgl B1
    obtain ⟨k, hk, rfl, hnb, HA, hb⟩ := hrel
    have hql : (List.replicate k 0 ++ ps.drop k).length = ps.length := by simp; omega
    by_cases hlt : k < ps.length
    · have hlw : k < ws.length := by have := HL.out; omega
      have hln : k < (lensN ws).length := by simpa [lensN] using hlw
      have eln : (lensN ws)[k] = ws[k].length := by simp [lensN]
      obtain ⟨bw, ow, rfl, hbw, sw, tw, cw, _, _⟩ := hr k hlw
      have hqk : (List.replicate k 0 ++ ps.drop k)[k]'(by omega) = ps[k] := by
        rw [List.getElem_append_right (by simp)]
        simp
      have c0 := hnb.cell (j := k) (by omega)
      rw [hqk] at c0
      have f0 := hnb.frozen k
      have n2 := hnb.set k (ps[k] + 1)
      rw [take_set_next hlt] at n2
      have b2 : Below w.heap.size w (wr.setCell ⟨g, k, none⟩ (.int .i64 (ps[k] + 1))) := hb.setCell hge _
      have cw2 := cell_on b2 hbw cw
      have cg2 := n2.cell (j := k) (by simp)
      have hg2 : (List.replicate k 0 ++ (ps[k] + 1) :: ps.drop (k + 1))[k]'(by simp) = ps[k] + 1 := by
        rw [List.getElem_append_right (by simp)]
        simp
      rw [hg2] at cg2
      have fg2 := n2.frozen k
      have k0 : (0 : Int) ≤ (k : Int) := by omega
      have k1 : (k : Int) < (ps.length : Int) := by omega
      have k2 : (k : Int) < (ws.length : Int) := by omega
      have hps := HI.out.2 k hlt hln
      rw [eln] at hps
      have HB : Hid (NumB (wr.setCell ⟨g, k, none⟩ (.int .i64 (ps[k] + 1))) g (List.replicate k 0 ++ (ps[k] + 1) :: ps.drop (k + 1)) ∧ Below w.heap.size w (wr.setCell ⟨g, k, none⟩ (.int .i64 (ps[k] + 1)))) := ⟨n2, b2⟩
      have HQ2 : Hid ((List.replicate k (0 : Int) ++ (ps[k] + 1) :: ps.drop (k + 1)).length = ps.length) := by unfold Hid; simp; omega
      have hw5k := hw5 k hlw
      have b1' : Below wr.heap.size wr wr := Below.refl _ _
      clear hnb hg2 hqk hql
      by_cases hn : ps[k] + 1 < (ws[k].length : Int)
      · have HR : Hid (InR (lensN ws) (List.replicate k 0 ++ (ps[k] + 1) :: ps.drop (k + 1)) ∧ radV (lensN ws) (List.replicate k 0 ++ (ps[k] + 1) :: ps.drop (k + 1)) = radV (lensN ws) ps + 1) := rad_next k hlt hln HI.out HA.out (by rw [eln]; exact hn)
        clear n2 b2 eln hln b1'
        go_wp2_with fail
        go_quiet (fail)
        go_wp2_with fail
        exact bodyPost_ret (v := .tuple #[.slice (some ⟨g, 0, none⟩) ps.length c1, .bool true]) (by simp [results, Tryz.results12, go_sem]) rfl ⟨⟨g, c1, _, true, by rw [HQ2.out], HQ2.out, hge, by obtain ⟨m, f, h, hf⟩ := HB.out.1; exact ⟨m, f, h.of_block rfl, hf⟩, fun _ => HR.out⟩, below_drewN HB.out.2 _⟩
      · have HA2 : Hid (∀ j, (h : j < ps.length) → (h' : j < (lensN ws).length) → j < k + 1 → ((lensN ws)[j] : Int) ≤ ps[j] + 1) := fun j h h' hj => by
          by_cases e : j = k
          · subst e
            rw [eln]
            omega
          · exact HA.out j h h' (by omega)
        have n3 := n2.set k 0
        rw [next_zero] at n3
        have b3 := b2.setCell (p := ⟨g, k, none⟩) hge (.int .i64 0)
        have HB3 : Hid (NumB ((wr.setCell ⟨g, k, none⟩ (.int .i64 (ps[k] + 1))).setCell ⟨g, k, none⟩ (.int .i64 0)) g (List.replicate (k + 1) 0 ++ ps.drop (k + 1)) ∧ Below w.heap.size w ((wr.setCell ⟨g, k, none⟩ (.int .i64 (ps[k] + 1))).setCell ⟨g, k, none⟩ (.int .i64 0))) := ⟨n3, b3⟩
        clear n2 b2 eln hln b1' n3 b3
        go_wp2_with fail
        go_quiet (fail)
        go_wp2_with fail
        have b4 : Below w.heap.size w (((wr.setCell ⟨g, k, none⟩ (.int .i64 (ps[k] + 1))).drewN nq).setCell ⟨g, k, none⟩ (.int .i64 0)) := (below_drewN HB.out.2 nq).setCell hge _
        exact ⟨⟨k + 1, by omega, by go_num, by obtain ⟨m, f, h, hf⟩ := HB3.out.1; exact ⟨m, f, h.of_block rfl, hf⟩, HA2, b4⟩, by simp [intOf]; omega⟩
    · obtain rfl : k = ps.length := by omega
      have HE : Hid (NumB wr g (List.replicate ps.length 0) ∧ (List.replicate ps.length (0 : Int)).length = ps.length) := by
        unfold Hid
        refine ⟨?_, by simp⟩
        simpa using hnb
      clear hnb hql
      go_wp2_with fail
      exact bodyPost_ret (v := .tuple #[.slice (some ⟨g, 0, none⟩) ps.length c1, .bool false]) (by simp [results, Tryz.results12, go_sem]) rfl ⟨⟨g, c1, _, false, by rw [HE.out.2], HE.out.2, hge, HE.out.1, fun e => by cases e⟩, hb⟩

theorem inR_zero {ws : List (List ItemL)} (h : ∀ k, (h : k < ws.length) → 0 < ws[k].length) : InR (lensN ws) (List.replicate ws.length 0) := ⟨by simp [lensN], fun i h1 h2 => by
  have hi : i < ws.length := by simpa using h1
  have := h i hi
  simp [lensN]
  exact this⟩
theorem numB_zero (w : World) (n : Nat) : NumB (w.alloc (.cells (madeCells #[.int .i64 0] n) 3)) w.heap.size (List.replicate n 0) :=
  ⟨n, fun _ => .int .i64 0, World.rowIs_made w (.int .i64 0) n 3, by simp, fun j hj => by simp⟩

end Go.Proofs.YtpfhegengmlkmaaGreat

namespace Go.Proofs.YtpfhegengmlkmaaGreat
open Go.RowKit Go.BigFrame
set_option maxRecDepth 100000

/-- The next choice: from place i down to the first. -/
def stepM (ws : List (List ItemL)) : Nat → List Int → List Int
  | 0, ps => ps.set 0 (ps.getD 0 0 + 1)
  | i + 1, ps => if ps.getD (i + 1) 0 + 1 < ((ws.getD (i + 1) []).length : Int) then ps.set (i + 1) (ps.getD (i + 1) 0 + 1) else stepM ws i (ps.set (i + 1) 0)

theorem stepM_pos (ws : List (List ItemL)) {k : Nat} (h : k ≠ 0) (ps : List Int) : stepM ws k ps = if ps.getD k 0 + 1 < ((ws.getD k []).length : Int) then ps.set k (ps.getD k 0 + 1) else stepM ws (k - 1) (ps.set k 0) := by
  cases k with
  | zero => exact absurd rfl h
  | succ i => rfl

set_option maxHeartbeats 1600000 in
/-- The windows and the spots lie below block g; the places at it. -/
theorem step_any (W0 w0 w : World) (b g c : Nat) (ws : List (List ItemL)) (sh : List (List Spot)) (ps : List Int) (h : ChB W0 w0 b ws sh) (hw0 : w0.heap.size ≤ g) (hb0 : Below w0.heap.size w0 w) (h6 : ws.length ≤ 6) (h4 : ∀ k, (h : k < ws.length) → ws[k].length ≤ 4) (hl : ps.length = ws.length) (h0 : 0 < ps.length) (hin : InW ws ps) (hn : NumB w g ps) :
    Calls Tryz.prog 49 #[.pointer (some ⟨b, 0, none⟩), .slice (some ⟨g, 0, none⟩) ps.length c] w fun e w' => (∃ v, e = .returned v) ∧ NumB w' g (stepM ws (ps.length - 1) ps) ∧ But g w w' := by
  have HL : Hid (ps.length = ws.length) := hl
  have HIN : Hid (InW ws ps) := hin
  have hp6 : ps.length ≤ 6 := by omega
  clear hl hin
  go_enter Tryz.func49, Tryz.ntmps49
  go_wp2_with fail
  go_loopw [4] (fun i wr => ∃ (k : Nat) (qs : List Int), k < ps.length ∧ i = .int .i64 k ∧ qs.length = ps.length ∧ Hid (stepM ws k qs = stepM ws (ps.length - 1) ps) ∧ Hid (∀ j, (h : j < qs.length) → -4 ≤ qs[j] ∧ qs[j] ≤ 4) ∧ NumB wr g qs ∧ But g w wr) (fun i _ => (intOf i).toNat)
  case atStart => exact ⟨ps.length - 1, ps, by omega, by congr 1; omega, rfl, rfl, fun j hj => by
    have h1 := HIN.out.2 j hj
    have hw : j < ws.length := by rw [← HL.out]; exact hj
    have e : ws.getD j [] = ws[j] := by simp [List.getD, hw]
    rw [e] at h1
    have := h4 j hw
    omega, hn, But.refl _ _⟩
  case round =>
    obtain ⟨k, qs, hk, rfl, hql, HS, HB, hnb, hbut⟩ := hrel
    have HQL : Hid (qs.length = ps.length) := hql
    have hkq : k < qs.length := by omega
    have hkw : k < ws.length := by rw [← HL.out]; exact hk
    have p0 := hnb.cell hkq
    have p1 := hnb.frozen k
    have k0 : (0 : Int) ≤ (k : Int) := by omega
    have k1 : (k : Int) < (ps.length : Int) := by omega
    have hbd := HB.out k hkq
    have q0 := hbd.1
    have q1 := hbd.2
    have hset := hnb.set k (qs[k] + 1)
    have hB' : Below w0.heap.size w0 wr := hb0.trans (hbut.below hw0 hb0.size)
    clear hql hbd
    go_wp2_with fail
    have hbw : Below wr.heap.size wr wr := Below.refl _ _
    have hset0 : Below w0.heap.size w0 (wr.setCell ⟨g, k, none⟩ (.int .i64 (qs[k] + 1))) := hB'.setCell hw0 _
    have hbut2 := hbut.setCell k (.int .i64 (qs[k] + 1))
    generalize wr.setCell ⟨g, k, none⟩ (.int .i64 (qs[k] + 1)) = W at *
    have hcb := h.below hset0
    obtain ⟨hbb, va, vc, va', vc', e0, _, _, _, hv, _⟩ := hcb
    obtain ⟨gv, ov, rfl, hwo⟩ := hv k hkw
    have hne := Lat.some W
    have k2 : (k : Int) < (ws.length : Int) := by omega
    have hkm : k < (qs.set k (qs[k] + 1)).length := by rw [List.length_set]; exact hkq
    have p2 := hset.cell hkm
    rw [List.getElem_set_self] at p2
    have n0 : ∀ n : Lat W, n.w.cell? ⟨g, k, none⟩ = some (.int .i64 (qs[k] + 1)) := fun n => n.cell hset.lt p2
    have n1 : ∀ n : Lat W, n.w.cell? ⟨b, 0, none⟩ = some (.slice (some ⟨gv, ov, none⟩) ws.length vc) := fun n => n.cell hbb e0
    have ce : ∀ n : Lat W, Calls Tryz.prog 50 #[.pointer (some ⟨gv, ov + k * 10, none⟩)] n.w fun e w' => e = .returned (.int .i64 (ws[k].length : Int)) ∧ Below n.w.heap.size n.w w' := fun n => (size_off W0 n.w gv (ov + k * 10) ws[k] (hwo.below n.h)).mono fun e w' ⟨h1, h2⟩ => ⟨h1, by rw [h2]; exact Below.refl _ _⟩
    by_cases hz : k = 0
    · subst hz
      refine wp_region_lat (by kernel_rfl) (by kernel_rfl) ?_
      repeat (go_big_quiet_step ((go_at_call 50; exact Calls.lat_of (ce _))))
      refine wpQuiet_nil ?_
      rintro _ ⟨nq, rfl⟩
      have HE : Hid (qs.set 0 (qs[0] + 1) = stepM ws (ps.length - 1) ps) := by
        unfold Hid
        rw [← HS.out]
        simp [stepM, List.getD, hkq]
      go_wp2_with fail
      exact bodyPost_ret (v := .tuple #[]) (by simp [results, Tryz.results49, go_sem]) rfl ⟨⟨_, rfl⟩, by rw [← HE.out]; exact hset.below nq.h, hbut2.trans (But.of_below nq.h)⟩
    · have hz' : ((k : Int) == 0) = false := by rw [beq_eq_false_iff_ne]; omega
      have eg : qs.getD k 0 = qs[k] := by simp [List.getD, hkq]
      have ew : ws.getD k [] = ws[k] := by simp [List.getD, hkw]
      by_cases hc : qs[k] + 1 < (ws[k].length : Int)
      · have HE : Hid (qs.set k (qs[k] + 1) = stepM ws (ps.length - 1) ps) := by
          unfold Hid
          rw [← HS.out]
          rw [stepM_pos ws hz, eg, ew, if_pos hc]
        have hc' : decide (qs[k] + 1 < (ws[k].length : Int)) = true := decide_eq_true hc
        have hz1 : 1 ≤ k := by omega
        clear eg ew hz
        refine wp_region_lat (by kernel_rfl) (by kernel_rfl) ?_
        repeat (go_big_quiet_step ((go_at_call 50; exact Calls.lat_of (ce _))))
        refine wpQuiet_nil ?_
        rintro _ ⟨nq, rfl⟩
        go_wp2_with fail
        exact bodyPost_ret (v := .tuple #[]) (by simp [results, Tryz.results49, go_sem]) rfl ⟨⟨_, rfl⟩, by rw [← HE.out]; exact hset.below nq.h, hbut2.trans (But.of_below nq.h)⟩
      · have HE : Hid (stepM ws (k - 1) (qs.set k 0) = stepM ws (ps.length - 1) ps) := by
          unfold Hid
          rw [← HS.out]
          rw [stepM_pos ws hz, eg, ew, if_neg hc]
        have hc' : decide (qs[k] + 1 < (ws[k].length : Int)) = false := decide_eq_false hc
        have hz1 : 1 ≤ k := by omega
        clear eg ew hz
        refine wp_region_lat (by kernel_rfl) (by kernel_rfl) ?_
        repeat (go_big_quiet_step ((go_at_call 50; exact Calls.lat_of (ce _))))
        refine wpQuiet_nil ?_
        rintro _ ⟨nq, rfl⟩
        have hnq := hset.below nq.h
        have p4 := hnq.cell hkm
        have p5 := hnq.frozen k
        have hset2 := hnq.set k 0
        rw [List.set_set] at hset2
        have HB2 : Hid (∀ j, (h : j < (qs.set k 0).length) → -4 ≤ (qs.set k 0)[j] ∧ (qs.set k 0)[j] ≤ 4) := fun j hj => by
          have hj' : j < qs.length := by simpa using hj
          by_cases e : j = k
          · subst e
            rw [List.getElem_set_self]
            omega
          · rw [List.getElem_set_ne (fun h => e h.symm)]
            exact HB.out j hj'
        go_wp2_with fail
        exact ⟨⟨k - 1, qs.set k 0, by omega, by congr 1; omega, by rw [List.length_set]; exact HQL.out, HE, HB2, hset2, (hbut2.trans (But.of_below nq.h)).setCell _ _⟩, by simp [intOf]; omega⟩

end Go.Proofs.YtpfhegengmlkmaaGreat

namespace Go.Proofs.YtpfhegengmlkmaaGreat

/-- All choices from pre ++ t on that begin with pre. -/
def fromL (ws : List (List ItemL)) : List Int → List Int → List (List Int)
  | pre, [] => [pre]
  | pre, x :: t => fromL ws (pre ++ [x]) t ++ ((List.range (ws.getD pre.length []).length).drop (x.toNat + 1)).flatMap fun i : Nat => allL ws t.length (pre ++ [(i : Int)])

theorem range_first {n : Nat} (h : 0 < n) : List.range n = 0 :: (List.range n).drop 1 := by
  cases n with
  | zero => omega
  | succ n => rw [List.range_succ_eq_map]; rfl

/-- From the first places on: all. -/
theorem fromL_zeros {ws : List (List ItemL)} : ∀ (m : Nat) (pre : List Int), (∀ j, pre.length ≤ j → j < pre.length + m → 0 < (ws.getD j []).length) → fromL ws pre (List.replicate m 0) = allL ws m pre
  | 0, pre, _ => rfl
  | m + 1, pre, h => by
    have h0 := h pre.length (Nat.le_refl _) (by omega)
    have ih := fromL_zeros (ws := ws) m (pre ++ [0]) (fun j h1 h2 => h j (by simp at h1; omega) (by simp at h2; omega))
    rw [List.replicate_succ]
    simp only [fromL, allL, List.length_replicate]
    rw [ih]
    conv => rhs; rw [range_first h0]
    rw [List.flatMap_cons]
    rfl

/-- The places of the next choice, from window d on; none behind the last. -/
def nxtT (ws : List (List ItemL)) : Nat → List Int → Option (List Int)
  | _, [] => none
  | d, x :: t => match nxtT ws (d + 1) t with
    | some t' => some (x :: t')
    | none => if x + 1 < ((ws.getD d []).length : Int) then some ((x + 1) :: List.replicate t.length 0) else none
theorem nxtT_len {ws : List (List ItemL)} : ∀ (t : List Int) (d : Nat) (r : List Int), nxtT ws d t = some r → r.length = t.length
  | [], d, r, h => by simp [nxtT] at h
  | x :: t, d, r, h => by
    simp only [nxtT] at h
    cases hn : nxtT ws (d + 1) t with
    | some t' =>
      rw [hn] at h
      have := nxtT_len t (d + 1) t' hn
      simp only [Option.some.injEq] at h
      rw [← h]
      simp [this]
    | none =>
      rw [hn] at h
      simp only at h
      split at h
      · simp only [Option.some.injEq] at h
        rw [← h]
        simp
      · cases h

theorem drop_range {n i : Nat} (h : i < n) : (List.range n).drop i = i :: (List.range n).drop (i + 1) := by
  rw [List.drop_eq_getElem_cons (by simpa using h)]
  simp

/-- The choices from one on: itself, then those from the next on. -/
theorem fromL_next {ws : List (List ItemL)} : ∀ (t pre : List Int), (∀ j, pre.length ≤ j → j < pre.length + t.length → 0 < (ws.getD j []).length) → (∀ x ∈ t, 0 ≤ x) → fromL ws pre t = (pre ++ t) :: (match nxtT ws pre.length t with | some t' => fromL ws pre t' | none => [])
  | [], pre, _, _ => by simp [fromL, nxtT]
  | x :: t, pre, h, hx => by
    have hx0 := hx x (by simp)
    have ih := fromL_next (ws := ws) t (pre ++ [x]) (fun j h1 h2 => h j (by simp at h1; omega) (by simp at h2 ⊢; omega)) (fun y hy => hx y (by simp [hy]))
    have hl : (pre ++ [x]).length = pre.length + 1 := by simp
    rw [hl] at ih
    simp only [fromL, nxtT]
    rw [ih]
    cases hn : nxtT ws (pre.length + 1) t with
    | some t' =>
      have hlen := nxtT_len t _ t' hn
      simp only [fromL, hlen]
      simp
    | none =>
      simp only
      by_cases hc : x + 1 < ((ws.getD pre.length []).length : Int)
      · rw [if_pos hc]
        have e1 : x.toNat + 1 < (ws.getD pre.length []).length := by omega
        have e2 : (((x.toNat + 1 : Nat) : Int)) = x + 1 := by omega
        have e3 : (x + 1).toNat + 1 = x.toNat + 1 + 1 := by omega
        have hz := fromL_zeros (ws := ws) t.length (pre ++ [x + 1]) (fun j h1 h2 => h j (by simp at h1; omega) (by simp at h2 ⊢; omega))
        simp only [fromL, List.length_replicate]
        rw [drop_range e1, List.flatMap_cons, e2, hz, e3]
        simp
      · rw [if_neg hc]
        have e1 : (ws.getD pre.length []).length ≤ x.toNat + 1 := by omega
        rw [List.drop_eq_nil_of_le (by simpa using e1)]
        simp

theorem getD_mid (pre t : List Int) (x : Int) : (pre ++ x :: t).getD pre.length 0 = x := by simp [List.getD]
theorem set_mid (pre t : List Int) (x y : Int) : (pre ++ x :: t).set pre.length y = pre ++ y :: t := by simp

/-- step goes on to the next one. -/
theorem stepM_tail {ws : List (List ItemL)} : ∀ (t pre : List Int), pre ≠ [] → stepM ws (pre.length + t.length - 1) (pre ++ t) = match nxtT ws pre.length t with | some t' => pre ++ t' | none => stepM ws (pre.length - 1) (pre ++ List.replicate t.length 0)
  | [], pre, _ => by simp [nxtT]
  | x :: t, pre, hp => by
    have hpos : pre.length ≠ 0 := fun h => hp (List.length_eq_zero_iff.1 h)
    have ih := stepM_tail (ws := ws) t (pre ++ [x]) (by simp)
    have hl : (pre ++ [x]).length = pre.length + 1 := by simp
    rw [hl] at ih
    have e1 : pre.length + (x :: t).length - 1 = pre.length + 1 + t.length - 1 := by simp only [List.length_cons]; omega
    have e2 : pre ++ x :: t = (pre ++ [x]) ++ t := by simp
    rw [e1, e2, ih]
    simp only [nxtT]
    cases hn : nxtT ws (pre.length + 1) t with
    | some t' => simp
    | none =>
      simp only
      have e3 : (pre ++ [x]) ++ List.replicate t.length 0 = pre ++ x :: List.replicate t.length 0 := by simp
      have e4 : pre.length + 1 - 1 = pre.length := by omega
      rw [e3, e4, stepM_pos ws hpos, getD_mid, set_mid, set_mid]
      by_cases hc : x + 1 < ((ws.getD pre.length []).length : Int)
      · rw [if_pos hc, if_pos hc]
      · rw [if_neg hc, if_neg hc]
        simp [List.replicate_succ]
theorem stepM_next {ws : List (List ItemL)} (x : Int) (t : List Int) : match nxtT ws 0 (x :: t) with | some r => stepM ws ((x :: t).length - 1) (x :: t) = r | none => ¬ x + 1 < ((ws.getD 0 []).length : Int) ∧ stepM ws ((x :: t).length - 1) (x :: t) = (x + 1) :: List.replicate t.length 0 := by
  have h := stepM_tail (ws := ws) t [x] (by simp)
  have e1 : [x].length + t.length - 1 = (x :: t).length - 1 := by simp only [List.length_cons, List.length_nil]; omega
  have e2 : [x] ++ t = x :: t := rfl
  have e3 : [x].length = 0 + 1 := rfl
  rw [e1, e2, e3] at h
  simp only [nxtT]
  cases hn : nxtT ws (0 + 1) t with
  | some t' =>
    rw [hn] at h
    simpa using h
  | none =>
    rw [hn] at h
    simp only at h ⊢
    have h2 : stepM ws (0 + 1 - 1) ([x] ++ List.replicate t.length 0) = (x + 1) :: List.replicate t.length 0 := by
      show stepM ws 0 (x :: List.replicate t.length 0) = _
      simp [stepM]
    rw [h2] at h
    by_cases hc : x + 1 < ((ws.getD 0 []).length : Int)
    · rw [if_pos hc]
      exact h
    · rw [if_neg hc]
      exact ⟨hc, h⟩

end Go.Proofs.YtpfhegengmlkmaaGreat

namespace Go.Proofs.YtpfhegengmlkmaaGreat

theorem stepM_len (ws : List (List ItemL)) : ∀ (i : Nat) (ps : List Int), (stepM ws i ps).length = ps.length
  | 0, ps => by simp [stepM]
  | i + 1, ps => by
    simp only [stepM]
    split
    · simp
    · rw [stepM_len ws i]; simp

theorem allL_none {ws : List (List ItemL)} : ∀ (m : Nat) (pre : List Int), (∃ j, pre.length ≤ j ∧ j < pre.length + m ∧ (ws.getD j []).length = 0) → allL ws m pre = []
  | 0, pre, ⟨j, h1, h2, _⟩ => by omega
  | m + 1, pre, ⟨j, h1, h2, h3⟩ => by
    simp only [allL]
    by_cases e : j = pre.length
    · subst e
      rw [h3]
      rfl
    · refine List.flatMap_eq_nil_iff.2 fun i _ => allL_none m _ ⟨j, ?_, ?_, h3⟩
      · simp; omega
      · simp; omega

/-- Each place within its window, from window d on. -/
def InF (ws : List (List ItemL)) : Nat → List Int → Prop
  | _, [] => True
  | d, x :: t => 0 ≤ x ∧ x < ((ws.getD d []).length : Int) ∧ InF ws (d + 1) t

theorem inF_iff {ws : List (List ItemL)} : ∀ (t : List Int) (d : Nat), InF ws d t ↔ ∀ i, (h : i < t.length) → 0 ≤ t[i] ∧ t[i] < ((ws.getD (d + i) []).length : Int)
  | [], d => by simp [InF]
  | x :: t, d => by
    simp only [InF, inF_iff t (d + 1)]
    constructor
    · rintro ⟨h1, h2, h3⟩ i hi
      cases i with
      | zero => exact ⟨h1, h2⟩
      | succ i =>
        have := h3 i (by simpa using hi)
        rw [show d + 1 + i = d + (i + 1) by omega] at this
        simpa using this
    · intro h
      refine ⟨(h 0 (by simp)).1, (h 0 (by simp)).2, fun i hi => ?_⟩
      have := h (i + 1) (by simpa using hi)
      rw [show d + (i + 1) = d + 1 + i by omega] at this
      simpa using this

theorem inF_zeros {ws : List (List ItemL)} : ∀ (m d : Nat), (∀ j, d ≤ j → j < d + m → 0 < (ws.getD j []).length) → InF ws d (List.replicate m 0)
  | 0, d, _ => trivial
  | m + 1, d, h => by
    rw [List.replicate_succ]
    have := h d (Nat.le_refl _) (by omega)
    exact ⟨by omega, by omega, inF_zeros m (d + 1) fun j h1 h2 => h j (by omega) (by omega)⟩

theorem inF_next {ws : List (List ItemL)} : ∀ (t : List Int) (d : Nat) (r : List Int), InF ws d t → nxtT ws d t = some r → InF ws d r
  | [], d, r, _, h => by simp [nxtT] at h
  | x :: t, d, r, hi, h => by
    simp only [nxtT] at h
    obtain ⟨h1, h2, h3⟩ := hi
    cases hn : nxtT ws (d + 1) t with
    | some t' =>
      rw [hn] at h
      simp only [Option.some.injEq] at h
      subst h
      exact ⟨h1, h2, inF_next t (d + 1) t' h3 hn⟩
    | none =>
      rw [hn] at h
      simp only at h
      split at h
      · rename_i hc
        simp only [Option.some.injEq] at h
        subst h
        refine ⟨by omega, hc, inF_zeros _ _ fun j h4 h5 => ?_⟩
        have := (inF_iff t (d + 1)).1 h3 (j - (d + 1)) (by omega)
        rw [show d + 1 + (j - (d + 1)) = j by omega] at this
        omega
      · cases h

open Classical in
/-- What is still to come, from some places on. -/
noncomputable def restL (ws : List (List ItemL)) (cur : List Int) : List (List Int) := if InW ws cur then fromL ws [] cur else []

theorem rest_in {ws : List (List ItemL)} {cur : List Int} (h : InW ws cur) : restL ws cur = fromL ws [] cur := if_pos h
theorem rest_out {ws : List (List ItemL)} {cur : List Int} (h : ¬ InW ws cur) : restL ws cur = [] := if_neg h

theorem inW_F {ws : List (List ItemL)} {cur : List Int} (hl : cur.length = ws.length) : InW ws cur ↔ InF ws 0 cur := by
  rw [inF_iff]
  simp only [Nat.zero_add]
  exact ⟨fun h => h.2, fun h => ⟨by omega, h⟩⟩

theorem rest_zeros (ws : List (List ItemL)) : restL ws (List.replicate ws.length 0) = allL ws ws.length [] := by
  by_cases h : InW ws (List.replicate ws.length 0)
  · rw [rest_in h]
    refine fromL_zeros _ [] fun j h1 h2 => ?_
    have hj : j < ws.length := by simpa using h2
    have := h.2 j (by simpa using hj)
    simp only [List.getElem_replicate] at this
    omega
  · rw [rest_out h]
    refine (allL_none _ [] ?_).symm
    refine Classical.byContradiction fun hn => h ⟨by simp, fun i hi => ?_⟩
    have hi' : i < ws.length := by simpa using hi
    have : (ws.getD i []).length ≠ 0 := fun e => hn ⟨i, by simp, by simpa using hi', e⟩
    simp only [List.getElem_replicate]
    omega

theorem rest_step {ws : List (List ItemL)} {cur : List Int} (h : InW ws cur) (hl : cur.length = ws.length) (h0 : 0 < ws.length) : restL ws cur = cur :: restL ws (stepM ws (cur.length - 1) cur) := by
  have hF := (inW_F hl).1 h
  cases cur with
  | nil => simp at hl; omega
  | cons x t =>
    have hnx := fromL_next (ws := ws) (x :: t) [] (fun j h1 h2 => by
      have := (inF_iff (x :: t) 0).1 hF j (by simpa using h2)
      rw [Nat.zero_add] at this
      omega) (fun y hy => by
      obtain ⟨j, hj, rfl⟩ := List.mem_iff_getElem.1 hy
      exact ((inF_iff (x :: t) 0).1 hF j hj).1)
    rw [rest_in h, hnx]
    have hs := stepM_next (ws := ws) x t
    have e0 : ([] : List Int).length = 0 := rfl
    rw [e0]
    cases hn : nxtT ws 0 (x :: t) with
    | some r =>
      rw [hn] at hs
      simp only at hs ⊢
      have hr := inF_next (x :: t) 0 r hF hn
      have hrl := nxtT_len (x :: t) 0 r hn
      rw [hs, rest_in ((inW_F (hrl.trans hl)).2 hr)]
      rfl
    | none =>
      rw [hn] at hs
      simp only at hs ⊢
      rw [hs.2, rest_out]
      · rfl
      · intro hi
        have := (hi.2 0 (by simp)).2
        simp only [List.getElem_cons_zero] at this
        exact hs.1 this

end Go.Proofs.YtpfhegengmlkmaaGreat
