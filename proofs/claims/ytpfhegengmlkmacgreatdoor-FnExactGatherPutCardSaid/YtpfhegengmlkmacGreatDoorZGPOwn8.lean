/- Texts of this claim, one behind the other. -/
import Derived.Test.YtpfhegengmlkmacGreatDoorItL
import Derived.Test.YtpfhegengmlkmacGreatDoorMt
import Derived.Test.YtpfhegengmlkmacGreatDoorStrs
import Derived.Test.YtpfhegengmlkmacGreatDoorZGPOwn7
/- Numbers of an answer: marked, and held against the marks. -/
namespace Go.Proofs.YtpfhegengmlkmacGreatDoor
open Go.RowKit Go.BigFrame

/-- The marks of numbers. -/
def numsZ (k : Int) (n : Nat) : List Int := (List.range n).map fun (i : Nat) => k + (i : Int)
theorem numsZ_len (k : Int) (n : Nat) : (numsZ k n).length = n := by simp [numsZ]
theorem numsZ_at (k : Int) (n j : Nat) (h : j < (numsZ k n).length) : (numsZ k n)[j] = k + (j : Int) := by simp [numsZ]

theorem NumB.but {w w' : World} {g b : Nat} {l : List Int} (h : NumB w g l) (hb : But b w w') (hne : g ≠ b) : NumB w' g l := by
  have hlt := h.lt
  obtain ⟨m, f, h, hf⟩ := h
  exact ⟨m, f, h.of_block (hb.block g hlt hne), hf⟩
theorem NumB.span {w w' : World} {g lo hi : Nat} {l : List Int} (h : NumB w g l) (hs : Span lo hi w w') (hd : g < lo ∨ hi ≤ g) : NumB w' g l := by
  have hlt := h.lt
  obtain ⟨m, f, h, hf⟩ := h
  exact ⟨m, f, h.of_block (hs.block g hlt hd), hf⟩
/-- The numbers of an answer lie in a block between two. -/
def SafeZ (w : World) (lo hi : Nat) (a : Option Addr) (l : List Int) : Prop := l = [] ∨ ∃ g, a = some ⟨g, 0, none⟩ ∧ lo ≤ g ∧ g < hi ∧ NumB w g l
theorem SafeZ.row {w : World} {lo hi : Nat} {a : Option Addr} {l : List Int} (h : SafeZ w lo hi a l) : RowZ w a l := by
  rcases h with rfl | ⟨g, rfl, _, _, hn⟩
  · exact fun k hk => absurd hk (Nat.not_lt_zero k)
  · exact hn.row
theorem SafeZ.below {w w' : World} {lo hi : Nat} {a : Option Addr} {l : List Int} (h : SafeZ w lo hi a l) (hb : Below w.heap.size w w') : SafeZ w' lo hi a l := by
  rcases h with rfl | ⟨g, rfl, h1, h2, hn⟩
  · exact .inl rfl
  · exact .inr ⟨g, rfl, h1, h2, hn.below hb⟩
theorem SafeZ.span {w w' : World} {lo hi lo' hi' : Nat} {a : Option Addr} {l : List Int} (h : SafeZ w lo hi a l) (hs : Span lo' hi' w w') (hd : hi ≤ lo' ∨ hi' ≤ lo) : SafeZ w' lo hi a l := by
  rcases h with rfl | ⟨g, rfl, h1, h2, hn⟩
  · exact .inl rfl
  · exact .inr ⟨g, rfl, h1, h2, hn.span hs (by omega)⟩

/-- The first j numbers marked. -/
def mixN (k : Int) (l : List Int) (j : Nat) : List Int := (numsZ k j) ++ l.drop j
theorem mixN_len (k : Int) (l : List Int) {j : Nat} (h : j ≤ l.length) : (mixN k l j).length = l.length := by simp [mixN, numsZ]; omega
theorem mixN_step (k : Int) (l : List Int) {j : Nat} (h : j < l.length) : (mixN k l j).set j (k + (j : Int)) = mixN k l (j + 1) := by
  apply List.ext_getElem
  · rw [List.length_set, mixN_len k l (by omega), mixN_len k l (by omega)]
  · intro i h1 h2
    have hl : i < l.length := by rw [List.length_set, mixN_len k l (by omega)] at h1; exact h1
    rw [List.getElem_set]
    simp only [mixN, List.getElem_append, numsZ_len]
    by_cases e : j = i
    · subst e
      simp [numsZ]
    · simp only [if_neg e]
      by_cases e2 : i < j
      · simp only [e2, ↓reduceDIte, show i < j + 1 by omega]
        simp [numsZ]
      · simp only [e2, ↓reduceDIte, show ¬ i < j + 1 by omega, List.getElem_drop]
        congr 1
        omega

set_option maxHeartbeats 800000 in
theorem markIntS_num (g cap : Nat) (l : List Int) (k : Int) (w : World) (hn : l.length ≤ 1048576) (hk0 : 0 ≤ k) (hk1 : k ≤ 10000000) (ho : NumB w g l) :
    Calls Tryz.prog 33 #[.slice (some ⟨g, 0, none⟩) l.length cap, .int .i64 k] w fun e w' => e = .returned (.int .i64 (k + (l.length : Int))) ∧ NumB w' g (numsZ k l.length) ∧ But g w w' := by
  go_enter Tryz.func33, Tryz.ntmps33
  go_wp2_with fail
  go_loopw [1, 5] (fun kk i wr => ∃ j : Nat, j ≤ l.length ∧ i = .int .i64 j ∧ kk = .int .i64 (k + (j : Int)) ∧ NumB wr g (mixN k l j) ∧ But g w wr) (fun _ i _ => l.length - (intOf i).toNat)
  case atStart => exact ⟨0, Nat.zero_le _, rfl, by simp, by simpa [mixN, numsZ] using ho, But.refl _ _⟩
  case round =>
    obtain ⟨j, hj, rfl, rfl, hnb, hb⟩ := hrel
    by_cases hlt : j < l.length
    · have hv0 := hnb.cell (j := j) (by rw [mixN_len k l (by omega)]; omega)
      have hz0 := hnb.frozen j
      have hset := hnb.set j (k + (j : Int))
      rw [mixN_step k l hlt] at hset
      have j0 : (0 : Int) ≤ (j : Int) := by omega
      have j1 : (j : Int) < (l.length : Int) := by omega
      go_wp2_with fail
      exact ⟨⟨j + 1, by omega, by go_num, by congr 1; omega, hset, hb.setCell _ _⟩, by simp [intOf]; omega⟩
    · obtain rfl : j = l.length := by omega
      have he : mixN k l l.length = numsZ k l.length := by simp [mixN]
      rw [he] at hnb
      go_wp2_with fail
      go_ret
      exact ⟨rfl, hnb, hb⟩

set_option maxHeartbeats 800000 in
theorem markIntS_none (a : Option Addr) (cap : Nat) (k : Int) (w : World) :
    Calls Tryz.prog 33 #[.slice a 0 cap, .int .i64 k] w fun e w' => e = .returned (.int .i64 k) ∧ w' = w := by
  go_enter Tryz.func33, Tryz.ntmps33
  go_wp2_with fail
  go_loopw [1, 5] (fun kk i wr => i = .int .i64 0 ∧ kk = .int .i64 k ∧ wr = w) (fun _ _ _ => 0)
  case atStart => exact ⟨rfl, rfl, rfl⟩
  case round =>
    obtain ⟨rfl, rfl, rfl⟩ := hrel
    go_wp2_with fail
    go_ret
    exact ⟨rfl, rfl⟩
theorem markSafeZ_any (a : Option Addr) (cap lo hi : Nat) (l : List Int) (k : Int) (w : World) (hn : l.length ≤ 1048576) (hk0 : 0 ≤ k) (hk1 : k ≤ 10000000) (hs : SafeZ w lo hi a l) :
    Calls Tryz.prog 33 #[.slice a l.length cap, .int .i64 k] w fun e w' => e = .returned (.int .i64 (k + (l.length : Int))) ∧ SafeZ w' lo hi a (numsZ k l.length) ∧ Span lo hi w w' := by
  rcases hs with rfl | ⟨g, rfl, h1, h2, ho⟩
  · exact (markIntS_none a cap k w).mono fun e w' ⟨he, hw⟩ => ⟨by rw [he]; simp, .inl rfl, by rw [hw]; exact Span.refl _ _ _⟩
  · exact (markIntS_num g cap l k w hn hk0 hk1 ho).mono fun e w' ⟨he, ho', hb⟩ => ⟨he, .inr ⟨g, rfl, h1, h2, ho'⟩, hb.span h1 h2⟩

set_option maxHeartbeats 800000 in
theorem heldIntS_any (a : Option Addr) (cap n : Nat) (k : Int) (w : World) (hn : n ≤ 1048576) (hk0 : 0 ≤ k) (hk1 : k ≤ 10000000) (hr : RowZ w a (numsZ k n)) :
    Calls Tryz.prog 35 #[.slice a n cap, .int .i64 k] w fun e w' => e = .returned (.int .i64 (k + (n : Int))) ∧ Below w.heap.size w w' := by
  go_enter Tryz.func35, Tryz.ntmps35
  go_wp2_with fail
  go_loopw [1, 5] (fun kk i wr => ∃ j : Nat, j ≤ n ∧ i = .int .i64 j ∧ kk = .int .i64 (k + (j : Int)) ∧ Below w.heap.size w wr) (fun _ i _ => n - (intOf i).toNat)
  case atStart => exact ⟨0, Nat.zero_le _, rfl, by simp, Below.refl _ _⟩
  case round =>
    obtain ⟨j, hj, rfl, rfl, hb⟩ := hrel
    by_cases hlt : j < n
    · obtain ⟨b, o, rfl, hblt, c0⟩ := hr.below hb j (by rw [numsZ_len]; exact hlt)
      rw [numsZ_at] at c0
      have j0 : (0 : Int) ≤ (j : Int) := by omega
      have j1 : (j : Int) < (n : Int) := by omega
      go_wp2_with fail
      exact ⟨⟨j + 1, by omega, by go_num, by congr 1; omega, hb⟩, by simp [intOf]; omega⟩
    · obtain rfl : j = n := by omega
      go_wp2_with fail
      go_ret
      exact ⟨rfl, hb⟩

end Go.Proofs.YtpfhegengmlkmacGreatDoor
/- Walks: valsAt, comes of gathers. -/
namespace Go.Proofs.YtpfhegengmlkmacGreatDoor
open Go.RowKit Go.BigFrame
set_option maxRecDepth 100000

theorem valsM_take {ws : List (List ItemL)} {ps : List Int} {k : Nat} (h : k < ps.length) : (valsM ws ps).take (k + 1) = (valsM ws ps).take k ++ [pkV ws ps k] := by
  rw [List.take_succ_eq_append_getElem (by rw [valsM_len]; exact h)]
  simp [valsM]

set_option maxHeartbeats 1600000 in
theorem valsAt_any (a0 a1 a2 a' : Option Addr) (c0 c1 c2 c' n0 n2 : Nat) (ws : List (List ItemL)) (ps : List Int) (w : World) (h6 : ws.length ≤ 6) (r1 : RowW w a1 ws) (hp : ps.length = ws.length) (hin : InW ws ps) (hr' : RowZ w a' ps) (hcap : ∀ k, (h : k < ws.length) → ws[k].length ≤ 1048576) :
    Calls Tryz.prog 99 #[.agg #[.slice a0 n0 c0, .slice a1 ws.length c1, .slice a2 n2 c2], .slice a' ps.length c'] w fun e w' => (∃ g c, e = .returned (.slice (some ⟨g, 0, none⟩) ps.length c) ∧ w.heap.size ≤ g ∧ NumB w' g (valsM ws ps)) ∧ Below w.heap.size w w' := by
  have HP : Hid (ps.length = ws.length) := hp
  have HIN : Hid (InW ws ps) := hin
  have HC : Hid (∀ k, (h : k < ws.length) → ws[k].length ≤ 1048576) := hcap
  have hp6 : ps.length ≤ 6 := by omega
  clear hp hin hcap
  obtain ⟨i0, hi, hy0, hy1, hy2⟩ := info_parts Tryz.infoZ
  have hmk : ∀ u : World, (Instr.makeSlice 37 (.int .i64 0) (.int .i64 (ps.length : Int))).run Tryz.prog u = .ok (.slice (some ⟨u.heap.size, 0, none⟩) 0 ps.length) (u.alloc (.cells (madeCells #[.int .i64 0] ps.length) 3)) := fun u => by
    have h := run_make (P := Tryz.prog) u 37 3 i0 (.int .i64 0) Tryz.underlying37 hi hy0 .i64 .i64 0 (ps.length : Int) (by omega) (by omega) (by rw [hy2]; omega) (by omega)
    simpa [hy1, Value.cells] using h
  have bG : Below w.heap.size w (w.alloc (.cells #[.slice a0 n0 c0, .slice a1 ws.length c1, .slice a2 n2 c2] 36)) := (Below.refl _ _).alloc (Nat.le_refl _) _
  have tG := tri_new w (.slice a0 n0 c0) (.slice a1 ws.length c1) (.slice a2 n2 c2) 36
  have hgz : (w.alloc (.cells #[.slice a0 n0 c0, .slice a1 ws.length c1, .slice a2 n2 c2] 36)).heap.size = w.heap.size + 1 := by simp
  go_enter Tryz.func99, Tryz.ntmps99
  go_wp2_with fail
  generalize w.alloc (.cells #[.slice a0 n0 c0, .slice a1 ws.length c1, .slice a2 n2 c2] 36) = WG at *
  have hg0 : GathN (WG.alloc (.cells (madeCells #[.int .i64 0] ps.length) 3)) WG.heap.size (.slice (some ⟨WG.heap.size, 0, none⟩) 0 ps.length) [] :=
    ⟨rfl, .inr ⟨WG.heap.size, ps.length, madeCells #[.int .i64 0] ps.length, rfl, Nat.le_refl _, heap_alloc_new WG _, Nat.zero_le _, by unfold maxLen; omega, by rw [size_madeCells]; omega, rfl⟩⟩
  have hb0 : Below WG.heap.size WG (WG.alloc (.cells (madeCells #[.int .i64 0] ps.length) 3)) := (Below.refl _ _).alloc (Nat.le_refl _) _
  have HZ : Hid (WG.heap.size = w.heap.size + 1) := hgz
  rw [← hgz]
  clear hgz
  generalize WG.alloc (.cells (madeCells #[.int .i64 0] ps.length) 3) = WA at *
  clear hmk
  go_loopw [5, 13] (fun pv i wr => ∃ k : Nat, k ≤ ps.length ∧ i = .int .i64 k ∧ (∃ g cap, pv = .slice (some ⟨g, 0, none⟩) k cap ∧ GathN wr WG.heap.size (.slice (some ⟨g, 0, none⟩) k cap) ((valsM ws ps).take k)) ∧ Below WG.heap.size WG wr) (fun _ i _ => ps.length - (intOf i).toNat)
  case atStart => exact ⟨0, Nat.zero_le _, rfl, ⟨_, _, rfl, hg0⟩, hb0⟩
  case round =>
    clear hg0 hb0
    obtain ⟨k, hk, rfl, ⟨g, cap, rfl, hgn⟩, hbl⟩ := hrel
    have hz := hbl.size
    have hBw : Below w.heap.size w wr := bG.trans (hbl.mono bG.size)
    have htl : ((valsM ws ps).take k).length = k := by rw [List.length_take, valsM_len]; omega
    by_cases hlt : k < ps.length
    · have hkw : k < ws.length := by rw [← HP.out]; exact hlt
      obtain ⟨bp, op, rfl, hbp, cp⟩ := hr'.below hBw k hlt
      have hpk := HIN.out.2 k hlt
      rw [getD_get _ _ hkw] at hpk
      obtain ⟨q, hq⟩ : ∃ q : Nat, ps[k] = (q : Int) := ⟨ps[k].toNat, by omega⟩
      rw [hq] at cp hpk
      have hqw : q < ws[k].length := by omega
      obtain ⟨bw, ow, rfl, hbw, s1, t1, cw, ht1, hri⟩ := r1.below hBw k hkw
      obtain ⟨bi, oi, rfl, hbi, ci, _⟩ := hri q hqw
      have cG := cell_on hbl (by have := HZ.out; omega) tG.c1
      have HV : Hid (pkV ws ps k = ws[k][q].1) := by
        unfold Hid pkV
        rw [getD_get _ _ hkw, getD_get _ _ hlt, hq, Int.toNat_natCast, getD_get _ _ hqw]
      have HT : Hid ((valsM ws ps).take (k + 1) = (valsM ws ps).take k ++ [ws[k][q].1]) := by unfold Hid; rw [valsM_take hlt, HV.out]
      have k0 : (0 : Int) ≤ (k : Int) := by omega
      have k1 : (k : Int) < (ps.length : Int) := by omega
      have k2 : (k : Int) < (ws.length : Int) := by omega
      have q0 : (0 : Int) ≤ (q : Int) := by omega
      have q1 : (q : Int) < (ws[k].length : Int) := by omega
      clear hq hpk
      generalize ws[k][q].1 = vv at *
      go_wp2_with (first | (at_builtin; refine wpList_append_lies _ rfl _ _ 37 rfl WG.heap.size 3 i0 (.int .i64 0) 1 8 Tryz.underlying37 hi hy0 hy1 hy2 rfl (by decide) _ _ _ rfl (own_keep (show World.ownsRow _ _ _ _ _ _ _ from hgn) ((Below.refl _ _).alloc (Nat.le_refl _) _)) ⟨wr.heap.size, 0, none⟩ 1 1 [.int .i64 vv] rfl rfl (one_new wr _ _) (by simp [Value.oneCell']) (by decide) (by unfold maxLen; omega) (by omega) (by simp; omega) _ rfl ?_; intro g' cap' w5 hown' hgrow _ _))
      have hgs := GathN.snoc hown'
      rw [← HT.out, htl] at hgs
      have hB5 : Below WG.heap.size WG w5 := (hbl.alloc hz _).grown hgrow (by simp; omega) (fun q hq => by have := own_from (show World.ownsRow _ _ _ _ _ _ _ from hgn) q hq; omega)
      exact ⟨⟨k + 1, by omega, by go_num, ⟨g', cap', rfl, hgs⟩, hB5⟩, by simp [intOf]; omega⟩
    · obtain rfl : k = ps.length := by omega
      have he : (valsM ws ps).take ps.length = valsM ws ps := List.take_of_length_le (by rw [valsM_len]; exact Nat.le_refl _)
      rw [he] at hgn
      have hz' := HZ.out
      obtain ⟨hgB, hnb⟩ := hgn.block
      clear he hz'
      go_wp2_with fail
      go_ret
      exact ⟨⟨g, cap, rfl, by have := HZ.out; omega, hnb⟩, hBw⟩

theorem Safe.widenS {w : World} {lo hi lo' hi' : Nat} {a : Option Addr} {m : List (ByteArray × Int)} (h : Safe w lo hi a m) (h1 : lo' ≤ lo) (h2 : hi ≤ hi') : Safe w lo' hi' a m := by
  rcases h with e | ⟨g, e, h3, h4, h5⟩
  · exact .inl e
  · exact .inr ⟨g, e, by omega, by omega, h5⟩
/-- What comes answers. -/
def ComE (w w' : World) (ws : List (List ItemL)) (sh : List (ByteArray × Int)) (e : Ending) : Prop :=
  ∃ out ok, BestP ws out ok ∧ ((ok = false ∧ e = .returned (.iface 161 (.agg #[]))) ∨ (ok = true ∧ ∃ j okj, IsCJ ws out j okj ∧
    ((okj = false ∧ e = .returned (.iface 162 (.agg #[]))) ∨ (okj = true ∧ ∃ o, IsOrd sh j o ∧
      ((o ≠ 1 ∧ e = .returned (.iface 161 (.agg #[]))) ∨ (o = 1 ∧ ∃ gv cv ja cj mid, e = .returned (.iface 165 (.agg #[.slice (some ⟨gv, 0, none⟩) (valsM ws out).length cv, .slice ja j.length cj])) ∧ w.heap.size ≤ mid ∧ mid ≤ w'.heap.size ∧ j.length ≤ cj ∧ Safe w' w.heap.size mid ja j ∧ mid ≤ gv ∧ NumB w' gv (valsM ws out)))))))

set_option maxHeartbeats 1600000 in
theorem comes_any (a0 a1 a2 : Option Addr) (c0 c1 c2 n0 : Nat) (ws : List (List ItemL)) (sh : List (ByteArray × Int)) (w : World) (h6 : ws.length ≤ 6) (hst : ∀ l ∈ ws, StampsP l) (r1 : RowW w a1 ws) (hs : StampP sh) (hc2 : sh.length ≤ c2) (r2 : Row w a2 sh) :
    Calls Tryz.prog 53 #[.agg #[.slice a0 n0 c0, .slice a1 ws.length c1, .slice a2 sh.length c2]] w fun e w' => ComE w w' ws sh e ∧ Below w.heap.size w w' := by
  have hf := stamps_fitW h6 hst
  have hfs := stamp_fit hs
  have bG : Below w.heap.size w (w.alloc (.cells #[.slice a0 n0 c0, .slice a1 ws.length c1, .slice a2 sh.length c2] 36)) := (Below.refl _ _).alloc (Nat.le_refl _) _
  have tG := tri_new w (.slice a0 n0 c0) (.slice a1 ws.length c1) (.slice a2 sh.length c2) 36
  go_enter Tryz.func53, Tryz.ntmps53
  go_wp2_with fail
  generalize w.alloc (.cells #[.slice a0 n0 c0, .slice a1 ws.length c1, .slice a2 sh.length c2] 36) = WG at *
  refine (implCB_any a1 c1 ws _ hf (r1.below bG)).mono ?_
  rintro e w1 ⟨hE, b1⟩
  have B1 : Below w.heap.size w w1 := bG.trans (b1.mono bG.size)
  replace tG := tG.keep b1
  rcases hE with ⟨gp, cp, out, rfl, hbest, hgp, hnb⟩ | ⟨rfl, hbest⟩
  · have HB : Hid (BestP ws out true) := hbest
    have hch := best_in hbest
    have HCH : Hid (ChP ws out) := hch
    have hol : out.length ≤ 6 := by have := hch.2.1; have := hch.1.2.1; omega
    clear hch hbest
    obtain ⟨p0, p1, p2, _, _, _⟩ := id tG
    go_wp2_with fail
    refine (implCJ_any a1 (some ⟨gp, 0, none⟩) c1 cp ws out _ hf (r1.below B1) (by unfold maxLen; omega) hnb.row).mono ?_
    rintro e w2 ⟨⟨v2, j, okj, rfl, hg2, hj⟩, b2⟩
    obtain ⟨ja, cj, hv2, hsj⟩ := hg2.safe
    obtain ⟨ja', cj', hv2', hcj, _⟩ := gath_row hg2
    obtain ⟨rfl, rfl⟩ : ja = ja' ∧ cj = cj' := by
      have h := hv2.symm.trans hv2'
      simp only [Value.slice.injEq] at h
      exact ⟨h.1, h.2.2⟩
    subst hv2
    have HJ : Hid (IsCJ ws out j okj) := hj
    have hjs := hj.stamp
    have hjf := stamp_fit hjs
    clear hj
    have B2 : Below w.heap.size w w2 := B1.trans (b2.mono B1.size)
    replace tG := tG.keep b2
    have hnb2 := hnb.below b2
    clear p0 p1 p2
    obtain ⟨p0, p1, p2, _, _, _⟩ := id tG
    have z1 := B1.size
    cases okj with
    | false =>
      go_wp2_with fail
      go_ret
      exact ⟨⟨out, true, HB.out, .inr ⟨rfl, j, false, HJ.out, .inl ⟨rfl, rfl⟩⟩⟩, B2⟩
    | true =>
      go_wp2_with fail
      refine (implOrder_any a2 ja c2 cj sh j _ hfs.1 hjf.1 hc2 hcj (r2.below B2) hsj.row hfs.2 hjf.2).mono ?_
      rintro e w3 ⟨⟨o, rfl, ho⟩, b3⟩
      have HO : Hid (IsOrd sh j o) := ho
      clear ho
      have B3 : Below w.heap.size w w3 := B2.trans (b3.mono B2.size)
      replace tG := tG.keep b3
      replace hsj := hsj.below b3
      have hnb3 := hnb2.below b3
      clear p0 p1 p2
      obtain ⟨p0, p1, p2, _, _, _⟩ := id tG
      by_cases ho1 : o = 1
      · subst ho1
        go_wp2_with fail
        refine (valsAt_any a0 a1 a2 (some ⟨gp, 0, none⟩) c0 c1 c2 cp n0 sh.length ws out _ h6 (r1.below B3) HCH.out.2.1 HCH.out.2.2.1 hnb3.row (fun k hk => by have := (hst _ (List.getElem_mem hk)).1; omega)).mono ?_
        rintro e w4 ⟨⟨gv, cv, rfl, hgv, hnv⟩, b4⟩
        have hvl := valsM_len ws out
        have HVL : Hid ((valsM ws out).length = out.length) := hvl
        clear hvl
        go_wp2_with fail
        go_ret
        exact ⟨⟨out, true, HB.out, .inr ⟨rfl, j, true, HJ.out, .inr ⟨rfl, 1, HO.out, .inr ⟨rfl, gv, cv, ja, cj, w3.heap.size, by rw [HVL.out]; rfl, B3.size, b4.size, hcj, (hsj.widenS (by omega) b3.size).below b4, hgv, hnv⟩⟩⟩⟩, B3.trans (b4.mono B3.size)⟩
      · go_wp2_with fail
        go_ret
        exact ⟨⟨out, true, HB.out, .inr ⟨rfl, j, true, HJ.out, .inr ⟨rfl, o, HO.out, .inl ⟨ho1, rfl⟩⟩⟩⟩, B3⟩
  · have HB : Hid (BestP ws [] false) := hbest
    clear hbest
    go_wp2_with fail
    go_ret
    exact ⟨⟨[], false, HB.out, .inl ⟨rfl, rfl⟩⟩, B1⟩

end Go.Proofs.YtpfhegengmlkmacGreatDoor
/- Walks: markStringS. -/
namespace Go.Proofs.YtpfhegengmlkmacGreatDoor
open Go.RowKit Go.BigFrame

set_option maxHeartbeats 800000 in
theorem markStringS_any (b cap : Nat) (l : List ByteArray) (k : Int) (w : World) (hn : l.length ≤ 1048576) (hk0 : 0 ≤ k) (hk1 : k ≤ 10000000) (ho : PartS w b l l.length) :
    Calls Tryz.prog 30 #[.slice (some ⟨b, 0, none⟩) l.length cap, .int .i64 k] w fun e w' => e = .returned (.int .i64 (k + (l.length : Int))) ∧ But b w w' := by
  obtain ⟨f, hf, _⟩ := ho
  have hp : ∃ f, w.rowIs b 9 l.length f := ⟨f, hf⟩
  clear hf
  go_enter Tryz.func30, Tryz.ntmps30
  go_wp2_with fail
  go_loopw [1, 5] (fun kk i wr => ∃ j : Nat, j ≤ l.length ∧ i = .int .i64 j ∧ kk = .int .i64 (k + (j : Int)) ∧ (∃ f, wr.rowIs b 9 l.length f) ∧ But b w wr) (fun _ i _ => l.length - (intOf i).toNat)
  case atStart => exact ⟨0, Nat.zero_le _, rfl, by simp, hp, But.refl _ _⟩
  case round =>
    obtain ⟨j, hj, rfl, rfl, ⟨f, hpj⟩, hb⟩ := hrel
    by_cases hlt : j < l.length
    · have hpl := hpj.lt
      go_wp2_with (first | (go_at_call 66; refine (markText_any _ _ (by omega)).mono ?_; rintro e w1 ⟨rfl, hb1⟩; have hp1 := hpj.of_block (hb1.block b hpl); have hv0 := hp1.cell hlt; have hz0 := hp1.frozen j))
      exact ⟨⟨j + 1, by omega, by go_num, by congr 1; omega, ⟨_, hp1.set _ _⟩, (hb.trans (But.of_below hb1)).setCell _ _⟩, by simp [intOf]; omega⟩
    · obtain rfl : j = l.length := by omega
      go_wp2_with fail
      go_ret
      exact ⟨rfl, hb⟩

end Go.Proofs.YtpfhegengmlkmacGreatDoor
/- The walk of the law FnExactGatherNew. -/
namespace Go.Proofs.YtpfhegengmlkmacGreatDoor
open Go.RowKit Go.BigFrame
set_option maxRecDepth 100000

theorem eqN_any (a0 a1 a2 b0 b1 b2 : Option Addr) (c0 c1 c2 d0 d1 d2 : Nat) (nm : List ByteArray) (w : World) (hf : FitS nm) (h6 : nm.length ≤ 6) (r0 : RowS w a0 nm) (r1 : RowW w a1 (List.replicate nm.length [])) (q0 : RowS w b0 nm) (q1 : RowW w b1 (List.replicate nm.length [])) :
    Calls Tryz.prog 12 #[.agg #[.slice a0 nm.length c0, .slice a1 nm.length c1, .slice a2 0 c2], .agg #[.slice b0 nm.length d0, .slice b1 nm.length d1, .slice b2 0 d2]] w fun e w' => e = .returned (.bool true) ∧ Below w.heap.size w w' := by
  have h := eqGather_same a0 a1 a2 b0 b1 b2 c0 c1 c2 d0 d1 d2 (newG nm) w ⟨hf, ⟨by simp [newG]; unfold maxLen; omega, fun j hj => by
    have e : (newG nm).wins[j] = [] := by simp [newG]
    rw [e]
    exact ⟨by simp, fun i hi => by simp at hi⟩⟩, ⟨by simp [newG], fun j hj => by simp [newG] at hj⟩⟩ r0 r1 (fun k hk => absurd hk (Nat.not_lt_zero k)) q0 q1 (fun k hk => absurd hk (Nat.not_lt_zero k))
  simpa only [newG, List.length_replicate, List.length_nil] using h
theorem IsN.fit {ins nm : List ByteArray} {ok : Bool} (h : IsN ins nm ok) : FitS nm ∧ nm.length ≤ 6 := by
  rcases h with ⟨rfl, h1, rfl⟩ | ⟨rfl, _, rfl⟩
  · exact ⟨⟨by have := h1.2.1; unfold maxLen; omega, fun j hj => by have := (h1.2.2 j hj).1.2.1; unfold maxLen; omega⟩, h1.2.1⟩
  · exact ⟨⟨by simp, fun j hj => by simp at hj⟩, by simp⟩

theorem Tri.span {w w' : World} {b lo hi : Nat} {x y z : Value} (h : Tri w b x y z) (hs : Span lo hi w w') (hd : b < lo ∨ hi ≤ b) : Tri w' b x y z := by
  have hlt : b < w.heap.size := block_lt_of_cell h.c0
  have e := hs.block b hlt hd
  exact ⟨(World.cell?_of_block (a := ⟨b, 0, none⟩) e).trans h.c0, (World.cell?_of_block (a := ⟨b, 1, none⟩) e).trans h.c1, (World.cell?_of_block (a := ⟨b, 2, none⟩) e).trans h.c2, (World.frozen?_of_block (a := ⟨b, 0, none⟩) e).trans h.f0, (World.frozen?_of_block (a := ⟨b, 1, none⟩) e).trans h.f1, (World.frozen?_of_block (a := ⟨b, 2, none⟩) e).trans h.f2⟩

end Go.Proofs.YtpfhegengmlkmacGreatDoor
