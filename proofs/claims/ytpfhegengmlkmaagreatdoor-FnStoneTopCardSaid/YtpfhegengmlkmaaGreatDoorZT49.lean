/- Texts of this claim, one behind the other. -/
import Derived.Deep.LoopGhost
import Derived.Test.YtpfhegengmlkmaaGreatDoorZT16
import Derived.Test.YtpfhegengmlkmaaGreatDoorZT26
import Derived.Test.YtpfhegengmlkmaaGreatDoorZT29
import Derived.Test.YtpfhegengmlkmaaGreatDoorZT37
import Derived.Test.YtpfhegengmlkmaaGreatDoorZT41
import Derived.Test.YtpfhegengmlkmaaGreatDoorZT45
import Derived.Test.YtpfhegengmlkmaaGreatDoorZT46
import Derived.Test.YtpfhegengmlkmaaGreatDoorZT47
import Derived.Test.YtpfhegengmlkmaaGreatDoorZT48
namespace Go.Proofs.YtpfhegengmlkmaaGreatDoor
open Go.RowKit Go.BigFrame
set_option maxRecDepth 100000

theorem take_set_next {ps : List Int} {k : Nat} (hk : k < ps.length) (v : Int) : (List.replicate k 0 ++ ps.drop k).set k v = List.replicate k 0 ++ v :: ps.drop (k + 1) := by
  rw [List.set_append_right _ _ (by simp), List.length_replicate, Nat.sub_self, List.drop_eq_getElem_cons hk]
  rfl
theorem next_zero {ps : List Int} {k : Nat} (v : Int) : (List.replicate k 0 ++ v :: ps.drop (k + 1)).set k 0 = List.replicate (k + 1) 0 ++ ps.drop (k + 1) := by
  rw [List.set_append_right _ _ (by simp), List.length_replicate, Nat.sub_self, List.replicate_succ']
  simp
theorem newG_top {nm : List ByteArray} (h : IsN nm nm true) : TopP (newG nm) := by
  obtain ⟨hI, _⟩ : InsP nm ∧ True := by
    rcases h with ⟨_, h, _⟩ | ⟨e, _⟩
    · exact ⟨h, trivial⟩
    · cases e
  have hl : (newG nm).wins.length = nm.length := by simp [newG]
  have hw : ∀ j, (hj : j < (newG nm).wins.length) → (newG nm).wins[j] = [] := fun j hj => by simp [newG]
  have h1 : 1 ≤ nm.length := hI.1
  have h6 : nm.length ≤ 6 := hI.2.1
  refine ⟨⟨hI, hl, ⟨by omega, by omega, fun j hj => ?_⟩, stampP_nil⟩, .inl rfl, fun ps j hj => ?_⟩
  · rw [hw j hj]
    exact ⟨by simp, fun j hj => absurd hj (Nat.not_lt_zero j), fun j hj => absurd hj (Nat.not_lt_zero _)⟩
  · exfalso
    obtain ⟨c1, _⟩ := isCJ_parts hj
    have hlen := c1.2.1
    have hp : 0 < ps.length := by omega
    have h2 := (c1.2.2.1.2 0 hp)
    have e : (newG nm).wins.getD 0 [] = [] := by
      have h0 : 0 < (newG nm).wins.length := by omega
      rw [getD_get _ _ h0]
      exact hw 0 h0
    rw [e] at h2
    simp at h2
    omega
/-- The lengths of windows. -/
def lensN (ws : List (List ItemL)) : List Nat := ws.map List.length
theorem NumB.own {w : World} {B g n cap : Nat} {l : List Int} (h : w.ownsRow B 3 1 (.slice (some ⟨g, 0, none⟩) n cap) n (l.map fun x => .int .i64 x)) (hn : n = l.length) : B ≤ g ∧ NumB w g l := by
  subst hn
  exact ⟨(GathN.block (show GathN w B _ l from h)).1, (GathN.block (show GathN w B _ l from h)).2⟩

set_option maxHeartbeats 1600000 in
theorem bsNext_any (a ap : Option Addr) (cap cp : Nat) (ws : List (List ItemL)) (ps : List Int) (w : World) (h6 : ws.length ≤ 6) (hw5 : ∀ k, (h : k < ws.length) → ws[k].length ≤ 5) (h1 : 1 ≤ ps.length) (hl : ps.length = ws.length) (hr : RowW w a ws) (hp : RowZ w ap ps) (hI : InR (lensN ws) ps) :
    Calls Tryz.prog 49 #[.slice a ws.length cap, .slice ap ps.length cp] w fun e w' => (∃ g c qs r, e = .returned (.tuple #[.slice (some ⟨g, 0, none⟩) (List.length qs) c, .bool r]) ∧ qs.length = ps.length ∧ w.heap.size ≤ g ∧ NumB w' g qs ∧ (r = true → InR (lensN ws) qs ∧ radV (lensN ws) qs = radV (lensN ws) ps + 1)) ∧ Below w.heap.size w w' := by
  obtain ⟨i0, hi, hz0, hz1, hz2⟩ := info_parts Tryz.infoZ
  obtain ⟨b0, o0, rfl, hb0, hx0⟩ := hp 0 (by omega)
  clear hx0
  have hba : Below w.heap.size w (w.alloc (.cells #[] 3)) := (Below.refl _ _).alloc (Nat.le_refl _) _
  have hown : (w.alloc (.cells #[] 3)).ownsRow w.heap.size 3 1 (.slice (some ⟨w.heap.size, 0, none⟩) 0 0) 0 [] := ⟨by simp, .inr ⟨w.heap.size, 0, #[], rfl, Nat.le_refl _, heap_alloc_new w _, by simp, by unfold maxLen; omega, by simp, by simp⟩⟩
  have hnews : ∀ j u, (ps.map fun x => (.int .i64 x : Value))[j]? = some u → (w.alloc (.cells #[] 3)).cell? ((⟨b0, o0, none⟩ : Addr).add j) = some u := fun j u hu => by
    have hj : j < ps.length := by
      have := (List.getElem?_eq_some_iff.1 hu).1
      simpa using this
    obtain ⟨b, o, e, _, hc⟩ := hp.below hba j hj
    obtain ⟨rfl, rfl⟩ : b0 = b ∧ o0 = o := by simpa using e
    have e1 : (ps.map fun x => (.int .i64 x : Value))[j]? = some (.int .i64 ps[j]) := by simp [hj]
    rw [e1] at hu
    have ea : (⟨b0, o0, none⟩ : Addr).add j = ⟨b0, o0 + j, none⟩ := by
      by_cases h0 : j = 0
      · subst h0; simp [Addr.add]
      · simp [Addr.add, h0]
    rw [← Option.some.inj hu, ea]
    exact hc
  have HL : Hid (ps.length = ws.length) := hl
  have HI : Hid (InR (lensN ws) ps) := hI
  have hp6 : ps.length ≤ 6 := by omega
  clear hl hI
  go_enter Tryz.func49, Tryz.ntmps49
  go_wp2_with (at_builtin; refine wpList_append_lies _ rfl _ _ 34 rfl w.heap.size 3 i0 (.int .i64 0) 1 8 Tryz.underlying34 hi hz0 hz1 hz2 rfl (by decide) _ _ _ rfl hown ⟨b0, o0, none⟩ ps.length cp (ps.map fun x => .int .i64 x) rfl (by simp) hnews (by simp [Value.oneCell']) (by omega) (by unfold maxLen; omega) (by omega) (by simp) _ rfl ?_; intro g c1 w1 hown1 hgr1 _ _)
  have B1 : Below w.heap.size w w1 := hba.grown hgr1 (by simp) (own_from hown)
  simp only [Nat.zero_add, List.nil_append] at hown1
  obtain ⟨hge, hnb⟩ := NumB.own hown1 rfl
  have hgl := hnb.lt
  clear hown1 hgr1 hown hnews hba
  go_loopw [7] (fun iv wr => ∃ k : Nat, k ≤ ps.length ∧ iv = .int .i64 k ∧ NumB wr g (List.replicate k 0 ++ ps.drop k) ∧ Hid (∀ j, (h : j < ps.length) → (h' : j < (lensN ws).length) → j < k → ((lensN ws)[j] : Int) ≤ ps[j] + 1) ∧ Below w.heap.size w wr) (fun iv _ => ps.length - (intOf iv).toNat)
  case atStart => exact ⟨0, by omega, rfl, by simpa using hnb, fun j _ _ h => absurd h (Nat.not_lt_zero j), B1⟩
  case round =>
    clear hnb hgl B1
    obtain ⟨k, hk, rfl, hnb, HA, hb⟩ := hrel
    have hql : (List.replicate k 0 ++ ps.drop k).length = ps.length := by simp; omega
    by_cases hlt : k < ps.length
    · have hlw : k < ws.length := by have := HL.out; omega
      have hln : k < (lensN ws).length := by simpa [lensN] using hlw
      have eln : (lensN ws)[k] = ws[k].length := by simp [lensN]
      obtain ⟨bw, ow, rfl, hbw, sw, tw, cw, _, _⟩ := hr k hlw
      have hqk : (List.replicate k 0 ++ ps.drop k)[k]'(by omega) = ps[k] := by
        rw [List.getElem_append_right (by simp)]
        simp
      have c0 := hnb.cell (j := k) (by omega)
      rw [hqk] at c0
      have f0 := hnb.frozen k
      have n2 := hnb.set k (ps[k] + 1)
      rw [take_set_next hlt] at n2
      have b2 : Below w.heap.size w (wr.setCell ⟨g, k, none⟩ (.int .i64 (ps[k] + 1))) := hb.setCell hge _
      have cw2 := cell_on b2 hbw cw
      have cg2 := n2.cell (j := k) (by simp)
      have hg2 : (List.replicate k 0 ++ (ps[k] + 1) :: ps.drop (k + 1))[k]'(by simp) = ps[k] + 1 := by
        rw [List.getElem_append_right (by simp)]
        simp
      rw [hg2] at cg2
      have fg2 := n2.frozen k
      have k0 : (0 : Int) ≤ (k : Int) := by omega
      have k1 : (k : Int) < (ps.length : Int) := by omega
      have k2 : (k : Int) < (ws.length : Int) := by omega
      have hps := HI.out.2 k hlt hln
      rw [eln] at hps
      have HB : Hid (NumB (wr.setCell ⟨g, k, none⟩ (.int .i64 (ps[k] + 1))) g (List.replicate k 0 ++ (ps[k] + 1) :: ps.drop (k + 1)) ∧ Below w.heap.size w (wr.setCell ⟨g, k, none⟩ (.int .i64 (ps[k] + 1)))) := ⟨n2, b2⟩
      have HQ2 : Hid ((List.replicate k (0 : Int) ++ (ps[k] + 1) :: ps.drop (k + 1)).length = ps.length) := by unfold Hid; simp; omega
      have hw5k := hw5 k hlw
      have b1' : Below wr.heap.size wr wr := Below.refl _ _
      clear hnb hg2 hqk hql
      by_cases hn : ps[k] + 1 < (ws[k].length : Int)
      · have HR : Hid (InR (lensN ws) (List.replicate k 0 ++ (ps[k] + 1) :: ps.drop (k + 1)) ∧ radV (lensN ws) (List.replicate k 0 ++ (ps[k] + 1) :: ps.drop (k + 1)) = radV (lensN ws) ps + 1) := rad_next k hlt hln HI.out HA.out (by rw [eln]; exact hn)
        clear n2 b2 eln hln b1'
        go_wp2_with fail
        go_quiet (fail)
        go_wp2_with fail
        exact bodyPost_ret (v := .tuple #[.slice (some ⟨g, 0, none⟩) ps.length c1, .bool true]) (by simp [results, Tryz.results49, go_sem]) rfl ⟨⟨g, c1, _, true, by rw [HQ2.out], HQ2.out, hge, by obtain ⟨m, f, h, hf⟩ := HB.out.1; exact ⟨m, f, h.of_block rfl, hf⟩, fun _ => HR.out⟩, below_drewN HB.out.2 _⟩
      · have HA2 : Hid (∀ j, (h : j < ps.length) → (h' : j < (lensN ws).length) → j < k + 1 → ((lensN ws)[j] : Int) ≤ ps[j] + 1) := fun j h h' hj => by
          by_cases e : j = k
          · subst e
            rw [eln]
            omega
          · exact HA.out j h h' (by omega)
        have n3 := n2.set k 0
        rw [next_zero] at n3
        have b3 := b2.setCell (p := ⟨g, k, none⟩) hge (.int .i64 0)
        have HB3 : Hid (NumB ((wr.setCell ⟨g, k, none⟩ (.int .i64 (ps[k] + 1))).setCell ⟨g, k, none⟩ (.int .i64 0)) g (List.replicate (k + 1) 0 ++ ps.drop (k + 1)) ∧ Below w.heap.size w ((wr.setCell ⟨g, k, none⟩ (.int .i64 (ps[k] + 1))).setCell ⟨g, k, none⟩ (.int .i64 0))) := ⟨n3, b3⟩
        clear n2 b2 eln hln b1' n3 b3
        go_wp2_with fail
        go_quiet (fail)
        go_wp2_with fail
        have b4 : Below w.heap.size w (((wr.setCell ⟨g, k, none⟩ (.int .i64 (ps[k] + 1))).drewN nq).setCell ⟨g, k, none⟩ (.int .i64 0)) := (below_drewN HB.out.2 nq).setCell hge _
        exact ⟨⟨k + 1, by omega, by go_num, by obtain ⟨m, f, h, hf⟩ := HB3.out.1; exact ⟨m, f, h.of_block rfl, hf⟩, HA2, b4⟩, by simp [intOf]; omega⟩
    · obtain rfl : k = ps.length := by omega
      have HE : Hid (NumB wr g (List.replicate ps.length 0) ∧ (List.replicate ps.length (0 : Int)).length = ps.length) := by
        unfold Hid
        refine ⟨?_, by simp⟩
        simpa using hnb
      clear hnb hql
      go_wp2_with fail
      exact bodyPost_ret (v := .tuple #[.slice (some ⟨g, 0, none⟩) ps.length c1, .bool false]) (by simp [results, Tryz.results49, go_sem]) rfl ⟨⟨g, c1, _, false, by rw [HE.out.2], HE.out.2, hge, HE.out.1, fun e => by cases e⟩, hb⟩

theorem inR_zero {ws : List (List ItemL)} (h : ∀ k, (h : k < ws.length) → 0 < ws[k].length) : InR (lensN ws) (List.replicate ws.length 0) := ⟨by simp [lensN], fun i h1 h2 => by
  have hi : i < ws.length := by simpa using h1
  have := h i hi
  simp [lensN]
  exact this⟩
theorem numB_zero (w : World) (n : Nat) : NumB (w.alloc (.cells (madeCells #[.int .i64 0] n) 3)) w.heap.size (List.replicate n 0) :=
  ⟨n, fun _ => .int .i64 0, World.rowIs_made w (.int .i64 0) n 3, by simp, fun j hj => by simp⟩

set_option maxHeartbeats 3200000 in
theorem bsCovers_any (a ah : Option Addr) (cap ch : Nat) (ws : List (List ItemL)) (sh : List (ByteArray × Int)) (w : World) (h6 : ws.length ≤ 6) (h1 : 1 ≤ ws.length) (hst : ∀ l ∈ ws, StampsP l) (hss : StampP sh) (hch : sh.length ≤ ch) (hr : RowW w a ws) (hrs : Row w ah sh) (hcov : CovP ws sh) :
    Calls Tryz.prog 15 #[.slice a ws.length cap, .slice ah sh.length ch] w fun e w' => e = .returned (.bool true) ∧ Below w.heap.size w w' := by
  obtain ⟨i0, hi, hz0, hz1, hz2⟩ := info_parts Tryz.infoZ
  have hmk : ∀ u : World, (Instr.makeSlice 34 (.int .i64 (ws.length : Int)) (.int .i64 (ws.length : Int))).run Tryz.prog u = .ok (.slice (some ⟨u.heap.size, 0, none⟩) ws.length ws.length) (u.alloc (.cells (madeCells #[.int .i64 0] ws.length) 3)) := fun u => by
    have h := run_make (P := Tryz.prog) u 34 3 i0 (.int .i64 0) Tryz.underlying34 hi hz0 .i64 .i64 (ws.length : Int) (ws.length : Int) (by omega) (Int.le_refl _) (by rw [hz2]; omega) (by omega)
    simpa [hz1, Value.cells] using h
  have hfw : FitW ws := stamps_fitW h6 hst
  have hfs := stamp_fit hss
  have hw5 : ∀ k, (h : k < ws.length) → ws[k].length ≤ 5 := fun k h => (hst _ (List.getElem_mem h)).1
  have HCOV : Hid (CovP ws sh) := hcov
  have HSS : Hid (StampP sh) := hss
  clear hcov hss
  go_enter Tryz.func15, Tryz.ntmps15
  go_wp2_with fail
  go_loopw [5] (fun iv wr => ∃ k : Nat, k ≤ ws.length ∧ iv = .int .i64 k ∧ Hid (∀ j, (h : j < ws.length) → j < k → 0 < ws[j].length) ∧ Below w.heap.size w wr) (fun iv _ => ws.length - (intOf iv).toNat)
  case atStart => exact ⟨0, by omega, rfl, fun j _ h => absurd h (Nat.not_lt_zero j), Below.refl _ _⟩
  case round =>
    obtain ⟨k, hk, rfl, HP, hb⟩ := hrel
    by_cases hlt : k < ws.length
    · obtain ⟨bw, ow, rfl, hbw, sw, tw, cw, _, _⟩ := hr.below hb k hlt
      have k0 : (0 : Int) ≤ (k : Int) := by omega
      have k1 : (k : Int) < (ws.length : Int) := by omega
      by_cases hz : ws[k].length = 0
      · have hz' : (((ws[k].length : Nat) : Int) == 0) = true := by rw [beq_iff_eq]; omega
        go_wp2_with fail
        go_ret
        exact ⟨rfl, hb⟩
      · have hz' : (((ws[k].length : Nat) : Int) == 0) = false := by rw [beq_eq_false_iff_ne]; omega
        have HP2 : Hid (∀ j, (h : j < ws.length) → j < k + 1 → 0 < ws[j].length) := fun j h hj => by
          by_cases e : j = k
          · subst e; omega
          · exact HP.out j h (by omega)
        go_wp2_with fail
        exact ⟨⟨k + 1, by omega, by go_num, HP2, hb⟩, by simp [intOf]; omega⟩
    · obtain rfl : k = ws.length := by omega
      have HZ : Hid (InR (lensN ws) (List.replicate ws.length 0)) := inR_zero fun j h => HP.out j h h
      have hnb := numB_zero wr ws.length
      have hb1 : Below w.heap.size w (wr.alloc (.cells (madeCells #[.int .i64 0] ws.length) 3)) := hb.alloc hb.size _
      have hzr := hb.size
      go_wp2_with fail
      generalize wr.alloc (.cells (madeCells #[.int .i64 0] ws.length) 3) = W1 at *
      go_loopg [6, 7] (radC (lensN ws)) (fun gk pv mv wx => Below w.heap.size w wx ∧ ((mv = .bool false) ∨ (mv = .bool true ∧ ∃ g c ps, pv = .slice (some ⟨g, 0, none⟩) (List.length ps) c ∧ NumB wx g ps ∧ Hid (ps.length = ws.length) ∧ Hid (InR (lensN ws) ps) ∧ radC (lensN ws) ≤ radV (lensN ws) ps + gk)))
      case atStart => exact ⟨hb1, .inr ⟨rfl, wr.heap.size, ws.length, List.replicate ws.length 0, by simp, hnb, by unfold Hid; simp, HZ, by omega⟩⟩
      case round =>
        clear hnb hb1 HZ hb
        obtain ⟨hb, hm⟩ := hrel
        rcases hm with rfl | ⟨rfl, g, c, ps, rfl, hnb, HL, HI, hgk⟩
        · go_wp2_with fail
          go_ret
          exact ⟨rfl, hb⟩
        · have hlt := radV_lt HI.out
          have hps : ps.length ≤ 6 := by have := HL.out; omega
          have hps1 : 1 ≤ ps.length := by have := HL.out; omega
          go_wp2_with fail
          refine (implChA_any a (some ⟨g, 0, none⟩) cap c ws ps _ hfw (hr.below hb) (by unfold maxLen; omega) hnb.row).mono ?_
          rintro e w2 ⟨⟨r2, rfl, hr2⟩, b2⟩
          have B2 : Below w.heap.size w w2 := hb.trans (b2.mono hb.size)
          have hnb2 := hnb.below b2
          clear hr2 b2 hnb hb
          cases r2 with
          | false =>
            go_wp2_with fail
            refine (bsNext_any a (some ⟨g, 0, none⟩) cap c ws ps _ h6 hw5 hps1 HL.out (hr.below B2) (hnb2).row HI.out).mono ?_
            rintro e w9 ⟨⟨g9, c9, qs, r9, rfl, hq9, _, hnb9, hs9⟩, b9⟩
            have B9 : Below w.heap.size w w9 := B2.trans (b9.mono B2.size)
            have HQ9 : Hid (qs.length = ws.length) := hq9.trans HL.out
            clear b9 hq9
            cases r9 with
            | false =>
              clear hs9
              go_wp2_with fail
              go_roundg (gk - 1)
              case measure => omega
              case rel => exact ⟨B9, .inl rfl⟩
            | true =>
              have HI9 : Hid (InR (lensN ws) qs) := (hs9 rfl).1
              have hv9 := (hs9 rfl).2
              clear hs9
              go_wp2_with fail
              go_roundg (gk - 1)
              case measure => omega
              case rel => exact ⟨B9, .inr ⟨rfl, g9, c9, qs, rfl, hnb9, HQ9, HI9, by omega⟩⟩
          | true =>
            go_wp2_with fail
            refine (implCJ_any a (some ⟨g, 0, none⟩) cap c ws ps _ hfw (hr.below B2) (by unfold maxLen; omega) hnb2.row).mono ?_
            rintro e w3 ⟨⟨v3, j, okj, rfl, hg3, hj⟩, b3⟩
            obtain ⟨ja, cj, rfl, hcj, hrj⟩ := gath_row hg3
            have HJ : Hid (IsCJ ws ps j okj) := hj
            have hjf := stamp_fit hj.stamp
            have B3 : Below w.heap.size w w3 := B2.trans (b3.mono B2.size)
            have hnb3 := hnb2.below b3
            clear hj b3 hnb2 B2 hg3
            go_wp2_with fail
            refine (implOrder_any ja ah cj ch j sh _ hjf.1 hfs.1 hcj hch hrj (hrs.below B3) hjf.2 hfs.2).mono ?_
            rintro e w4 ⟨⟨o, rfl, ho⟩, b4⟩
            have B4 : Below w.heap.size w w4 := B3.trans (b4.mono B3.size)
            have hnb4 := hnb3.below b4
            have HO : Hid (okj = true → o = 0 ∨ o = 1) := fun e => by
              subst e
              exact (ord_le ho).2 ⟨HJ.out.stamp, HSS.out, (below_get HJ.out.stamp HSS.out).2 (HCOV.out ps j HJ.out)⟩
            clear ho b4 hnb3 B3 hrj HJ hjf hcj
            cases okj with
            | false =>
              go_wp2_with fail
              refine (bsNext_any a (some ⟨g, 0, none⟩) cap c ws ps _ h6 hw5 hps1 HL.out (hr.below B4) (hnb4).row HI.out).mono ?_
              rintro e w9 ⟨⟨g9, c9, qs, r9, rfl, hq9, _, hnb9, hs9⟩, b9⟩
              have B9 : Below w.heap.size w w9 := B4.trans (b9.mono B4.size)
              have HQ9 : Hid (qs.length = ws.length) := hq9.trans HL.out
              clear b9 hq9
              cases r9 with
              | false =>
                clear hs9
                go_wp2_with fail
                go_roundg (gk - 1)
                case measure => omega
                case rel => exact ⟨B9, .inl rfl⟩
              | true =>
                have HI9 : Hid (InR (lensN ws) qs) := (hs9 rfl).1
                have hv9 := (hs9 rfl).2
                clear hs9
                go_wp2_with fail
                go_roundg (gk - 1)
                case measure => omega
                case rel => exact ⟨B9, .inr ⟨rfl, g9, c9, qs, rfl, hnb9, HQ9, HI9, by omega⟩⟩
            | true =>
              rcases HO.out rfl with rfl | rfl
              · go_wp2_with fail
                refine (bsNext_any a (some ⟨g, 0, none⟩) cap c ws ps _ h6 hw5 hps1 HL.out (hr.below B4) (hnb4).row HI.out).mono ?_
                rintro e w9 ⟨⟨g9, c9, qs, r9, rfl, hq9, _, hnb9, hs9⟩, b9⟩
                have B9 : Below w.heap.size w w9 := B4.trans (b9.mono B4.size)
                have HQ9 : Hid (qs.length = ws.length) := hq9.trans HL.out
                clear b9 hq9
                cases r9 with
                | false =>
                  clear hs9
                  go_wp2_with fail
                  go_roundg (gk - 1)
                  case measure => omega
                  case rel => exact ⟨B9, .inl rfl⟩
                | true =>
                  have HI9 : Hid (InR (lensN ws) qs) := (hs9 rfl).1
                  have hv9 := (hs9 rfl).2
                  clear hs9
                  go_wp2_with fail
                  go_roundg (gk - 1)
                  case measure => omega
                  case rel => exact ⟨B9, .inr ⟨rfl, g9, c9, qs, rfl, hnb9, HQ9, HI9, by omega⟩⟩
              · go_wp2_with fail
                refine (bsNext_any a (some ⟨g, 0, none⟩) cap c ws ps _ h6 hw5 hps1 HL.out (hr.below B4) (hnb4).row HI.out).mono ?_
                rintro e w9 ⟨⟨g9, c9, qs, r9, rfl, hq9, _, hnb9, hs9⟩, b9⟩
                have B9 : Below w.heap.size w w9 := B4.trans (b9.mono B4.size)
                have HQ9 : Hid (qs.length = ws.length) := hq9.trans HL.out
                clear b9 hq9
                cases r9 with
                | false =>
                  clear hs9
                  go_wp2_with fail
                  go_roundg (gk - 1)
                  case measure => omega
                  case rel => exact ⟨B9, .inl rfl⟩
                | true =>
                  have HI9 : Hid (InR (lensN ws) qs) := (hs9 rfl).1
                  have hv9 := (hs9 rfl).2
                  clear hs9
                  go_wp2_with fail
                  go_roundg (gk - 1)
                  case measure => omega
                  case rel => exact ⟨B9, .inr ⟨rfl, g9, c9, qs, rfl, hnb9, HQ9, HI9, by omega⟩⟩

end Go.Proofs.YtpfhegengmlkmaaGreatDoor

namespace Go.Proofs.YtpfhegengmlkmaaGreatDoor
open Go.RowKit Go.BigFrame
set_option maxRecDepth 100000

/-- A gather in its box, while another block changes. -/
theorem PlyW.far {B : Nat} {u u' : World} {bG glo ghi lo hi : Nat} {g : GatL} {Lw : List WinY} {a0 a1 a2 : Option Addr} {d0 d1 d2 : Nat} (h : PlyW B u bG glo ghi g Lw a0 a1 a2 d0 d1 d2 (.slice none 0 0) (.slice none 0 0) [] []) (hs : Span lo hi u u') (h1 : bG < lo ∨ hi ≤ bG) (h2 : ghi ≤ lo ∨ hi ≤ glo) :
    PlyW B u' bG glo ghi g Lw a0 a1 a2 d0 d1 d2 (.slice none 0 0) (.slice none 0 0) [] [] :=
  { tG := h.tG.span hs h1, map := h.map, nice := h.nice, sg := h.sg.span hs h2, glt := Nat.le_trans h.glt hs.size, gbox := h.gbox, bB := h.bB, BU := Nat.le_trans h.BU hs.size, osh := World.ownsRow_nil _ _ _ _, oco := World.ownsRow_nil _ _ _ _, at_ := (fun p hp => by simp at hp), dis := List.Pairwise.nil, sfar := (fun p hp => by simp at hp), cfar := (fun p hp => by simp at hp), sgf := (fun k e => by cases e), cgf := (fun k e => by cases e) }

theorem bsGather_len (a0 a1 a2 b0 b1 b2 : Option Addr) (c0 c1 c2 d0 d1 d2 n1 n2 : Nat) (g : GatL) (w : World) (hf : FitG g) (l1 : n1 = g.wins.length) (l2 : n2 = g.wins.length) (r0 : RowS w a0 g.ins) (r1 : RowW w a1 g.wins) (r2 : Row w a2 g.shown) (q0 : RowS w b0 g.ins) (q1 : RowW w b1 g.wins) (q2 : Row w b2 g.shown) :
    Calls Tryz.prog 9 #[.agg #[.slice a0 g.ins.length c0, .slice a1 n1 c1, .slice a2 g.shown.length c2], .agg #[.slice b0 g.ins.length d0, .slice b1 n2 d1, .slice b2 g.shown.length d2]] w fun e w' => e = .returned (.bool true) ∧ Below w.heap.size w w' := by
  subst l1 l2
  exact bsGather_same a0 a1 a2 b0 b1 b2 c0 c1 c2 d0 d1 d2 g w hf r0 r1 r2 q0 q1 q2

theorem bsRows_any {R R' : ResG} {u : World} (h : RowsR R u) (k : RowsR R' u) (e : R'.g = R.g) : Calls Tryz.prog 9 #[R'.gv, R.gv] u fun e w' => e = .returned (.bool true) ∧ Below u.heap.size u w' := by
  have z := bsGather_same R'.s0 R'.s1 R'.s2 R.s0 R.s1 R.s2 R'.d0 R'.d1 R'.d2 R.d0 R.d1 R.d2 R.g u h.nice.fit (e ▸ k.r0) (e ▸ k.r1) (e ▸ k.r2) h.r0 h.r1 h.r2
  have l1 := h.len
  have l2 := k.len
  rw [e] at l2
  unfold ResG.gv
  rw [l1, l2, e]
  exact z

theorem bsRowsS_any {R R' : ResG} {u : World} (h : RowsR R u) (k : RowsR R' u) (e1 : R'.sv = R.sv) (e2 : R'.ss = R.ss) : Calls Tryz.prog 12 #[R'.wv, R.wv] u fun e w' => e = .returned (.bool true) ∧ Below u.heap.size u w' := by
  have z := bsShow_same R'.s3 R'.s4 R.s3 R.s4 R'.d3 R'.d4 R.d3 R.d4 R.sv R.ss u (by have := h.sv6; unfold maxLen; omega) (by have := h.st.1; unfold maxLen; omega) (e1 ▸ k.r3) (e2 ▸ k.r4) h.r3 h.r4
  unfold ResG.wv
  rw [e1, e2]
  exact z

/-- What GatherNew answers, in one form. -/
theorem NewE.begin {w w' : World} {ins : List ByteArray} {e : Ending} (h : NewE w w' ins e) : ∃ (g : GatL) (a0 : Option Addr) (c0 : Nat) (a1 : Option Addr) (c1 : Nat) (a2 : Option Addr) (c2 : Nat) (L : List WinY) (b : Bool), e = .returned (.tuple #[.agg #[.slice a0 g.ins.length c0, .slice a1 L.length c1, .slice a2 g.shown.length c2], .bool b]) ∧ NiceG g ∧ L.map (·.l) = g.wins ∧ SafeG w' w.heap.size w'.heap.size a0 a1 a2 g.ins L g.shown ∧ (g.ins.length ≤ c0 ∧ c0 ≤ maxLen) ∧ RoomS w' w.heap.size w'.heap.size a0 a1 c0 c1 g.ins.length L.length := by
  rcases id h with ⟨B, v0, v1, L, v2, hB, rfl, hp, h1, h2, h3, ⟨a2, c2, rfl⟩⟩ | ⟨rfl, hp⟩
  · rcases h.start with ⟨s0, e0, s1, e1, s2, e2, Lw, he, hN, hmap, hsg, hcap⟩ | ⟨he, _⟩
    · simp only [Ending.returned.injEq, Value.tuple.injEq, Array.mk.injEq, List.cons.injEq, Value.agg.injEq, and_true] at he
      obtain ⟨rfl, rfl, he2⟩ := he
      simp only [Value.slice.injEq, true_and] at he2
      obtain ⟨rfl, rfl⟩ := he2
      have hlen : L.length = Lw.length := by
        have q1 := congrArg List.length h3
        have q2 := congrArg List.length hmap
        simp only [List.length_map, List.length_replicate, newG] at q1 q2
        omega
      have ho : w'.ownsRow B 66 1 (.slice s1 Lw.length e1) Lw.length (L.map (·.v)) := by
        have := h2.own
        rw [hlen] at this
        exact this
      exact ⟨newG ins, s0, e0, s1, e1, a2, c2, Lw, true, rfl, newG_nice hN, hmap, hsg, hcap, ⟨⟨_, owns_lower h1 hB⟩, ⟨_, owns_lower ho hB⟩, fun k q => (World.ownsRow.lt h1 k q).2, fun k q => (World.ownsRow.lt ho k q).2⟩⟩
    · simp at he
  · exact ⟨emptyG, none, 0, none, 0, none, 0, [], false, rfl, emptyG_nice, rfl, .inl ⟨rfl, rfl, rfl⟩, ⟨by simp [emptyG], by unfold maxLen; omega⟩, roomS_none _ _ _⟩
/-- The rows of a gather lie in blocks from number 'lo' on. -/
def RowsAt (lo : Nat) (w : World) (g : GatL) (a0 a1 a2 : Option Addr) : Prop := ∀ u, Span 0 lo w u → RowS u a0 g.ins ∧ RowW u a1 g.wins ∧ Row u a2 g.shown
theorem RowsAt.span {lo : Nat} {w w' : World} {g : GatL} {a0 a1 a2 : Option Addr} (h : RowsAt lo w g a0 a1 a2) (hs : Span 0 lo w w') : RowsAt lo w' g a0 a1 a2 := fun u hu => h u (hs.trans hu)
theorem Rd.but {w w' : World} {R n c p b : Nat} {ab : Option Addr} (h : Rd w R ab n c p) (hb : But b w w') (hR : R < b) : Rd w' R ab n c p := h.same fun k hk => hb.block k (by have := h.lt; omega) (by omega)
theorem RoomS.but {w w' : World} {lo hi b : Nat} {a0 a1 : Option Addr} {d0 d1 n0 n1 : Nat} (h : RoomS w lo hi a0 a1 d0 d1 n0 n1) (hb : But b w w') (hd : b < lo ∨ hi ≤ b) : RoomS w' lo hi a0 a1 d0 d1 n0 n1 := h.span (hb.span (Nat.le_refl _) (Nat.lt_succ_self _)) (by omega)
theorem PlyW.but {B R : Nat} {u u' : World} {bG glo ghi : Nat} {g : GatL} {Lw : List WinY} {a0 a1 a2 : Option Addr} {d0 d1 d2 : Nat} (h : PlyW B u bG glo ghi g Lw a0 a1 a2 d0 d1 d2 (.slice none 0 0) (.slice none 0 0) [] []) (hb : But R u u') (h1 : bG ≠ R) (h2 : ghi ≤ R ∨ R < glo) :
    PlyW B u' bG glo ghi g Lw a0 a1 a2 d0 d1 d2 (.slice none 0 0) (.slice none 0 0) [] [] := h.far (hb.span (Nat.le_refl _) (Nat.lt_succ_self _)) (by omega) (by omega)

end Go.Proofs.YtpfhegengmlkmaaGreatDoor
