/- Texts of this claim, one behind the other. -/
import Derived.WalkMore
import Derived.Deep.LoopGhost
import Derived.Test.YtpfhegengmlkmacItG
import Derived.Test.YtpfhegengmlkmacItB
import Derived.Test.YtpfhegengmlkmacLat
import Derived.Laws.IdiomStrings
import Derived.Test.YtpfhegengmlkmacGath
import Derived.Test.YtpfhegengmlkmacItD
import Derived.Test.YtpfhegengmlkmacCBs
import Derived.Test.YtpfhegengmlkmacZCBOwn1
/- Walks: greatest of choices; impl.ChoiceBest. -/
namespace Go.Proofs.Ytpfhegengmlkmac
open Go.RowKit Go.BigFrame
set_option maxRecDepth 100000

/-- No choice that agrees is ahead of these places. -/
def UpP (ws : List (List ItemL)) (ps : List Int) : Prop := ∀ q, ChP ws q → ∀ i, (hq : i < q.length) → (ho : i < ps.length) → q[i] ≤ ps[i]
/-- How far there is to go back. -/
def farM : List Int → Nat
  | [] => 0
  | x :: r => x.toNat + farM r
theorem farM_set : ∀ (l : List Int) (i : Nat) (h : i < l.length), 0 < l[i] → farM (l.set i (l[i] - 1)) < farM l
  | x :: r, 0, _, h0 => by
    simp only [List.getElem_cons_zero] at h0
    simp only [List.set_cons_zero, farM, List.getElem_cons_zero]
    omega
  | x :: r, i + 1, h, h0 => by
    have := farM_set r i (by simpa using h) (by simpa using h0)
    simp only [List.getElem_cons_succ, List.set_cons_succ, farM]
    omega
theorem lasts_up {ws : List (List ItemL)} : UpP ws (lastsM ws) := fun q hc i hq ho => by
  have h1 := hc.2.2.1.2 i hq
  have hw : i < ws.length := by rw [← hc.2.1]; exact hq
  have e : ws.getD i [] = ws[i] := by simp [List.getD, hw]
  rw [e] at h1
  simp only [lastsM, List.getElem_map]
  omega
theorem up_back {ws : List (List ItemL)} {ps : List Int} {sh : List (List Spot)} (hok : OkW ws) (hl : ps.length = ws.length) (hin : InW ws ps) (hsh : SharedP ws sh) (hub : UpP ws ps) {src : List Spot} (hs : src ∈ sh) {p : Spot} (hp : p ∈ src) {x : Int} (hx : ∃ r ∈ src, x = verM ws ps r) (hle : x ≤ verM ws ps p) (hne : ¬ verM ws ps p = x) (hw : p.1 < ps.length) :
    (ps[p.1] = 0 → ∀ q, ¬ ChP ws q) ∧ (¬ ps[p.1] = 0 → InW ws (ps.set p.1 (ps[p.1] - 1)) ∧ UpP ws (ps.set p.1 (ps[p.1] - 1)) ∧ farM (ps.set p.1 (ps[p.1] - 1)) < farM ps) := by
  obtain ⟨r, hr, e⟩ := hx
  have key := step_back hok hl hin hsh hub hs hp hr (by omega)
  have h0 := hin.2 p.1 hw
  refine ⟨fun hz q hq => ?_, fun hz => ⟨⟨by rw [List.length_set]; exact hin.1, fun i hi => ?_⟩, fun q hq i hiq hio => ?_, farM_set ps p.1 hw (by omega)⟩⟩
  · have h1 := key q hq (by rw [hq.2.1]; omega) hw
    have h2 := hq.2.2.1.2 p.1 (by rw [hq.2.1]; omega)
    omega
  · have hi' : i < ps.length := by simpa using hi
    by_cases e2 : i = p.1
    · subst e2
      rw [List.getElem_set_self]
      omega
    · rw [List.getElem_set_ne (fun h => e2 h.symm)]
      exact hin.2 i hi'
  · have hi' : i < ps.length := by simpa using hio
    by_cases e2 : i = p.1
    · subst e2
      rw [List.getElem_set_self]
      have := key q hq hiq hw
      omega
    · rw [List.getElem_set_ne (fun h => e2 h.symm)]
      exact hub q hq i hiq hi'

/-- What greatest answers. -/
def BesE (w w' : World) (ws : List (List ItemL)) (e : Ending) : Prop := (∃ g c out, e = .returned (.tuple #[.slice (some ⟨g, 0, none⟩) out.length c, .bool true]) ∧ BestP ws out true ∧ w.heap.size ≤ g ∧ NumB w' g out) ∨ (e = .returned (.tuple #[.slice none 0 0, .bool false]) ∧ BestP ws [] false)

set_option maxHeartbeats 3200000 in
theorem greatest_any (W0 w : World) (b : Nat) (ws : List (List ItemL)) (sh : List (List Spot)) (h : ChB W0 w b ws sh) (hW : Below W0.heap.size W0 w) (hok : OkW ws) (hsh : ShW ws sh) :
    Calls Try.prog 63 #[.pointer (some ⟨b, 0, none⟩)] w fun e w' => BesE w w' ws e ∧ Below w.heap.size w w' := by
  have HOK : Hid (OkW ws) := hok
  have HSH : Hid (ShW ws sh) := hsh
  have HC : Hid (ChB W0 w b ws sh) := h
  have h6 := hok.2.1
  have hshl := hsh.2.2
  clear hok hsh
  go_enter Try.func63, Try.ntmps63
  go_wp2_with fail
  go_step3
  go_wp2_with fail
  refine (lasts_any W0 w b ws sh HC.out HOK.out).mono ?_
  rintro e w1 ⟨⟨g, c, ok, rfl, hok2, hge, hnb⟩, b1⟩
  have HR : Hid (ok = true ↔ InW ws (lastsM ws)) := hok2
  clear hok2
  cases ok with
  | false =>
    have HN : Hid (BestP ws [] false) := .inr ⟨rfl, rfl, fun q hq => by
      have : InW ws (lastsM ws) := ⟨by rw [lastsM_len]; exact Nat.le_refl _, fun i hi => by
        have hi' : i < ws.length := by simpa [lastsM_len] using hi
        have h1 := hq.2.2.1.2 i (by rw [hq.2.1]; exact hi')
        have e : ws.getD i [] = ws[i] := by simp [List.getD, hi']
        rw [e] at h1 ⊢
        simp only [lastsM, List.getElem_map]
        omega⟩
      have := HR.out.2 this
      simp at this⟩
    go_wp2_with fail
    try rw [Exit.noGoto_ret]
    exact bodyPost_ret (v := .tuple #[.slice none 0 0, .bool false]) (by simp [results, Try.results63, go_sem]) rfl ⟨.inr ⟨rfl, HN.out⟩, b1⟩
  | true =>
    have HIN : Hid (InW ws (lastsM ws)) := HR.out.1 rfl
    clear HR
    go_wp2_with fail
    go_step3
    go_wp2_with fail
    go_loopg [23] (farM (lastsM ws)) (fun gk u wr => ∃ ps : List Int, farM ps ≤ gk ∧ ps.length = ws.length ∧ Hid (InW ws ps) ∧ Hid (UpP ws ps) ∧ NumB wr g ps ∧ Below w.heap.size w wr)
    case atStart => exact ⟨lastsM ws, Nat.le_refl _, lastsM_len ws, HIN, lasts_up, hnb, b1⟩
    case round =>
      clear HIN hnb b1
      obtain ⟨ps, hfar, hlen, HIN, HUP, hnb, hbl⟩ := hrel
      have HLEN : Hid (ps.length = ws.length) := hlen
      clear hlen
      have hcb := HC.out.below hbl
      obtain ⟨hbb, va, vc, va', vc', e0, _, e1, _, _, hg⟩ := id hcb
      have hWr : Below W0.heap.size W0 wr := hW.trans (hbl.mono hW.size)
      go_wp2_with fail
      go_loopw [23] (fun i wr2 => ∃ k : Nat, k ≤ sh.length ∧ i = .int .i64 k ∧ Hid (∀ j, (h : j < sh.length) → j < k → SameTo ws ps sh[j] sh[j].length) ∧ Below wr.heap.size wr wr2) (fun i _ => sh.length - (intOf i).toNat)
      case atStart => exact ⟨0, Nat.zero_le _, rfl, fun _ _ h => absurd h (Nat.not_lt_zero _), Below.refl _ _⟩
      case round =>
        obtain ⟨k, hk, rfl, HI, hbl2⟩ := hrel
        by_cases hlt : k < sh.length
        · obtain ⟨b1, o1, rfl, hb1, s1, t1, f1, ht1, hpr⟩ := hg.below hbl2 k hlt
          have k0 : (0 : Int) ≤ (k : Int) := by omega
          have k1 : (k : Int) < (sh.length : Int) := by omega
          have hsrc := HSH.out.2.1 sh[k] (List.getElem_mem hlt)
          have hs1 := hsrc.1
          have hs2 := hsrc.2
          have hmem : sh[k] ∈ sh := List.getElem_mem hlt
          have hnb2 := hnb.below hbl2
          have hle := least_any W0 _ b ws sh (some ⟨g, 0, none⟩) s1 c t1 ps sh[k] (hcb.below hbl2) (hWr.trans (hbl2.mono hWr.size)) HOK.out HLEN.out HIN.out hnb2.row HSH.out hmem hpr
          rw [HLEN.out] at hle
          clear hsrc
          go_wp2_with fail
          refine hle.mono ?_
          rintro e w3 ⟨⟨x, rfl, hx1, hx2⟩, b3⟩
          have HX : Hid ((∀ p ∈ sh[k], x ≤ verM ws ps p) ∧ ∃ p ∈ sh[k], x = verM ws ps p) := ⟨hx1, hx2⟩
          have B3 := hbl2.trans (b3.mono hbl2.size)
          clear hle hx1 hx2 hnb2
          go_wp2_with fail
          have hpr3 := hpr.below b3
          have hnb3 := hnb.below B3
          have hcb3 := hcb.below B3
          have BW3 := hbl.trans (B3.mono hbl.size)
          clear hnb hcb hpr b3 hbl2 f1 hg e0 e1
          go_loopw [33] (fun i3 wr3 => ∃ j : Nat, j ≤ sh[k].length ∧ i3 = .int .i64 j ∧ Hid (∀ i, (h : i < sh[k].length) → i < j → verM ws ps sh[k][i] = x) ∧ Below w3.heap.size w3 wr3) (fun i3 _ => sh[k].length - (intOf i3).toNat)
          case atStart => exact ⟨0, Nat.zero_le _, rfl, fun _ _ h => absurd h (Nat.not_lt_zero _), Below.refl _ _⟩
          case round =>
            obtain ⟨j, hj, rfl, HJ, hbl3⟩ := hrel
            by_cases hjlt : j < sh[k].length
            · obtain ⟨b2, o2, rfl, hb2, f2, f3⟩ := hpr3.below hbl3 j hjlt
              have j0 : (0 : Int) ≤ (j : Int) := by omega
              have j1 : (j : Int) < (sh[k].length : Int) := by omega
              obtain ⟨sn, hall⟩ := HSH.out.1.1 sh[k] hmem
              have hspot := hall sh[k][j] (List.getElem_mem hjlt)
              obtain ⟨hpw, hpp, _⟩ := ver_facts HOK.out HLEN.out HIN.out hspot
              have hback := up_back HOK.out HLEN.out HIN.out HSH.out.1 HUP.out hmem (List.getElem_mem hjlt) HX.out.2 (HX.out.1 _ (List.getElem_mem hjlt))
              have HBK : Hid (∀ hne : ¬ verM ws ps sh[k][j] = x, (ps[sh[k][j].1] = 0 → ∀ q, ¬ ChP ws q) ∧ (¬ ps[sh[k][j].1] = 0 → InW ws (ps.set sh[k][j].1 (ps[sh[k][j].1] - 1)) ∧ UpP ws (ps.set sh[k][j].1 (ps[sh[k][j].1] - 1)) ∧ farM (ps.set sh[k][j].1 (ps[sh[k][j].1] - 1)) < farM ps)) := fun hne => hback hne hpp
              clear hback
              have hb0 : Below wr.heap.size wr (wr.alloc (.cells #[.int .i64 (sh[k][j].1 : Int), .int .i64 (sh[k][j].2 : Int)] 119)) := (Below.refl _ _).alloc (Nat.le_refl _) _
              have hlt0 := box_lt wr (.cells #[.int .i64 (sh[k][j].1 : Int), .int .i64 (sh[k][j].2 : Int)] 119)
              have d0 := box0 wr (.int .i64 (sh[k][j].1 : Int)) (.int .i64 (sh[k][j].2 : Int)) 119
              have hcb4 := (hcb3.below hbl3).below hb0
              have hnb4 := (hnb3.below hbl3).below hb0
              have BW := (BW3.trans (hbl3.mono BW3.size))
              have BW4 := BW.trans (hb0.mono BW.size)
              have hver := version_any W0 _ b ws sh (some ⟨g, 0, none⟩) c ps sh[k][j] sn hcb4 (hW.trans (BW4.mono hW.size)) HOK.out HLEN.out HIN.out hnb4.row hspot
              rw [HLEN.out] at hver
              clear hcb4
              go_wp2_with fail
              generalize wr.alloc (.cells #[.int .i64 (sh[k][j].1 : Int), .int .i64 (sh[k][j].2 : Int)] 119) = W at *
              refine hver.mono ?_
              rintro e w5 ⟨rfl, b5⟩
              have hnb5 := hnb4.below b5
              have d5 := cell_on b5 hlt0 d0
              have BW5 := BW4.trans (b5.mono BW4.size)
              have hbl5 := (hbl3.trans (hb0.mono hbl3.size)).trans (b5.mono (Nat.le_trans hbl3.size hb0.size))
              clear hver hnb4 d0
              by_cases he : verM ws ps sh[k][j] = x
              · have HJ2 : Hid (∀ i, (h : i < sh[k].length) → i < j + 1 → verM ws ps sh[k][i] = x) := fun i hi hlt' => by
                  by_cases e : i = j
                  · subst e; exact he
                  · exact HJ.out i hi (by omega)
                have he' : (verM ws ps sh[k][j] == x) = true := by rw [beq_iff_eq]; exact he
                clear he HBK
                go_wp2_with fail
                exact ⟨⟨j + 1, by omega, by go_num, HJ2, hbl5⟩, by simp [intOf]; omega⟩
              · have hb2k := HBK.out he
                have he' : (verM ws ps sh[k][j] == x) = false := by rw [beq_eq_false_iff_ne]; exact he
                have p0 := hnb5.cell hpp
                have p1 := hnb5.frozen sh[k][j].1
                have i0 : (0 : Int) ≤ (sh[k][j].1 : Int) := by omega
                have i1 : (sh[k][j].1 : Int) < (ws.length : Int) := by omega
                clear HBK he
                by_cases hz : ps[sh[k][j].1] = 0
                · have HN : Hid (BestP ws [] false) := .inr ⟨rfl, rfl, hb2k.1 hz⟩
                  have hz' : (ps[sh[k][j].1] == 0) = true := by rw [beq_iff_eq]; exact hz
                  clear hb2k hz
                  go_wp2_with fail
                  try rw [Exit.noGoto_ret]
                  exact bodyPost_ret (v := .tuple #[.slice none 0 0, .bool false]) (by simp [results, Try.results63, go_sem]) rfl ⟨.inr ⟨rfl, HN.out⟩, BW5⟩
                · have HBB : Hid (InW ws (ps.set sh[k][j].1 (ps[sh[k][j].1] - 1)) ∧ UpP ws (ps.set sh[k][j].1 (ps[sh[k][j].1] - 1)) ∧ farM (ps.set sh[k][j].1 (ps[sh[k][j].1] - 1)) < farM ps) := hb2k.2 hz
                  have hz' : (ps[sh[k][j].1] == 0) = false := by rw [beq_eq_false_iff_ne]; exact hz
                  have hpos : 0 ≤ ps[sh[k][j].1] ∧ ps[sh[k][j].1] ≤ 4 := by
                    have h3 := HIN.out.2 _ hpp
                    have e3 : ws.getD sh[k][j].1 [] = ws[sh[k][j].1] := by simp [List.getD, hpw]
                    rw [e3] at h3
                    have := (HOK.out.2.2 _ hpw).1
                    omega
                  have q0 := hpos.1
                  have q1 := hpos.2
                  clear hb2k hz hpos
                  go_wp2_with fail
                  go_roundg (farM (ps.set sh[k][j].1 (ps[sh[k][j].1] - 1)))
                  case measure => have := HBB.out.2.2; omega
                  case rel => exact ⟨ps.set sh[k][j].1 (ps[sh[k][j].1] - 1), Nat.le_refl _, by rw [List.length_set]; exact HLEN.out, HBB.out.1, HBB.out.2.1, hnb5.set _ _, BW5.setCell hge _⟩
            · have HI2 : Hid (∀ q, (h : q < sh.length) → q < k + 1 → SameTo ws ps sh[q] sh[q].length) := fun q hq hlt' => by
                by_cases e : q = k
                · subst e
                  exact fun i hi _ h0 => by rw [HJ.out i hi (by omega), HJ.out 0 h0 (by omega)]
                · exact HI.out q hq (by omega)
              go_wp2_with fail
              exact ⟨⟨k + 1, by omega, by go_num, HI2, B3.trans (hbl3.mono B3.size)⟩, by simp [intOf]; omega⟩
        · have HA : Hid (AgW ws ps) := agW_same HOK.out HLEN.out HIN.out HSH.out.1 (fun j hj => HI.out j hj (by omega))
          have HB : Hid (BestP ws ps true) := .inl ⟨rfl, ⟨HOK.out, HLEN.out, HIN.out, HA.out⟩, HUP.out⟩
          go_wp2_with fail
          try rw [Exit.noGoto_ret]
          exact bodyPost_ret (v := .tuple #[.slice (some ⟨g, 0, none⟩) ps.length c, .bool true]) (by simp [results, Try.results63, go_sem, HLEN.out]) rfl ⟨.inl ⟨g, c, ps, rfl, HB.out, hge, hnb.below hbl2⟩, hbl.trans (hbl2.mono hbl.size)⟩

set_option maxHeartbeats 800000 in
theorem implCB_any (a : Option Addr) (cap : Nat) (ws : List (List ItemL)) (w : World) (hf : FitW ws) (hr : RowW w a ws) :
    Calls Try.prog 25 #[.slice a ws.length cap] w fun e w' => BesE w w' ws e ∧ Below w.heap.size w w' := by
  go_enter Try.func25, Try.ntmps25
  go_wp2_with fail
  refine (readChoices_any a cap ws _ hf hr).mono ?_
  rintro e w1 ⟨hE, b1⟩
  rcases hE with ⟨a1, c1, a2, c2, sh, rfl, hok, hc1, hc2, hrv, hrg, hsw⟩ | ⟨rfl, hno⟩
  · have HOK : Hid (OkW ws) := hok
    have HSW : Hid (ShW ws sh) := hsw
    clear hok hsw
    have hcb := chB_new hrv hrg hc1 hc2
    have hbx : Below w1.heap.size w1 (w1.alloc (.cells #[.slice a1 ws.length c1, .slice a2 sh.length c2] 90)) := (Below.refl _ _).alloc (Nat.le_refl _) _
    have BX : Below w.heap.size w (w1.alloc (.cells #[.slice a1 ws.length c1, .slice a2 sh.length c2] 90)) := b1.trans (hbx.mono b1.size)
    go_wp2_with fail
    generalize w1.alloc (.cells #[.slice a1 ws.length c1, .slice a2 sh.length c2] 90) = W at *
    refine (greatest_any w W w1.heap.size ws sh hcb BX HOK.out HSW.out).mono ?_
    rintro e w2 ⟨hB, b2⟩
    have B2 : Below w.heap.size w w2 := BX.trans (b2.mono BX.size)
    rcases hB with ⟨g, c, out, rfl, hbest, hge, hnb⟩ | ⟨rfl, hbest⟩
    · have HB : Hid (BestP ws out true) := hbest
      clear hbest
      go_wp2_with fail
      exact bodyPost_ret (v := .tuple #[.slice (some ⟨g, 0, none⟩) out.length c, .bool true]) (by simp [results, Try.results25, go_sem]) rfl ⟨.inl ⟨g, c, out, rfl, HB.out, Nat.le_trans BX.size hge, hnb⟩, B2⟩
    · have HB : Hid (BestP ws [] false) := hbest
      clear hbest
      go_wp2_with fail
      exact bodyPost_ret (v := .tuple #[.slice none 0 0, .bool false]) (by simp [results, Try.results25, go_sem]) rfl ⟨.inr ⟨rfl, HB.out⟩, B2⟩
  · have HN : Hid (BestP ws [] false) := none_best (.inl hno)
    clear hno
    go_wp2_with fail
    exact bodyPost_ret (v := .tuple #[.slice none 0 0, .bool false]) (by simp [results, Try.results25, go_sem]) rfl ⟨.inr ⟨rfl, HN.out⟩, b1.alloc b1.size _⟩

end Go.Proofs.Ytpfhegengmlkmac
/- Windows in blocks of the call's own. Walk: toItemSS. -/
namespace Go.Proofs.Ytpfhegengmlkmac
open Go.RowKit Go.BigFrame

theorem PartI.setBelow {w : World} {lo T g k q : Nat} {l : List ItemL} (h : PartI w lo T g l k) (hq : q < lo) (hg : q < g) (i : Nat) (v : Value) : PartI (w.setCell ⟨q, i, none⟩ v) lo T g l k := by
  obtain ⟨G, C, m, f, h, hm, hf, hd⟩ := h
  refine ⟨G, C, m, f, h.of_block (Below.heap_setCell _ _ _ _ (by simp only; omega)), hm, fun j hj hk => ?_, hd⟩
  obtain ⟨h1, h2, h3, h4, h5, h6, h7⟩ := hf j hj hk
  exact ⟨h1, h2, h3, h4.setOther (by omega) _ _, h5, h6, h7⟩
/-- The first 'k' windows of 'ws' lie in block 'g', which has room for all; each window's items lie in blocks of their own, from 'lo' on, one window behind the other, ahead of 'T'. -/
def PartW (w : World) (lo T g : Nat) (ws : List (List ItemL)) (k : Nat) : Prop :=
  ∃ (L U G : Nat → Nat) (f : Nat → Value), w.rowIs g 25 ws.length f ∧
    (∀ j, (h : j < ws.length) → j < k → f j = .slice (some ⟨G j, 0, none⟩) ws[j].length ws[j].length ∧ PartI w (L j) (U j) (G j) ws[j] ws[j].length ∧ lo ≤ L j ∧ L j ≤ G j ∧ G j < U j ∧ U j ≤ T) ∧ ∀ i j, i < j → j < k → U i ≤ L j
theorem PartW.lt {w : World} {lo T g k : Nat} {ws : List (List ItemL)} (h : PartW w lo T g ws k) : g < w.heap.size := by
  obtain ⟨_, _, _, _, h, _⟩ := h
  exact h.lt
theorem PartW.below {w w' : World} {lo T g k : Nat} {ws : List (List ItemL)} (h : PartW w lo T g ws k) (hb : Below w.heap.size w w') : PartW w' lo T g ws k := by
  have hlt := h.lt
  obtain ⟨L, U, G, f, h, hf, hd⟩ := h
  refine ⟨L, U, G, f, h.of_block (hb.block g hlt), fun j hj hk => ?_, hd⟩
  obtain ⟨h1, h2, h3⟩ := hf j hj hk
  exact ⟨h1, h2.below hb, h3⟩
theorem PartW.grow {w : World} {lo T T' g k : Nat} {ws : List (List ItemL)} (h : PartW w lo T g ws k) (hT : T ≤ T') : PartW w lo T' g ws k := by
  obtain ⟨L, U, G, f, h, hf, hd⟩ := h
  refine ⟨L, U, G, f, h, fun j hj hk => ?_, hd⟩
  obtain ⟨h1, h2, h3, h4, h5, h6⟩ := hf j hj hk
  exact ⟨h1, h2, h3, h4, h5, by omega⟩
theorem PartW.made (w : World) (lo : Nat) (ws : List (List ItemL)) (z : Value) : PartW (w.alloc (.cells (madeCells #[z] ws.length) 25)) lo (w.heap.size + 1) w.heap.size ws 0 := by
  refine ⟨fun _ => 0, fun _ => 0, fun _ => 0, fun i => #[z][i % 1]!, ?_, fun j _ h => by omega, fun i j _ h => by omega⟩
  have h := World.rowIs_alloc w (madeCells #[z] ws.length) 25 (fun i => #[z][i % 1]!) (fun i hi => by
    rw [size_madeCells] at hi
    simp [madeCells, hi])
  rwa [size_madeCells] at h
theorem PartW.cell {w : World} {lo T g k : Nat} {ws : List (List ItemL)} (h : PartW w lo T g ws k) {i : Nat} (hi : i < ws.length) : ∃ v, w.cell? ⟨g, i, none⟩ = some v := by
  obtain ⟨_, _, _, f, h, _⟩ := h
  exact ⟨_, h.cell hi⟩
theorem PartW.frozen {w : World} {lo T g k : Nat} {ws : List (List ItemL)} (h : PartW w lo T g ws k) (i : Nat) : w.frozen? ⟨g, i, none⟩ = false := by
  obtain ⟨_, _, _, f, h, _⟩ := h
  exact h.frozen i
theorem PartW.step {w : World} {lo T g k b U' : Nat} {ws : List (List ItemL)} (h : PartW w lo T g ws k) (hk : k < ws.length) (hgl : g < lo) (hT : T ≤ b) (hlo : lo ≤ b) (hU : b < U') (hp : PartI w b U' b ws[k] ws[k].length) :
    PartW (w.setCell ⟨g, k, none⟩ (.slice (some ⟨b, 0, none⟩) ws[k].length ws[k].length)) lo U' g ws (k + 1) := by
  obtain ⟨L, U, G, f, h, hf, hd⟩ := h
  refine ⟨fun j => if j = k then b else L j, fun j => if j = k then U' else U j, fun j => if j = k then b else G j, _, h.set _ _, fun j hj hlt => ?_, fun i j hij hj => ?_⟩
  · by_cases e : j = k
    · subst e
      simp only [if_true]
      exact ⟨by simp, hp.setBelow (by omega) (by omega) _ _, hlo, Nat.le_refl _, hU, Nat.le_refl _⟩
    · obtain ⟨h1, h2, h3, h4, h5, h6⟩ := hf j hj (by omega)
      simp only [if_neg e]
      exact ⟨h1, h2.setBelow (by omega) (by omega) _ _, h3, h4, h5, by omega⟩
  · by_cases e' : j = k
    · subst e'
      have := (hf i (by omega) hij).2.2.2.2.2
      simp only [if_true, if_neg (by omega : ¬ i = j)]
      omega
    · simp only [if_neg e', if_neg (by omega : ¬ i = k)]
      exact hd i j hij (by omega)
theorem PartW.row {w : World} {lo T g : Nat} {ws : List (List ItemL)} (h : PartW w lo T g ws ws.length) : RowW w (some ⟨g, 0, none⟩) ws := fun k hk => by
  obtain ⟨L, U, G, f, h, hf, _⟩ := h
  obtain ⟨h1, h2, _⟩ := hf k hk hk
  exact ⟨g, 0, rfl, h.lt, _, _, by rw [Nat.zero_add, h.cell hk, h1], Nat.le_refl _, h2.row⟩
theorem Try.infoW : (Try.prog.info? 25).map (fun i => (i.zero, i.size, i.bytes)) = some (some (.slice none 0 0), 1, 24) := by kernel_rfl

set_option maxHeartbeats 800000 in
theorem toItemSS_any (a : Option Addr) (cap : Nat) (ws : List (List ItemL)) (w : World) (hl : ws.length ≤ 1048576) (hs : ∀ j, (h : j < ws.length) → ws[j].length ≤ 1048576 ∧ ∀ i, (h' : i < ws[j].length) → ws[j][i].2.length ≤ 1048576) (hr : RowW w a ws) :
    Calls Try.prog 17 #[.slice a ws.length cap] w fun e w' => e = .returned (.slice (some ⟨w.heap.size, 0, none⟩) ws.length ws.length) ∧ PartW w' (w.heap.size + 1) w'.heap.size w.heap.size ws ws.length ∧ Below w.heap.size w w' := by
  obtain ⟨i0, hi, hz0, hz1, hz2⟩ := info_parts Try.infoW
  have hmk : ∀ u : World, (Instr.makeSlice 33 (.int .i64 (ws.length : Int)) (.int .i64 (ws.length : Int))).run Try.prog u =
      .ok (.slice (some ⟨u.heap.size, 0, none⟩) ws.length ws.length) (u.alloc (.cells (madeCells #[.slice none 0 0] ws.length) 25)) := fun u => by
    have h := run_make (P := Try.prog) u 33 25 i0 (.slice none 0 0) Try.underlying33 hi hz0 .i64 .i64 (ws.length : Int) (ws.length : Int) (by omega) (Int.le_refl _) (by rw [hz2]; omega) (by omega)
    simpa [hz1, Value.cells] using h
  go_enter Try.func17, Try.ntmps17
  go_wp2_with fail
  go_loopw [4] (fun i wr => ∃ k : Nat, k ≤ ws.length ∧ i = .int .i64 k ∧ PartW wr (w.heap.size + 1) wr.heap.size w.heap.size ws k ∧ Below w.heap.size w wr) (fun i _ => ws.length - (intOf i).toNat)
  case atStart => exact ⟨0, Nat.zero_le _, rfl, (PartW.made w _ ws _).grow (by simp), (Below.refl _ _).alloc (Nat.le_refl _) _⟩
  case round =>
    obtain ⟨k, hk, rfl, hp, hb⟩ := hrel
    have hzr := hb.size
    have hpl := hp.lt
    by_cases hlt : k < ws.length
    · obtain ⟨b, o, rfl, hblt, s1, t1, c1, _, hrow⟩ := hr.below hb k hlt
      have k0 : (0 : Int) ≤ (k : Int) := by omega
      have k1 : (k : Int) < (ws.length : Int) := by omega
      have hsk := hs k hlt
      go_wp2_with fail
      refine (toItemS_any s1 t1 ws[k] _ hsk.1 hsk.2 hrow).mono ?_
      rintro e w1 ⟨rfl, hpi, b1⟩
      have hp1 := hp.below b1
      have hlt2 := hpi.lt
      obtain ⟨v0, hv0⟩ := hp1.cell (i := k) hlt
      have hf0 := hp1.frozen k
      have B1 : Below w.heap.size w w1 := hb.trans (b1.mono hzr)
      have hstep := hp1.step hlt (by omega) (Nat.le_refl _) (by omega) hlt2 hpi
      go_wp2_with fail
      exact ⟨⟨k + 1, by omega, by go_num, hstep.grow (by simp), B1.setCell (Nat.le_refl _) _⟩, by simp [intOf]; omega⟩
    · obtain rfl : k = ws.length := by omega
      go_wp2_with fail
      go_ret
      exact ⟨rfl, hp, hb⟩

end Go.Proofs.Ytpfhegengmlkmac
/- The laws' size tests, with sums: szMarkS, szItem, szItemS, szItemSS. -/
namespace Go.Proofs.Ytpfhegengmlkmac
open Go.RowKit

/-- How many marks the items have together. -/
def lens : List ItemL → Nat
  | [] => 0
  | x :: l => x.2.length + lens l
theorem lens_append (l m : List ItemL) : lens (l ++ m) = lens l + lens m := by
  induction l with
  | nil => simp [lens]
  | cons x l ih => simp [lens, ih]; omega
theorem lens_take {l : List ItemL} {k : Nat} (h : k < l.length) : lens (l.take (k + 1)) = lens (l.take k) + l[k].2.length := by
  rw [List.take_succ_eq_append_getElem h, lens_append]
  simp [lens]

set_option maxHeartbeats 400000 in
theorem szMarkS_w (a : Option Addr) (cap : Nat) (l : List (ByteArray × Int)) (left : Int) (w : World) (hl : l.length ≤ maxLen) (hr : Row w a l) (hs : ∀ j, (h : j < l.length) → l[j].1.size ≤ maxLen) (h0 : 0 ≤ left) (h1 : left ≤ 1048576) :
    Calls Try.prog 74 #[.slice a l.length cap, .int .i64 left] w fun e w' => ∃ r : Int, e = .returned (.int .i64 r) ∧ -1 ≤ r ∧ r ≤ left ∧ (0 ≤ r → r + (l.length : Int) ≤ left ∧ SmallM left l) ∧ Below w.heap.size w w' := by
  unfold maxLen at hl
  by_cases hc : left - (l.length : Int) < 0
  · go_enter Try.func74, Try.ntmps74
    go_wp2_with fail
    go_ret
    exact ⟨-1, rfl, by omega, by omega, fun h => by omega, Below.refl _ _⟩
  · go_enter Try.func74, Try.ntmps74
    go_wp2_with fail
    go_loopw [1, 5] (fun lf i wr => ∃ (k : Nat) (q : Int), k ≤ l.length ∧ i = .int .i64 k ∧ lf = .int .i64 q ∧ 0 ≤ q ∧ q + (l.length : Int) ≤ left ∧ (∀ j, (h : j < l.length) → j < k → (l[j].1.size : Int) ≤ left) ∧ Below w.heap.size w wr) (fun _ i _ => l.length - (intOf i).toNat)
    case atStart => exact ⟨0, _, Nat.zero_le _, rfl, rfl, by omega, by omega, fun j _ h => by omega, Below.refl _ _⟩
    case round =>
      obtain ⟨k, q, hk, rfl, rfl, hq0, hq1, hall, hb⟩ := hrel
      by_cases hlt : k < l.length
      · obtain ⟨b, o, rfl, hblt, c0, c1⟩ := hr k hlt
        obtain ⟨hcc, hf⟩ := bcell hb
        have HS := hs k hlt
        have HST := sz_step hall hlt
        go_wp2_with (first | (go_at_call 102; refine (szMark_any _ _ _ _ HS hq0 (by omega)).mono ?_; rintro e w' ⟨r, rfl, hr0, hr1, hr2, hb1⟩))
        · go_ret
          exact ⟨_, rfl, by omega, by omega, fun h => by omega, hb.trans (hb1.mono hb.size)⟩
        · exact ⟨⟨k + 1, _, by omega, by go_num, rfl, by omega, by omega, HST (by have := hr2 (by omega); omega), hb.trans (hb1.mono hb.size)⟩, by simp [intOf]; omega⟩
      · go_wp2_with fail
        go_ret
        exact ⟨q, rfl, by omega, by omega, fun _ => ⟨hq1, by omega, fun j hj => hall j hj (by omega)⟩, hb⟩

set_option maxHeartbeats 400000 in
theorem szItem_w (x : Int) (a : Option Addr) (c : Nat) (l : List (ByteArray × Int)) (left : Int) (w : World) (hr : Row w a l) (hf : FitM l) (h0 : 0 ≤ left) (h1 : left ≤ 1048576) :
    Calls Try.prog 47 #[.agg #[.int .i64 x, .slice a l.length c], .int .i64 left] w fun e w' => ∃ r : Int, e = .returned (.int .i64 r) ∧ -1 ≤ r ∧ r ≤ left ∧ (0 ≤ r → r + (l.length : Int) ≤ left ∧ SmallM left l) ∧ Below w.heap.size w w' := by
  go_enter Try.func47, Try.ntmps47
  go_wp2_with fail
  have hb0 : Below w.heap.size w (w.alloc (.cells #[.int .i64 x, .slice a l.length c] 70)) := (Below.refl _ _).alloc (Nat.le_refl _) _
  refine (szMarkS_w a c l left _ hf.1 (hr.below hb0) hf.2 h0 h1).mono ?_
  rintro e w1 ⟨r, rfl, hr0, hr1, hr2, b1⟩
  have B1 : Below w.heap.size w w1 := hb0.trans (b1.mono hb0.size)
  have HR2 : Hid (0 ≤ r → r + (l.length : Int) ≤ left ∧ SmallM left l) := hr2
  clear hr2
  by_cases hneg : r < 0
  · go_wp2_with fail
    go_ret
    exact ⟨-1, rfl, by omega, by omega, fun h => by omega, B1⟩
  · go_wp2_with fail
    go_ret
    exact ⟨r, rfl, hr0, hr1, HR2.out, B1⟩

set_option maxHeartbeats 800000 in
theorem szItemS_w (a : Option Addr) (cap : Nat) (l : List ItemL) (left : Int) (w : World) (hr : RowI w a l) (hf : FitI l) (h0 : 0 ≤ left) (h1 : left ≤ 1048576) :
    Calls Try.prog 10 #[.slice a l.length cap, .int .i64 left] w fun e w' => ∃ r : Int, e = .returned (.int .i64 r) ∧ -1 ≤ r ∧ r ≤ left ∧ (0 ≤ r → r + (l.length : Int) + (lens l : Int) ≤ left ∧ SmallI left l) ∧ Below w.heap.size w w' := by
  have hl := hf.1
  unfold maxLen at hl
  by_cases hc : left - (l.length : Int) < 0
  · go_enter Try.func10, Try.ntmps10
    go_wp2_with fail
    go_ret
    exact ⟨-1, rfl, by omega, by omega, fun h => by omega, Below.refl _ _⟩
  · go_enter Try.func10, Try.ntmps10
    go_wp2_with fail
    go_loopw [1, 5] (fun lf i wr => ∃ (k n : Nat) (q : Int), k ≤ l.length ∧ i = .int .i64 k ∧ lf = .int .i64 q ∧ 0 ≤ q ∧ Hid (n = lens (l.take k)) ∧ q + (l.length : Int) + (n : Int) ≤ left ∧ (∀ j, (h : j < l.length) → j < k → SmallM left l[j].2) ∧ Below w.heap.size w wr) (fun _ i _ => l.length - (intOf i).toNat)
    case atStart => exact ⟨0, 0, _, Nat.zero_le _, rfl, rfl, by omega, rfl, by omega, fun j _ h => by omega, Below.refl _ _⟩
    case round =>
      obtain ⟨k, n, q, hk, rfl, rfl, hq0, HN, hq1, hall, hb⟩ := hrel
      by_cases hlt : k < l.length
      · obtain ⟨b, o, rfl, hblt, c0, v, c1, hv⟩ := hr.below hb k hlt
        obtain ⟨sa, sc, rfl, hcap, hrow⟩ := hv
        have HST : Hid (SmallM left l[k].2 → ∀ j, (h : j < l.length) → j < k + 1 → SmallM left l[j].2) := szI_step hall hlt
        have HN2 : Hid (n + l[k].2.length = lens (l.take (k + 1))) := by rw [lens_take hlt, ← HN.out]; rfl
        have k0 : (0 : Int) ≤ (k : Int) := by omega
        have k1 : (k : Int) < (l.length : Int) := by omega
        clear hall
        go_wp2_with fail
        refine (szItem_w _ sa sc l[k].2 q _ hrow (hf.2 k hlt) hq0 (by omega)).mono ?_
        rintro e w1 ⟨r, rfl, hr0, hr1, hr2, hb1⟩
        have HR2 : Hid (0 ≤ r → r + (l[k].2.length : Int) ≤ q ∧ SmallM q l[k].2) := hr2
        clear hr2
        by_cases hneg : r < 0
        · go_wp2_with fail
          go_ret
          exact ⟨-1, rfl, by omega, by omega, fun h => by omega, hb.trans (hb1.mono hb.size)⟩
        · have hle := (HR2.out (by omega)).1
          go_wp2_with fail
          exact ⟨⟨k + 1, n + l[k].2.length, r, by omega, by go_num, rfl, by omega, HN2, by omega, HST.out ((HR2.out (by omega)).2.mono (by omega)), hb.trans (hb1.mono hb.size)⟩, by simp [intOf]; omega⟩
      · have HF : Hid (n = lens l) := by rw [HN.out, List.take_of_length_le (by omega)]; rfl
        go_wp2_with fail
        go_ret
        exact ⟨q, rfl, by omega, by omega, fun _ => ⟨by rw [← HF.out]; exact hq1, by omega, fun j hj => hall j hj (by omega)⟩, hb⟩

end Go.Proofs.Ytpfhegengmlkmac
/- Walks: markText, markMarkS, heldMarkS. -/
namespace Go.Proofs.Ytpfhegengmlkmac
open Go.RowKit Go.BigFrame

/-- string([]byte{d}) of a byte that was just laid. -/
theorem conv_one (d : Int) (h0 : 0 ≤ d) (h1 : d ≤ 255) (u : World) :
    (convert 129 9 (.slice (some ⟨u.heap.size, 0, none⟩) 1 1)).run Try.prog (u.alloc (.cells #[.int .u8 d] 5)) = .ok (.string ⟨#[UInt8.ofNat d.toNat]⟩) (u.alloc (.cells #[.int .u8 d] 5)) := by
  have h := run_convert_bytes_back (P := Try.prog) (u.alloc (.cells #[.int .u8 d] 5)) 129 9 5 ⟨u.heap.size, 0, none⟩ 1 [UInt8.ofNat d.toNat] Try.underlying129 Try.underlying5 Try.underlying9 (fun j hj => by
    obtain rfl : j = 0 := by simpa using hj
    have e : ((UInt8.ofNat d.toNat).toNat : Int) = d := by
      rw [UInt8.toNat_ofNat']
      omega
    simp [Addr.add, go_sem]
    omega)
  simpa using h

/-- The decimal text of q ahead of 'out', by so many steps at the most. -/
def mtF : Nat → Nat → ByteArray → ByteArray
  | 0, _, out => out
  | f + 1, q, out => if q = 0 then out else mtF f (q / 10) (⟨#[48 + UInt8.ofNat (q % 10)]⟩ ++ out)
theorem mtF_zero (f : Nat) (out : ByteArray) : mtF f 0 out = out := by cases f <;> simp [mtF]
theorem mtF_step (f q : Nat) (out : ByteArray) (h : 0 < q) : mtF (f + 1) q out = mtF f (q / 10) (⟨#[48 + UInt8.ofNat (q % 10)]⟩ ++ out) := by
  rw [mtF, if_neg (by omega)]
/-- The text that markText makes of k. -/
def mt (k : Int) : ByteArray := if k ≤ 0 then ⟨#[109, 48]⟩ else ⟨#[109]⟩ ++ mtF (k.toNat + 1) k.toNat ⟨#[]⟩

set_option maxHeartbeats 400000 in
theorem markText_any (k : Int) (w : World) (h1 : k ≤ 1000000000) :
    Calls Try.prog 68 #[.int .i64 k] w fun e w' => e = .returned (.string (mt k)) ∧ Below w.heap.size w w' := by
  by_cases hk : k ≤ 0
  · have H : Hid (mt k = ⟨#[109, 48]⟩) := by unfold Hid mt; rw [if_pos hk]
    go_enter Try.func68, Try.ntmps68
    go_wp2_with fail
    go_ret
    exact ⟨by rw [H.out]; rfl, Below.refl _ _⟩
  · have H : Hid (mt k = ⟨#[109]⟩ ++ mtF (k.toNat + 1) k.toNat ⟨#[]⟩) := by unfold Hid mt; rw [if_neg hk]
    go_enter Try.func68, Try.ntmps68
    go_wp2_with fail
    go_loopw [0, 3] (fun kk out wr => ∃ (q f : Nat) (s : ByteArray), kk = .int .i64 q ∧ s.size + q ≤ 1000000000 ∧ out = .string s ∧ q < f ∧ Hid (mtF f q s = mtF (k.toNat + 1) k.toNat ⟨#[]⟩) ∧ Below w.heap.size w wr) (fun kk _ _ => (intOf kk).toNat)
    case atStart => exact ⟨k.toNat, k.toNat + 1, _, by congr 1; omega, by show 0 + k.toNat ≤ _; omega, rfl, by omega, rfl, Below.refl _ _⟩
    case round =>
      obtain ⟨q, f, s, rfl, hq, rfl, hqf, HF, hb⟩ := hrel
      by_cases hlt : 0 < q
      · have hcv := conv_one (48 + (q : Int) % 10) (by omega) (by omega) wr
        go_wp2_with fail
        obtain ⟨g, rfl⟩ : ∃ g, f = g + 1 := ⟨f - 1, by omega⟩
        refine ⟨⟨q / 10, g, _, by congr 1, ?_, rfl, by omega, ?_, hb.alloc hb.size _⟩, by simp [intOf]; omega⟩
        · rw [ByteArray.size_append]
          show 1 + s.size + q / 10 ≤ _
          omega
        · rw [← HF.out, mtF_step g q s hlt]
          rfl
      · obtain rfl : q = 0 := by omega
        have HF' : Hid (s = mtF (k.toNat + 1) k.toNat ⟨#[]⟩) := by rw [← HF.out, mtF_zero]; rfl
        go_wp2_with fail
        go_ret
        exact ⟨by rw [H.out, ← HF'.out]; rfl, hb⟩

/-- What markMarkS leaves of n marks, counted from k on. -/
def marked (k : Int) (n : Nat) : List (ByteArray × Int) := (List.range n).map fun (i : Nat) => (mt (k + 2 * (i : Int)), k + 2 * (i : Int) + 1)
theorem marked_length (k : Int) (n : Nat) : (marked k n).length = n := by simp [marked]
theorem marked_at (k : Int) (n j : Nat) (h : j < (marked k n).length) : (marked k n)[j] = (mt (k + 2 * (j : Int)), k + 2 * (j : Int) + 1) := by simp [marked]

set_option maxHeartbeats 800000 in
theorem markMarkS_any (b cap n : Nat) (k : Int) (w : World) (hn : n ≤ 1048576) (hk0 : 0 ≤ k) (hk1 : k ≤ 10000000) (l : List (ByteArray × Int)) (hl : l.length = n) (ho : Own w b l) :
    Calls Try.prog 32 #[.slice (some ⟨b, 0, none⟩) n cap, .int .i64 k] w fun e w' => e = .returned (.int .i64 (k + 2 * (n : Int))) ∧ Own w' b (marked k n) ∧ But b w w' := by
  have hp : Part w b (marked k n) 0 := by
    obtain ⟨m, f, hf, hm, _⟩ := ho
    exact ⟨m, f, hf, by rw [marked_length, ← hl]; exact hm, fun j _ h => by omega⟩
  go_enter Try.func32, Try.ntmps32
  go_wp2_with fail
  go_loopw [1, 5] (fun kk i wr => ∃ j : Nat, j ≤ n ∧ i = .int .i64 j ∧ kk = .int .i64 (k + 2 * (j : Int)) ∧ Part wr b (marked k n) j ∧ But b w wr) (fun _ i _ => n - (intOf i).toNat)
  case atStart => exact ⟨0, Nat.zero_le _, rfl, by simp, hp, But.refl _ _⟩
  case round =>
    obtain ⟨j, hj, rfl, rfl, hpj, hb⟩ := hrel
    by_cases hlt : j < n
    · have hlen := marked_length k n
      have hpl := hpj.lt
      have HM : Hid ((marked k n)[j] = (mt (k + 2 * (j : Int)), k + 2 * (j : Int) + 1)) := marked_at k n j (by omega)
      go_wp2_with (first | (go_at_call 68; refine (markText_any _ _ (by omega)).mono ?_; rintro e w1 ⟨rfl, hb1⟩; have hp1 := hpj.below hpl hb1; obtain ⟨v0, hv0⟩ := hp1.cell (i := j * 2) (by omega); obtain ⟨v1, hv1⟩ := hp1.cell (i := j * 2 + 1) (by omega); have hz0 := hp1.frozen (j * 2); have hz1 := hp1.frozen (j * 2 + 1)))
      exact ⟨⟨j + 1, by omega, by go_num, by congr 1; omega, hp1.step' (by omega) HM.out, ((hb.trans (But.of_below hb1)).setCell _ _).setCell _ _⟩, by simp [intOf]; omega⟩
    · obtain rfl : j = n := by omega
      go_wp2_with fail
      go_ret
      exact ⟨rfl, Part.own (by rw [marked_length]; exact hpj), hb⟩

set_option maxHeartbeats 400000 in
theorem markMarkS_none (a : Option Addr) (cap : Nat) (k : Int) (w : World) :
    Calls Try.prog 32 #[.slice a 0 cap, .int .i64 k] w fun e w' => e = .returned (.int .i64 k) ∧ w' = w := by
  go_enter Try.func32, Try.ntmps32
  go_wp2_with fail
  go_loop [1, 5] (fun kk i => i = .int .i64 0 ∧ kk = .int .i64 k) (fun _ _ => 0)
  case atStart => exact ⟨rfl, rfl⟩
  case round =>
    obtain ⟨rfl, rfl⟩ := hrel
    go_wp2_with fail
    go_ret
    exact ⟨rfl, rfl⟩

set_option maxHeartbeats 800000 in
theorem heldMarkS_any (a : Option Addr) (cap n : Nat) (k : Int) (w : World) (hn : n ≤ 1048576) (hk0 : 0 ≤ k) (hk1 : k ≤ 10000000) (hr : Row w a (marked k n)) :
    Calls Try.prog 33 #[.slice a n cap, .int .i64 k] w fun e w' => e = .returned (.int .i64 (k + 2 * (n : Int))) ∧ Below w.heap.size w w' := by
  go_enter Try.func33, Try.ntmps33
  go_wp2_with fail
  go_loopw [1, 5] (fun kk i wr => ∃ j : Nat, j ≤ n ∧ i = .int .i64 j ∧ kk = .int .i64 (k + 2 * (j : Int)) ∧ Below w.heap.size w wr) (fun _ i _ => n - (intOf i).toNat)
  case atStart => exact ⟨0, Nat.zero_le _, rfl, by simp, Below.refl _ _⟩
  case round =>
    obtain ⟨j, hj, rfl, rfl, hb⟩ := hrel
    by_cases hlt : j < n
    · have hlen := marked_length k n
      obtain ⟨b, o, rfl, hblt, c0, c1⟩ := hr j (by omega)
      rw [marked_at k n j (by omega)] at c0 c1
      have e0 := cell_on hb hblt c0
      have e1 := cell_on hb hblt c1
      have g1 : b < wr.heap.size := Nat.lt_of_lt_of_le hblt hb.size
      go_wp2_with fail
      refine wp_region_lat (by kernel_rfl) (by kernel_rfl) ?_
      have hne := Lat.some wr
      have q0 : ∀ n : Lat wr, n.w.cell? ⟨b, o + j * 2, none⟩ = some (.string (mt (k + 2 * (j : Int)))) := fun n => n.cell g1 e0
      repeat (go_big_quiet_step ((go_at_call 68; exact Calls.lat_of (markText_any _ _ (by omega)))))
      refine wpQuiet_nil ?_
      rintro _ ⟨nq, rfl⟩
      have f1 := nq.cell g1 e1
      go_wp2_with fail
      exact ⟨⟨j + 1, by omega, by go_num, by congr 1; omega, hb.trans (nq.h.mono hb.size)⟩, by simp [intOf]; omega⟩
    · obtain rfl : j = n := by omega
      go_wp2_with fail
      go_ret
      exact ⟨rfl, hb⟩

end Go.Proofs.Ytpfhegengmlkmac
/- An answer's marks in memory, between two block numbers; what marking them leaves alone. -/
namespace Go.Proofs.Ytpfhegengmlkmac
open Go.RowKit Go.BigFrame

/-- The marks 'm' lie at 'a', in a block of the call's own from number 'lo' on and ahead of 'hi'; or there are none. -/
def Safe (w : World) (lo hi : Nat) (a : Option Addr) (m : List (ByteArray × Int)) : Prop :=
  m = [] ∨ ∃ g, a = some ⟨g, 0, none⟩ ∧ lo ≤ g ∧ g < hi ∧ Own w g m

theorem Safe.row {w : World} {lo hi : Nat} {a : Option Addr} {m : List (ByteArray × Int)} (h : Safe w lo hi a m) : Row w a m := by
  rcases h with rfl | ⟨g, rfl, _, _, ho⟩
  · exact fun k hk => absurd hk (Nat.not_lt_zero k)
  · exact ho.row
theorem Safe.below {w w' : World} {lo hi : Nat} {a : Option Addr} {m : List (ByteArray × Int)} (h : Safe w lo hi a m) (hb : Below w.heap.size w w') : Safe w' lo hi a m := by
  rcases h with rfl | ⟨g, rfl, h1, h2, ho⟩
  · exact .inl rfl
  · exact .inr ⟨g, rfl, h1, h2, ho.below hb⟩
theorem Gath.safe {w : World} {B : Nat} {v : Value} {m : List (ByteArray × Int)} (h : Gath w B v m) : ∃ a cap, v = .slice a m.length cap ∧ Safe w B w.heap.size a m := by
  rcases h.form with ⟨hv, rfl⟩ | ⟨g, cap, hv, hB, ho⟩
  · exact ⟨_, _, hv, .inl rfl⟩
  · exact ⟨_, _, hv, .inr ⟨g, rfl, hB, ho.lt, ho⟩⟩

/-- Of all that lay there only blocks from 'lo' on and ahead of 'hi' may have turned. -/
structure Span (lo hi : Nat) (w w' : World) : Prop where
  os : w'.os = w.os
  tape : w'.tape = w.tape
  output : w'.output = w.output
  size : w.heap.size ≤ w'.heap.size
  block : ∀ k, k < w.heap.size → (k < lo ∨ hi ≤ k) → w'.heap[k]? = w.heap[k]?

theorem Span.refl (lo hi : Nat) (w : World) : Span lo hi w w := ⟨rfl, rfl, rfl, Nat.le_refl _, fun _ _ _ => rfl⟩
theorem But.span {b lo hi : Nat} {w w' : World} (h : But b w w') (h1 : lo ≤ b) (h2 : b < hi) : Span lo hi w w' := ⟨h.os, h.tape, h.output, h.size, fun k hk hn => h.block k hk (by omega)⟩
theorem Span.below {lo hi B : Nat} {w w' : World} (h : Span lo hi w w') (hb : B ≤ lo) (hw : B ≤ w.heap.size) : Below B w w' :=
  ⟨h.os, h.tape, h.output, h.size, fun k hk => h.block k (by omega) (by omega)⟩
theorem Safe.span {w w' : World} {lo hi lo' hi' : Nat} {a : Option Addr} {m : List (ByteArray × Int)} (h : Safe w lo hi a m) (hs : Span lo' hi' w w') (hd : hi ≤ lo' ∨ hi' ≤ lo) : Safe w' lo hi a m := by
  rcases h with rfl | ⟨g, rfl, h1, h2, ho⟩
  · exact .inl rfl
  · refine .inr ⟨g, rfl, h1, h2, ?_⟩
    have hlt := ho.lt
    obtain ⟨m, f, h', hf⟩ := ho
    exact ⟨m, f, h'.of_block (hs.block g hlt (by omega)), hf⟩

theorem marked_nil (k : Int) (m : List (ByteArray × Int)) (h : m = []) : marked k m.length = [] := by rw [h]; rfl

theorem markSafe_any (a : Option Addr) (cap lo hi : Nat) (m : List (ByteArray × Int)) (k : Int) (w : World) (hn : m.length ≤ 1048576) (hk0 : 0 ≤ k) (hk1 : k ≤ 10000000) (hs : Safe w lo hi a m) :
    Calls Try.prog 32 #[.slice a m.length cap, .int .i64 k] w fun e w' => e = .returned (.int .i64 (k + 2 * (m.length : Int))) ∧ Safe w' lo hi a (marked k m.length) ∧ Span lo hi w w' := by
  rcases hs with rfl | ⟨g, rfl, h1, h2, ho⟩
  · exact (markMarkS_none a cap k w).mono fun e w' ⟨he, hw⟩ => ⟨by rw [he]; simp, .inl rfl, by rw [hw]; exact Span.refl _ _ _⟩
  · exact (markMarkS_any g cap m.length k w hn hk0 hk1 m rfl ho).mono fun e w' ⟨he, ho', hb⟩ => ⟨he, .inr ⟨g, rfl, h1, h2, ho'⟩, hb.span h1 h2⟩

end Go.Proofs.Ytpfhegengmlkmac
/- Marking of items: markItemS, heldItemS; what it leaves alone. -/
namespace Go.Proofs.Ytpfhegengmlkmac
open Go.RowKit Go.BigFrame

/-- What marking from k on leaves of items. -/
def markedI (k : Int) : List ItemL → List ItemL
  | [] => []
  | x :: l => (k, marked (k + 1) x.2.length) :: markedI (k + 1 + 2 * (x.2.length : Int)) l
theorem markedI_length (k : Int) (l : List ItemL) : (markedI k l).length = l.length := by
  induction l generalizing k with
  | nil => rfl
  | cons x l ih => simp [markedI, ih]
theorem markedI_at (k : Int) (l : List ItemL) (j : Nat) (h : j < l.length) : (markedI k l)[j]'(by rw [markedI_length]; exact h) = (k + j + 2 * (lens (l.take j) : Int), marked (k + j + 2 * (lens (l.take j) : Int) + 1) l[j].2.length) := by
  induction l generalizing k j with
  | nil => exact absurd h (Nat.not_lt_zero j)
  | cons x l ih =>
    cases j with
    | zero => simp [markedI, lens]
    | succ j =>
      have h' : j < l.length := by simpa using h
      have e := ih (k + 1 + 2 * (x.2.length : Int)) j h'
      simp only [markedI, List.getElem_cons_succ, List.take_succ_cons, lens]
      rw [e]
      have q : k + 1 + 2 * (x.2.length : Int) + j + 2 * (lens (l.take j) : Int) = k + ((j + 1 : Nat) : Int) + 2 * ((x.2.length + lens (l.take j) : Nat) : Int) := by omega
      rw [q]
theorem markedI_lens (k : Int) (l : List ItemL) : lens (markedI k l) = lens l := by
  induction l generalizing k with
  | nil => rfl
  | cons x l ih => simp [markedI, lens, ih, marked_length]

/-- The first j are marked. -/
def mixI (k : Int) (l : List ItemL) (j : Nat) : List ItemL := (markedI k l).take j ++ l.drop j
theorem mixI_length (k : Int) (l : List ItemL) (j : Nat) (h : j ≤ l.length) : (mixI k l j).length = l.length := by
  simp [mixI, markedI_length]; omega
theorem mixI_zero (k : Int) (l : List ItemL) : mixI k l 0 = l := by simp [mixI]
theorem mixI_all (k : Int) (l : List ItemL) : mixI k l l.length = markedI k l := by
  rw [mixI, List.drop_of_length_le (Nat.le_refl _), List.append_nil, List.take_of_length_le (by rw [markedI_length]; exact Nat.le_refl _)]
theorem mixI_at (k : Int) (l : List ItemL) (j : Nat) (h : j < l.length) : (mixI k l j)[j]'(by rw [mixI_length k l j (by omega)]; exact h) = l[j] := by
  simp only [mixI]
  rw [List.getElem_append_right (by simp [markedI_length]; omega)]
  simp [markedI_length]
  congr 1
  omega
theorem mixI_set (k : Int) (l : List ItemL) (j : Nat) (h : j < l.length) : (mixI k l j).set j ((markedI k l)[j]'(by rw [markedI_length]; exact h)) = mixI k l (j + 1) := by
  have hm := markedI_length k l
  apply List.ext_getElem
  · rw [List.length_set, mixI_length k l j (by omega), mixI_length k l (j + 1) (by omega)]
  intro i h1 h2
  rw [List.getElem_set]
  rw [List.length_set, mixI_length k l j (by omega)] at h1
  by_cases e : j = i
  · subst e
    rw [if_pos rfl]
    simp only [mixI]
    rw [List.getElem_append_left (by simp; omega), List.getElem_take]
  · rw [if_neg e]
    simp only [mixI]
    by_cases hlt : i < j
    · rw [List.getElem_append_left (by simp; omega), List.getElem_append_left (by simp; omega), List.getElem_take, List.getElem_take]
    · rw [List.getElem_append_right (by simp; omega), List.getElem_append_right (by simp; omega), List.getElem_drop, List.getElem_drop]
      congr 1
      simp
      omega

/-- An item's marks are turned, and its value. -/
theorem PartI.turn {w : World} {lo T g : Nat} {l : List ItemL} (h : PartI w lo T g l l.length) {j : Nat} (hj : j < l.length) :
    ∃ b c, w.cell? ⟨g, j * 2 + 1, none⟩ = some (.slice (some ⟨b, 0, none⟩) l[j].2.length c) ∧ Own w b l[j].2 ∧ lo ≤ b ∧ b < T ∧ b ≠ g ∧
      ∀ (x : Int) (m : List (ByteArray × Int)) (w2 : World), m.length = l[j].2.length → But b (w.setCell ⟨g, j * 2, none⟩ (.int .i64 x)) w2 → Own w2 b m → PartI w2 lo T g (l.set j (x, m)) (l.set j (x, m)).length := by
  have hg := h.lt
  obtain ⟨G, C, m0, f, h, hm, hf, hd⟩ := h
  obtain ⟨f1, f2, f3, f4, f5, f6, f7⟩ := hf j hj hj
  refine ⟨G j, C j, by rw [h.cell (by omega), f2], f4, f5, f6, f7, fun x m w2 hml hb ho => ?_⟩
  refine ⟨G, C, m0, _, (h.set (j * 2) (.int .i64 x)).of_block (hb.block g (by simpa [World.setCell] using hg) (Ne.symm f7)), by rw [List.length_set]; exact hm, fun i hi _ => ?_, fun i k hi hk => hd i k (by simpa using hi) (by simpa using hk)⟩
  rw [List.length_set] at hi
  by_cases e : j = i
  · subst e
    simp only [List.getElem_set_self]
    refine ⟨by simp, ?_, by rw [hml]; exact f3, ho, f5, f6, f7⟩
    rw [hml]
    have e1 : j * 2 + 1 ≠ j * 2 := by omega
    simp only [if_neg e1]
    exact f2
  · obtain ⟨i1, i2, i3, i4, i5, i6, i7⟩ := hf i hi hi
    have e1 : i * 2 ≠ j * 2 := by omega
    have e2 : i * 2 + 1 ≠ j * 2 := by omega
    simp only [List.getElem_set_ne e, if_neg e1, if_neg e2]
    exact ⟨i1, i2, i3, hb.own (i4.setOther i7 _ _) (hd i j hi hj (Ne.symm e)), i5, i6, i7⟩

theorem Span.trans {lo hi : Nat} {x y z : World} (h : Span lo hi x y) (k : Span lo hi y z) : Span lo hi x z :=
  ⟨k.os.trans h.os, k.tape.trans h.tape, k.output.trans h.output, Nat.le_trans h.size k.size, fun i hi hn => (k.block i (Nat.lt_of_lt_of_le hi h.size) hn).trans (h.block i hi hn)⟩
theorem Span.setCell {lo hi g : Nat} {x w : World} (h : Span lo hi x w) (h1 : lo ≤ g) (h2 : g < hi) (i : Nat) (v : Value) : Span lo hi x (w.setCell ⟨g, i, none⟩ v) :=
  h.trans (((But.refl g w).setCell i v).span h1 h2)

set_option maxHeartbeats 800000 in
theorem markItemS_any (g cap lo T : Nat) (l : List ItemL) (k : Int) (w : World) (hn : l.length ≤ 1048576) (hlo : lo ≤ g) (hT : g < T) (hk0 : 0 ≤ k) (hk1 : k + (l.length : Int) + 2 * (lens l : Int) ≤ 10000000) (hs : ∀ j, (h : j < l.length) → l[j].2.length ≤ 1048576) (hp : PartI w lo T g l l.length) :
    Calls Try.prog 64 #[.slice (some ⟨g, 0, none⟩) l.length cap, .int .i64 k] w fun e w' => e = .returned (.int .i64 (k + (l.length : Int) + 2 * (lens l : Int))) ∧ PartI w' lo T g (markedI k l) (markedI k l).length ∧ Span lo T w w' := by
  go_enter Try.func64, Try.ntmps64
  go_wp2_with fail
  go_loopw [1, 5] (fun kk i wr => ∃ (j n : Nat) (L : List ItemL), j ≤ l.length ∧ i = .int .i64 j ∧ Hid (n = lens (l.take j)) ∧ n ≤ lens l ∧ kk = .int .i64 (k + (j : Int) + 2 * (n : Int)) ∧ Hid (L = mixI k l j) ∧ PartI wr lo T g L L.length ∧ Span lo T w wr) (fun _ i _ => l.length - (intOf i).toNat)
  case atStart => exact ⟨0, 0, l, Nat.zero_le _, rfl, rfl, Nat.zero_le _, by simp, (mixI_zero k l).symm, hp, Span.refl _ _ _⟩
  case round =>
    obtain ⟨j, n, L, hj, rfl, HN, hnl, rfl, HL, hpj, hb⟩ := hrel
    have hLl : L.length = l.length := by rw [HL.out, mixI_length k l j hj]
    by_cases hlt : j < l.length
    · have hltL : j < L.length := by omega
      have hLj : L[j].2.length = l[j].2.length := by
        have e := mixI_at k l j hlt
        have h1 := HL.out
        subst h1
        rw [e]
      have hN2 : n + l[j].2.length = lens (l.take (j + 1)) := by rw [lens_take hlt, ← HN.out]
      have hN3 : lens (l.take (j + 1)) ≤ lens l := by
        have := lens_append (l.take (j + 1)) (l.drop (j + 1))
        rw [List.take_append_drop] at this
        omega
      have hset : L.set j (k + (j : Int) + 2 * (n : Int), marked (k + (j : Int) + 2 * (n : Int) + 1) l[j].2.length) = mixI k l (j + 1) := by
        rw [← mixI_set k l j hlt, markedI_at k l j hlt, HL.out, HN.out]
      have HN2 : Hid (n + l[j].2.length = lens (l.take (j + 1))) := hN2
      have hle : n + l[j].2.length ≤ lens l := by omega
      have hsj := hs j hlt
      obtain ⟨b, c, c1, ho, g1, g2, g3, hturn⟩ := hpj.turn hltL
      have hgl := hpj.lt
      obtain ⟨v0, c0⟩ := hpj.cell (i := j * 2) (by omega)
      have f0 := hpj.frozen (j * 2)
      rw [hLj] at c1 hturn
      have k0 : (0 : Int) ≤ (j : Int) := by omega
      have k1 : (j : Int) < (l.length : Int) := by omega
      have HT : Hid (∀ (x : Int) (m : List (ByteArray × Int)) (w2 : World), m.length = l[j].2.length → But b (wr.setCell ⟨g, j * 2, none⟩ (.int .i64 x)) w2 → Own w2 b m → PartI w2 lo T g (L.set j (x, m)) (L.set j (x, m)).length) := hturn
      have HSET : Hid (L.set j (k + (j : Int) + 2 * (n : Int), marked (k + (j : Int) + 2 * (n : Int) + 1) l[j].2.length) = mixI k l (j + 1)) := hset
      have HLJ : Hid (L[j].2.length = l[j].2.length) := hLj
      clear hturn hset hN2 hN3 hLj
      go_wp2_with fail
      refine (markMarkS_any b c l[j].2.length (k + (j : Int) + 2 * (n : Int) + 1) _ hsj (by omega) (by omega) L[j].2 HLJ.out (ho.setOther g3 _ _)).mono ?_
      rintro e w1 ⟨rfl, ho1, hb1⟩
      have hnew := HT.out _ _ w1 (marked_length _ _) hb1 ho1
      rw [HSET.out] at hnew
      have hsp : Span lo T w w1 := (hb.setCell hlo hT _ _).trans (hb1.span g1 g2)
      go_wp2_with fail
      exact ⟨⟨j + 1, n + l[j].2.length, _, by omega, by go_num, HN2, hle, by congr 1; omega, rfl, hnew, hsp⟩, by simp [intOf]; omega⟩
    · obtain rfl : j = l.length := by omega
      have HN2 : Hid (n = lens l) := by rw [HN.out, List.take_of_length_le (Nat.le_refl _)]; rfl
      have HF : Hid (L = markedI k l) := by rw [HL.out, mixI_all]; rfl
      go_wp2_with fail
      go_ret
      exact ⟨by rw [HN2.out]; rfl, by rw [← HF.out]; exact hpj, hb⟩

set_option maxHeartbeats 400000 in
theorem markItemS_none (a : Option Addr) (cap : Nat) (k : Int) (w : World) :
    Calls Try.prog 64 #[.slice a 0 cap, .int .i64 k] w fun e w' => e = .returned (.int .i64 k) ∧ w' = w := by
  go_enter Try.func64, Try.ntmps64
  go_wp2_with fail
  go_loop [1, 5] (fun kk i => i = .int .i64 0 ∧ kk = .int .i64 k) (fun _ _ => 0)
  case atStart => exact ⟨rfl, rfl⟩
  case round =>
    obtain ⟨rfl, rfl⟩ := hrel
    go_wp2_with fail
    go_ret
    exact ⟨rfl, rfl⟩

set_option maxHeartbeats 800000 in
theorem heldItemS_any (a : Option Addr) (cap : Nat) (l : List ItemL) (k : Int) (w : World) (hn : l.length ≤ 1048576) (hk0 : 0 ≤ k) (hk1 : k + (l.length : Int) + 2 * (lens l : Int) ≤ 10000000) (hs : ∀ j, (h : j < l.length) → l[j].2.length ≤ 1048576) (hr : RowI w a (markedI k l)) :
    Calls Try.prog 101 #[.slice a l.length cap, .int .i64 k] w fun e w' => e = .returned (.int .i64 (k + (l.length : Int) + 2 * (lens l : Int))) ∧ Below w.heap.size w w' := by
  go_enter Try.func101, Try.ntmps101
  go_wp2_with fail
  go_loopw [1, 5] (fun kk i wr => ∃ (j n : Nat), j ≤ l.length ∧ i = .int .i64 j ∧ Hid (n = lens (l.take j)) ∧ n ≤ lens l ∧ kk = .int .i64 (k + (j : Int) + 2 * (n : Int)) ∧ Below w.heap.size w wr) (fun _ i _ => l.length - (intOf i).toNat)
  case atStart => exact ⟨0, 0, Nat.zero_le _, rfl, rfl, Nat.zero_le _, by simp, Below.refl _ _⟩
  case round =>
    obtain ⟨j, n, hj, rfl, HN, hnl, rfl, hb⟩ := hrel
    by_cases hlt : j < l.length
    · have hN2 : n + l[j].2.length = lens (l.take (j + 1)) := by rw [lens_take hlt, ← HN.out]
      have hN3 : lens (l.take (j + 1)) ≤ lens l := by
        have := lens_append (l.take (j + 1)) (l.drop (j + 1))
        rw [List.take_append_drop] at this
        omega
      have HN2 : Hid (n + l[j].2.length = lens (l.take (j + 1))) := hN2
      have hle : n + l[j].2.length ≤ lens l := by omega
      have hsj := hs j hlt
      obtain ⟨b, o, rfl, hblt, c0, v, c1, hv⟩ := hr.below hb j (by rw [markedI_length]; exact hlt)
      rw [markedI_at k l j hlt, ← HN.out] at c0 hv
      obtain ⟨sa, sc, rfl, _, hrow⟩ := hv
      simp only [marked_length] at c1
      have k0 : (0 : Int) ≤ (j : Int) := by omega
      have k1 : (j : Int) < (l.length : Int) := by omega
      clear hN2 hN3
      go_wp2_with fail
      refine (heldMarkS_any sa sc l[j].2.length (k + (j : Int) + 2 * (n : Int) + 1) _ hsj (by omega) (by omega) hrow).mono ?_
      rintro e w1 ⟨rfl, hb1⟩
      go_wp2_with fail
      exact ⟨⟨j + 1, n + l[j].2.length, by omega, by go_num, HN2, hle, by congr 1; omega, hb.trans (hb1.mono hb.size)⟩, by simp [intOf]; omega⟩
    · obtain rfl : j = l.length := by omega
      have HN2 : Hid (n = lens l) := by rw [HN.out, List.take_of_length_le (Nat.le_refl _)]; rfl
      go_wp2_with fail
      go_ret
      exact ⟨by rw [HN2.out]; rfl, hb⟩

end Go.Proofs.Ytpfhegengmlkmac
/- Slices of items that the call itself gathers by append; append of all of a slice of marks onto a literal of none. -/
namespace Go.Proofs.Ytpfhegengmlkmac
open Go.RowKit Go.BigFrame

theorem mcells_cell1 : ∀ (l : List (ByteArray × Int)), ∀ u ∈ mcells l, u.oneCell' = true
  | [], u, h => by simp [mcells] at h
  | m :: r, u, h => by
    simp only [mcells, List.mem_cons] at h
    rcases h with rfl | rfl | h
    · rfl
    · rfl
    · exact mcells_cell1 r u h
theorem row_news {w : World} {b o : Nat} {l : List (ByteArray × Int)} (h : Row w (some ⟨b, o, none⟩) l) : ∀ j u, (mcells l)[j]? = some u → w.cell? ((⟨b, o, none⟩ : Addr).add j) = some u := by
  intro j u hj
  have hjl : j < (mcells l).length := (List.getElem?_eq_some_iff.1 hj).1
  rw [mcells_length] at hjl
  have e : (⟨b, o, none⟩ : Addr).add j = ⟨b, o + j, none⟩ := by unfold Addr.add; by_cases h : j = 0 <;> simp [h]
  rw [e]
  have hk : j / 2 < l.length := by omega
  obtain ⟨b', o', ha, _, c0, c1⟩ := h (j / 2) hk
  obtain ⟨rfl, rfl⟩ : b = b' ∧ o = o' := by simpa using ha
  have hm := mcells_at l (j / 2) hk
  rcases Nat.mod_two_eq_zero_or_one j with h2 | h2
  · have ej : j / 2 * 2 = j := by omega
    rw [ej] at hm c0
    rw [hj] at hm
    rw [c0]
    exact hm.1.symm
  · have ej : j / 2 * 2 + 1 = j := by omega
    have ej' : o + j / 2 * 2 + 1 = o + j := by omega
    rw [ej] at hm
    rw [ej'] at c1
    rw [hj] at hm
    rw [c1]
    exact hm.2.symm

/-- append of all the marks of a slice onto a literal of none. -/
theorem wpList_append_copy {ops : Array Oper} {rest : List Oper} {o : Oper} {a : Act} {w : World} {Q : Exit → Act → World → Prop} (hgd : o.guard = none) (s x : Operand)
    (ho : o.op = .call { callee := .builtin .append, args := #[s, x], argTypes := #[45, 45] }) (base e0 b off cap : Nat) (l : List (ByteArray × Int)) (hs : a.eval s = .slice (some ⟨e0, 0, none⟩) 0 0) (he : w.heap[e0]? = some (.cells #[] 104 (0, 0))) (hb : base ≤ e0)
    (hx : a.eval x = .slice (some ⟨b, off, none⟩) l.length cap) (hr : Row w (some ⟨b, off, none⟩) l) (hl0 : 0 < l.length) (hl : l.length ≤ 1048576)
    (h : ∀ g' cap' w', Gath w' base (.slice (some ⟨g', 0, none⟩) l.length cap') l → w.grownBy w' (some e0) → wpList Try.prog ops Q rest (a.put o.dst (.slice (some ⟨g', 0, none⟩) l.length cap')) w') : wpList Try.prog ops Q (o :: rest) a w := by
  obtain ⟨i0, hi, hz0, hz1, hz2⟩ := info_parts Try.infoM
  have hlt : e0 < w.heap.size := (Array.getElem?_eq_some_iff.1 he).1
  have hown : w.ownsRow base 104 2 (.slice (some ⟨e0, 0, none⟩) 0 0) 0 [] := ⟨rfl, .inr ⟨e0, 0, #[], rfl, hb, he, Nat.le_refl _, Nat.zero_le _, rfl, rfl⟩⟩
  refine wpList_append_lies w hgd s x 45 ho base 104 i0 (.agg #[.string .empty, .int .i64 0]) 2 24 Try.underlying45 hi hz0 hz1 hz2 rfl (by decide) _ _ _ hs hown ⟨b, off, none⟩ l.length cap (mcells l) hx (mcells_length l) (row_news hr) (mcells_cell1 l) hl0 (by unfold maxLen; omega) (by omega) (Nat.le_trans hb (Nat.le_of_lt hlt)) _ rfl ?_
  intro g' cap' w' h1 h2 _ _
  simp only [Nat.zero_add, List.nil_append] at h1 ⊢
  exact h g' cap' w' h1 h2

theorem gath_own {w : World} {B g cap : Nat} {l : List (ByteArray × Int)} (h : Gath w B (.slice (some ⟨g, 0, none⟩) l.length cap) l) : B ≤ g ∧ l.length ≤ cap ∧ Own w g l := by
  rcases h.form with ⟨hv, _⟩ | ⟨g', cap', hv, hB, ho⟩
  · simp at hv
  · obtain ⟨⟨rfl⟩, rfl⟩ : g = g' ∧ cap = cap' := by simpa using hv
    refine ⟨hB, ?_, ho⟩
    rcases h.2 with ⟨hv, _⟩ | ⟨g2, cap2, cur, hv, _, _, hn, _⟩
    · simp at hv
    · have : cap = cap2 := by simp at hv; exact hv.2
      omega

theorem Own.grown {w w' : World} {b : Nat} {row : Option Nat} {l : List (ByteArray × Int)} (h : Own w b l) (hg : w.grownBy w' row) (hne : some b ≠ row) : Own w' b l := by
  have hlt := h.lt
  obtain ⟨m, f, h, hf⟩ := h
  exact ⟨m, f, h.of_block (hg.block b hlt hne), hf⟩

/-- The cells of items whose marks lie in blocks of their own, two an item. -/
def icells : List (ItemL × Nat × Nat) → List Value
  | [] => []
  | p :: r => .int .i64 p.1.1 :: .slice (some ⟨p.2.1, 0, none⟩) p.1.2.length p.2.2 :: icells r
theorem icells_length : ∀ L, (icells L).length = L.length * 2
  | [] => rfl
  | p :: r => by simp [icells, icells_length r]; omega
theorem icells_append : ∀ L r, icells (L ++ r) = icells L ++ icells r
  | [], _ => rfl
  | p :: L, r => by simp [icells, icells_append L r]
theorem icells_at : ∀ (L : List (ItemL × Nat × Nat)) (k : Nat) (h : k < L.length), (icells L)[k * 2]? = some (.int .i64 L[k].1.1) ∧ (icells L)[k * 2 + 1]? = some (.slice (some ⟨L[k].2.1, 0, none⟩) L[k].1.2.length L[k].2.2)
  | p :: r, 0, _ => by simp [icells]
  | p :: r, k + 1, h => by
    have := icells_at r k (by simpa using h)
    have e0 : (k + 1) * 2 = k * 2 + 1 + 1 := by omega
    rw [e0]
    simp only [icells, List.getElem?_cons_succ, List.getElem_cons_succ]
    exact this

/-- The slice value 'v' holds the items 'l', in a block of the call's own from number 'B' on, their marks each in a block of its own from 'B' on; or it is nil, and there are none. -/
def GathI (w : World) (B : Nat) (v : Value) (l : List ItemL) : Prop :=
  ∃ L : List (ItemL × Nat × Nat), L.map (·.1) = l ∧ w.ownsRow B 74 2 v L.length (icells L) ∧ (∀ p ∈ L, p.1.2.length ≤ p.2.2 ∧ Own w p.2.1 p.1.2 ∧ B ≤ p.2.1) ∧ L.Pairwise fun p q => p.2.1 ≠ q.2.1

theorem gathI_none (w : World) (B : Nat) : GathI w B (.slice none 0 0) [] := ⟨[], rfl, World.ownsRow_nil _ _ _ _, by simp, List.Pairwise.nil⟩

/-- A row of items is no row of marks. -/
theorem items_no_marks {w : World} {B n b : Nat} {v : Value} {xs : List Value} {l : List (ByteArray × Int)} (h : w.ownsRow B 74 2 v n xs) (ho : Own w b l) : some b ≠ v.ownBlock := by
  intro e
  obtain ⟨m, f, ⟨cs, h1, _⟩, _⟩ := ho
  rcases h.2 with ⟨rfl, _⟩ | ⟨g, cap, cur, rfl, _, hh, _⟩
  · simp [Value.ownBlock] at e
  · obtain rfl : b = g := by simpa [Value.ownBlock] using e
    rw [h1] at hh
    simp at hh

theorem GathI.len {w : World} {B : Nat} {v : Value} {l : List ItemL} (h : GathI w B v l) : ∃ a cap, v = .slice a l.length cap ∧ l.length ≤ cap := by
  obtain ⟨L, rfl, ho, _⟩ := h
  rcases ho.2 with ⟨rfl, h0⟩ | ⟨g, cap, cur, rfl, _, _, hn, _⟩
  · exact ⟨_, 0, by rw [List.length_map, h0], by rw [List.length_map, h0]; exact Nat.le_refl _⟩
  · exact ⟨_, cap, by rw [List.length_map], by rw [List.length_map]; exact hn⟩

theorem GathI.keep {w w' : World} {B : Nat} {v : Value} {l : List ItemL} (h : GathI w B v l) (hb : Below w.heap.size w w') : GathI w' B v l := by
  obtain ⟨L, e, ⟨hl, ho⟩, hm, hd⟩ := h
  refine ⟨L, e, ⟨hl, ?_⟩, fun p hp => ⟨(hm p hp).1, (hm p hp).2.1.below hb, (hm p hp).2.2⟩, hd⟩
  rcases ho with h | ⟨g, cap, cur, hv, hg, hh, r⟩
  · exact .inl h
  · refine .inr ⟨g, cap, cur, hv, hg, ?_, r⟩
    rw [hb.block g (Array.getElem?_eq_some_iff.1 hh).1]
    exact hh

theorem GathI.lower {w : World} {B B' : Nat} {v : Value} {l : List ItemL} (h : GathI w B v l) (hB : B' ≤ B) : GathI w B' v l := by
  obtain ⟨L, e, ⟨hl, ho⟩, hm, hd⟩ := h
  refine ⟨L, e, ⟨hl, ?_⟩, fun p hp => ⟨(hm p hp).1, (hm p hp).2.1, Nat.le_trans hB (hm p hp).2.2⟩, hd⟩
  rcases ho with h | ⟨g, cap, cur, hv, hg, r⟩
  · exact .inl h
  · exact .inr ⟨g, cap, cur, hv, Nat.le_trans hB hg, r⟩

/-- An item was appended: its marks lie in block 'gm', which is none of the others. -/
theorem GathI.snoc {w w' : World} {B gm c : Nat} {v v' : Value} {L : List (ItemL × Nat × Nat)} {x : Int} {m : List (ByteArray × Int)}
    (ho : w.ownsRow B 74 2 v L.length (icells L)) (hm : ∀ p ∈ L, p.1.2.length ≤ p.2.2 ∧ Own w p.2.1 p.1.2 ∧ B ≤ p.2.1) (hd : L.Pairwise fun p q => p.2.1 ≠ q.2.1)
    (hg : Own w gm m) (hB : B ≤ gm) (hc : m.length ≤ c) (hn : ∀ p ∈ L, p.2.1 ≠ gm)
    (h' : w'.ownsRow B 74 2 v' (L.length + 1) (icells L ++ [.int .i64 x, .slice (some ⟨gm, 0, none⟩) m.length c])) (hgr : w.grownBy w' v.ownBlock) : GathI w' B v' (L.map (·.1) ++ [(x, m)]) := by
  refine ⟨L ++ [((x, m), gm, c)], by simp, ?_, fun p hp => ?_, ?_⟩
  · rw [icells_append, List.length_append]
    exact h'
  · rcases List.mem_append.1 hp with hp | hp
    · obtain ⟨h1, h2, h3⟩ := hm p hp
      exact ⟨h1, h2.grown hgr (items_no_marks ho h2), h3⟩
    · obtain rfl : p = ((x, m), gm, c) := by simpa using hp
      exact ⟨hc, hg.grown hgr (items_no_marks ho hg), hB⟩
  · rw [List.pairwise_append]
    refine ⟨hd, List.pairwise_singleton _ _, fun p hp q hq => ?_⟩
    obtain rfl : q = ((x, m), gm, c) := by simpa using hq
    exact hn p hp

theorem GathI.grown {W w w' : World} {B : Nat} {v : Value} {n : Nat} {xs : List Value} (h : w.ownsRow B 74 2 v n xs) (hb : Below B W w) (hB : B ≤ w.heap.size) (hg : w.grownBy w' v.ownBlock) : Below B W w' :=
  hb.grown hg hB (fun k e => by
    rcases h.2 with ⟨rfl, _⟩ | ⟨g, cap, cur, rfl, hle, _⟩
    · cases e
    · simp [Value.ownBlock] at e; omega)

/-- The items 'l' lie at 'a', in blocks of the call's own from number 'lo' on and ahead of 'hi'; or there are none. -/
def SafeI (w : World) (lo hi : Nat) (a : Option Addr) (l : List ItemL) : Prop :=
  l = [] ∨ ∃ g, a = some ⟨g, 0, none⟩ ∧ lo ≤ g ∧ g < hi ∧ PartI w lo hi g l l.length

theorem SafeI.row {w : World} {lo hi : Nat} {a : Option Addr} {l : List ItemL} (h : SafeI w lo hi a l) : RowI w a l := by
  rcases h with rfl | ⟨g, rfl, _, _, hp⟩
  · exact fun k hk => absurd hk (Nat.not_lt_zero k)
  · exact hp.row
theorem SafeI.below {w w' : World} {lo hi : Nat} {a : Option Addr} {l : List ItemL} (h : SafeI w lo hi a l) (hb : Below w.heap.size w w') : SafeI w' lo hi a l := by
  rcases h with rfl | ⟨g, rfl, h1, h2, hp⟩
  · exact .inl rfl
  · exact .inr ⟨g, rfl, h1, h2, hp.below hb⟩
theorem PartI.span {w w' : World} {lo hi lo' hi' g k : Nat} {l : List ItemL} (h : PartI w lo hi g l k) (h1 : lo ≤ g) (h2 : g < hi) (hs : Span lo' hi' w w') (hd : hi ≤ lo' ∨ hi' ≤ lo) : PartI w' lo hi g l k := by
  have hlt := h.lt
  obtain ⟨G, C, m, f, h, hm, hf, hp⟩ := h
  refine ⟨G, C, m, f, h.of_block (hs.block g hlt (by omega)), hm, fun j hj hk => ?_, hp⟩
  obtain ⟨e1, e2, e3, e4, e5, e6, e7⟩ := hf j hj hk
  have hl4 := e4.lt
  obtain ⟨m', f', h', hf'⟩ := e4
  exact ⟨e1, e2, e3, ⟨m', f', h'.of_block (hs.block (G j) hl4 (by omega)), hf'⟩, e5, e6, e7⟩
theorem SafeI.span {w w' : World} {lo hi lo' hi' : Nat} {a : Option Addr} {l : List ItemL} (h : SafeI w lo hi a l) (hs : Span lo' hi' w w') (hd : hi ≤ lo' ∨ hi' ≤ lo) : SafeI w' lo hi a l := by
  rcases h with rfl | ⟨g, rfl, h1, h2, hp⟩
  · exact .inl rfl
  · exact .inr ⟨g, rfl, h1, h2, hp.span h1 h2 hs hd⟩

theorem GathI.safe {w : World} {B : Nat} {v : Value} {l : List ItemL} (h : GathI w B v l) : ∃ a cap, v = .slice a l.length cap ∧ l.length ≤ cap ∧ SafeI w B w.heap.size a l := by
  obtain ⟨L, rfl, ho, hm, hd⟩ := h
  have hno : ∀ p ∈ L, some p.2.1 ≠ v.ownBlock := fun p hp => items_no_marks ho (hm p hp).2.1
  rcases ho.2 with ⟨rfl, h0⟩ | ⟨g, cap, cur, rfl, hBg, hh, hn, hcm, hcs, htk⟩
  · obtain rfl : L = [] := List.length_eq_zero_iff.1 h0
    exact ⟨_, _, rfl, Nat.le_refl _, .inl rfl⟩
  · have hgl : g < w.heap.size := (Array.getElem?_eq_some_iff.1 hh).1
    refine ⟨_, cap, by rw [List.length_map], by rw [List.length_map]; exact hn, .inr ⟨g, rfl, hBg, hgl, fun j => ((L[j]?).map (·.2.1)).getD 0, fun j => ((L[j]?).map (·.2.2)).getD 0, cap * 2, fun i => (cur[i]?).getD undef, ⟨cur, hh, hcs, fun i hi => ?_⟩, by rw [List.length_map]; omega, fun j hj _ => ?_, fun i j hi hj hne => ?_⟩⟩
    · have hi' : i < cur.size := by omega
      simp [Array.getElem?_eq_getElem hi']
    · rw [List.length_map] at hj
      have hL : L[j]? = some L[j] := List.getElem?_eq_getElem hj
      have hp := hm _ (List.getElem_mem hj)
      have h2 := icells_at L j hj
      rw [← htk] at h2
      rw [List.getElem?_take_of_lt (by omega), List.getElem?_take_of_lt (by omega)] at h2
      simp only [Array.getElem?_toList] at h2
      simp only [h2.1, h2.2, hL, List.getElem_map, Option.map_some, Option.getD_some]
      refine ⟨trivial, trivial, hp.1, hp.2.1, hp.2.2, hp.2.1.lt, fun e => ?_⟩
      exact hno _ (List.getElem_mem hj) (by rw [e]; rfl)
    · rw [List.length_map] at hi hj
      have hLi : L[i]? = some L[i] := List.getElem?_eq_getElem hi
      have hLj : L[j]? = some L[j] := List.getElem?_eq_getElem hj
      simp only [hLi, hLj, Option.map_some, Option.getD_some]
      rw [List.pairwise_iff_getElem] at hd
      rcases Nat.lt_or_gt_of_ne hne with h | h
      · exact hd i j hi hj h
      · exact Ne.symm (hd j i hj hi h)

/-- Items of no kind but these. -/
def Small1 (l : List ItemL) : Prop := l.length ≤ 1048576 ∧ ∀ j, (h : j < l.length) → l[j].2.length ≤ 1048576

theorem markSafeI_any (a : Option Addr) (cap lo hi : Nat) (l : List ItemL) (k : Int) (w : World) (hn : Small1 l) (hk0 : 0 ≤ k) (hk1 : k + (l.length : Int) + 2 * (lens l : Int) ≤ 10000000) (hs : SafeI w lo hi a l) :
    Calls Try.prog 64 #[.slice a l.length cap, .int .i64 k] w fun e w' => e = .returned (.int .i64 (k + (l.length : Int) + 2 * (lens l : Int))) ∧ SafeI w' lo hi a (markedI k l) ∧ Span lo hi w w' := by
  rcases hs with rfl | ⟨g, rfl, h1, h2, hp⟩
  · exact (markItemS_none a cap k w).mono fun e w' ⟨he, hw⟩ => ⟨by rw [he]; simp [lens], .inl rfl, by rw [hw]; exact Span.refl _ _ _⟩
  · exact (markItemS_any g cap lo hi l k w hn.1 h1 h2 hk0 hk1 hn.2 hp).mono fun e w' ⟨he, hp', hb⟩ => ⟨he, .inr ⟨g, rfl, h1, h2, hp'⟩, hb⟩


/-- append of one item onto items that the call gathers. The marks of the item lie in a block that is newer than all that was gathered. -/
theorem wp_append_item {o : Oper} {a : Act} {w : World} {K : Act → World → Prop} {Q : Exit → Act → World → Prop} (s x : Operand)
    (ho : o.op = .call { callee := .builtin .append, args := #[s, x], argTypes := #[25, 25] }) (w0 : World) (base : Nat) (v : Value) (l : List ItemL) (hs : a.eval s = v) (hg : GathI w0 base v l) (hb : Below w0.heap.size w0 w) (hbase : base ≤ w0.heap.size)
    (ad : Nat) (xv : Int) (m : List (ByteArray × Int)) (gm c : Nat) (hx : a.eval x = .slice (some ⟨ad, 0, none⟩) 1 1) (c0 : w.cell? ⟨ad, 0, none⟩ = some (.int .i64 xv)) (c1 : w.cell? ⟨ad, 1, none⟩ = some (.slice (some ⟨gm, 0, none⟩) m.length c))
    (hm : Own w gm m) (hgm : w0.heap.size ≤ gm) (hc : m.length ≤ c) (hl : l.length ≤ 1048576)
    (h : ∀ v' w', GathI w' base v' (l ++ [(xv, m)]) → Below base w w' → K (a.put o.dst v') w') : o.wp Try.prog a w K Q := by
  obtain ⟨i0, hi, hz0, hz1, hz2⟩ := info_parts Try.infoI
  obtain ⟨L, rfl, hown, hmk, hd⟩ := hg
  have hown' : w.ownsRow base 74 2 v L.length (icells L) := by
    obtain ⟨hl, ho⟩ := hown
    refine ⟨hl, ?_⟩
    rcases ho with h | ⟨g, cap, cur, hv, hg, hh, r⟩
    · exact .inl h
    · refine .inr ⟨g, cap, cur, hv, hg, ?_, r⟩
      rw [hb.block g (Array.getElem?_eq_some_iff.1 hh).1]
      exact hh
  have hmk' : ∀ p ∈ L, p.1.2.length ≤ p.2.2 ∧ Own w p.2.1 p.1.2 ∧ base ≤ p.2.1 := fun p hp => ⟨(hmk p hp).1, (hmk p hp).2.1.below hb, (hmk p hp).2.2⟩
  have hnew : ∀ p ∈ L, p.2.1 ≠ gm := fun p hp => by have := (hmk p hp).2.1.lt; omega
  have hz := hb.size
  rw [List.length_map] at hl
  obtain ⟨g, cap, w', hr, h2, h3, _, _⟩ := run_append_lies (P := Try.prog) w 25 o.type base 74 i0 (.agg #[.int .i64 0, .slice none 0 0]) 2 32 Try.underlying25 hi hz0 hz1 hz2 rfl (by decide) _ _ _ hown' ⟨ad, 0, none⟩ 1 1 [.int .i64 xv, .slice (some ⟨gm, 0, none⟩) m.length c] rfl (by
      intro j u hj
      match j, hj with
      | 0, hj => simp at hj; subst hj; exact c0
      | 1, hj => simp at hj; subst hj; exact c1) (by simp [Value.oneCell']) (by decide) (by unfold maxLen; omega) (by omega) (by omega) _ rfl
  unfold Oper.wp execOp
  simp only [ho, resolve, invoke, builtin, Sem.run_bind, Sem.run_pure, Result.andThen_ok, List.map_toArray, List.map_cons, List.map_nil, hs, hx, hr]
  exact h _ w' (GathI.snoc hown' hmk' hd hm (Nat.le_trans hbase hgm) hc hnew h2 h3) (GathI.grown hown' (Below.refl _ _) (Nat.le_trans hbase hz) h3)

theorem wpList_append_item {ops : Array Oper} {rest : List Oper} {o : Oper} {a : Act} {w : World} {Q : Exit → Act → World → Prop} (hgd : o.guard = none) (s x : Operand)
    (ho : o.op = .call { callee := .builtin .append, args := #[s, x], argTypes := #[25, 25] }) (w0 : World) (base : Nat) (v : Value) (l : List ItemL) (hs : a.eval s = v) (hg : GathI w0 base v l) (hb : Below w0.heap.size w0 w) (hbase : base ≤ w0.heap.size)
    (ad : Nat) (xv : Int) (m : List (ByteArray × Int)) (gm c : Nat) (hx : a.eval x = .slice (some ⟨ad, 0, none⟩) 1 1) (c0 : w.cell? ⟨ad, 0, none⟩ = some (.int .i64 xv)) (c1 : w.cell? ⟨ad, 1, none⟩ = some (.slice (some ⟨gm, 0, none⟩) m.length c))
    (hm : Own w gm m) (hgm : w0.heap.size ≤ gm) (hc : m.length ≤ c) (hl : l.length ≤ 1048576)
    (h : ∀ v' w', GathI w' base v' (l ++ [(xv, m)]) → Below base w w' → wpList Try.prog ops Q rest (a.put o.dst v') w') : wpList Try.prog ops Q (o :: rest) a w :=
  wpList_plain hgd fun _ hK => wp_append_item s x ho w0 base v l hs hg hb hbase ad xv m gm c hx c0 c1 hm hgm hc hl fun v' w' h1 h2 => hK _ _ (h v' w' h1 h2)

end Go.Proofs.Ytpfhegengmlkmac
/- Windows marked: walks of szItemSS with sums, markItemSS, markIntS. -/
namespace Go.Proofs.Ytpfhegengmlkmac
open Go.RowKit Go.BigFrame

/-- How many items and marks there are. -/
def lensW : List (List ItemL) → Nat
  | [] => 0
  | l :: r => l.length + lens l + lensW r
theorem lensW_append (a b : List (List ItemL)) : lensW (a ++ b) = lensW a + lensW b := by
  induction a with
  | nil => simp [lensW]
  | cons l r ih => simp [lensW, ih]; omega
theorem lensW_take {ws : List (List ItemL)} {k : Nat} (h : k < ws.length) : lensW (ws.take (k + 1)) = lensW (ws.take k) + (ws[k].length + lens ws[k]) := by
  rw [List.take_succ_eq_append_getElem h, lensW_append]
  simp [lensW]

theorem lensW_take_le (ws : List (List ItemL)) (k : Nat) : lensW (ws.take k) ≤ lensW ws := by
  have h := lensW_append (ws.take k) (ws.drop k)
  rw [List.take_append_drop] at h
  omega

set_option maxHeartbeats 800000 in
theorem szItemSS_w (a : Option Addr) (cap : Nat) (ws : List (List ItemL)) (left : Int) (w : World) (hr : RowW w a ws) (hf : FitW ws) (h0 : 0 ≤ left) (h1 : left ≤ 1048576) :
    Calls Try.prog 15 #[.slice a ws.length cap, .int .i64 left] w fun e w' => ∃ r : Int, e = .returned (.int .i64 r) ∧ -1 ≤ r ∧ r ≤ left ∧ (0 ≤ r → (lensW ws : Int) ≤ left ∧ SmallW left ws) ∧ Below w.heap.size w w' := by
  have hl := hf.1
  unfold maxLen at hl
  by_cases hc : left - (ws.length : Int) < 0
  · go_enter Try.func15, Try.ntmps15
    go_wp2_with fail
    go_ret
    exact ⟨-1, rfl, by omega, by omega, fun h => by omega, Below.refl _ _⟩
  · go_enter Try.func15, Try.ntmps15
    go_wp2_with fail
    go_loopw [1, 5] (fun lf i wr => ∃ (k n : Nat) (q : Int), k ≤ ws.length ∧ i = .int .i64 k ∧ lf = .int .i64 q ∧ 0 ≤ q ∧ Hid (n = lensW (ws.take k)) ∧ q + (n : Int) ≤ left ∧ (∀ j, (h : j < ws.length) → j < k → SmallI left ws[j]) ∧ Below w.heap.size w wr) (fun _ i _ => ws.length - (intOf i).toNat)
    case atStart => exact ⟨0, 0, _, Nat.zero_le _, rfl, rfl, by omega, rfl, by omega, fun j _ h => by omega, Below.refl _ _⟩
    case round =>
      obtain ⟨k, n, q, hk, rfl, rfl, hq0, HN, hq1, hall, hb⟩ := hrel
      by_cases hlt : k < ws.length
      · obtain ⟨b, o, rfl, hblt, s1, t1, c1, _, hrow⟩ := hr.below hb k hlt
        have HST : Hid (SmallI left ws[k] → ∀ j, (h : j < ws.length) → j < k + 1 → SmallI left ws[j]) := szW_step hall hlt
        have HN2 : Hid (n + (ws[k].length + lens ws[k]) = lensW (ws.take (k + 1))) := by rw [lensW_take hlt, ← HN.out]; rfl
        have k0 : (0 : Int) ≤ (k : Int) := by omega
        have k1 : (k : Int) < (ws.length : Int) := by omega
        clear hall
        go_wp2_with fail
        refine (szItemS_w s1 t1 ws[k] q _ hrow (hf.2 k hlt) hq0 (by omega)).mono ?_
        rintro e w1 ⟨r, rfl, hr0, hr1, hr2, hb1⟩
        have HR2 : Hid (0 ≤ r → r + (ws[k].length : Int) + (lens ws[k] : Int) ≤ q ∧ SmallI q ws[k]) := hr2
        clear hr2
        by_cases hneg : r < 0
        · go_wp2_with fail
          go_ret
          exact ⟨-1, rfl, by omega, by omega, fun h => by omega, hb.trans (hb1.mono hb.size)⟩
        · have hle := (HR2.out (by omega)).1
          go_wp2_with fail
          exact ⟨⟨k + 1, n + (ws[k].length + lens ws[k]), r, by omega, by go_num, rfl, by omega, HN2, by omega, HST.out ((HR2.out (by omega)).2.mono (by omega)), hb.trans (hb1.mono hb.size)⟩, by simp [intOf]; omega⟩
      · have HF : Hid (n = lensW ws) := by rw [HN.out, List.take_of_length_le (by omega)]; rfl
        go_wp2_with fail
        go_ret
        exact ⟨q, rfl, by omega, by omega, fun _ => ⟨by rw [← HF.out]; omega, by omega, fun j hj => hall j hj (by omega)⟩, hb⟩

/-- The windows from place k on, each in blocks of its own. -/
def FromW (w : World) (lo T g : Nat) (ws : List (List ItemL)) (k : Nat) : Prop :=
  ∃ (L U G : Nat → Nat) (f : Nat → Value), w.rowIs g 25 ws.length f ∧
    (∀ j, (h : j < ws.length) → k ≤ j → f j = .slice (some ⟨G j, 0, none⟩) ws[j].length ws[j].length ∧ PartI w (L j) (U j) (G j) ws[j] ws[j].length ∧ lo ≤ L j ∧ L j ≤ G j ∧ G j < U j ∧ U j ≤ T) ∧ ∀ i j, i < j → j < ws.length → U i ≤ L j
theorem PartW.from {w : World} {lo T g : Nat} {ws : List (List ItemL)} (h : PartW w lo T g ws ws.length) : FromW w lo T g ws 0 := by
  obtain ⟨L, U, G, f, h, hf, hd⟩ := h
  exact ⟨L, U, G, f, h, fun j hj _ => hf j hj hj, hd⟩
theorem Span.wide {lo hi lo' hi' : Nat} {w w' : World} (h : Span lo' hi' w w') (h1 : lo ≤ lo') (h2 : hi' ≤ hi) : Span lo hi w w' := ⟨h.os, h.tape, h.output, h.size, fun k hk hn => h.block k hk (by omega)⟩

set_option maxHeartbeats 800000 in
theorem markItemSS_any (g cap lo T : Nat) (ws : List (List ItemL)) (k : Int) (w : World) (hn : ws.length ≤ 1048576) (hgl : g < lo) (hk0 : 0 ≤ k) (hk1 : k ≤ 10) (hsum : lensW ws ≤ 1048576) (hs : SmallW 1048576 ws) (hp : PartW w lo T g ws ws.length) :
    Calls Try.prog 26 #[.slice (some ⟨g, 0, none⟩) ws.length cap, .int .i64 k] w fun e w' => (∃ k' : Int, e = .returned (.int .i64 k') ∧ 0 ≤ k' ∧ k' ≤ 3000000) ∧ Span lo T w w' := by
  have HS : Hid (SmallW 1048576 ws) := hs
  have hfr := hp.from
  clear hs hp
  go_enter Try.func26, Try.ntmps26
  go_wp2_with fail
  go_loopw [1, 5] (fun kv i wr => ∃ (j n : Nat) (kk : Int), j ≤ ws.length ∧ i = .int .i64 j ∧ kv = .int .i64 kk ∧ 0 ≤ kk ∧ kk ≤ k + 2 * (n : Int) ∧ Hid (n = lensW (ws.take j)) ∧ n ≤ 1048576 ∧ FromW wr lo T g ws j ∧ Span lo T w wr) (fun _ i _ => ws.length - (intOf i).toNat)
  case atStart => exact ⟨0, 0, k, Nat.zero_le _, rfl, rfl, hk0, by omega, rfl, by omega, hfr, Span.refl _ _ _⟩
  case round =>
    obtain ⟨j, n, kk, hj, rfl, rfl, hq0, hq1, HN, hn2, hfw, hsp⟩ := hrel
    clear hfr
    by_cases hlt : j < ws.length
    · obtain ⟨L, U, G, f, hrow, hall, hd⟩ := hfw
      obtain ⟨e1, hpi, l1, l2, l3, l4⟩ := hall j hlt (Nat.le_refl _)
      have c1 := hrow.cell hlt
      rw [e1] at c1
      have j0 : (0 : Int) ≤ (j : Int) := by omega
      have j1 : (j : Int) < (ws.length : Int) := by omega
      have hsm := HS.out.2 j hlt
      have hL1 : ws[j].length ≤ 1048576 := by have := hsm.1; omega
      have HL2 : Hid (∀ i, (h : i < ws[j].length) → ws[j][i].2.length ≤ 1048576) := fun i hi => by have := (hsm.2 i hi).1; omega
      have HN2 : Hid (n + (ws[j].length + lens ws[j]) = lensW (ws.take (j + 1))) := by rw [lensW_take hlt, ← HN.out]; rfl
      have hn3 : n + (ws[j].length + lens ws[j]) ≤ 1048576 := by rw [HN2.out]; exact Nat.le_trans (lensW_take_le ws (j + 1)) hsum
      have HREST : Hid (∀ w', Span (L j) (U j) wr w' → FromW w' lo T g ws (j + 1)) := fun w' hs => by
        refine ⟨L, U, G, f, hrow.of_block (hs.block g hrow.lt (by omega)), fun i hi hij => ?_, hd⟩
        obtain ⟨x1, x2, x3, x4, x5, x6⟩ := hall i hi (by omega)
        exact ⟨x1, x2.span x4 x5 hs (.inr (hd j i (by omega) hi)), x3, x4, x5, x6⟩
      clear hall hsm hd hrow e1
      go_wp2_with fail
      refine (markItemS_any (G j) ws[j].length (L j) (U j) ws[j] kk _ hL1 l2 l3 hq0 (by omega) HL2.out hpi).mono ?_
      rintro e w1 ⟨rfl, _, s1⟩
      have hfw1 := HREST.out w1 s1
      clear HREST
      go_wp2_with fail
      exact ⟨⟨j + 1, n + (ws[j].length + lens ws[j]), _, by omega, by go_num, rfl, by omega, by omega, HN2, hn3, hfw1, hsp.trans (s1.wide l1 l4)⟩, by simp [intOf]; omega⟩
    · go_wp2_with fail
      go_ret
      exact ⟨⟨kk, rfl, hq0, by omega⟩, hsp⟩

set_option maxHeartbeats 800000 in
theorem markIntS_any (b cap : Nat) (l : List Int) (k : Int) (w : World) (hn : l.length ≤ 1048576) (hk0 : 0 ≤ k) (hk1 : k ≤ 10000000) (ho : PartZ w b l l.length) :
    Calls Try.prog 27 #[.slice (some ⟨b, 0, none⟩) l.length cap, .int .i64 k] w fun e w' => e = .returned (.int .i64 (k + (l.length : Int))) ∧ But b w w' := by
  obtain ⟨f, hf, _⟩ := ho
  have hp : ∃ f, w.rowIs b 3 l.length f := ⟨f, hf⟩
  clear hf
  go_enter Try.func27, Try.ntmps27
  go_wp2_with fail
  go_loopw [1, 5] (fun kk i wr => ∃ j : Nat, j ≤ l.length ∧ i = .int .i64 j ∧ kk = .int .i64 (k + (j : Int)) ∧ (∃ f, wr.rowIs b 3 l.length f) ∧ But b w wr) (fun _ i _ => l.length - (intOf i).toNat)
  case atStart => exact ⟨0, Nat.zero_le _, rfl, by simp, hp, But.refl _ _⟩
  case round =>
    obtain ⟨j, hj, rfl, rfl, ⟨f, hpj⟩, hb⟩ := hrel
    by_cases hlt : j < l.length
    · have hv0 := hpj.cell hlt
      have hz0 := hpj.frozen j
      have j0 : (0 : Int) ≤ (j : Int) := by omega
      have j1 : (j : Int) < (l.length : Int) := by omega
      go_wp2_with fail
      exact ⟨⟨j + 1, by omega, by go_num, by congr 1; omega, ⟨_, hpj.set _ _⟩, hb.setCell _ _⟩, by simp [intOf]; omega⟩
    · obtain rfl : j = l.length := by omega
      go_wp2_with fail
      go_ret
      exact ⟨rfl, hb⟩

end Go.Proofs.Ytpfhegengmlkmac
/- Numbers of an answer: marked, and held against the marks. -/
namespace Go.Proofs.Ytpfhegengmlkmac
open Go.RowKit Go.BigFrame

/-- The marks of numbers. -/
def numsZ (k : Int) (n : Nat) : List Int := (List.range n).map fun (i : Nat) => k + (i : Int)
theorem numsZ_len (k : Int) (n : Nat) : (numsZ k n).length = n := by simp [numsZ]
theorem numsZ_at (k : Int) (n j : Nat) (h : j < (numsZ k n).length) : (numsZ k n)[j] = k + (j : Int) := by simp [numsZ]

theorem NumB.but {w w' : World} {g b : Nat} {l : List Int} (h : NumB w g l) (hb : But b w w') (hne : g ≠ b) : NumB w' g l := by
  have hlt := h.lt
  obtain ⟨m, f, h, hf⟩ := h
  exact ⟨m, f, h.of_block (hb.block g hlt hne), hf⟩
theorem NumB.span {w w' : World} {g lo hi : Nat} {l : List Int} (h : NumB w g l) (hs : Span lo hi w w') (hd : g < lo ∨ hi ≤ g) : NumB w' g l := by
  have hlt := h.lt
  obtain ⟨m, f, h, hf⟩ := h
  exact ⟨m, f, h.of_block (hs.block g hlt hd), hf⟩
/-- The numbers of an answer lie in a block between two. -/
def SafeZ (w : World) (lo hi : Nat) (a : Option Addr) (l : List Int) : Prop := l = [] ∨ ∃ g, a = some ⟨g, 0, none⟩ ∧ lo ≤ g ∧ g < hi ∧ NumB w g l
theorem SafeZ.row {w : World} {lo hi : Nat} {a : Option Addr} {l : List Int} (h : SafeZ w lo hi a l) : RowZ w a l := by
  rcases h with rfl | ⟨g, rfl, _, _, hn⟩
  · exact fun k hk => absurd hk (Nat.not_lt_zero k)
  · exact hn.row
theorem SafeZ.below {w w' : World} {lo hi : Nat} {a : Option Addr} {l : List Int} (h : SafeZ w lo hi a l) (hb : Below w.heap.size w w') : SafeZ w' lo hi a l := by
  rcases h with rfl | ⟨g, rfl, h1, h2, hn⟩
  · exact .inl rfl
  · exact .inr ⟨g, rfl, h1, h2, hn.below hb⟩
theorem SafeZ.span {w w' : World} {lo hi lo' hi' : Nat} {a : Option Addr} {l : List Int} (h : SafeZ w lo hi a l) (hs : Span lo' hi' w w') (hd : hi ≤ lo' ∨ hi' ≤ lo) : SafeZ w' lo hi a l := by
  rcases h with rfl | ⟨g, rfl, h1, h2, hn⟩
  · exact .inl rfl
  · exact .inr ⟨g, rfl, h1, h2, hn.span hs (by omega)⟩

/-- The first j numbers marked. -/
def mixN (k : Int) (l : List Int) (j : Nat) : List Int := (numsZ k j) ++ l.drop j
theorem mixN_len (k : Int) (l : List Int) {j : Nat} (h : j ≤ l.length) : (mixN k l j).length = l.length := by simp [mixN, numsZ]; omega
theorem mixN_step (k : Int) (l : List Int) {j : Nat} (h : j < l.length) : (mixN k l j).set j (k + (j : Int)) = mixN k l (j + 1) := by
  apply List.ext_getElem
  · rw [List.length_set, mixN_len k l (by omega), mixN_len k l (by omega)]
  · intro i h1 h2
    have hl : i < l.length := by rw [List.length_set, mixN_len k l (by omega)] at h1; exact h1
    rw [List.getElem_set]
    simp only [mixN, List.getElem_append, numsZ_len]
    by_cases e : j = i
    · subst e
      simp [numsZ]
    · simp only [if_neg e]
      by_cases e2 : i < j
      · simp only [e2, ↓reduceDIte, show i < j + 1 by omega]
        simp [numsZ]
      · simp only [e2, ↓reduceDIte, show ¬ i < j + 1 by omega, List.getElem_drop]
        congr 1
        omega

set_option maxHeartbeats 800000 in
theorem markIntS_num (g cap : Nat) (l : List Int) (k : Int) (w : World) (hn : l.length ≤ 1048576) (hk0 : 0 ≤ k) (hk1 : k ≤ 10000000) (ho : NumB w g l) :
    Calls Try.prog 27 #[.slice (some ⟨g, 0, none⟩) l.length cap, .int .i64 k] w fun e w' => e = .returned (.int .i64 (k + (l.length : Int))) ∧ NumB w' g (numsZ k l.length) ∧ But g w w' := by
  go_enter Try.func27, Try.ntmps27
  go_wp2_with fail
  go_loopw [1, 5] (fun kk i wr => ∃ j : Nat, j ≤ l.length ∧ i = .int .i64 j ∧ kk = .int .i64 (k + (j : Int)) ∧ NumB wr g (mixN k l j) ∧ But g w wr) (fun _ i _ => l.length - (intOf i).toNat)
  case atStart => exact ⟨0, Nat.zero_le _, rfl, by simp, by simpa [mixN, numsZ] using ho, But.refl _ _⟩
  case round =>
    obtain ⟨j, hj, rfl, rfl, hnb, hb⟩ := hrel
    by_cases hlt : j < l.length
    · have hv0 := hnb.cell (j := j) (by rw [mixN_len k l (by omega)]; omega)
      have hz0 := hnb.frozen j
      have hset := hnb.set j (k + (j : Int))
      rw [mixN_step k l hlt] at hset
      have j0 : (0 : Int) ≤ (j : Int) := by omega
      have j1 : (j : Int) < (l.length : Int) := by omega
      go_wp2_with fail
      exact ⟨⟨j + 1, by omega, by go_num, by congr 1; omega, hset, hb.setCell _ _⟩, by simp [intOf]; omega⟩
    · obtain rfl : j = l.length := by omega
      have he : mixN k l l.length = numsZ k l.length := by simp [mixN]
      rw [he] at hnb
      go_wp2_with fail
      go_ret
      exact ⟨rfl, hnb, hb⟩

set_option maxHeartbeats 800000 in
theorem markIntS_none (a : Option Addr) (cap : Nat) (k : Int) (w : World) :
    Calls Try.prog 27 #[.slice a 0 cap, .int .i64 k] w fun e w' => e = .returned (.int .i64 k) ∧ w' = w := by
  go_enter Try.func27, Try.ntmps27
  go_wp2_with fail
  go_loopw [1, 5] (fun kk i wr => i = .int .i64 0 ∧ kk = .int .i64 k ∧ wr = w) (fun _ _ _ => 0)
  case atStart => exact ⟨rfl, rfl, rfl⟩
  case round =>
    obtain ⟨rfl, rfl, rfl⟩ := hrel
    go_wp2_with fail
    go_ret
    exact ⟨rfl, rfl⟩
theorem markSafeZ_any (a : Option Addr) (cap lo hi : Nat) (l : List Int) (k : Int) (w : World) (hn : l.length ≤ 1048576) (hk0 : 0 ≤ k) (hk1 : k ≤ 10000000) (hs : SafeZ w lo hi a l) :
    Calls Try.prog 27 #[.slice a l.length cap, .int .i64 k] w fun e w' => e = .returned (.int .i64 (k + (l.length : Int))) ∧ SafeZ w' lo hi a (numsZ k l.length) ∧ Span lo hi w w' := by
  rcases hs with rfl | ⟨g, rfl, h1, h2, ho⟩
  · exact (markIntS_none a cap k w).mono fun e w' ⟨he, hw⟩ => ⟨by rw [he]; simp, .inl rfl, by rw [hw]; exact Span.refl _ _ _⟩
  · exact (markIntS_num g cap l k w hn hk0 hk1 ho).mono fun e w' ⟨he, ho', hb⟩ => ⟨he, .inr ⟨g, rfl, h1, h2, ho'⟩, hb.span h1 h2⟩

set_option maxHeartbeats 800000 in
theorem heldIntS_any (a : Option Addr) (cap n : Nat) (k : Int) (w : World) (hn : n ≤ 1048576) (hk0 : 0 ≤ k) (hk1 : k ≤ 10000000) (hr : RowZ w a (numsZ k n)) :
    Calls Try.prog 28 #[.slice a n cap, .int .i64 k] w fun e w' => e = .returned (.int .i64 (k + (n : Int))) ∧ Below w.heap.size w w' := by
  go_enter Try.func28, Try.ntmps28
  go_wp2_with fail
  go_loopw [1, 5] (fun kk i wr => ∃ j : Nat, j ≤ n ∧ i = .int .i64 j ∧ kk = .int .i64 (k + (j : Int)) ∧ Below w.heap.size w wr) (fun _ i _ => n - (intOf i).toNat)
  case atStart => exact ⟨0, Nat.zero_le _, rfl, by simp, Below.refl _ _⟩
  case round =>
    obtain ⟨j, hj, rfl, rfl, hb⟩ := hrel
    by_cases hlt : j < n
    · obtain ⟨b, o, rfl, hblt, c0⟩ := hr.below hb j (by rw [numsZ_len]; exact hlt)
      rw [numsZ_at] at c0
      have j0 : (0 : Int) ≤ (j : Int) := by omega
      have j1 : (j : Int) < (n : Int) := by omega
      go_wp2_with fail
      exact ⟨⟨j + 1, by omega, by go_num, by congr 1; omega, hb⟩, by simp [intOf]; omega⟩
    · obtain rfl : j = n := by omega
      go_wp2_with fail
      go_ret
      exact ⟨rfl, hb⟩

end Go.Proofs.Ytpfhegengmlkmac
/- The walk of the law FnExactChoiceBest. -/
namespace Go.Proofs.Ytpfhegengmlkmac
open Go.RowKit Go.BigFrame
set_option maxRecDepth 100000

theorem small_winsB {ws : List (List ItemL)} (h : SmallW 1048576 ws) : ws.length ≤ 1048576 ∧ ∀ j, (h : j < ws.length) → ws[j].length ≤ 1048576 ∧ ∀ i, (h' : i < ws[j].length) → ws[j][i].2.length ≤ 1048576 :=
  ⟨by have := h.1; omega, fun j hj => ⟨by have := (h.2 j hj).1; omega, fun i hi => by have := ((h.2 j hj).2 i hi).1; omega⟩⟩
theorem best_len {ws : List (List ItemL)} {out : List Int} {ok : Bool} (h : BestP ws out ok) : out.length ≤ 6 := by
  rcases h with ⟨_, h, _⟩ | ⟨_, rfl, _⟩
  · rw [h.2.1]; exact h.1.2.1
  · simp
theorem BesE.safe {w w' : World} {ws : List (List ItemL)} {e : Ending} (h : BesE w w' ws e) : ∃ a c out ok, e = .returned (.tuple #[.slice a out.length c, .bool ok]) ∧ BestP ws out ok ∧ SafeZ w' w.heap.size w'.heap.size a out := by
  rcases h with ⟨g, c, out, rfl, hb, hge, hn⟩ | ⟨rfl, hb⟩
  · exact ⟨_, c, out, true, rfl, hb, .inr ⟨g, rfl, hge, hn.lt, hn⟩⟩
  · exact ⟨none, 0, [], false, rfl, hb, .inl rfl⟩

set_option maxHeartbeats 6400000 in
theorem lawCB_any (a : Option Addr) (cap : Nat) (ws : List (List ItemL)) (w : World) (hf : FitW ws) (hr : RowW w a ws) :
    Calls Try.prog 6 #[.slice a ws.length cap] w fun e w' => e = .returned (.bool true) ∧ Below w.heap.size w w' := by
  go_enter Try.func6, Try.ntmps6
  go_wp2_with fail
  refine (szItemSS_w a cap ws 1048576 _ hr hf (by omega) (by omega)).mono ?_
  rintro e w1 ⟨r, rfl, hr0, hr1, hr2, B1⟩
  have HR2 : Hid (0 ≤ r → (lensW ws : Int) ≤ 1048576 ∧ SmallW 1048576 ws) := hr2
  clear hr2
  by_cases hneg : r < 0
  · go_wp2_with fail
    go_ret
    exact ⟨rfl, B1⟩
  have HSM : Hid (SmallW 1048576 ws) := (HR2.out (by omega)).2
  have hsum : lensW ws ≤ 1048576 := by have := (HR2.out (by omega)).1; omega
  obtain ⟨hL, hS⟩ := small_winsB HSM.out
  clear HR2
  -- spec
  go_wp2_with fail
  refine (toItemSS_any a cap ws _ hL hS (hr.below B1)).mono ?_
  rintro e w3 ⟨rfl, hp2, b2⟩
  have B3 : Below w.heap.size w w3 := B1.trans (b2.mono B1.size)
  clear b2 B1
  go_wp2_with fail
  refine (specCB_any _ _ ws _ hf hp2.row).mono ?_
  rintro e w4 ⟨hE4, b4⟩
  obtain ⟨a0, cap0, out, ok, rfl, hm4, ht⟩ := BesE.safe hE4
  have B4 : Below w.heap.size w w4 := B3.trans (b4.mono B3.size)
  have ho6 := best_len hm4
  have hom : out.length ≤ maxLen := by unfold maxLen; omega
  have HM : Hid (BestP ws out ok) := hm4
  have z4 : w.heap.size ≤ w3.heap.size := B3.size
  have y4 := b4.size
  clear b4 hp2 hE4 B3 hm4
  generalize w3.heap.size = lw at *
  -- x0
  go_wp2_with fail
  refine (toItemSS_any a cap ws _ hL hS (hr.below B4)).mono ?_
  rintro e w6 ⟨rfl, hp5, b5⟩
  have B6 : Below w.heap.size w w6 := B4.trans (b5.mono B4.size)
  replace ht := ht.below b5
  have y5 : w4.heap.size < w6.heap.size := hp5.lt
  clear b5 B4
  -- impl
  go_wp2_with fail
  refine (implCB_any _ _ ws _ hf hp5.row).mono ?_
  rintro e w7 ⟨hE7, b7⟩
  obtain ⟨a1, cap1, out', ok', rfl, hm7, hs⟩ := hE7.safe
  obtain ⟨rfl, rfl⟩ := HM.out.one hm7
  have B7 : Below w.heap.size w w7 := B6.trans (b7.mono B6.size)
  replace ht := ht.below b7
  replace hp5 := hp5.below b7
  have y7 := b7.size
  clear hE7 b7 B6 hm7
  generalize w4.heap.size = gx at *
  generalize w6.heap.size = lg at *
  obtain ⟨hg, hhg, hs⟩ : ∃ q, q ≤ w7.heap.size ∧ SafeZ w7 lg q a1 out := ⟨_, Nat.le_refl _, hs⟩
  go_wp2_with fail
  refine (eqIntS_same _ _ _ _ out _ hom hs.row ht.row).mono ?_
  rintro e w8 ⟨rfl, b8⟩
  have B8 : Below w.heap.size w w8 := B7.trans (b8.mono B7.size)
  replace hs := hs.below b8
  replace ht := ht.below b8
  replace hp5 := hp5.below b8
  have y8 := b8.size
  clear b8 B7
  cases ok
  all_goals
    go_wp2_with fail
    refine (toItemSS_any a cap ws _ hL hS (hr.below B8)).mono ?_
    rintro e w9 ⟨rfl, hp9, b9⟩
    have B9 : Below w.heap.size w w9 := B8.trans (b9.mono B8.size)
    replace hs := hs.below b9
    replace ht := ht.below b9
    replace hp5 := hp5.below b9
    have y9 := b9.size
    go_wp2_with fail
    refine (eqItemSS_same _ _ _ _ ws _ hf hp5.row hp9.row).mono ?_
    rintro e w12 ⟨rfl, b10⟩
    have B12 : Below w.heap.size w w12 := B9.trans (b10.mono B9.size)
    replace hs := hs.below b10
    replace ht := ht.below b10
    replace hp5 := hp5.below b10
    have y10 := b10.size
    clear b9 b10 hp9
    -- the argument is marked
    go_wp2_with fail
    refine (markItemSS_any gx ws.length (gx + 1) lg ws 1 _ hL (by omega) (by omega) (by omega) hsum HSM.out hp5).mono ?_
    rintro e w14 ⟨⟨k13, rfl, hk0, hk1⟩, s13⟩
    have B14 : Below w.heap.size w w14 := B12.trans (s13.below (by omega) B12.size)
    replace hs := hs.span s13 (by omega)
    replace ht := ht.span s13 (by omega)
    have y13 := s13.size
    clear s13 hp5
    go_wp2_with fail
    refine (eqIntS_same _ _ _ _ out _ hom hs.row ht.row).mono ?_
    rintro e w15 ⟨rfl, b15⟩
    have B15 : Below w.heap.size w w15 := B14.trans (b15.mono B14.size)
    replace hs := hs.below b15
    replace ht := ht.below b15
    have y15 := b15.size
    clear b15
    -- the answer is marked
    go_wp2_with fail
    refine (markSafeZ_any a1 cap1 _ _ out 1 _ (by omega) (by omega) (by omega) hs).mono ?_
    rintro e w16 ⟨rfl, hs16, s16⟩
    have B16 : Below w.heap.size w w16 := B15.trans (s16.below (by omega) B15.size)
    replace ht := ht.span s16 (by omega)
    clear s16 hs
    go_wp2_with fail
    refine (heldIntS_any a1 cap1 out.length 1 _ (by omega) (by omega) (by omega) hs16.row).mono ?_
    rintro e w17 ⟨rfl, b17⟩
    have B17 : Below w.heap.size w w17 := B16.trans (b17.mono B16.size)
    replace hs16 := hs16.below b17
    replace ht := ht.below b17
    clear b17
    go_wp2_with fail
    refine (toItemSS_any a cap ws _ hL hS (hr.below B17)).mono ?_
    rintro e w19 ⟨rfl, hp18, b18⟩
    have B19 : Below w.heap.size w w19 := B17.trans (b18.mono B17.size)
    replace hs16 := hs16.below b18
    replace ht := ht.below b18
    clear b18
    go_wp2_with fail
    refine (implCB_any _ _ ws _ hf hp18.row).mono ?_
    rintro e w20 ⟨hE20, b20⟩
    obtain ⟨a2, cap2, out', ok', rfl, hm20, hs20⟩ := hE20.safe
    obtain ⟨rfl, rfl⟩ := HM.out.one hm20
    have B20 : Below w.heap.size w w20 := B19.trans (b20.mono B19.size)
    replace hs16 := hs16.below b20
    replace ht := ht.below b20
    clear b20 hE20 hp18
    go_wp2_with fail
    refine (eqIntS_same _ _ _ _ out _ hom hs20.row ht.row).mono ?_
    rintro e w21 ⟨rfl, b21⟩
    have B21 : Below w.heap.size w w21 := B20.trans (b21.mono B20.size)
    replace hs16 := hs16.below b21
    clear b21 hs20
    go_wp2_with fail
    refine (heldIntS_any a1 cap1 out.length 1 _ (by omega) (by omega) (by omega) hs16.row).mono ?_
    rintro e w22 ⟨rfl, b22⟩
    go_wp2_with fail
    go_ret
    exact ⟨rfl, B21.trans (b22.mono B21.size)⟩

end Go.Proofs.Ytpfhegengmlkmac
