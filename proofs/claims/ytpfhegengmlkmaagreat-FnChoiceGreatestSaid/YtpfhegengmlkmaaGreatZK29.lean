/- Texts of this claim, one behind the other. -/
import Derived.WalkMore
import Derived.Deep.LoopGhost
import Derived.Test.YtpfhegengmlkmaaGreatZK5
import Derived.Test.YtpfhegengmlkmaaGreatZK7
import Derived.Test.YtpfhegengmlkmaaGreatZK28
namespace Go.Proofs.YtpfhegengmlkmaaGreat
open Go.RowKit Go.BigFrame
set_option maxRecDepth 100000

/-- No choice that agrees is ahead of these places. -/
def UpP (ws : List (List ItemL)) (ps : List Int) : Prop := ∀ q, ChP ws q → ∀ i, (hq : i < q.length) → (ho : i < ps.length) → q[i] ≤ ps[i]
/-- How far there is to go back. -/
def farM : List Int → Nat
  | [] => 0
  | x :: r => x.toNat + farM r
theorem farM_set : ∀ (l : List Int) (i : Nat) (h : i < l.length), 0 < l[i] → farM (l.set i (l[i] - 1)) < farM l
  | x :: r, 0, _, h0 => by
    simp only [List.getElem_cons_zero] at h0
    simp only [List.set_cons_zero, farM, List.getElem_cons_zero]
    omega
  | x :: r, i + 1, h, h0 => by
    have := farM_set r i (by simpa using h) (by simpa using h0)
    simp only [List.getElem_cons_succ, List.set_cons_succ, farM]
    omega
theorem lasts_up {ws : List (List ItemL)} : UpP ws (lastsM ws) := fun q hc i hq ho => by
  have h1 := hc.2.2.1.2 i hq
  have hw : i < ws.length := by rw [← hc.2.1]; exact hq
  have e : ws.getD i [] = ws[i] := by simp [List.getD, hw]
  rw [e] at h1
  simp only [lastsM, List.getElem_map]
  omega
theorem up_back {ws : List (List ItemL)} {ps : List Int} {sh : List (List Spot)} (hok : OkW ws) (hl : ps.length = ws.length) (hin : InW ws ps) (hsh : SharedP ws sh) (hub : UpP ws ps) {src : List Spot} (hs : src ∈ sh) {p : Spot} (hp : p ∈ src) {x : Int} (hx : ∃ r ∈ src, x = verM ws ps r) (hle : x ≤ verM ws ps p) (hne : ¬ verM ws ps p = x) (hw : p.1 < ps.length) :
    (ps[p.1] = 0 → ∀ q, ¬ ChP ws q) ∧ (¬ ps[p.1] = 0 → InW ws (ps.set p.1 (ps[p.1] - 1)) ∧ UpP ws (ps.set p.1 (ps[p.1] - 1)) ∧ farM (ps.set p.1 (ps[p.1] - 1)) < farM ps) := by
  obtain ⟨r, hr, e⟩ := hx
  have key := step_back hok hl hin hsh hub hs hp hr (by omega)
  have h0 := hin.2 p.1 hw
  refine ⟨fun hz q hq => ?_, fun hz => ⟨⟨by rw [List.length_set]; exact hin.1, fun i hi => ?_⟩, fun q hq i hiq hio => ?_, farM_set ps p.1 hw (by omega)⟩⟩
  · have h1 := key q hq (by rw [hq.2.1]; omega) hw
    have h2 := hq.2.2.1.2 p.1 (by rw [hq.2.1]; omega)
    omega
  · have hi' : i < ps.length := by simpa using hi
    by_cases e2 : i = p.1
    · subst e2
      rw [List.getElem_set_self]
      omega
    · rw [List.getElem_set_ne (fun h => e2 h.symm)]
      exact hin.2 i hi'
  · have hi' : i < ps.length := by simpa using hio
    by_cases e2 : i = p.1
    · subst e2
      rw [List.getElem_set_self]
      have := key q hq hiq hw
      omega
    · rw [List.getElem_set_ne (fun h => e2 h.symm)]
      exact hub q hq i hiq hi'

/-- What greatest answers. -/
def BesE (w w' : World) (ws : List (List ItemL)) (e : Ending) : Prop := (∃ g c out, e = .returned (.tuple #[.slice (some ⟨g, 0, none⟩) out.length c, .bool true]) ∧ BestP ws out true ∧ w.heap.size ≤ g ∧ NumB w' g out) ∨ (e = .returned (.tuple #[.slice none 0 0, .bool false]) ∧ BestP ws [] false)

set_option maxHeartbeats 3200000 in
theorem greatest_any (W0 w : World) (b : Nat) (ws : List (List ItemL)) (sh : List (List Spot)) (h : ChB W0 w b ws sh) (hW : Below W0.heap.size W0 w) (hok : OkW ws) (hsh : ShW ws sh) :
    Calls Tryz.prog 22 #[.pointer (some ⟨b, 0, none⟩)] w fun e w' => BesE w w' ws e ∧ Below w.heap.size w w' := by
  have HOK : Hid (OkW ws) := hok
  have HSH : Hid (ShW ws sh) := hsh
  have HC : Hid (ChB W0 w b ws sh) := h
  have h6 := hok.2.1
  have hshl := hsh.2.2
  clear hok hsh
  go_enter Tryz.func22, Tryz.ntmps22
  go_wp2_with fail
  go_step3
  go_wp2_with fail
  refine (lasts_any W0 w b ws sh HC.out HOK.out).mono ?_
  rintro e w1 ⟨⟨g, c, ok, rfl, hok2, hge, hnb⟩, b1⟩
  have HR : Hid (ok = true ↔ InW ws (lastsM ws)) := hok2
  clear hok2
  cases ok with
  | false =>
    have HN : Hid (BestP ws [] false) := .inr ⟨rfl, rfl, fun q hq => by
      have : InW ws (lastsM ws) := ⟨by rw [lastsM_len]; exact Nat.le_refl _, fun i hi => by
        have hi' : i < ws.length := by simpa [lastsM_len] using hi
        have h1 := hq.2.2.1.2 i (by rw [hq.2.1]; exact hi')
        have e : ws.getD i [] = ws[i] := by simp [List.getD, hi']
        rw [e] at h1 ⊢
        simp only [lastsM, List.getElem_map]
        omega⟩
      have := HR.out.2 this
      simp at this⟩
    go_wp2_with fail
    try rw [Exit.noGoto_ret]
    exact bodyPost_ret (v := .tuple #[.slice none 0 0, .bool false]) (by simp [results, Tryz.results22, go_sem]) rfl ⟨.inr ⟨rfl, HN.out⟩, b1⟩
  | true =>
    have HIN : Hid (InW ws (lastsM ws)) := HR.out.1 rfl
    clear HR
    go_wp2_with fail
    go_step3
    go_wp2_with fail
    go_loopg [23] (farM (lastsM ws)) (fun gk u wr => ∃ ps : List Int, farM ps ≤ gk ∧ ps.length = ws.length ∧ Hid (InW ws ps) ∧ Hid (UpP ws ps) ∧ NumB wr g ps ∧ Below w.heap.size w wr)
    case atStart => exact ⟨lastsM ws, Nat.le_refl _, lastsM_len ws, HIN, lasts_up, hnb, b1⟩
    case round =>
      clear HIN hnb b1
      obtain ⟨ps, hfar, hlen, HIN, HUP, hnb, hbl⟩ := hrel
      have HLEN : Hid (ps.length = ws.length) := hlen
      clear hlen
      have hcb := HC.out.below hbl
      obtain ⟨hbb, va, vc, va', vc', e0, _, e1, _, _, hg⟩ := id hcb
      have hWr : Below W0.heap.size W0 wr := hW.trans (hbl.mono hW.size)
      go_wp2_with fail
      go_loopw [23] (fun i wr2 => ∃ k : Nat, k ≤ sh.length ∧ i = .int .i64 k ∧ Hid (∀ j, (h : j < sh.length) → j < k → SameTo ws ps sh[j] sh[j].length) ∧ Below wr.heap.size wr wr2) (fun i _ => sh.length - (intOf i).toNat)
      case atStart => exact ⟨0, Nat.zero_le _, rfl, fun _ _ h => absurd h (Nat.not_lt_zero _), Below.refl _ _⟩
      case round =>
        obtain ⟨k, hk, rfl, HI, hbl2⟩ := hrel
        by_cases hlt : k < sh.length
        · obtain ⟨b1, o1, rfl, hb1, s1, t1, f1, ht1, hpr⟩ := hg.below hbl2 k hlt
          have k0 : (0 : Int) ≤ (k : Int) := by omega
          have k1 : (k : Int) < (sh.length : Int) := by omega
          have hsrc := HSH.out.2.1 sh[k] (List.getElem_mem hlt)
          have hs1 := hsrc.1
          have hs2 := hsrc.2
          have hmem : sh[k] ∈ sh := List.getElem_mem hlt
          have hnb2 := hnb.below hbl2
          have hle := least_any W0 _ b ws sh (some ⟨g, 0, none⟩) s1 c t1 ps sh[k] (hcb.below hbl2) (hWr.trans (hbl2.mono hWr.size)) HOK.out HLEN.out HIN.out hnb2.row HSH.out hmem hpr
          rw [HLEN.out] at hle
          clear hsrc
          go_wp2_with fail
          refine hle.mono ?_
          rintro e w3 ⟨⟨x, rfl, hx1, hx2⟩, b3⟩
          have HX : Hid ((∀ p ∈ sh[k], x ≤ verM ws ps p) ∧ ∃ p ∈ sh[k], x = verM ws ps p) := ⟨hx1, hx2⟩
          have B3 := hbl2.trans (b3.mono hbl2.size)
          clear hle hx1 hx2 hnb2
          go_wp2_with fail
          have hpr3 := hpr.below b3
          have hnb3 := hnb.below B3
          have hcb3 := hcb.below B3
          have BW3 := hbl.trans (B3.mono hbl.size)
          clear hnb hcb hpr b3 hbl2 f1 hg e0 e1
          go_loopw [33] (fun i3 wr3 => ∃ j : Nat, j ≤ sh[k].length ∧ i3 = .int .i64 j ∧ Hid (∀ i, (h : i < sh[k].length) → i < j → verM ws ps sh[k][i] = x) ∧ Below w3.heap.size w3 wr3) (fun i3 _ => sh[k].length - (intOf i3).toNat)
          case atStart => exact ⟨0, Nat.zero_le _, rfl, fun _ _ h => absurd h (Nat.not_lt_zero _), Below.refl _ _⟩
          case round =>
            obtain ⟨j, hj, rfl, HJ, hbl3⟩ := hrel
            by_cases hjlt : j < sh[k].length
            · obtain ⟨b2, o2, rfl, hb2, f2, f3⟩ := hpr3.below hbl3 j hjlt
              have j0 : (0 : Int) ≤ (j : Int) := by omega
              have j1 : (j : Int) < (sh[k].length : Int) := by omega
              obtain ⟨sn, hall⟩ := HSH.out.1.1 sh[k] hmem
              have hspot := hall sh[k][j] (List.getElem_mem hjlt)
              obtain ⟨hpw, hpp, _⟩ := ver_facts HOK.out HLEN.out HIN.out hspot
              have hback := up_back HOK.out HLEN.out HIN.out HSH.out.1 HUP.out hmem (List.getElem_mem hjlt) HX.out.2 (HX.out.1 _ (List.getElem_mem hjlt))
              have HBK : Hid (∀ hne : ¬ verM ws ps sh[k][j] = x, (ps[sh[k][j].1] = 0 → ∀ q, ¬ ChP ws q) ∧ (¬ ps[sh[k][j].1] = 0 → InW ws (ps.set sh[k][j].1 (ps[sh[k][j].1] - 1)) ∧ UpP ws (ps.set sh[k][j].1 (ps[sh[k][j].1] - 1)) ∧ farM (ps.set sh[k][j].1 (ps[sh[k][j].1] - 1)) < farM ps)) := fun hne => hback hne hpp
              clear hback
              have hb0 : Below wr.heap.size wr (wr.alloc (.cells #[.int .i64 (sh[k][j].1 : Int), .int .i64 (sh[k][j].2 : Int)] 100)) := (Below.refl _ _).alloc (Nat.le_refl _) _
              have hlt0 := box_lt wr (.cells #[.int .i64 (sh[k][j].1 : Int), .int .i64 (sh[k][j].2 : Int)] 100)
              have d0 := box0 wr (.int .i64 (sh[k][j].1 : Int)) (.int .i64 (sh[k][j].2 : Int)) 100
              have hcb4 := (hcb3.below hbl3).below hb0
              have hnb4 := (hnb3.below hbl3).below hb0
              have BW := (BW3.trans (hbl3.mono BW3.size))
              have BW4 := BW.trans (hb0.mono BW.size)
              have hver := version_any W0 _ b ws sh (some ⟨g, 0, none⟩) c ps sh[k][j] sn hcb4 (hW.trans (BW4.mono hW.size)) HOK.out HLEN.out HIN.out hnb4.row hspot
              rw [HLEN.out] at hver
              clear hcb4
              go_wp2_with fail
              generalize wr.alloc (.cells #[.int .i64 (sh[k][j].1 : Int), .int .i64 (sh[k][j].2 : Int)] 100) = W at *
              refine hver.mono ?_
              rintro e w5 ⟨rfl, b5⟩
              have hnb5 := hnb4.below b5
              have d5 := cell_on b5 hlt0 d0
              have BW5 := BW4.trans (b5.mono BW4.size)
              have hbl5 := (hbl3.trans (hb0.mono hbl3.size)).trans (b5.mono (Nat.le_trans hbl3.size hb0.size))
              clear hver hnb4 d0
              by_cases he : verM ws ps sh[k][j] = x
              · have HJ2 : Hid (∀ i, (h : i < sh[k].length) → i < j + 1 → verM ws ps sh[k][i] = x) := fun i hi hlt' => by
                  by_cases e : i = j
                  · subst e; exact he
                  · exact HJ.out i hi (by omega)
                have he' : (verM ws ps sh[k][j] == x) = true := by rw [beq_iff_eq]; exact he
                clear he HBK
                go_wp2_with fail
                exact ⟨⟨j + 1, by omega, by go_num, HJ2, hbl5⟩, by simp [intOf]; omega⟩
              · have hb2k := HBK.out he
                have he' : (verM ws ps sh[k][j] == x) = false := by rw [beq_eq_false_iff_ne]; exact he
                have p0 := hnb5.cell hpp
                have p1 := hnb5.frozen sh[k][j].1
                have i0 : (0 : Int) ≤ (sh[k][j].1 : Int) := by omega
                have i1 : (sh[k][j].1 : Int) < (ws.length : Int) := by omega
                clear HBK he
                by_cases hz : ps[sh[k][j].1] = 0
                · have HN : Hid (BestP ws [] false) := .inr ⟨rfl, rfl, hb2k.1 hz⟩
                  have hz' : (ps[sh[k][j].1] == 0) = true := by rw [beq_iff_eq]; exact hz
                  clear hb2k hz
                  go_wp2_with fail
                  try rw [Exit.noGoto_ret]
                  exact bodyPost_ret (v := .tuple #[.slice none 0 0, .bool false]) (by simp [results, Tryz.results22, go_sem]) rfl ⟨.inr ⟨rfl, HN.out⟩, BW5⟩
                · have HBB : Hid (InW ws (ps.set sh[k][j].1 (ps[sh[k][j].1] - 1)) ∧ UpP ws (ps.set sh[k][j].1 (ps[sh[k][j].1] - 1)) ∧ farM (ps.set sh[k][j].1 (ps[sh[k][j].1] - 1)) < farM ps) := hb2k.2 hz
                  have hz' : (ps[sh[k][j].1] == 0) = false := by rw [beq_eq_false_iff_ne]; exact hz
                  have hpos : 0 ≤ ps[sh[k][j].1] ∧ ps[sh[k][j].1] ≤ 4 := by
                    have h3 := HIN.out.2 _ hpp
                    have e3 : ws.getD sh[k][j].1 [] = ws[sh[k][j].1] := by simp [List.getD, hpw]
                    rw [e3] at h3
                    have := (HOK.out.2.2 _ hpw).1
                    omega
                  have q0 := hpos.1
                  have q1 := hpos.2
                  clear hb2k hz hpos
                  go_wp2_with fail
                  go_roundg (farM (ps.set sh[k][j].1 (ps[sh[k][j].1] - 1)))
                  case measure => have := HBB.out.2.2; omega
                  case rel => exact ⟨ps.set sh[k][j].1 (ps[sh[k][j].1] - 1), Nat.le_refl _, by rw [List.length_set]; exact HLEN.out, HBB.out.1, HBB.out.2.1, hnb5.set _ _, BW5.setCell hge _⟩
            · have HI2 : Hid (∀ q, (h : q < sh.length) → q < k + 1 → SameTo ws ps sh[q] sh[q].length) := fun q hq hlt' => by
                by_cases e : q = k
                · subst e
                  exact fun i hi _ h0 => by rw [HJ.out i hi (by omega), HJ.out 0 h0 (by omega)]
                · exact HI.out q hq (by omega)
              go_wp2_with fail
              exact ⟨⟨k + 1, by omega, by go_num, HI2, B3.trans (hbl3.mono B3.size)⟩, by simp [intOf]; omega⟩
        · have HA : Hid (AgW ws ps) := agW_same HOK.out HLEN.out HIN.out HSH.out.1 (fun j hj => HI.out j hj (by omega))
          have HB : Hid (BestP ws ps true) := .inl ⟨rfl, ⟨HOK.out, HLEN.out, HIN.out, HA.out⟩, HUP.out⟩
          go_wp2_with fail
          try rw [Exit.noGoto_ret]
          exact bodyPost_ret (v := .tuple #[.slice (some ⟨g, 0, none⟩) ps.length c, .bool true]) (by simp [results, Tryz.results22, go_sem, HLEN.out]) rfl ⟨.inl ⟨g, c, ps, rfl, HB.out, hge, hnb.below hbl2⟩, hbl.trans (hbl2.mono hbl.size)⟩

set_option maxHeartbeats 800000 in
theorem implCB_any (a : Option Addr) (cap : Nat) (ws : List (List ItemL)) (w : World) (hf : FitW ws) (hr : RowW w a ws) :
    Calls Tryz.prog 6 #[.slice a ws.length cap] w fun e w' => BesE w w' ws e ∧ Below w.heap.size w w' := by
  go_enter Tryz.func6, Tryz.ntmps6
  go_wp2_with fail
  refine (readChoices_any a cap ws _ hf hr).mono ?_
  rintro e w1 ⟨hE, b1⟩
  rcases hE with ⟨a1, c1, a2, c2, sh, rfl, hok, hc1, hc2, hrv, hrg, hsw⟩ | ⟨rfl, hno⟩
  · have HOK : Hid (OkW ws) := hok
    have HSW : Hid (ShW ws sh) := hsw
    clear hok hsw
    have hcb := chB_new hrv hrg hc1 hc2
    have hbx : Below w1.heap.size w1 (w1.alloc (.cells #[.slice a1 ws.length c1, .slice a2 sh.length c2] 52)) := (Below.refl _ _).alloc (Nat.le_refl _) _
    have BX : Below w.heap.size w (w1.alloc (.cells #[.slice a1 ws.length c1, .slice a2 sh.length c2] 52)) := b1.trans (hbx.mono b1.size)
    go_wp2_with fail
    generalize w1.alloc (.cells #[.slice a1 ws.length c1, .slice a2 sh.length c2] 52) = W at *
    refine (greatest_any w W w1.heap.size ws sh hcb BX HOK.out HSW.out).mono ?_
    rintro e w2 ⟨hB, b2⟩
    have B2 : Below w.heap.size w w2 := BX.trans (b2.mono BX.size)
    rcases hB with ⟨g, c, out, rfl, hbest, hge, hnb⟩ | ⟨rfl, hbest⟩
    · have HB : Hid (BestP ws out true) := hbest
      clear hbest
      go_wp2_with fail
      exact bodyPost_ret (v := .tuple #[.slice (some ⟨g, 0, none⟩) out.length c, .bool true]) (by simp [results, Tryz.results6, go_sem]) rfl ⟨.inl ⟨g, c, out, rfl, HB.out, Nat.le_trans BX.size hge, hnb⟩, B2⟩
    · have HB : Hid (BestP ws [] false) := hbest
      clear hbest
      go_wp2_with fail
      exact bodyPost_ret (v := .tuple #[.slice none 0 0, .bool false]) (by simp [results, Tryz.results6, go_sem]) rfl ⟨.inr ⟨rfl, HB.out⟩, B2⟩
  · have HN : Hid (BestP ws [] false) := none_best (.inl hno)
    clear hno
    go_wp2_with fail
    exact bodyPost_ret (v := .tuple #[.slice none 0 0, .bool false]) (by simp [results, Tryz.results6, go_sem]) rfl ⟨.inr ⟨rfl, HN.out⟩, b1.alloc b1.size _⟩

end Go.Proofs.YtpfhegengmlkmaaGreat

namespace Go.Proofs.YtpfhegengmlkmaaGreat
open Go.RowKit Go.BigFrame

set_option maxHeartbeats 1600000 in
theorem specJoin_any (aa ab : Option Addr) (ca cb : Nat) (la lb : List (ByteArray × Int)) (w : World) (hla : la.length ≤ maxLen) (hlb : lb.length ≤ maxLen) (ha : Row w aa la) (hb : Row w ab lb)
    (hsa : ∀ j, (h : j < la.length) → la[j].1.size ≤ maxLen) (hsb : ∀ j, (h : j < lb.length) → lb[j].1.size ≤ maxLen) :
    Calls Tryz.prog 32 #[.slice aa la.length ca, .slice ab lb.length cb] w fun e w' => (∃ v m ok, e = .returned (.tuple #[v, .bool ok]) ∧ Gath w' w.heap.size v m ∧ IsJ la lb m ok) ∧ Below w.heap.size w w' := by
  go_enter Tryz.func32, Tryz.ntmps32
  go_wp2_with fail
  refine (specOk_b aa ca la _ hla ha hsa).mono ?_
  rintro e w1 ⟨⟨r, rfl, hr1⟩, hb1⟩
  cases r
  · have hn : ¬ StampP la := fun h => by simpa using hr1.2 h
    clear hr1
    go_wp2_with fail
    exact bodyPost_ret (v := .tuple #[.slice none 0 0, .bool false]) (by simp [results, Tryz.results32, go_sem]) rfl ⟨⟨_, [], false, rfl, Gath.none _ _, .inl ⟨fun h => hn h.1, rfl, rfl⟩⟩, hb1⟩
  have hya : StampP la := hr1.1 rfl
  clear hr1
  go_wp2_with fail
  refine (specOk_b ab cb lb _ hlb (hb.below hb1) hsb).mono ?_
  rintro e w2 ⟨⟨r, rfl, hr2⟩, hb2⟩
  have hb12 : Below w.heap.size w w2 := hb1.trans (hb2.mono hb1.size)
  cases r
  · have hn : ¬ StampP lb := fun h => by simpa using hr2.2 h
    clear hr2
    go_wp2_with fail
    exact bodyPost_ret (v := .tuple #[.slice none 0 0, .bool false]) (by simp [results, Tryz.results32, go_sem]) rfl ⟨⟨_, [], false, rfl, Gath.none _ _, .inl ⟨fun h => hn h.2, rfl, rfl⟩⟩, hb12⟩
  have hyb : StampP lb := hr2.1 rfl
  clear hr2
  have sa := stamp_sorted hya
  have sb := stamp_sorted hyb
  have la12 := hya.1
  have lb12 := hyb.1
  go_wp2_with fail
  go_loopw [6, 7] (fun out i wr => ∃ k : Nat, k ≤ la.length ∧ i = .int .i64 k ∧ Gath wr w.heap.size out (la.take k) ∧ Below w.heap.size w wr) (fun _ i _ => la.length - (intOf i).toNat)
  case atStart => exact ⟨0, Nat.zero_le _, rfl, Gath.none _ _, hb12⟩
  case round =>
    obtain ⟨k, hk, rfl, hg, hbl⟩ := hrel
    by_cases hlt : k < la.length
    · obtain ⟨b, ob, rfl, hblt, c0, c1⟩ := ha k hlt
      have e0 := cell_on hbl hblt c0
      have e1 := cell_on hbl hblt c1
      obtain ⟨ag, capg, rfl, hrow⟩ := hg.shape
      have hk1 : (la.take k).length ≤ 1048576 := by rw [List.length_take]; omega
      have HS := setR_snoc (take_low sa hlt)
      rw [← List.take_succ_eq_append_getElem hlt] at HS
      have HS' : Hid _ := HS
      clear HS
      generalize la.take k = o at *
      go_wp2_with (go_at_call 56; refine (l1Set_any _ _ o la[k] _ hk1 hrow).mono ?_; rintro e w3 ⟨⟨v, rfl, hg3⟩, hb3⟩)
      exact ⟨⟨k + 1, by omega, by go_num, by rw [← HS'.out]; exact hg3.lower hbl.size, hbl.trans (hb3.mono hbl.size)⟩, by simp [intOf]; omega⟩
    · have hg' : Gath wr w.heap.size u6 la := by rw [List.take_of_length_le (by omega)] at hg; exact hg
      clear hg
      go_wp2_with fail
      go_loopw [6, 8] (fun out i wr => ∃ (k : Nat) (o : List (ByteArray × Int)), k ≤ lb.length ∧ i = .int .i64 k ∧ Gath wr w.heap.size out o ∧ o.length ≤ la.length + k ∧ JoinOf la (lb.take k) o ∧ Below w.heap.size w wr) (fun _ i _ => lb.length - (intOf i).toNat)
      case atStart => exact ⟨0, la, Nat.zero_le _, rfl, hg', by omega, joinOf_start sa, hbl⟩
      case round =>
        obtain ⟨k, o, hk, rfl, hg, hol, hj, hbl⟩ := hrel
        by_cases hlt : k < lb.length
        · obtain ⟨b, ob, rfl, hblt, c0, c1⟩ := hb k hlt
          have e0 := cell_on hbl hblt c0
          have e1 := cell_on hbl hblt c1
          have g1 : b < wr.heap.size := Nat.lt_of_lt_of_le hblt hbl.size
          obtain ⟨ag, capg, rfl, hrow⟩ := hg.shape
          have HRB : Hid (∀ n : Lat wr, Row n.w ag o) := fun n => hrow.below n.h
          by_cases hc : getM o lb[k].1 < lb[k].2
          · have HJ : Hid _ := joinOf_set sb hlt hj hc
            have HL := setR_length (m := lb[k]) (l := o)
            go_wp2_with fail
            refine wp_region_lat (by kernel_rfl) (by kernel_rfl) ?_
            have hne := Lat.some wr
            have q0 : ∀ n : Lat wr, n.w.cell? ⟨b, ob + k * 2, none⟩ = some (.string lb[k].1) := fun n => n.cell g1 e0
            have q1 : ∀ n : Lat wr, n.w.cell? ⟨b, ob + k * 2 + 1, none⟩ = some (.int .i64 lb[k].2) := fun n => n.cell g1 e1
            repeat (go_big_quiet_step ((go_at_call 57; exact Calls.lat_same (l1Get_any _ _ o _ _ (by unfold maxLen; omega) (HRB.out _)))))
            refine wpQuiet_nil ?_
            rintro _ ⟨nq, rfl⟩
            have e0 := q0 nq
            have e1 := q1 nq
            have B3 := hbl.trans (nq.h.mono hbl.size)
            go_wp2_with (go_at_call 56; refine (l1Set_any _ _ o lb[k] _ (by omega) (HRB.out nq)).mono ?_; rintro e w3 ⟨⟨v, rfl, hg3⟩, hb3⟩)
            exact ⟨⟨k + 1, _, by omega, by go_num, hg3.lower B3.size, by omega, HJ.out, B3.trans (hb3.mono B3.size)⟩, by simp [intOf]; omega⟩
          · have HJ : Hid _ := joinOf_keep sb hlt hj hc
            go_wp2_with fail
            refine wp_region_lat (by kernel_rfl) (by kernel_rfl) ?_
            have hne := Lat.some wr
            have q0 : ∀ n : Lat wr, n.w.cell? ⟨b, ob + k * 2, none⟩ = some (.string lb[k].1) := fun n => n.cell g1 e0
            have q1 : ∀ n : Lat wr, n.w.cell? ⟨b, ob + k * 2 + 1, none⟩ = some (.int .i64 lb[k].2) := fun n => n.cell g1 e1
            repeat (go_big_quiet_step ((go_at_call 57; exact Calls.lat_same (l1Get_any _ _ o _ _ (by unfold maxLen; omega) (HRB.out _)))))
            refine wpQuiet_nil ?_
            rintro _ ⟨nq, rfl⟩
            go_wp2_with fail
            exact ⟨⟨k + 1, o, by omega, by go_num, hg.keep nq.h, by omega, HJ.out, hbl.trans (nq.h.mono hbl.size)⟩, by simp [intOf]; omega⟩
        · have hj' : JoinOf la lb o := by rw [List.take_of_length_le (by omega)] at hj; exact hj
          have HJ : Hid (JoinOf la lb o) := hj'
          clear hj hj'
          obtain ⟨ag, capg, rfl, hrow⟩ := hg.shape
          by_cases h12 : 12 < o.length
          · go_wp2_with fail
            exact bodyPost_ret (v := .tuple #[.slice none 0 0, .bool false]) (by simp [results, Tryz.results32, go_sem]) rfl ⟨⟨_, [], false, rfl, Gath.none _ _, .inr ⟨hya, hyb, o, HJ.out, .inr ⟨h12, rfl, rfl⟩⟩⟩, hbl⟩
          · go_wp2_with fail
            exact bodyPost_ret (v := .tuple #[.slice ag o.length capg, .bool true]) (by simp [results, Tryz.results32, go_sem]) rfl ⟨⟨_, o, true, rfl, hg, .inr ⟨hya, hyb, o, HJ.out, .inl ⟨by omega, rfl, rfl⟩⟩⟩, hbl⟩

end Go.Proofs.YtpfhegengmlkmaaGreat
