/- Texts of this claim, one behind the other. -/
import Derived.Test.YtpfhegengmlkmaaGreatZK1
import Derived.Test.YtpfhegengmlkmaaGreatZK5
import Derived.Test.YtpfhegengmlkmaaGreatZK6
import Derived.Test.YtpfhegengmlkmaaGreatZK7
import Derived.Test.YtpfhegengmlkmaaGreatZK8
namespace Go.Proofs.YtpfhegengmlkmaaGreat
open Go.RowKit Go.BigFrame

/-- The slice at address 'a' holds the windows 'ws', one a cell. -/
def RowW (w : World) (a : Option Addr) (ws : List (List ItemL)) : Prop :=
  ∀ k, (h : k < ws.length) → ∃ b o, a = some ⟨b, o, none⟩ ∧ b < w.heap.size ∧ ∃ s c, w.cell? ⟨b, o + k, none⟩ = some (.slice s ws[k].length c) ∧ ws[k].length ≤ c ∧ RowI w s ws[k]
/-- The slice at address 'a' holds the numbers 'ps'. -/
def RowZ (w : World) (a : Option Addr) (ps : List Int) : Prop :=
  ∀ k, (h : k < ps.length) → ∃ b o, a = some ⟨b, o, none⟩ ∧ b < w.heap.size ∧ w.cell? ⟨b, o + k, none⟩ = some (.int .i64 ps[k])
theorem RowW.below {w w' : World} {a : Option Addr} {ws : List (List ItemL)} (h : RowW w a ws) (hb : Below w.heap.size w w') : RowW w' a ws := fun k hk => by
  obtain ⟨b, o, ha, hlt, s, c, h1, h2, h3⟩ := h k hk
  exact ⟨b, o, ha, Nat.lt_of_lt_of_le hlt hb.size, s, c, by rw [hb.cell hlt]; exact h1, h2, h3.below hb⟩
theorem RowZ.below {w w' : World} {a : Option Addr} {ps : List Int} (h : RowZ w a ps) (hb : Below w.heap.size w w') : RowZ w' a ps := fun k hk => by
  obtain ⟨b, o, ha, hlt, h1⟩ := h k hk
  exact ⟨b, o, ha, Nat.lt_of_lt_of_le hlt hb.size, by rw [hb.cell hlt]; exact h1⟩
def FitW (ws : List (List ItemL)) : Prop := ws.length ≤ maxLen ∧ ∀ j, (h : j < ws.length) → FitI ws[j]
/-- From 1 to 6 windows. -/
def OkW (ws : List (List ItemL)) : Prop := 1 ≤ ws.length ∧ ws.length ≤ 6 ∧ ∀ k, (h : k < ws.length) → WinP ws[k]
/-- The stamp at a window's place. -/
def pkM (ws : List (List ItemL)) (ps : List Int) (i : Nat) : List (ByteArray × Int) := ((ws.getD i []).getD (ps.getD i 0).toNat (0, [])).2
/-- Each two of the items agree. -/
def AgW (ws : List (List ItemL)) (ps : List Int) : Prop := ∀ i k, k < i → i < ps.length → AgreeP (pkM ws ps i) (pkM ws ps k)
/-- The places are there. -/
def InW (ws : List (List ItemL)) (ps : List Int) : Prop := ps.length ≤ ws.length ∧ ∀ i, (h : i < ps.length) → 0 ≤ ps[i] ∧ ps[i] < ((ws.getD i []).length : Int)
/-- A choice that agrees. -/
def ChP (ws : List (List ItemL)) (ps : List Int) : Prop := OkW ws ∧ ps.length = ws.length ∧ InW ws ps ∧ AgW ws ps

theorem win_step {ws : List (List ItemL)} {k : Nat} (H : ∀ j, (h : j < ws.length) → j < k → WinP ws[j]) (hk : k < ws.length) (h : WinP ws[k]) : ∀ j, (h : j < ws.length) → j < k + 1 → WinP ws[j] := fun j hj hlt => by
  by_cases e : j = k
  · subst e; exact h
  · exact H j hj (by omega)

set_option maxHeartbeats 800000 in
theorem l3Ok_any (a : Option Addr) (cap : Nat) (ws : List (List ItemL)) (w : World) (hf : FitW ws) (hr : RowW w a ws) :
    Calls Tryz.prog 23 #[.slice a ws.length cap] w fun e w' => IsB (OkW ws) e ∧ Below w.heap.size w w' := by
  have hl := hf.1
  unfold maxLen at hl
  by_cases h1 : ws.length < 1
  · go_enter Tryz.func23, Tryz.ntmps23
    go_wp2_with fail
    go_ret
    exact ⟨isB_false (fun h => by have := h.1; omega), Below.refl _ _⟩
  by_cases h6 : 6 < ws.length
  · go_enter Tryz.func23, Tryz.ntmps23
    go_wp2_with fail
    go_ret
    exact ⟨isB_false (fun h => by have := h.2.1; omega), Below.refl _ _⟩
  go_enter Tryz.func23, Tryz.ntmps23
  go_wp2_with fail
  go_loopw [3] (fun i wr => ∃ k : Nat, k ≤ ws.length ∧ i = .int .i64 k ∧ (∀ j, (h : j < ws.length) → j < k → WinP ws[j]) ∧ Below w.heap.size w wr) (fun i _ => ws.length - (intOf i).toNat)
  case atStart => exact ⟨0, Nat.zero_le _, rfl, fun _ _ h => by omega, Below.refl _ _⟩
  case round =>
    obtain ⟨k, hk, rfl, hinv, hbl⟩ := hrel
    have HI : Hid (∀ j, (h : j < ws.length) → j < k → WinP ws[j]) := hinv
    clear hinv
    by_cases hlt : k < ws.length
    · obtain ⟨b1, o1, rfl, g1, s1, t1, e1, _, r1⟩ := hr.below hbl k hlt
      have k0 : (0 : Int) ≤ (k : Int) := by omega
      have k1 : (k : Int) < (ws.length : Int) := by omega
      go_wp2_with fail
      refine (specWinOk_any s1 t1 ws[k] _ (hf.2 k hlt) r1).mono ?_
      rintro e w1 ⟨⟨r, rfl, hr1⟩, b1'⟩
      have B1 : Below w.heap.size w w1 := hbl.trans (b1'.mono hbl.size)
      have HR : Hid (r = true ↔ WinP ws[k]) := hr1
      clear hr1
      cases r
      · have HN : Hid (¬ OkW ws) := fun h => by simpa using HR.out.2 (h.2.2 k hlt)
        clear HR
        go_wp2_with fail
        go_ret
        exact ⟨isB_false HN.out, B1⟩
      · have HST : Hid (∀ j, (h : j < ws.length) → j < k + 1 → WinP ws[j]) := win_step HI.out hlt (HR.out.1 rfl)
        clear HR
        go_wp2_with fail
        exact ⟨⟨k + 1, by omega, by go_num, HST.out, B1⟩, by simp [intOf]; omega⟩
    · have HF : Hid (OkW ws) := ⟨by omega, by omega, fun j hj => HI.out j hj (by omega)⟩
      go_wp2_with fail
      go_ret
      exact ⟨isB_true HF.out, hbl⟩

theorem pkM_at {ws : List (List ItemL)} {ps : List Int} {i : Nat} (hi : i < ps.length) (hw : i < ws.length) {q : Nat} (hq : ps[i] = (q : Int)) (hq2 : q < ws[i].length) : pkM ws ps i = ws[i][q].2 := by
  unfold pkM
  simp [List.getD_eq_getElem?_getD, hi, hw, hq, hq2]

theorem in_nat {ws : List (List ItemL)} {ps : List Int} (h : InW ws ps) {i : Nat} (hi : i < ps.length) : ∃ (hw : i < ws.length) (q : Nat), ps[i] = (q : Int) ∧ ∃ h2 : q < ws[i].length, pkM ws ps i = ws[i][q].2 := by
  have hw : i < ws.length := by have := h.1; omega
  obtain ⟨h1, h2⟩ := h.2 i hi
  have e : ws.getD i [] = ws[i] := by simp [List.getD_eq_getElem?_getD, hw]
  rw [e] at h2
  obtain ⟨q, hq⟩ := Int.eq_ofNat_of_zero_le h1
  have hq2 : q < ws[i].length := by omega
  exact ⟨hw, q, hq, hq2, pkM_at hi hw hq hq2⟩

set_option maxHeartbeats 1600000 in
theorem l3Agrees_any (a : Option Addr) (cap : Nat) (ws : List (List ItemL)) (a' : Option Addr) (cap' : Nat) (ps : List Int) (w : World) (hf : FitW ws) (hr : RowW w a ws) (hp : ps.length ≤ maxLen) (hr' : RowZ w a' ps) (hin : InW ws ps) :
    Calls Tryz.prog 28 #[.slice a ws.length cap, .slice a' ps.length cap'] w fun e w' => IsB (AgW ws ps) e ∧ Below w.heap.size w w' := by
  have hl := hf.1
  unfold maxLen at hl hp
  go_enter Tryz.func28, Tryz.ntmps28
  go_wp2_with fail
  have HIN : Hid (InW ws ps) := hin
  clear hin
  go_loopw [5, 6] (fun iv kv wr => ∃ i : Nat, i ≤ ps.length ∧ iv = .int .i64 i ∧ (∀ i' k', k' < i' → i' < i → AgreeP (pkM ws ps i') (pkM ws ps k')) ∧ Below w.heap.size w wr ∧ kv = kv) (fun iv _ _ => ps.length - (intOf iv).toNat)
  case atStart => exact ⟨0, Nat.zero_le _, rfl, fun _ _ _ h => by omega, Below.refl _ _, rfl⟩
  case round =>
    obtain ⟨i, hi, rfl, hinv, hbl, _⟩ := hrel
    have HI : Hid (∀ i' k', k' < i' → i' < i → AgreeP (pkM ws ps i') (pkM ws ps k')) := hinv
    clear hinv
    by_cases hlt : i < ps.length
    · obtain ⟨hwi, q1, hq1, hq1l, hpk1⟩ := in_nat HIN.out hlt
      have i0' : (0 : Int) ≤ (i : Int) := by omega
      have i1' : (i : Int) < (ps.length : Int) := by omega
      have i2' : (i : Int) < (ws.length : Int) := by omega
      have HPK1 : Hid (pkM ws ps i = ws[i][q1].2) := hpk1
      clear hpk1
      go_wp2_with fail
      go_loopw [6] (fun kv wr' => ∃ k : Nat, k ≤ i ∧ kv = .int .i64 k ∧ (∀ k', k' < k → AgreeP (pkM ws ps i) (pkM ws ps k')) ∧ Below w.heap.size w wr') (fun kv _ => i - (intOf kv).toNat)
      case atStart => exact ⟨0, Nat.zero_le _, rfl, fun _ h => by omega, hbl⟩
      case round =>
        obtain ⟨k, hk, rfl, hinv2, hbl2⟩ := hrel
        have HI2 : Hid (∀ k', k' < k → AgreeP (pkM ws ps i) (pkM ws ps k')) := hinv2
        clear hinv2
        by_cases hlt2 : k < i
        · have hkp : k < ps.length := by omega
          obtain ⟨hwk, q2, hq2, hq2l, hpk2⟩ := in_nat HIN.out hkp
          have HPK2 : Hid (pkM ws ps k = ws[k][q2].2) := hpk2
          clear hpk2
          obtain ⟨b1, o1, rfl, g1, s1, t1, e1, _, r1⟩ := hr.below hbl2 i hwi
          obtain ⟨b1', o1', eb, g1', s2, t2, e2, _, r2⟩ := hr.below hbl2 k hwk
          obtain ⟨rfl, rfl⟩ : b1 = b1' ∧ o1 = o1' := by simpa using eb
          obtain ⟨c1, p1, rfl, gc, z1⟩ := hr'.below hbl2 i hlt
          obtain ⟨c1', p1', ec, gc', z2⟩ := hr'.below hbl2 k hkp
          obtain ⟨rfl, rfl⟩ : c1 = c1' ∧ p1 = p1' := by simpa using ec
          obtain ⟨d1, u1, rfl, gd1, _, v1, y1, ⟨m1, n1', rfl, _, rm1⟩⟩ := r1 q1 hq1l
          obtain ⟨d2, u2', rfl, gd2, _, v2, y2, ⟨m2, n2', rfl, _, rm2⟩⟩ := r2 q2 hq2l
          rw [hq1] at z1
          rw [hq2] at z2
          have f1 := (hf.2 i hwi).2 q1 hq1l
          have f2 := (hf.2 k hwk).2 q2 hq2l
          have k0 : (0 : Int) ≤ (k : Int) := by omega
          have k1 : (k : Int) < (ps.length : Int) := by omega
          have k2 : (k : Int) < (ws.length : Int) := by omega
          have k3 : (k : Int) < (i : Int) := by omega
          have x0 : (0 : Int) ≤ (q1 : Int) := by omega
          have x1 : (q1 : Int) < (ws[i].length : Int) := by omega
          have x2 : (0 : Int) ≤ (q2 : Int) := by omega
          have x3 : (q2 : Int) < (ws[k].length : Int) := by omega
          obtain ⟨q, hq⟩ := boolOf (AgreeP ws[i][q1].2 ws[k][q2].2)
          have HQ : Hid (q = true ↔ AgreeP ws[i][q1].2 ws[k][q2].2) := hq
          clear hq
          have hne := Lat.some wr
          have n1 : ∀ n : Lat wr, n.w.cell? ⟨b1, o1 + i, none⟩ = some (.slice (some ⟨d1, u1, none⟩) ws[i].length t1) := fun n => n.cell g1 e1
          have n2 : ∀ n : Lat wr, n.w.cell? ⟨b1, o1 + k, none⟩ = some (.slice (some ⟨d2, u2', none⟩) ws[k].length t2) := fun n => n.cell g1' e2
          have n3 : ∀ n : Lat wr, n.w.cell? ⟨c1, p1 + i, none⟩ = some (.int .i64 (q1 : Int)) := fun n => n.cell gc z1
          have n4 : ∀ n : Lat wr, n.w.cell? ⟨c1, p1 + k, none⟩ = some (.int .i64 (q2 : Int)) := fun n => n.cell gc' z2
          have n5 : ∀ n : Lat wr, n.w.cell? ⟨d1, u1 + q1 * 2 + 1, none⟩ = some (.slice m1 ws[i][q1].2.length n1') := fun n => n.cell gd1 y1
          have n6 : ∀ n : Lat wr, n.w.cell? ⟨d2, u2' + q2 * 2 + 1, none⟩ = some (.slice m2 ws[k][q2].2.length n2') := fun n => n.cell gd2 y2
          have ce : ∀ n : Lat wr, Calls Tryz.prog 51 #[.slice m1 ws[i][q1].2.length n1', .slice m2 ws[k][q2].2.length n2'] n.w fun e w'' => e = .returned (.bool q) ∧ Below n.w.heap.size n.w w'' := fun n =>
            (specAgree_any m1 m2 n1' n2' _ _ n.w f1.1 f2.1 (rm1.below n.h) (rm2.below n.h) f1.2 f2.2).mono fun _ _ ⟨⟨q', he, hq'⟩, hb'⟩ => ⟨by rw [he, show q' = q by rw [Bool.eq_iff_iff, hq', HQ.out]], hb'⟩
          clear e1 e2 z1 z2 y1 y2
          go_wp2_with fail
          refine wp_region_lat (by kernel_rfl) (by kernel_rfl) ?_
          repeat (go_big_quiet_step ((go_at_call 51; exact Calls.lat_of (ce _))))
          refine wpQuiet_nil ?_
          rintro _ ⟨nq, rfl⟩
          have Bn : Below w.heap.size w nq.w := hbl2.trans (nq.h.mono hbl2.size)
          cases q
          · have HN : Hid (¬ AgW ws ps) := fun h => by
              have h3 := h i k hlt2 hlt
              rw [HPK1.out, HPK2.out] at h3
              simpa using HQ.out.2 h3
            clear HQ ce
            go_wp2_with fail
            go_ret
            exact ⟨isB_false HN.out, Bn⟩
          · have HST : Hid (∀ k', k' < k + 1 → AgreeP (pkM ws ps i) (pkM ws ps k')) := fun k' hk' => by
              by_cases e : k' = k
              · subst e; rw [HPK1.out, HPK2.out]; exact HQ.out.1 rfl
              · exact HI2.out k' (by omega)
            clear HQ ce
            go_wp2_with fail
            exact ⟨⟨k + 1, by omega, by go_num, HST.out, Bn⟩, by simp [intOf]; omega⟩
        · have HO : Hid (∀ i' k', k' < i' → i' < i + 1 → AgreeP (pkM ws ps i') (pkM ws ps k')) := fun i' k' h1 h2 => by
            by_cases e : i' = i
            · subst e; exact HI2.out k' (by omega)
            · exact HI.out i' k' h1 (by omega)
          go_wp2_with fail
          exact ⟨⟨i + 1, by omega, by go_num, HO.out, hbl2, by trivial⟩, by simp [intOf]; omega⟩
    · have HF : Hid (AgW ws ps) := fun i' k' h1 h2 => HI.out i' k' h1 (by omega)
      go_wp2_with fail
      go_ret
      exact ⟨isB_true HF.out, hbl⟩

theorem getD_at {ws : List (List ItemL)} {i : Nat} (hw : i < ws.length) : ws.getD i [] = ws[i] := by simp [List.getD_eq_getElem?_getD, hw]

set_option maxHeartbeats 1600000 in
theorem specChoiceAgrees_any (a : Option Addr) (cap : Nat) (ws : List (List ItemL)) (a' : Option Addr) (cap' : Nat) (ps : List Int) (w : World) (hf : FitW ws) (hr : RowW w a ws) (hp : ps.length ≤ maxLen) (hr' : RowZ w a' ps) :
    Calls Tryz.prog 11 #[.slice a ws.length cap, .slice a' ps.length cap'] w fun e w' => IsB (ChP ws ps) e ∧ Below w.heap.size w w' := by
  have hl := hf.1
  have hp' := hp
  unfold maxLen at hl hp
  go_enter Tryz.func11, Tryz.ntmps11
  go_wp2_with fail
  refine (l3Ok_any a cap ws _ hf hr).mono ?_
  rintro e w1 ⟨⟨r, rfl, hr1⟩, b1⟩
  have HR : Hid (r = true ↔ OkW ws) := hr1
  clear hr1
  cases r
  · have HN : Hid (¬ ChP ws ps) := fun h => by simpa using HR.out.2 h.1
    clear HR
    go_wp2_with fail
    go_ret
    exact ⟨isB_false HN.out, b1⟩
  have HOK : Hid (OkW ws) := HR.out.1 rfl
  clear HR
  by_cases hlen : ps.length = ws.length
  · have hlen' : ((ps.length : Int) != (ws.length : Int)) = false := by rw [bne_eq_false_iff_eq]; omega
    have HL : Hid (ps.length = ws.length) := hlen
    have hle1 : ps.length ≤ ws.length := by omega
    clear hlen
    go_wp2_with fail
    go_loopw [5] (fun iv wr => ∃ k : Nat, k ≤ ps.length ∧ iv = .int .i64 k ∧ (∀ j, (h : j < ps.length) → j < k → 0 ≤ ps[j] ∧ ps[j] < ((ws.getD j []).length : Int)) ∧ Below w.heap.size w wr) (fun iv _ => ps.length - (intOf iv).toNat)
    case atStart => exact ⟨0, Nat.zero_le _, rfl, fun _ _ h => by omega, b1⟩
    case round =>
      obtain ⟨k, hk, rfl, hinv, hbl⟩ := hrel
      have HI : Hid (∀ j, (h : j < ps.length) → j < k → 0 ≤ ps[j] ∧ ps[j] < ((ws.getD j []).length : Int)) := hinv
      clear hinv
      by_cases hlt : k < ps.length
      · have hwk : k < ws.length := by omega
        obtain ⟨b2, o2, rfl, g1, s1, t1, e1, _, _⟩ := hr.below hbl k hwk
        obtain ⟨c1, p1, rfl, gc, z1⟩ := hr'.below hbl k hlt
        have k0 : (0 : Int) ≤ (k : Int) := by omega
        have k1 : (k : Int) < (ps.length : Int) := by omega
        have k2 : (k : Int) < (ws.length : Int) := by omega
        have HG : Hid (ws.getD k [] = ws[k]) := getD_at hwk
        have hwl : ws[k].length ≤ 9223372036854775807 := (hf.2 k hwk).1
        by_cases hn : ps[k] < 0
        · have HN : Hid (¬ ChP ws ps) := fun h => by have := (h.2.2.1.2 k hlt).1; omega
          clear HG
          go_wp2_with fail
          go_quiet (fail)
          go_wp2_with fail
          go_ret
          exact ⟨isB_false HN.out, below_drewN hbl _⟩
        by_cases hg : ps[k] < (ws[k].length : Int)
        · have HST : Hid (∀ j, (h : j < ps.length) → j < k + 1 → 0 ≤ ps[j] ∧ ps[j] < ((ws.getD j []).length : Int)) := fun j hj hlt' => by
            by_cases e : j = k
            · subst e; rw [HG.out]; exact ⟨by omega, hg⟩
            · exact HI.out j hj (by omega)
          clear HG
          go_wp2_with fail
          go_quiet (fail)
          go_wp2_with fail
          exact ⟨⟨k + 1, by omega, by go_num, HST.out, below_drewN hbl _⟩, by simp [intOf]; omega⟩
        · have HN : Hid (¬ ChP ws ps) := fun h => by have h3 := (h.2.2.1.2 k hlt).2; rw [HG.out] at h3; omega
          clear HG
          go_wp2_with fail
          go_quiet (fail)
          go_wp2_with fail
          go_ret
          exact ⟨isB_false HN.out, below_drewN hbl _⟩
      · have HIN : Hid (InW ws ps) := ⟨hle1, fun j hj => HI.out j hj (by omega)⟩
        go_wp2_with fail
        refine (l3Agrees_any a cap ws a' cap' ps _ hf (hr.below hbl) hp' (hr'.below hbl) HIN.out).mono ?_
        rintro e w3 ⟨⟨q, rfl, hq⟩, b3⟩
        have B3 : Below w.heap.size w w3 := hbl.trans (b3.mono hbl.size)
        have HQ : Hid (q = true ↔ AgW ws ps) := hq
        clear hq
        go_wp2_with fail
        go_ret
        exact ⟨⟨q, rfl, HQ.out.trans ⟨fun h => ⟨HOK.out, HL.out, HIN.out, h⟩, fun h => h.2.2.2⟩⟩, B3⟩
  · have hlen' : ((ps.length : Int) != (ws.length : Int)) = true := by rw [bne_iff_ne]; omega
    have HN : Hid (¬ ChP ws ps) := fun h => hlen h.2.1
    go_wp2_with fail
    go_ret
    exact ⟨isB_false HN.out, b1⟩

end Go.Proofs.YtpfhegengmlkmaaGreat

namespace Go.Proofs.YtpfhegengmlkmaaGreat
open Go.RowKit Go.BigFrame

theorem span_grown {w w' : World} {k : Nat} (h : w.grownBy w' (some k)) : Span k (k + 1) w w' := ⟨h.os, h.tape, h.output, h.size, fun i hi hn => h.block i hi (by intro e; cases e; omega)⟩
theorem SafeI.grown {w w' : World} {lo hi : Nat} {a : Option Addr} {l : List ItemL} {r : Option Nat} (h : SafeI w lo hi a l) (hg : w.grownBy w' r) (hd : ∀ k, r = some k → k < lo ∨ hi ≤ k) : SafeI w' lo hi a l := by
  cases r with
  | none => exact h.span (lo' := 0) (hi' := 0) ⟨hg.os, hg.tape, hg.output, hg.size, fun i hi _ => hg.block i hi (by simp)⟩ (by omega)
  | some k => exact h.span (span_grown hg) (by have := hd k rfl; omega)

/-- A window that was gathered: its items, its slice, and the blocks between which it lies. -/
structure WinY where
  l : List ItemL
  v : Value
  lo : Nat
  hi : Nat
/-- It lies so in w. -/
def WinY.In (w : World) (B : Nat) (p : WinY) : Prop := (∃ a c, p.v = .slice a p.l.length c ∧ p.l.length ≤ c ∧ SafeI w p.lo p.hi a p.l) ∧ B ≤ p.lo ∧ p.lo ≤ p.hi ∧ p.hi ≤ w.heap.size
theorem WinY.In.below {w w' : World} {B : Nat} {p : WinY} (h : p.In w B) (hb : Below w.heap.size w w') : p.In w' B := by
  obtain ⟨⟨a, c, h1, h2, h3⟩, h4, h5, h6⟩ := h
  exact ⟨⟨a, c, h1, h2, h3.below hb⟩, h4, h5, Nat.le_trans h6 hb.size⟩
theorem WinY.In.grown {w w' : World} {B : Nat} {p : WinY} {r : Option Nat} (h : p.In w B) (hg : w.grownBy w' r) (hd : ∀ k, r = some k → k < p.lo ∨ p.hi ≤ k) : p.In w' B := by
  obtain ⟨⟨a, c, h1, h2, h3⟩, h4, h5, h6⟩ := h
  exact ⟨⟨a, c, h1, h2, h3.grown hg hd⟩, h4, h5, Nat.le_trans h6 hg.size⟩
theorem GathI.winY {w : World} {B : Nat} {v : Value} {l : List ItemL} (h : GathI w B v l) (hB : B ≤ w.heap.size) : (WinY.mk l v B w.heap.size).In w B := by
  obtain ⟨a, c, h1, h2, h3⟩ := h.safe
  exact ⟨⟨a, c, h1, h2, h3⟩, Nat.le_refl _, hB, Nat.le_refl _⟩

/-- The slice value 'v' holds the windows of L, in a row of the call's own that lies in none of their blocks. -/
structure GathY (w : World) (B : Nat) (v : Value) (L : List WinY) : Prop where
  own : w.ownsRow B 41 1 v L.length (L.map (·.v))
  at_ : ∀ p ∈ L, p.In w B
  far : ∀ p ∈ L, ∀ k, v.ownBlock = some k → k < p.lo ∨ p.hi ≤ k
  dis : L.Pairwise fun p q => p.hi ≤ q.lo
theorem gathY_none (w : World) (B : Nat) : GathY w B (.slice none 0 0) [] := ⟨World.ownsRow_nil _ _ _ _, by simp, by simp, List.Pairwise.nil⟩
theorem GathY.keep {w w' : World} {B : Nat} {v : Value} {L : List WinY} (h : GathY w B v L) (hb : Below w.heap.size w w') : GathY w' B v L := ⟨own_keep h.own hb, fun p hp => (h.at_ p hp).below hb, h.far, h.dis⟩
theorem GathY.grown {w w' : World} {B : Nat} {v : Value} {L : List WinY} {r : Option Nat} (h : GathY w B v L) (hg : w.grownBy w' r) (hv : v.ownBlock = none ∨ v.ownBlock ≠ r) (hd : ∀ p ∈ L, ∀ k, r = some k → k < p.lo ∨ p.hi ≤ k) : GathY w' B v L :=
  ⟨World.ownsRow.kept h.own hg hv, fun p hp => (h.at_ p hp).grown hg (hd p hp), h.far, h.dis⟩
theorem own_farY {w : World} {B e size n q : Nat} {v : Value} {xs : List Value} (h : w.ownsRow B e size v n xs) (hq : q < B) (i : Nat) (z : Value) : (w.setCell ⟨q, i, none⟩ z).ownsRow B e size v n xs := by
  obtain ⟨hl, h | ⟨g, cap, cur, hv, hgB, hh, r⟩⟩ := h
  · exact ⟨hl, .inl h⟩
  · exact ⟨hl, .inr ⟨g, cap, cur, hv, hgB, (Below.heap_setCell _ _ _ _ (by simp only; omega)).trans hh, r⟩⟩
theorem GathY.set {w : World} {B q : Nat} {v : Value} {L : List WinY} (h : GathY w B v L) (hq : q < B) (i : Nat) (z : Value) : GathY (w.setCell ⟨q, i, none⟩ z) B v L := by
  refine ⟨own_farY h.own hq i z, fun p hp => ?_, h.far, h.dis⟩
  obtain ⟨⟨a, c, h1, h2, h3⟩, h4, h5, h6⟩ := h.at_ p hp
  exact ⟨⟨a, c, h1, h2, h3.span ((Span.refl q (q + 1) w).setCell (Nat.le_refl _) (Nat.lt_succ_self _) i z) (by omega)⟩, h4, h5, by simpa using h6⟩
/-- One window more. -/
theorem GathY.snoc {w1 w2 : World} {B : Nat} {v v' : Value} {L : List WinY} {p : WinY} (h : GathY w1 B v L) (hw : ∀ q ∈ L, q.hi ≤ p.lo) (hp : p.In w1 B) (hpv : ∀ k, v.ownBlock = some k → k < p.lo ∨ p.hi ≤ k)
    (ho : w2.ownsRow B 41 1 v' (L.length + 1) ((L.map (·.v)) ++ [p.v])) (hg : w1.grownBy w2 v.ownBlock) (hloc : v'.ownBlock = v.ownBlock ∨ v'.ownBlock = some w1.heap.size) : GathY w2 B v' (L ++ [p]) := by
  have hz : ∀ q ∈ L, q.hi ≤ w1.heap.size := fun q hq => (h.at_ q hq).2.2.2
  have hzp := hp.2.2.2
  refine ⟨by rw [List.length_append, List.map_append]; exact ho, fun q hq => ?_, fun q hq k hk => ?_, ?_⟩
  · rcases List.mem_append.1 hq with hq | hq
    · exact (h.at_ q hq).grown hg (h.far q hq)
    · obtain rfl : q = p := by simpa using hq
      exact hp.grown hg hpv
  · rcases List.mem_append.1 hq with hq | hq
    · rcases hloc with e | e
      · exact h.far q hq k (by rw [← e]; exact hk)
      · rw [e] at hk; cases hk; exact .inr (hz q hq)
    · obtain rfl : q = p := by simpa using hq
      rcases hloc with e | e
      · exact hpv k (by rw [← e]; exact hk)
      · rw [e] at hk; cases hk; exact .inr hzp
  · rw [List.pairwise_append]
    exact ⟨h.dis, List.pairwise_singleton _ _, fun q hq r hr => by obtain rfl : r = p := by simpa using hr
                                                                   exact hw q hq⟩
theorem GathY.row {w : World} {B : Nat} {v : Value} {L : List WinY} (h : GathY w B v L) : ∃ a cap, v = .slice a L.length cap ∧ L.length ≤ cap ∧ RowW w a (L.map (·.l)) := by
  rcases h.own.2 with ⟨rfl, h0⟩ | ⟨g, cap, cur, rfl, hB, hh, hn, _⟩
  · exact ⟨none, 0, by rw [h0], by omega, fun k hk => by rw [List.length_map] at hk; omega⟩
  · have hlt : g < w.heap.size := (Array.getElem?_eq_some_iff.1 hh).1
    refine ⟨_, cap, rfl, hn, fun k hk => ⟨g, 0, rfl, hlt, ?_⟩⟩
    rw [List.length_map] at hk
    obtain ⟨⟨a, c, e, hc, hs⟩, _⟩ := h.at_ L[k] (List.getElem_mem hk)
    refine ⟨a, c, ?_, by simpa using hc, by simpa using hs.row⟩
    rw [Nat.zero_add, World.ownsRow.cellAt h.own _ (by omega)]
    simp [hk, e]

end Go.Proofs.YtpfhegengmlkmaaGreat

namespace Go.Proofs.YtpfhegengmlkmaaGreat
open Go.RowKit Go.BigFrame

/-- The slice value 'v' holds the texts 'l', in a block of the call's own, from number 'B' on; or it is nil, and there are none. -/
def GathS (w : World) (B : Nat) (v : Value) (l : List ByteArray) : Prop := w.ownsRow B 9 1 v l.length (l.map .string)

theorem gathS_none (w : World) (B : Nat) : GathS w B (.slice none 0 0) [] := World.ownsRow_nil _ _ _ _
theorem GathS.shape {w : World} {B : Nat} {v : Value} {l : List ByteArray} (h : GathS w B v l) : ∃ a cap, v = .slice a l.length cap ∧ RowS w a l := by
  rcases id h with ⟨hl, h1 | ⟨g, cap, cur, hv, hg, hh, r⟩⟩
  · refine ⟨_, _, by rw [h1.2]; exact h1.1, fun k hk => absurd hk (by omega)⟩
  · refine ⟨_, _, hv, fun k hk => ⟨g, 0, rfl, (Array.getElem?_eq_some_iff.1 hh).1, ?_⟩⟩
    subst hv
    have e := World.ownsRow.cellAt h k (by omega)
    rw [Nat.zero_add, e]
    simp [hk]
theorem GathS.keep {w w' : World} {B : Nat} {v : Value} {l : List ByteArray} (h : GathS w B v l) (hb : Below w.heap.size w w') : GathS w' B v l := by
  obtain ⟨hl, h | ⟨g, cap, cur, hv, hg, hh, r⟩⟩ := h
  · exact ⟨hl, .inl h⟩
  · exact ⟨hl, .inr ⟨g, cap, cur, hv, hg, (hb.block g (Array.getElem?_eq_some_iff.1 hh).1).trans hh, r⟩⟩
theorem GathS.but {w w' : World} {R B : Nat} {v : Value} {l : List ByteArray} (h : GathS w B v l) (hb : But R w w') (hR : R < B) : GathS w' B v l := by
  obtain ⟨hl, h | ⟨g, cap, cur, hv, hgB, hh, r⟩⟩ := h
  · exact ⟨hl, .inl h⟩
  · exact ⟨hl, .inr ⟨g, cap, cur, hv, hgB, (hb.block g (Array.getElem?_eq_some_iff.1 hh).1 (by omega)).trans hh, r⟩⟩
theorem GathS.lower {w : World} {B B' : Nat} {v : Value} {l : List ByteArray} (h : GathS w B v l) (hB : B' ≤ B) : GathS w B' v l := by
  obtain ⟨hl, h | ⟨g, cap, cur, hv, hg, r⟩⟩ := h
  · exact ⟨hl, .inl h⟩
  · exact ⟨hl, .inr ⟨g, cap, cur, hv, Nat.le_trans hB hg, r⟩⟩
theorem GathS.snoc {w : World} {B : Nat} {v : Value} {l : List ByteArray} {s : ByteArray} (h : w.ownsRow B 9 1 v (l.length + 1) (l.map .string ++ [.string s])) : GathS w B v (l ++ [s]) := by
  unfold GathS
  rw [List.length_append, List.map_append]
  exact h
theorem one_new (w : World) (x : Value) (t : TypeId) : ∀ j u, [x][j]? = some u → (w.alloc (.cells #[x] t)).cell? ((⟨w.heap.size, 0, none⟩ : Addr).add j) = some u := by
  intro j u hj
  match j, hj with
  | 0, hj => simp at hj; subst hj; simp [Addr.add, go_sem]
theorem Tryz.infoS : (Tryz.prog.info? 9).map (fun i => (i.zero, i.size, i.bytes)) = some (some (.string .empty), 1, 16) := by kernel_rfl

end Go.Proofs.YtpfhegengmlkmaaGreat

namespace Go.Proofs.YtpfhegengmlkmaaGreat
open Go.RowKit Go.BigFrame

/-- Block 'g' begins with the texts 'l'. -/
def StrB (w : World) (g : Nat) (l : List ByteArray) : Prop := ∃ m f, w.rowIs g 9 m f ∧ l.length ≤ m ∧ ∀ j, (h : j < l.length) → f j = .string l[j]
theorem StrB.cell {w : World} {g : Nat} {l : List ByteArray} (h : StrB w g l) {j : Nat} (hj : j < l.length) : w.cell? ⟨g, j, none⟩ = some (.string l[j]) := by
  obtain ⟨m, f, h, hm, hf⟩ := h
  rw [h.cell (by omega), hf j hj]
theorem StrB.frozen {w : World} {g : Nat} {l : List ByteArray} (h : StrB w g l) (j : Nat) : w.frozen? ⟨g, j, none⟩ = false := by
  obtain ⟨m, f, h, _⟩ := h
  exact h.frozen j
theorem StrB.lt {w : World} {g : Nat} {l : List ByteArray} (h : StrB w g l) : g < w.heap.size := by
  obtain ⟨m, f, h, _⟩ := h
  exact h.lt
theorem StrB.set {w : World} {g : Nat} {l : List ByteArray} (h : StrB w g l) (j : Nat) (x : ByteArray) : StrB (w.setCell ⟨g, j, none⟩ (.string x)) g (l.set j x) := by
  obtain ⟨m, f, h, hm, hf⟩ := h
  refine ⟨m, _, h.set _ _, by rw [List.length_set]; exact hm, fun i hi => ?_⟩
  rw [List.length_set] at hi
  by_cases e : i = j
  · subst e; simp
  · simp only [if_neg e]
    rw [hf i hi, List.getElem_set_ne (fun h => e h.symm)]
theorem StrB.below {w w' : World} {g : Nat} {l : List ByteArray} (h : StrB w g l) (hb : Below w.heap.size w w') : StrB w' g l := by
  have hlt := h.lt
  obtain ⟨m, f, h, hf⟩ := h
  exact ⟨m, f, h.of_block (hb.block g hlt), hf⟩
theorem StrB.span {w w' : World} {g lo hi : Nat} {l : List ByteArray} (h : StrB w g l) (hs : Span lo hi w w') (hd : g < lo ∨ hi ≤ g) : StrB w' g l := by
  have hlt := h.lt
  obtain ⟨m, f, h, hf⟩ := h
  exact ⟨m, f, h.of_block (hs.block g hlt hd), hf⟩
theorem StrB.row {w : World} {g : Nat} {l : List ByteArray} (h : StrB w g l) : RowS w (some ⟨g, 0, none⟩) l := fun k hk => ⟨g, 0, rfl, h.lt, by rw [Nat.zero_add]; exact h.cell hk⟩
theorem GathS.block {w : World} {B : Nat} {v : Value} {l : List ByteArray} (h : GathS w B v l) (h0 : 0 < l.length) : ∃ g c, v = .slice (some ⟨g, 0, none⟩) l.length c ∧ B ≤ g ∧ StrB w g l := by
  rcases h.2 with ⟨_, e⟩ | ⟨g, cap, cur, e, hB, hh, hn, hc, hs, ht⟩
  · omega
  · refine ⟨g, cap, e, hB, cap * 1, fun i => (cur[i]?).getD undef, ⟨cur, hh, hs, fun i hi => ?_⟩, by omega, fun k hk => ?_⟩
    · have hi' : i < cur.size := by omega
      simp [Array.getElem?_eq_getElem hi']
    · have h2 : (l.map Value.string)[k]? = some (.string l[k]) := by simp [hk]
      rw [← ht, List.getElem?_take_of_lt (by simp; omega)] at h2
      simp only [Array.getElem?_toList] at h2
      simp only [h2]
      rfl
end Go.Proofs.YtpfhegengmlkmaaGreat

namespace Go.Proofs.YtpfhegengmlkmaaGreat
open Go.RowKit Go.BigFrame

def SmallW (n : Int) (ws : List (List ItemL)) : Prop := (ws.length : Int) ≤ n ∧ ∀ j, (h : j < ws.length) → SmallI n ws[j]
theorem SmallI.mono {n m : Int} {l : List ItemL} (h : SmallI n l) (hm : n ≤ m) : SmallI m l := ⟨by have := h.1; omega, fun j hj => (h.2 j hj).mono hm⟩
end Go.Proofs.YtpfhegengmlkmaaGreat

namespace Go.Proofs.YtpfhegengmlkmaaGreat
open Go.RowKit Go.BigFrame

/-- The first 'k' numbers of 'l' lie in block 'b', which has room for all. -/
def PartZ (w : World) (b : Nat) (l : List Int) (k : Nat) : Prop :=
  ∃ f, w.rowIs b 3 l.length f ∧ ∀ j, (h : j < l.length) → j < k → f j = .int .i64 l[j]
theorem PartZ.lt {w : World} {b k : Nat} {l : List Int} (h : PartZ w b l k) : b < w.heap.size := by
  obtain ⟨f, h, _⟩ := h
  exact h.lt
theorem PartZ.below {w w' : World} {b k : Nat} {l : List Int} (h : PartZ w b l k) (hb : Below w.heap.size w w') : PartZ w' b l k := by
  have hlt := h.lt
  obtain ⟨f, h, hf⟩ := h
  exact ⟨f, h.of_block (hb.block b hlt), hf⟩
theorem PartZ.made (w : World) (l : List Int) (z : Value) : PartZ (w.alloc (.cells (madeCells #[z] l.length) 3)) w.heap.size l 0 := by
  refine ⟨fun i => #[z][i % 1]!, ?_, fun j _ h => by omega⟩
  have h := World.rowIs_alloc w (madeCells #[z] l.length) 3 (fun i => #[z][i % 1]!) (fun i hi => by
    rw [size_madeCells] at hi
    simp [madeCells, hi])
  rwa [size_madeCells] at h
theorem PartZ.cell {w : World} {b k : Nat} {l : List Int} (h : PartZ w b l k) {i : Nat} (hi : i < l.length) : ∃ v, w.cell? ⟨b, i, none⟩ = some v := by
  obtain ⟨f, h, _⟩ := h
  exact ⟨_, h.cell hi⟩
theorem PartZ.frozen {w : World} {b k : Nat} {l : List Int} (h : PartZ w b l k) (i : Nat) : w.frozen? ⟨b, i, none⟩ = false := by
  obtain ⟨f, h, _⟩ := h
  exact h.frozen i
theorem PartZ.step {w : World} {b k : Nat} {l : List Int} (h : PartZ w b l k) (hk : k < l.length) : PartZ (w.setCell ⟨b, k, none⟩ (.int .i64 l[k])) b l (k + 1) := by
  obtain ⟨f, h, hf⟩ := h
  refine ⟨_, h.set _ _, fun j hj hlt => ?_⟩
  by_cases e : j = k
  · subst e; simp
  · simp only [if_neg e]
    exact hf j hj (by omega)
theorem PartZ.row {w : World} {b : Nat} {l : List Int} (h : PartZ w b l l.length) : RowZ w (some ⟨b, 0, none⟩) l := fun k hk => by
  obtain ⟨f, h, hf⟩ := h
  exact ⟨b, 0, rfl, h.lt, by rw [Nat.zero_add, h.cell hk, hf k hk hk]⟩
theorem Tryz.infoZ : (Tryz.prog.info? 3).map (fun i => (i.zero, i.size, i.bytes)) = some (some (.int .i64 0), 1, 8) := by kernel_rfl

end Go.Proofs.YtpfhegengmlkmaaGreat
