/- Texts of this claim, one behind the other. -/
import Derived.Test.YtpfhegengmlkmaaGreatZJ9
import Derived.Test.YtpfhegengmlkmaaGreatZJ10
import Derived.Test.YtpfhegengmlkmaaGreatZJ22
import Derived.Test.YtpfhegengmlkmaaGreatZJ23
import Derived.Test.YtpfhegengmlkmaaGreatZJ32
import Derived.Test.YtpfhegengmlkmaaGreatZJ34
import Derived.Test.YtpfhegengmlkmaaGreatZJ41
namespace Go.Proofs.YtpfhegengmlkmaaGreat
open Go.RowKit Go.BigFrame
set_option maxRecDepth 100000

/-- What DrawChoiceJoin answers: windows, and a place in each (or not). -/
def CjE (w' : World) (e : Ending) : Prop := ∃ (ws : List (List ItemL)) (a : Option Addr) (cp : Nat) (ps : List Int) (b : Option Addr) (cb : Nat), e = .returned (.tuple #[.slice a ws.length cp, .slice b ps.length cb]) ∧ ws.length ≤ 12 ∧ ws.length ≤ cp ∧ FewW ws ∧ RowW w' a ws ∧ ps.length ≤ 12 ∧ RowZ w' b ps
theorem gathZ_row {w : World} {B : Nat} {v : Value} {l : List Int} (h : GathZ w B v l) : ∃ a cap, v = .slice a l.length cap ∧ RowZ w a l := by
  rcases id (show World.ownsRow _ _ _ _ _ _ _ from h) with ⟨_, ⟨rfl, h0⟩ | ⟨g, cap, cur, rfl, _, hh, _⟩⟩
  · exact ⟨none, 0, by rw [h0], fun k hk => absurd hk (by omega)⟩
  · refine ⟨_, cap, rfl, fun k hk => ⟨g, 0, rfl, (Array.getElem?_eq_some_iff.1 hh).1, ?_⟩⟩
    rw [Nat.zero_add]
    exact h.cells rfl hk

set_option maxHeartbeats 12800000 in
theorem drawCJ_any (ab : Option Addr) (n c : Nat) (w : World) (h : Bytes w ab n c) :
    Calls Tryz.prog 13 #[.slice ab n c] w fun e w' => CjE w' e ∧ Below w.heap.size w w' := by
  obtain ⟨i0, hi, hz0, hz1, hz2⟩ := info_parts Tryz.infoZZ
  go_enter Tryz.func13, Tryz.ntmps13
  go_wp2_with fail
  refine (l1Open_any ab n c w h).mono ?_
  rintro e w1 ⟨⟨m, rfl, hr1⟩, hb1⟩
  have hrBl := hr1.lt
  obtain ⟨rB, hrB⟩ : ∃ rB, rB = w.heap.size := ⟨_, rfl⟩
  have hrBw : w.heap.size ≤ rB := Nat.le_of_eq hrB.symm
  have Bl1 := hb1
  rw [← hrB] at hr1 hrBl ⊢
  clear h hrB hb1
  go_wp2_with fail
  refine (l6Wins_any rB m c 0 ab w1 hr1 (by omega)).mono ?_
  rintro e w2 ⟨hE, hb2⟩
  obtain ⟨W, a, cp, p2, rfl, hW12, hWc, hfew, hrow, hr2, hp2⟩ := hE
  have z2 := hb2.size
  have Bl : Below w.heap.size w w2 := Bl1.trans (hb2.below hrBw Bl1.size)
  have hWl : W.length = (W.map (·.l)).length := by simp
  rw [hWl] at hW12 hWc ⊢
  clear hWl hr1 hb2 Bl1
  generalize W.map (·.l) = ws at *
  have HROW : Hid (∀ u, Span 0 w1.heap.size w2 u → RowW u a ws) := hrow
  have hr0 := hrow w2 (Span.refl _ _ _)
  clear hrow
  go_wp2_with fail
  refine (specCB_any a cp ws w2 (hfew.fit (by omega)) hr0).mono ?_
  rintro e w3 ⟨hE, b3⟩
  have z3 := b3.size
  have hr3 := hr2.below b3
  have B3 : But rB w2 w3 := But.of_below b3
  rcases hE with ⟨gp, cq, out, rfl, hbest, hgp, hnb⟩ | ⟨rfl, hbest⟩
  · have hol : out.length ≤ 12 := by have := (best_in hbest).2.1; omega
    clear hbest hr2 b3 hr0
    go_wp2_with fail
    refine (pick_any rB m c p2 ab 4 w3 hr3 (by omega) (by omega) (by omega)).mono ?_
    rintro e w4 ⟨⟨z, rfl, hz0', hz1'⟩, hr4, hb4⟩
    have z4 := hb4.size
    have B4 : But rB w2 w4 := B3.trans hb4
    have hnb4 := hnb.but hb4 (by omega)
    clear hr3 B3 hb4 hnb
    by_cases e0 : z = 0
    · subst e0
      clear hnb4
      go_wp2_with fail
      go_loopw [6, 8] (fun pv iv wr => ∃ (k p' : Nat) (ps : List Int), k ≤ ws.length ∧ iv = .int .i64 k ∧ GathZ wr w2.heap.size pv ps ∧ ps.length = k ∧ Rd wr rB ab m c p' ∧ p' ≤ 60002 + k ∧ But rB w2 wr) (fun _ iv _ => ws.length - (intOf iv).toNat)
      case atStart => exact ⟨0, p2 + 1, [], Nat.zero_le _, rfl, World.ownsRow_nil _ _ _ _, rfl, hr4, by omega, B4⟩
      case round =>
        clear hr4 B4
        obtain ⟨k, p', ps, hk, rfl, hgz, hpl, hrr, hpp, Br⟩ := hrel
        subst hpl
        have zr := Br.size
        obtain ⟨pa, pc, rfl⟩ : ∃ a cap, u6 = .slice a ps.length cap := by
          rcases (show World.ownsRow _ _ _ _ _ _ _ from hgz).2 with ⟨e, h0⟩ | ⟨g, cap, cur, e, _⟩
          · exact ⟨none, 0, by rw [h0]; exact e⟩
          · exact ⟨_, cap, e⟩
        by_cases hlt : ps.length < ws.length
        · have hlt' : decide ((ps.length : Int) < (ws.length : Int)) = true := decide_eq_true (by omega)
          obtain ⟨bw, ow, rfl, hbw, sw, tw, m0, htw, hrw⟩ := HROW.out wr (Span.wide (Br.span (Nat.le_refl _) (Nat.lt_succ_self _)) (Nat.zero_le _) (by omega)) ps.length hlt
          have k0 : (0 : Int) ≤ (ps.length : Int) := by omega
          have k1 : (ps.length : Int) < (ws.length : Int) := by omega
          have hl6 := (hfew _ (List.getElem_mem hlt)).1
          clear hrw
          go_wp2_with fail
          refine (pick_any rB m c p' ab ((ws[ps.length].length : Int) + 1) wr hrr (by omega) (by omega) (by omega)).mono ?_
          rintro e wq ⟨⟨zq, rfl, hzq0, hzq1⟩, hrq, hbq⟩
          have zq' := hbq.size
          have hgq : wq.ownsRow w2.heap.size 3 1 (.slice pa ps.length pc) ps.length (ps.map fun x => .int .i64 x) := own_agree (show wr.ownsRow _ _ _ _ _ _ from hgz) (hbq.agree (.inl (by omega)))
          have Bq : But rB w2 wq := Br.trans hbq
          have bI : Below wq.heap.size wq (wq.alloc (.cells #[.int .i64 zq] 3)) := (Below.refl _ _).alloc (Nat.le_refl _) _
          have hown := own_keep hgq bI
          have HI : Hid (Rd (wq.alloc (.cells #[.int .i64 zq] 3)) rB ab m c (p' + 1) ∧ But rB w2 (wq.alloc (.cells #[.int .i64 zq] 3)) ∧ (wq.alloc (.cells #[.int .i64 zq] 3)).heap.size = wq.heap.size + 1) := ⟨hrq.below bI, Bq.trans (But.of_below bI), by simp⟩
          clear bI hrq Bq hgq hbq hgz hrr Br m0
          go_wp2_with (at_builtin; refine wpList_append_lies _ rfl _ _ 25 rfl w2.heap.size 3 i0 (.int .i64 0) 1 8 Tryz.underlying25 hi hz0 hz1 hz2 rfl (by decide) _ _ _ rfl hown ⟨wq.heap.size, 0, none⟩ 1 1 [.int .i64 zq] rfl rfl (one_new wq _ _) (by simp [Value.oneCell']) (by decide) (by unfold maxLen; omega) (by omega) (by simp; omega) _ rfl ?_; intro g1 c1 x1 ho1 hg1 hl1 hlt1; refine hid_hold ?_)
          unfold Hid
          obtain ⟨rI, BI, zI⟩ := HI.out
          have hfrom := fun q e => own_from hown q e
          replace rI := rI.grown hg1 (fun q e => by have := hfrom q e; omega)
          replace BI := BI.grown hg1 (fun q e => hfrom q e)
          have hgn : GathZ x1 w2.heap.size (.slice (some ⟨g1, 0, none⟩) (ps.length + 1) c1) (ps ++ [zq]) := by
            unfold GathZ
            simpa using ho1
          clear HI hown hg1 hl1 hlt1 hfrom ho1
          go_wp2_with fail
          exact ⟨⟨ps.length + 1, p' + 1, ps ++ [zq], by omega, by go_num, hgn, by simp, rI, by omega, BI⟩, by simp [intOf]; omega⟩
        · have hlt' : decide ((ps.length : Int) < (ws.length : Int)) = false := decide_eq_false (by omega)
          have hrz : RowZ wr pa ps := by
            obtain ⟨a9, c9, e9, hr9⟩ := gathZ_row hgz
            simp only [Value.slice.injEq] at e9
            obtain ⟨rfl, _, _⟩ := e9
            exact hr9
          have hrw := HROW.out wr (Span.wide (Br.span (Nat.le_refl _) (Nat.lt_succ_self _)) (Nat.zero_le _) (by omega))
          have HX : Hid (CjE wr (.returned (.tuple #[.slice a ws.length cp, .slice pa ps.length pc])) ∧ Below w.heap.size w wr) := ⟨⟨ws, a, cp, ps, pa, pc, rfl, hW12, hWc, hfew, hrw, by omega, hrz⟩, Bl.trans (Br.below (by omega) Bl.size)⟩
          clear hrw hrz hgz hrr Br
          go_wp2_with fail
          exact bodyPost_ret (v := .tuple #[.slice a ws.length cp, .slice pa ps.length pc]) (by simp [results, Tryz.results13, go_sem]) rfl HX.out
    · have e0' : (z == 0) = false := by rw [beq_eq_false_iff_ne]; exact e0
      have hrw := HROW.out w4 (Span.wide (B4.span (Nat.le_refl _) (Nat.lt_succ_self _)) (Nat.zero_le _) (by omega))
      have HX : Hid (CjE w4 (.returned (.tuple #[.slice a ws.length cp, .slice (some ⟨gp, 0, none⟩) out.length cq])) ∧ Below w.heap.size w w4) := ⟨⟨ws, a, cp, out, some ⟨gp, 0, none⟩, cq, rfl, hW12, hWc, hfew, hrw, hol, hnb4.row⟩, Bl.trans (B4.below (by omega) Bl.size)⟩
      clear hrw hnb4 B4 hr4
      go_wp2_with fail
      exact bodyPost_ret (v := .tuple #[.slice a ws.length cp, .slice (some ⟨gp, 0, none⟩) out.length cq]) (by simp [results, Tryz.results13, go_sem]) rfl HX.out
  · clear hbest hr2 b3 hr0
    go_wp2_with fail
    go_loopw [6, 8] (fun pv iv wr => ∃ (k p' : Nat) (ps : List Int), k ≤ ws.length ∧ iv = .int .i64 k ∧ GathZ wr w2.heap.size pv ps ∧ ps.length = k ∧ Rd wr rB ab m c p' ∧ p' ≤ 60002 + k ∧ But rB w2 wr) (fun _ iv _ => ws.length - (intOf iv).toNat)
    case atStart => exact ⟨0, p2, [], Nat.zero_le _, rfl, World.ownsRow_nil _ _ _ _, rfl, hr3, by omega, B3⟩
    case round =>
      clear hr3 B3
      obtain ⟨k, p', ps, hk, rfl, hgz, hpl, hrr, hpp, Br⟩ := hrel
      subst hpl
      have zr := Br.size
      obtain ⟨pa, pc, rfl⟩ : ∃ a cap, u6 = .slice a ps.length cap := by
        rcases (show World.ownsRow _ _ _ _ _ _ _ from hgz).2 with ⟨e, h0⟩ | ⟨g, cap, cur, e, _⟩
        · exact ⟨none, 0, by rw [h0]; exact e⟩
        · exact ⟨_, cap, e⟩
      by_cases hlt : ps.length < ws.length
      · have hlt' : decide ((ps.length : Int) < (ws.length : Int)) = true := decide_eq_true (by omega)
        obtain ⟨bw, ow, rfl, hbw, sw, tw, m0, htw, hrw⟩ := HROW.out wr (Span.wide (Br.span (Nat.le_refl _) (Nat.lt_succ_self _)) (Nat.zero_le _) (by omega)) ps.length hlt
        have k0 : (0 : Int) ≤ (ps.length : Int) := by omega
        have k1 : (ps.length : Int) < (ws.length : Int) := by omega
        have hl6 := (hfew _ (List.getElem_mem hlt)).1
        clear hrw
        go_wp2_with fail
        refine (pick_any rB m c p' ab ((ws[ps.length].length : Int) + 1) wr hrr (by omega) (by omega) (by omega)).mono ?_
        rintro e wq ⟨⟨zq, rfl, hzq0, hzq1⟩, hrq, hbq⟩
        have zq' := hbq.size
        have hgq : wq.ownsRow w2.heap.size 3 1 (.slice pa ps.length pc) ps.length (ps.map fun x => .int .i64 x) := own_agree (show wr.ownsRow _ _ _ _ _ _ from hgz) (hbq.agree (.inl (by omega)))
        have Bq : But rB w2 wq := Br.trans hbq
        have bI : Below wq.heap.size wq (wq.alloc (.cells #[.int .i64 zq] 3)) := (Below.refl _ _).alloc (Nat.le_refl _) _
        have hown := own_keep hgq bI
        have HI : Hid (Rd (wq.alloc (.cells #[.int .i64 zq] 3)) rB ab m c (p' + 1) ∧ But rB w2 (wq.alloc (.cells #[.int .i64 zq] 3)) ∧ (wq.alloc (.cells #[.int .i64 zq] 3)).heap.size = wq.heap.size + 1) := ⟨hrq.below bI, Bq.trans (But.of_below bI), by simp⟩
        clear bI hrq Bq hgq hbq hgz hrr Br m0
        go_wp2_with (at_builtin; refine wpList_append_lies _ rfl _ _ 25 rfl w2.heap.size 3 i0 (.int .i64 0) 1 8 Tryz.underlying25 hi hz0 hz1 hz2 rfl (by decide) _ _ _ rfl hown ⟨wq.heap.size, 0, none⟩ 1 1 [.int .i64 zq] rfl rfl (one_new wq _ _) (by simp [Value.oneCell']) (by decide) (by unfold maxLen; omega) (by omega) (by simp; omega) _ rfl ?_; intro g1 c1 x1 ho1 hg1 hl1 hlt1; refine hid_hold ?_)
        unfold Hid
        obtain ⟨rI, BI, zI⟩ := HI.out
        have hfrom := fun q e => own_from hown q e
        replace rI := rI.grown hg1 (fun q e => by have := hfrom q e; omega)
        replace BI := BI.grown hg1 (fun q e => hfrom q e)
        have hgn : GathZ x1 w2.heap.size (.slice (some ⟨g1, 0, none⟩) (ps.length + 1) c1) (ps ++ [zq]) := by
          unfold GathZ
          simpa using ho1
        clear HI hown hg1 hl1 hlt1 hfrom ho1
        go_wp2_with fail
        exact ⟨⟨ps.length + 1, p' + 1, ps ++ [zq], by omega, by go_num, hgn, by simp, rI, by omega, BI⟩, by simp [intOf]; omega⟩
      · have hlt' : decide ((ps.length : Int) < (ws.length : Int)) = false := decide_eq_false (by omega)
        have hrz : RowZ wr pa ps := by
          obtain ⟨a9, c9, e9, hr9⟩ := gathZ_row hgz
          simp only [Value.slice.injEq] at e9
          obtain ⟨rfl, _, _⟩ := e9
          exact hr9
        have hrw := HROW.out wr (Span.wide (Br.span (Nat.le_refl _) (Nat.lt_succ_self _)) (Nat.zero_le _) (by omega))
        have HX : Hid (CjE wr (.returned (.tuple #[.slice a ws.length cp, .slice pa ps.length pc])) ∧ Below w.heap.size w wr) := ⟨⟨ws, a, cp, ps, pa, pc, rfl, hW12, hWc, hfew, hrw, by omega, hrz⟩, Bl.trans (Br.below (by omega) Bl.size)⟩
        clear hrw hrz hgz hrr Br
        go_wp2_with fail
        exact bodyPost_ret (v := .tuple #[.slice a ws.length cp, .slice pa ps.length pc]) (by simp [results, Tryz.results13, go_sem]) rfl HX.out

end Go.Proofs.YtpfhegengmlkmaaGreat

namespace Go.Proofs.YtpfhegengmlkmaaGreat

/-- The greatest of the first k numbers, 0 at least. -/
def topG (f : Nat → Int) : Nat → Int
  | 0 => 0
  | k + 1 => max (topG f k) (f k)
theorem topG_ge {f : Nat → Int} : ∀ {k i : Nat}, i < k → f i ≤ topG f k
  | k + 1, i, h => by
    simp only [topG]
    by_cases e : i = k
    · subst e; omega
    · have := topG_ge (f := f) (k := k) (i := i) (by omega); omega
theorem topG_le {f : Nat → Int} {v : Int} (h0 : 0 ≤ v) : ∀ {k : Nat}, (∀ i, i < k → f i ≤ v) → topG f k ≤ v
  | 0, _ => h0
  | k + 1, h => by
    have h1 := topG_le h0 (k := k) fun i hi => h i (by omega)
    have h2 := h k (by omega)
    simp only [topG]; omega
theorem joins_get {ws : List (List ItemL)} {ps : List Int} : ∀ {k : Nat} {m : List (ByteArray × Int)}, JoinsTo ws ps k m → ∀ s, getM m s = topG (fun i => getM (pkM ws ps i) s) k
  | 0, m, h, s => by rw [show m = [] from h]; simp [getM, topG]
  | k + 1, m, ⟨q, h1, h2⟩, s => by
    rw [h2.fits.2.2.1.2 s, joins_get h1 s]
    rfl
theorem ch_stamp {ws : List (List ItemL)} {ps : List Int} (hc : ChP ws ps) {i : Nat} (hi : i < ws.length) : StampP (pkM ws ps i) := by
  obtain ⟨q, e⟩ := pk_eq hc.2.2.1 (i := i) (by rw [hc.2.1]; exact hi) hi
  rw [e]
  exact ((hc.1.2.2 i hi).2.1 _ q).1
/-- Two items of a choice that agrees have the same versions of what both have. -/
theorem ch_agree {ws : List (List ItemL)} {ps : List Int} (hc : ChP ws ps) {i k : Nat} (hi : i < ws.length) (hk : k < ws.length) (s : ByteArray) (h1 : 0 < getM (pkM ws ps i) s) (h2 : 0 < getM (pkM ws ps k) s) : getM (pkM ws ps i) s = getM (pkM ws ps k) s := by
  rcases Nat.lt_trichotomy i k with hlt | rfl | hlt
  · exact ((agree_get (ch_stamp hc hk) (ch_stamp hc hi)).1 (hc.2.2.2 k i hlt (by rw [hc.2.1]; exact hk)) s h2 h1).symm
  · rfl
  · exact (agree_get (ch_stamp hc hi) (ch_stamp hc hk)).1 (hc.2.2.2 i k hlt (by rw [hc.2.1]; exact hi)) s h1 h2
theorem join_at {ws : List (List ItemL)} {ps : List Int} {m : List (ByteArray × Int)} (hc : ChP ws ps) (hj : JoinsTo ws ps ps.length m) {i : Nat} (hi : i < ws.length) {s : ByteArray} (h : 0 < getM (pkM ws ps i) s) : getM m s = getM (pkM ws ps i) s := by
  rw [joins_get hj s, hc.2.1]
  refine Int.le_antisymm (topG_le (by omega) fun k hk => ?_) (topG_ge (f := fun i => getM (pkM ws ps i) s) hi)
  by_cases hp : 0 < getM (pkM ws ps k) s
  · exact Int.le_of_eq (ch_agree hc hk hi s hp h)
  · omega
/-- The join, cut to the sources of one item, is its stamp. -/
theorem cut_join {ws : List (List ItemL)} {ps : List Int} {m : List (ByteArray × Int)} (hc : ChP ws ps) (hj : JoinsTo ws ps ps.length m) {i : Nat} (hi : i < ws.length) : onlyM (namesM (pkM ws ps i)) m = pkM ws ps i := by
  have hs := ch_stamp hc hi
  refine sorted_ext (stamp_sorted (only_stamp hj.stamp _)) (stamp_sorted hs) fun s => ?_
  rw [getM_only]
  by_cases ha : amongB (namesM (pkM ws ps i)) s = true
  · rw [if_pos ha]
    exact join_at hc hj hi ((among_names (stamp_sorted hs) s).1 ha)
  · rw [if_neg ha]
    have h0 := getM_nonneg (s := s) (stamp_sorted hs)
    have h1 : ¬ 0 < getM (pkM ws ps i) s := fun h => ha ((among_names (stamp_sorted hs) s).2 h)
    omega

end Go.Proofs.YtpfhegengmlkmaaGreat

namespace Go.Proofs.YtpfhegengmlkmaaGreat
open Go.RowKit Go.BigFrame
set_option maxRecDepth 100000

set_option maxHeartbeats 800000 in
theorem bsNames_any (aa : Option Addr) (ca : Nat) (la : List (ByteArray × Int)) (w : World) (hla : la.length ≤ 1048576) (ha : Row w aa la) :
    Calls Tryz.prog 18 #[.slice aa la.length ca] w fun e w' => (∃ v, e = .returned v ∧ GathS w' w.heap.size v (namesM la)) ∧ Below w.heap.size w w' := by
  obtain ⟨i0, hi, hz0, hz1, hz2⟩ := info_parts Tryz.infoS
  go_enter Tryz.func18, Tryz.ntmps18
  go_wp2_with fail
  go_loopw [3, 4] (fun out i wr => ∃ k : Nat, k ≤ la.length ∧ i = .int .i64 k ∧ GathS wr w.heap.size out (namesM (la.take k)) ∧ Below w.heap.size w wr) (fun _ i _ => la.length - (intOf i).toNat)
  case atStart => exact ⟨0, Nat.zero_le _, rfl, gathS_none _ _, Below.refl _ _⟩
  case round =>
    obtain ⟨k, hk, rfl, hg, hbl⟩ := hrel
    have hzr := hbl.size
    by_cases hlt : k < la.length
    · obtain ⟨b1, o1, rfl, hlt1, c0, c1⟩ := ha k hlt
      have e0 := cell_on hbl hlt1 c0
      have k0 : (0 : Int) ≤ (k : Int) := by omega
      have k1 : (k : Int) < (la.length : Int) := by omega
      have HN : Hid (namesM (la.take (k + 1)) = namesM (la.take k) ++ [la[k].1]) := by rw [Hid, List.take_succ_eq_append_getElem hlt]; unfold namesM; rw [List.map_append]; rfl
      have hnl : (namesM (la.take k)).length ≤ 1048576 := by simp [namesM]; omega
      have hg4 : wr.ownsRow w.heap.size 9 1 _ (namesM (la.take k)).length ((namesM (la.take k)).map .string) := hg
      generalize namesM (la.take k) = o at *
      go_wp2_with (at_builtin; refine wpList_append_lies _ rfl _ _ 43 rfl w.heap.size 9 i0 (.string .empty) 1 16 Tryz.underlying43 hi hz0 hz1 hz2 rfl (by decide) _ _ _ rfl (hg4.alloc _) ⟨wr.heap.size, 0, none⟩ 1 1 [.string la[k].1] rfl rfl (one_new wr _ _) (by simp [Value.oneCell']) (by decide) (by unfold maxLen; omega) (by omega) (by simp; omega) _ rfl ?_; intro g' cap' w5 hown' hgrow _ _)
      have hob := ownsRow_block hg4
      refine ⟨⟨k + 1, by omega, by go_num, by rw [HN.out]; exact GathS.snoc hown', (hbl.alloc hzr _).grown hgrow (by simp; omega) hob⟩, by simp [intOf]; omega⟩
    · have HN : Hid (namesM (la.take k) = namesM la) := by rw [Hid, List.take_of_length_le (by omega)]
      rw [HN.out] at hg
      go_wp2_with fail
      go_ret
      exact ⟨⟨_, rfl, hg⟩, hbl⟩

end Go.Proofs.YtpfhegengmlkmaaGreat

namespace Go.Proofs.YtpfhegengmlkmaaGreat
open Go.RowKit Go.BigFrame
set_option maxRecDepth 100000

theorem pkM_here {ws : List (List ItemL)} {ps : List Int} {k q : Nat} (hk : k < ws.length) (hp : k < ps.length) (hq : q < ws[k].length) (e : ps[k] = (q : Int)) : pkM ws ps k = ws[k][q].2 := by
  unfold pkM
  simp [List.getD_eq_getElem?_getD, hk, hp, e, hq]
theorem isCJ_parts' {ws : List (List ItemL)} {ps : List Int} {j : List (ByteArray × Int)} (h : IsCJ ws ps j true) : ChP ws ps ∧ JoinsTo ws ps ps.length j := by
  rcases h with ⟨_, h1, h2⟩ | ⟨e, _⟩
  · exact ⟨h1, h2⟩
  · cases e

set_option maxHeartbeats 12800000 in
theorem lawCJ_any (ab : Option Addr) (n c : Nat) (w : World) (h : Bytes w ab n c) (hn : n ≤ maxLen) :
    Calls Tryz.prog 4 #[.slice ab n c] w fun e w' => e = .returned (.bool true) ∧ Below w.heap.size w w' := by
  unfold maxLen at hn
  go_enter Tryz.func4, Tryz.ntmps4
  by_cases hbig : 1048576 < n
  · have hbig' : decide ((1048576 : Int) < (n : Int)) = true := by simp; omega
    go_wp2_with fail
    go_ret
    exact ⟨rfl, Below.refl _ _⟩
  have hbig' : decide ((1048576 : Int) < (n : Int)) = false := by simp; omega
  go_wp2_with fail
  refine (drawCJ_any ab n c _ h).mono ?_
  rintro e w1 ⟨hE, B⟩
  obtain ⟨ws, a, cp, ps, b, cb, rfl, hW12, hWc, hfew, hrw, hp12, hrp⟩ := hE
  have hfit := hfew.fit (by omega)
  have hpm : ps.length ≤ maxLen := by unfold maxLen; omega
  clear h hbig hbig'
  go_wp2_with fail
  refine (implCJ_any a b cp cb ws ps w1 hfit hrw hpm hrp).mono ?_
  rintro e w2 ⟨⟨v, m, ok, rfl, hg2, hj⟩, b2⟩
  obtain ⟨ja, jc, rfl, _, hrm⟩ := gath_row hg2
  have HJ : Hid (IsCJ ws ps m ok) := hj
  have hms := hj.stamp
  have hm12 := hms.1
  replace hrw := hrw.below b2
  replace hrp := hrp.below b2
  replace B := B.trans (b2.mono B.size)
  clear hj hg2 b2
  go_wp2_with fail
  refine (specCJ_any a b cp cb ws ps w2 hfit hrw hpm hrp).mono ?_
  rintro e w3 ⟨⟨v', m', ok', rfl, hg3, hj'⟩, b3⟩
  obtain ⟨em, eo⟩ := IsCJ.one HJ.out hj'
  subst em eo
  obtain ⟨ja', jc', rfl, _, hrm'⟩ := gath_row hg3
  replace hrm := hrm.below b3
  replace hrw := hrw.below b3
  replace hrp := hrp.below b3
  replace B := B.trans (b3.mono B.size)
  have HC : Hid (Calls Tryz.prog 16 #[.slice ja m.length jc, .slice ja' m.length jc'] w3 fun e w' => e = .returned (.bool true) ∧ Below w3.heap.size w3 w') := bsMarks_same ja ja' jc jc' m w3 (by unfold maxLen; omega) hrm hrm'
  have hne : (ok != ok) = false := by simp
  clear hj' hg3 b3 hrm'
  go_wp2_with fail
  refine Calls.mono HC.out ?_
  rintro e w4 ⟨rfl, b4⟩
  replace hrm := hrm.below b4
  replace hrw := hrw.below b4
  replace hrp := hrp.below b4
  replace B := B.trans (b4.mono B.size)
  clear HC b4 hne
  go_wp2_with fail
  cases ok with
  | false =>
    go_loopw [9] (fun iv wr => iv = .int .i64 0 ∧ Below w.heap.size w wr) (fun _ _ => 0)
    case atStart => exact ⟨rfl, B⟩
    case round =>
      clear B hrm hrw hrp
      obtain ⟨rfl, BW⟩ := hrel
      go_wp2_with fail
      go_ret
      exact ⟨rfl, BW⟩
  | true =>
    have HP : Hid (ChP ws ps ∧ JoinsTo ws ps ps.length m) := isCJ_parts' HJ.out
    go_loopw [9] (fun iv wr => ∃ k : Nat, k ≤ ps.length ∧ iv = .int .i64 k ∧ Below w4.heap.size w4 wr) (fun iv _ => ps.length - (intOf iv).toNat)
    case atStart => exact ⟨0, Nat.zero_le _, rfl, Below.refl _ _⟩
    case round =>
      obtain ⟨k, hk, rfl, hb⟩ := hrel
      by_cases hlt : k < ps.length
      · have hlt' : decide ((k : Int) < (ps.length : Int)) = true := decide_eq_true (by omega)
        have hlw : k < ws.length := by have := HP.out.1.2.1; omega
        obtain ⟨bp, op, rfl, hbp, m1⟩ := (hrp.below hb) k hlt
        obtain ⟨bw, ow, rfl, hbw, sw, tw, m0, htw, hri⟩ := (hrw.below hb) k hlw
        obtain ⟨h0, h1⟩ := HP.out.1.2.2.1.2 k hlt
        obtain ⟨q, hq⟩ := Int.eq_ofNat_of_zero_le h0
        have hq2 : q < ws[k].length := by
          rw [hq] at h1
          simp only [List.getD_eq_getElem?_getD, List.getElem?_eq_getElem hlw, Option.getD_some] at h1
          omega
        obtain ⟨bi, oi, rfl, hbi, _, vi, c1i, ⟨ma, mc, rfl, hmc, hrs⟩⟩ := hri q hq2
        have HPK : Hid (pkM ws ps k = (ws[k][q]).2) := pkM_here hlw hlt hq2 hq
        have hfw := (hfew _ (List.getElem_mem hlw)).2 _ (List.getElem_mem hq2)
        rw [hq] at m1
        clear h0 h1 hq hri
        obtain ⟨sl, hsl⟩ : ∃ sl, sl = (ws[k][q]).2 := ⟨_, rfl⟩
        rw [← hsl] at hmc hrs HPK hfw c1i
        clear hsl
        have hl40 := hfw.1
        have k0 : (0 : Int) ≤ (k : Int) := by omega
        have k1 : (k : Int) < (ws.length : Int) := by omega
        have k2 : (k : Int) < (ps.length : Int) := by omega
        have q0 : (0 : Int) ≤ (q : Int) := by omega
        have q1 : (q : Int) < (ws[k].length : Int) := by omega
        have hbd : Below wr.heap.size wr wr.drew := (Below.refl _ _).drew
        have hb' := hb.trans (hbd.mono hb.size)
        have hrsd := hrs.below hbd
        have Sx : (fun u : World => u.cell? ⟨bw, ow + k, none⟩ = some (.slice (some ⟨bi, oi, none⟩) ws[k].length tw) ∧ u.cell? ⟨bp, op + k, none⟩ = some (.int .i64 (q : Int)) ∧ u.cell? ⟨bi, oi + q * 2 + 1, none⟩ = some (.slice ma sl.length mc)) wr.drew := ⟨cell_on hbd hbw m0, cell_on hbd hbp m1, cell_on hbd hbi c1i⟩
        have hrmd := hrm.below hb'
        have Bd := B.trans (hb'.mono B.size)
        have HK : Hid _ := And.intro hrsd (And.intro hrmd (And.intro Bd hb'))
        clear hrsd hrmd Bd hb' hbd hrs hfw hmc htw hrm hrw hrp B hb hbw hbp hbi
        go_wp2_with fail
        refine wp_region_held_drew (S := fun u => u.cell? ⟨bw, ow + k, none⟩ = some (.slice (some ⟨bi, oi, none⟩) ws[k].length tw) ∧ u.cell? ⟨bp, op + k, none⟩ = some (.int .i64 (q : Int)) ∧ u.cell? ⟨bi, oi + q * 2 + 1, none⟩ = some (.slice ma sl.length mc)) (by kernel_rfl) Sx (fun _ => ?_)
        obtain ⟨hrsd, hrmd, Bd, hb'⟩ := HK.out
        clear HK m0 m1 c1i
        generalize wr.drew = D at *
        refine wpAnyH_take (i := 0) (v := .slice (some ⟨bw, ow, none⟩) ws.length cp) rfl (by kernel_rfl) (by kernel_rfl) (by kernel_rfl) (fun _ _ _ h => h) (Or.inl ⟨by rfl, ?_⟩) Sx ?_
        · rintro u ⟨s0, s1, s2⟩
          go_simp
        simp only [Act.put, List.setIfInBounds_toArray]
        refine wpAnyH_take (i := 1) (v := .int .i64 (k : Int)) rfl (by kernel_rfl) (by kernel_rfl) (by kernel_rfl) (fun _ _ _ h => h) (Or.inl ⟨by rfl, ?_⟩) Sx ?_
        · rintro u ⟨s0, s1, s2⟩
          go_simp
        simp only [Act.put]
        refine wpAnyH_take (i := 2) (v := .pointer (some ⟨bw, ow + k, none⟩)) rfl (by kernel_rfl) (by kernel_rfl) (by kernel_rfl) (fun _ _ _ h => h) (Or.inl ⟨by rfl, ?_⟩) Sx ?_
        · rintro u ⟨s0, s1, s2⟩
          go_simp
        simp only [Act.put]
        refine wpAnyH_take (i := 3) (v := .slice (some ⟨bi, oi, none⟩) ws[k].length tw) rfl (by kernel_rfl) (by kernel_rfl) (by kernel_rfl) (fun _ _ _ h => h) (Or.inl ⟨by rfl, ?_⟩) Sx ?_
        · rintro u ⟨s0, s1, s2⟩
          go_simp
        simp only [Act.put]
        refine wpAnyH_take (i := 4) (v := .slice (some ⟨bp, op, none⟩) ps.length cb) rfl (by kernel_rfl) (by kernel_rfl) (by kernel_rfl) (fun _ _ _ h => h) (Or.inl ⟨by rfl, ?_⟩) Sx ?_
        · rintro u ⟨s0, s1, s2⟩
          go_simp
        simp only [Act.put]
        refine wpAnyH_take (i := 5) (v := .int .i64 (k : Int)) rfl (by kernel_rfl) (by kernel_rfl) (by kernel_rfl) (fun _ _ _ h => h) (Or.inl ⟨by rfl, ?_⟩) Sx ?_
        · rintro u ⟨s0, s1, s2⟩
          go_simp
        simp only [Act.put]
        refine wpAnyH_take (i := 6) (v := .pointer (some ⟨bp, op + k, none⟩)) rfl (by kernel_rfl) (by kernel_rfl) (by kernel_rfl) (fun _ _ _ h => h) (Or.inl ⟨by rfl, ?_⟩) Sx ?_
        · rintro u ⟨s0, s1, s2⟩
          go_simp
        simp only [Act.put]
        refine wpAnyH_take (i := 7) (v := .int .i64 (q : Int)) rfl (by kernel_rfl) (by kernel_rfl) (by kernel_rfl) (fun _ _ _ h => h) (Or.inl ⟨by rfl, ?_⟩) Sx ?_
        · rintro u ⟨s0, s1, s2⟩
          go_simp
        simp only [Act.put]
        refine wpAnyH_take (i := 8) (v := .pointer (some ⟨bi, oi + q * 2, none⟩)) rfl (by kernel_rfl) (by kernel_rfl) (by kernel_rfl) (fun _ _ _ h => h) (Or.inl ⟨by rfl, ?_⟩) Sx ?_
        · rintro u ⟨s0, s1, s2⟩
          go_simp
        simp only [Act.put]
        refine wpAnyH_take (i := 9) (v := .pointer (some ⟨bi, oi + q * 2 + 1, none⟩)) rfl (by kernel_rfl) (by kernel_rfl) (by kernel_rfl) (fun _ _ _ h => h) (Or.inl ⟨by rfl, ?_⟩) Sx ?_
        · rintro u ⟨s0, s1, s2⟩
          go_simp
        simp only [Act.put]
        refine wpAnyH_take (i := 10) (v := .slice ma sl.length mc) rfl (by kernel_rfl) (by kernel_rfl) (by kernel_rfl) (fun _ _ _ h => h) (Or.inl ⟨by rfl, ?_⟩) Sx ?_
        · rintro u ⟨s0, s1, s2⟩
          go_simp
        simp only [Act.put]
        refine wpAnyH_ready (rs := [11]) (by kernel_rfl) (by simp) ?_
        refine AllReadyH.cons rfl (fun K hK => ?_) AllReadyH.nil
        rw [if_pos (by rfl)]
        go_simp
        refine hK.out _ _ Sx (fun _ => ?_)
        clear hK K Sx
        refine wpAnyH_done (by kernel_rfl) ?_ _
        go_wp2_with fail
        refine (bsNames_any ma mc sl D (by omega) hrsd).mono ?_
        rintro e w5 ⟨⟨vn, rfl, hg5⟩, b5⟩
        obtain ⟨na, nc, rfl, hrn⟩ := hg5.shape
        have HNL : Hid ((namesM sl).length ≤ 40) := by unfold Hid; simp [namesM]; omega
        replace hrsd := hrsd.below b5
        replace hrmd := hrmd.below b5
        replace Bd := Bd.trans (b5.mono Bd.size)
        replace hb' := hb'.trans (b5.mono hb'.size)
        clear b5 hg5
        go_wp2_with fail
        refine (implOnly_any ja jc m na nc (namesM sl) w5 (by omega) hrmd (fun j hj => by have := (hms.2.1 j hj).1.2.1; omega) (by have := HNL.out; omega) hrn).mono ?_
        rintro e w6 ⟨⟨vo, mo, rfl, hg6, hO⟩, b6⟩
        obtain ⟨oa, oc, rfl, hro⟩ := hg6.shape
        have emo : mo = sl := by
          rw [hO.1 hms, ← HPK.out]
          exact cut_join HP.out.1 HP.out.2 hlw
        clear hO
        subst emo
        replace hrsd := hrsd.below b6
        replace Bd := Bd.trans (b6.mono Bd.size)
        replace hb' := hb'.trans (b6.mono hb'.size)
        have HC6 : Hid (Calls Tryz.prog 16 #[.slice oa mo.length oc, .slice ma mo.length mc] w6 fun e w' => e = .returned (.bool true) ∧ Below w6.heap.size w6 w') := bsMarks_same oa ma oc mc mo w6 (by unfold maxLen; omega) hro hrsd
        clear b6 hg6 hrn hro hrsd hrmd
        go_wp2_with fail
        refine Calls.mono HC6.out ?_
        rintro e w7 ⟨rfl, b7⟩
        replace hb' := hb'.trans (b7.mono hb'.size)
        clear b7 HC6 Bd
        go_wp2_with fail
        exact ⟨⟨k + 1, by omega, by go_num, hb'⟩, by simp [intOf]; omega⟩
      · have hlt' : decide ((k : Int) < (ps.length : Int)) = false := decide_eq_false (by omega)
        have BW := B.trans (hb.mono B.size)
        clear B hrm hrw hrp
        go_wp2_with fail
        go_ret
        exact ⟨rfl, BW⟩

end Go.Proofs.YtpfhegengmlkmaaGreat
