/- Windows marked: walks of szItemSS with sums, markItemSS, markIntS. -/
import Derived.Test.YtpfhegengmlkmacGreatDoorItH
import Derived.Test.YtpfhegengmlkmacGreatDoorItN
namespace Go.Proofs.YtpfhegengmlkmacGreatDoor
open Go.RowKit Go.BigFrame

/-- How many items and marks there are. -/
def lensW : List (List ItemL) → Nat
  | [] => 0
  | l :: r => l.length + lens l + lensW r
theorem lensW_append (a b : List (List ItemL)) : lensW (a ++ b) = lensW a + lensW b := by
  induction a with
  | nil => simp [lensW]
  | cons l r ih => simp [lensW, ih]; omega
theorem lensW_take {ws : List (List ItemL)} {k : Nat} (h : k < ws.length) : lensW (ws.take (k + 1)) = lensW (ws.take k) + (ws[k].length + lens ws[k]) := by
  rw [List.take_succ_eq_append_getElem h, lensW_append]
  simp [lensW]

theorem lensW_take_le (ws : List (List ItemL)) (k : Nat) : lensW (ws.take k) ≤ lensW ws := by
  have h := lensW_append (ws.take k) (ws.drop k)
  rw [List.take_append_drop] at h
  omega

set_option maxHeartbeats 800000 in
theorem szItemSS_w (a : Option Addr) (cap : Nat) (ws : List (List ItemL)) (left : Int) (w : World) (hr : RowW w a ws) (hf : FitW ws) (h0 : 0 ≤ left) (h1 : left ≤ 1048576) :
    Calls Tryz.prog 38 #[.slice a ws.length cap, .int .i64 left] w fun e w' => ∃ r : Int, e = .returned (.int .i64 r) ∧ -1 ≤ r ∧ r ≤ left ∧ (0 ≤ r → (lensW ws : Int) ≤ left ∧ SmallW left ws) ∧ Below w.heap.size w w' := by
  have hl := hf.1
  unfold maxLen at hl
  by_cases hc : left - (ws.length : Int) < 0
  · go_enter Tryz.func38, Tryz.ntmps38
    go_wp2_with fail
    go_ret
    exact ⟨-1, rfl, by omega, by omega, fun h => by omega, Below.refl _ _⟩
  · go_enter Tryz.func38, Tryz.ntmps38
    go_wp2_with fail
    go_loopw [1, 5] (fun lf i wr => ∃ (k n : Nat) (q : Int), k ≤ ws.length ∧ i = .int .i64 k ∧ lf = .int .i64 q ∧ 0 ≤ q ∧ Hid (n = lensW (ws.take k)) ∧ q + (n : Int) ≤ left ∧ (∀ j, (h : j < ws.length) → j < k → SmallI left ws[j]) ∧ Below w.heap.size w wr) (fun _ i _ => ws.length - (intOf i).toNat)
    case atStart => exact ⟨0, 0, _, Nat.zero_le _, rfl, rfl, by omega, rfl, by omega, fun j _ h => by omega, Below.refl _ _⟩
    case round =>
      obtain ⟨k, n, q, hk, rfl, rfl, hq0, HN, hq1, hall, hb⟩ := hrel
      by_cases hlt : k < ws.length
      · obtain ⟨b, o, rfl, hblt, s1, t1, c1, _, hrow⟩ := hr.below hb k hlt
        have HST : Hid (SmallI left ws[k] → ∀ j, (h : j < ws.length) → j < k + 1 → SmallI left ws[j]) := szW_step hall hlt
        have HN2 : Hid (n + (ws[k].length + lens ws[k]) = lensW (ws.take (k + 1))) := by rw [lensW_take hlt, ← HN.out]; rfl
        have k0 : (0 : Int) ≤ (k : Int) := by omega
        have k1 : (k : Int) < (ws.length : Int) := by omega
        clear hall
        go_wp2_with fail
        refine (szItemS_w s1 t1 ws[k] q _ hrow (hf.2 k hlt) hq0 (by omega)).mono ?_
        rintro e w1 ⟨r, rfl, hr0, hr1, hr2, hb1⟩
        have HR2 : Hid (0 ≤ r → r + (ws[k].length : Int) + (lens ws[k] : Int) ≤ q ∧ SmallI q ws[k]) := hr2
        clear hr2
        by_cases hneg : r < 0
        · go_wp2_with fail
          go_ret
          exact ⟨-1, rfl, by omega, by omega, fun h => by omega, hb.trans (hb1.mono hb.size)⟩
        · have hle := (HR2.out (by omega)).1
          go_wp2_with fail
          exact ⟨⟨k + 1, n + (ws[k].length + lens ws[k]), r, by omega, by go_num, rfl, by omega, HN2, by omega, HST.out ((HR2.out (by omega)).2.mono (by omega)), hb.trans (hb1.mono hb.size)⟩, by simp [intOf]; omega⟩
      · have HF : Hid (n = lensW ws) := by rw [HN.out, List.take_of_length_le (by omega)]; rfl
        go_wp2_with fail
        go_ret
        exact ⟨q, rfl, by omega, by omega, fun _ => ⟨by rw [← HF.out]; omega, by omega, fun j hj => hall j hj (by omega)⟩, hb⟩

/-- The windows from place k on, each in blocks of its own. -/
def FromW (w : World) (lo T g : Nat) (ws : List (List ItemL)) (k : Nat) : Prop :=
  ∃ (L U G : Nat → Nat) (f : Nat → Value), w.rowIs g 78 ws.length f ∧
    (∀ j, (h : j < ws.length) → k ≤ j → f j = .slice (some ⟨G j, 0, none⟩) ws[j].length ws[j].length ∧ PartI w (L j) (U j) (G j) ws[j] ws[j].length ∧ lo ≤ L j ∧ L j ≤ G j ∧ G j < U j ∧ U j ≤ T) ∧ ∀ i j, i < j → j < ws.length → U i ≤ L j
theorem PartW.from {w : World} {lo T g : Nat} {ws : List (List ItemL)} (h : PartW w lo T g ws ws.length) : FromW w lo T g ws 0 := by
  obtain ⟨L, U, G, f, h, hf, hd⟩ := h
  exact ⟨L, U, G, f, h, fun j hj _ => hf j hj hj, hd⟩
theorem Span.wide {lo hi lo' hi' : Nat} {w w' : World} (h : Span lo' hi' w w') (h1 : lo ≤ lo') (h2 : hi' ≤ hi) : Span lo hi w w' := ⟨h.os, h.tape, h.output, h.size, fun k hk hn => h.block k hk (by omega)⟩

set_option maxHeartbeats 800000 in
theorem markItemSS_any (g cap lo T : Nat) (ws : List (List ItemL)) (k : Int) (w : World) (hn : ws.length ≤ 1048576) (hgl : g < lo) (hk0 : 0 ≤ k) (hk1 : k ≤ 3000000) (hsum : lensW ws ≤ 1048576) (hs : SmallW 1048576 ws) (hp : PartW w lo T g ws ws.length) :
    Calls Tryz.prog 58 #[.slice (some ⟨g, 0, none⟩) ws.length cap, .int .i64 k] w fun e w' => (∃ k' : Int, e = .returned (.int .i64 k') ∧ 0 ≤ k' ∧ k' ≤ 6000000) ∧ Span lo T w w' := by
  have HS : Hid (SmallW 1048576 ws) := hs
  have hfr := hp.from
  clear hs hp
  go_enter Tryz.func58, Tryz.ntmps58
  go_wp2_with fail
  go_loopw [1, 5] (fun kv i wr => ∃ (j n : Nat) (kk : Int), j ≤ ws.length ∧ i = .int .i64 j ∧ kv = .int .i64 kk ∧ 0 ≤ kk ∧ kk ≤ k + 2 * (n : Int) ∧ Hid (n = lensW (ws.take j)) ∧ n ≤ 1048576 ∧ FromW wr lo T g ws j ∧ Span lo T w wr) (fun _ i _ => ws.length - (intOf i).toNat)
  case atStart => exact ⟨0, 0, k, Nat.zero_le _, rfl, rfl, hk0, by omega, rfl, by omega, hfr, Span.refl _ _ _⟩
  case round =>
    obtain ⟨j, n, kk, hj, rfl, rfl, hq0, hq1, HN, hn2, hfw, hsp⟩ := hrel
    clear hfr
    by_cases hlt : j < ws.length
    · obtain ⟨L, U, G, f, hrow, hall, hd⟩ := hfw
      obtain ⟨e1, hpi, l1, l2, l3, l4⟩ := hall j hlt (Nat.le_refl _)
      have c1 := hrow.cell hlt
      rw [e1] at c1
      have j0 : (0 : Int) ≤ (j : Int) := by omega
      have j1 : (j : Int) < (ws.length : Int) := by omega
      have hsm := HS.out.2 j hlt
      have hL1 : ws[j].length ≤ 1048576 := by have := hsm.1; omega
      have HL2 : Hid (∀ i, (h : i < ws[j].length) → ws[j][i].2.length ≤ 1048576) := fun i hi => by have := (hsm.2 i hi).1; omega
      have HN2 : Hid (n + (ws[j].length + lens ws[j]) = lensW (ws.take (j + 1))) := by rw [lensW_take hlt, ← HN.out]; rfl
      have hn3 : n + (ws[j].length + lens ws[j]) ≤ 1048576 := by rw [HN2.out]; exact Nat.le_trans (lensW_take_le ws (j + 1)) hsum
      have HREST : Hid (∀ w', Span (L j) (U j) wr w' → FromW w' lo T g ws (j + 1)) := fun w' hs => by
        refine ⟨L, U, G, f, hrow.of_block (hs.block g hrow.lt (by omega)), fun i hi hij => ?_, hd⟩
        obtain ⟨x1, x2, x3, x4, x5, x6⟩ := hall i hi (by omega)
        exact ⟨x1, x2.span x4 x5 hs (.inr (hd j i (by omega) hi)), x3, x4, x5, x6⟩
      clear hall hsm hd hrow e1
      go_wp2_with fail
      refine (markItemS_any (G j) ws[j].length (L j) (U j) ws[j] kk _ hL1 l2 l3 hq0 (by omega) HL2.out hpi).mono ?_
      rintro e w1 ⟨rfl, _, s1⟩
      have hfw1 := HREST.out w1 s1
      clear HREST
      go_wp2_with fail
      exact ⟨⟨j + 1, n + (ws[j].length + lens ws[j]), _, by omega, by go_num, rfl, by omega, by omega, HN2, hn3, hfw1, hsp.trans (s1.wide l1 l4)⟩, by simp [intOf]; omega⟩
    · go_wp2_with fail
      go_ret
      exact ⟨⟨kk, rfl, hq0, by omega⟩, hsp⟩

set_option maxHeartbeats 800000 in
theorem markIntS_any (b cap : Nat) (l : List Int) (k : Int) (w : World) (hn : l.length ≤ 1048576) (hk0 : 0 ≤ k) (hk1 : k ≤ 10000000) (ho : PartZ w b l l.length) :
    Calls Tryz.prog 33 #[.slice (some ⟨b, 0, none⟩) l.length cap, .int .i64 k] w fun e w' => e = .returned (.int .i64 (k + (l.length : Int))) ∧ But b w w' := by
  obtain ⟨f, hf, _⟩ := ho
  have hp : ∃ f, w.rowIs b 3 l.length f := ⟨f, hf⟩
  clear hf
  go_enter Tryz.func33, Tryz.ntmps33
  go_wp2_with fail
  go_loopw [1, 5] (fun kk i wr => ∃ j : Nat, j ≤ l.length ∧ i = .int .i64 j ∧ kk = .int .i64 (k + (j : Int)) ∧ (∃ f, wr.rowIs b 3 l.length f) ∧ But b w wr) (fun _ i _ => l.length - (intOf i).toNat)
  case atStart => exact ⟨0, Nat.zero_le _, rfl, by simp, hp, But.refl _ _⟩
  case round =>
    obtain ⟨j, hj, rfl, rfl, ⟨f, hpj⟩, hb⟩ := hrel
    by_cases hlt : j < l.length
    · have hv0 := hpj.cell hlt
      have hz0 := hpj.frozen j
      have j0 : (0 : Int) ≤ (j : Int) := by omega
      have j1 : (j : Int) < (l.length : Int) := by omega
      go_wp2_with fail
      exact ⟨⟨j + 1, by omega, by go_num, by congr 1; omega, ⟨_, hpj.set _ _⟩, hb.setCell _ _⟩, by simp [intOf]; omega⟩
    · obtain rfl : j = l.length := by omega
      go_wp2_with fail
      go_ret
      exact ⟨rfl, hb⟩

end Go.Proofs.YtpfhegengmlkmacGreatDoor
