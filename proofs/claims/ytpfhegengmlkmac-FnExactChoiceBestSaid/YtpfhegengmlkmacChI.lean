/- Walks: has, version, agrees of choices. -/
import Derived.Test.YtpfhegengmlkmacChW
namespace Go.Proofs.Ytpfhegengmlkmac
open Go.RowKit Go.BigFrame
set_option maxRecDepth 100000

set_option maxHeartbeats 1600000 in
theorem has_any (W0 w : World) (b : Nat) (ws : List (List ItemL)) (sh : List (List Spot)) (a' : Option Addr) (cap' : Nat) (ps : List Int) (h : ChB W0 w b ws sh) (h6 : ws.length ≤ 6) (hp : ps.length ≤ maxLen) (hr' : RowZ w a' ps) :
    Calls Try.prog 59 #[.pointer (some ⟨b, 0, none⟩), .slice a' ps.length cap'] w fun e w' => IsB (ps.length = ws.length ∧ InW ws ps) e ∧ Below w.heap.size w w' := by
  have hpl : ps.length ≤ 2 ^ 63 - 1 := hp
  clear hp
  obtain ⟨hb, a, c, a2, c2, e0, hc, e1, hc2, hv, hg⟩ := h
  by_cases hlen : ps.length = ws.length
  · have hlen' : ((ps.length : Int) != (ws.length : Int)) = false := by rw [bne_eq_false_iff_eq]; omega
    have HL : Hid (ps.length = ws.length) := hlen
    have hle1 : ps.length ≤ ws.length := by omega
    clear hlen
    go_enter Try.func59, Try.ntmps59
    go_wp2_with fail
    go_loopw [17] (fun i wr => ∃ k : Nat, k ≤ ps.length ∧ i = .int .i64 k ∧ Hid (∀ j, (h : j < ps.length) → j < k → 0 ≤ ps[j] ∧ ps[j] < ((ws.getD j []).length : Int)) ∧ wr = w) (fun i _ => ps.length - (intOf i).toNat)
    case atStart => exact ⟨0, Nat.zero_le _, rfl, fun _ _ h => absurd h (Nat.not_lt_zero _), rfl⟩
    case round =>
      obtain ⟨k, hk, rfl, HI, rfl⟩ := hrel
      by_cases hlt : k < ps.length
      · have hwk : k < ws.length := by omega
        obtain ⟨g, o, rfl, hwo⟩ := hv k hwk
        obtain ⟨c1, p1, rfl, gc, z1⟩ := hr' k hlt
        have k0 : (0 : Int) ≤ (k : Int) := by omega
        have k1 : (k : Int) < (ps.length : Int) := by omega
        have k2 : (k : Int) < (ws.length : Int) := by omega
        have HG : Hid (ws.getD k [] = ws[k]) := getD_at hwk
        by_cases hn : ps[k] < 0
        · have HN : Hid (¬ (ps.length = ws.length ∧ InW ws ps)) := fun h => by have := (h.2.2 k hlt).1; omega
          clear HG
          go_wp2_with fail
          go_ret
          exact ⟨isB_false HN.out, Below.refl _ _⟩
        have hn' : decide (ps[k] < 0) = false := decide_eq_false hn
        go_wp2_with fail
        refine (size_off W0 _ g (o + k * 10) ws[k] hwo).mono ?_
        rintro e w2 ⟨rfl, rfl⟩
        by_cases hq : ps[k] < (ws[k].length : Int)
        · have HST : Hid (∀ j, (h : j < ps.length) → j < k + 1 → 0 ≤ ps[j] ∧ ps[j] < ((ws.getD j []).length : Int)) := fun j hj hlt' => by
            by_cases e : j = k
            · subst e; rw [HG.out]; exact ⟨by omega, hq⟩
            · exact HI.out j hj (by omega)
          have hq' : decide ((ws[k].length : Int) ≤ ps[k]) = false := decide_eq_false (by omega)
          clear HG
          go_wp2_with fail
          exact ⟨⟨k + 1, by omega, by go_num, HST, by trivial⟩, by simp [intOf]; omega⟩
        · have HN : Hid (¬ (ps.length = ws.length ∧ InW ws ps)) := fun h => by have h3 := (h.2.2 k hlt).2; rw [HG.out] at h3; omega
          have hq' : decide ((ws[k].length : Int) ≤ ps[k]) = true := decide_eq_true (by omega)
          clear HG
          go_wp2_with fail
          go_ret
          exact ⟨isB_false HN.out, Below.refl _ _⟩
      · have HF : Hid (ps.length = ws.length ∧ InW ws ps) := ⟨HL.out, hle1, fun j hj => HI.out j hj (by omega)⟩
        go_wp2_with fail
        go_ret
        exact ⟨isB_true HF.out, Below.refl _ _⟩
  · have hlen' : ((ps.length : Int) != (ws.length : Int)) = true := by rw [bne_iff_ne]; omega
    go_enter Try.func59, Try.ntmps59
    go_wp2_with fail
    go_ret
    exact ⟨isB_false (fun h => hlen h.1), Below.refl _ _⟩

theorem ver_facts {ws : List (List ItemL)} {ps : List Int} (hok : OkW ws) (hl : ps.length = ws.length) (hin : InW ws ps) {s : ByteArray} {p : Spot} (hs : SpotOf ws s p) : ∃ (hw : p.1 < ws.length) (_ : p.1 < ps.length) (q : Nat) (hq : q < ws[p.1].length) (hm : p.2 < ws[p.1][q].2.length), ps[p.1] = (q : Int) ∧ verM ws ps p = (ws[p.1][q].2[p.2]).2 := by
  have hpw := hs.1
  have hpp : p.1 < ps.length := by omega
  obtain ⟨hmk, _, hver, _, _⟩ := verM_eq hok hl hin hs
  obtain ⟨_, q, hqe, hq, hpk⟩ := in_nat hin hpp
  have hm : p.2 < ws[p.1][q].2.length := by rw [← hpk]; exact hmk
  refine ⟨hpw, hpp, q, hq, hm, hqe, ?_⟩
  rw [hver]
  congr 1
  simp only [hpk]

set_option maxHeartbeats 1600000 in
theorem version_any (W0 w : World) (b : Nat) (ws : List (List ItemL)) (sh : List (List Spot)) (a' : Option Addr) (cap' : Nat) (ps : List Int) (p : Spot) (s : ByteArray) (h : ChB W0 w b ws sh) (hW : Below W0.heap.size W0 w) (hok : OkW ws) (hl : ps.length = ws.length) (hin : InW ws ps) (hr' : RowZ w a' ps) (hs : SpotOf ws s p) :
    Calls Try.prog 86 #[.pointer (some ⟨b, 0, none⟩), .slice a' ps.length cap', .agg #[.int .i64 (p.1 : Int), .int .i64 (p.2 : Int)]] w fun e w' => e = .returned (.int .i64 (verM ws ps p)) ∧ Below w.heap.size w w' := by
  obtain ⟨hb, a, c, a2, c2, e0, hc, e1, hc2, hv, hg⟩ := h
  obtain ⟨hpw, hpp, q, hq, hmk2, hqe, hver⟩ := ver_facts hok hl hin hs
  have HV : Hid (verM ws ps p = (ws[p.1][q].2[p.2]).2) := hver
  have h6 := hok.2.1
  obtain ⟨g, o, rfl, hwo⟩ := hv p.1 hpw
  obtain ⟨c1, p1, rfl, gc, z1⟩ := hr' p.1 hpp
  have h4 := hwo.2.1
  obtain ⟨y0, yv, y1, sa, sc, rfl, hcap, hrow⟩ := hwo.2.2.2.2 q hq
  rw [hqe] at z1
  obtain ⟨bm, om, rfl, hbm, _, m1⟩ := hrow p.2 hmk2
  clear hver hqe hv hg hs hin
  have hgl := hwo.1
  have c8 := hwo.2.2.1
  have hz0 := hW.size
  go_enter Try.func86, Try.ntmps86
  go_wp2_with fail
  have hb0 : Below w.heap.size w (w.alloc (.cells #[.int .i64 (p.1 : Int), .int .i64 (p.2 : Int)] 119)) := (Below.refl _ _).alloc (Nat.le_refl _) _
  have hlt0 := box_lt w (.cells #[.int .i64 (p.1 : Int), .int .i64 (p.2 : Int)] 119)
  have d0 := box0 w (.int .i64 (p.1 : Int)) (.int .i64 (p.2 : Int)) 119
  have d1 := box1 w (.int .i64 (p.1 : Int)) (.int .i64 (p.2 : Int)) 119
  generalize w.alloc (.cells #[.int .i64 (p.1 : Int), .int .i64 (p.2 : Int)] 119) = W at *
  have hne := Lat.some W
  have n0 : ∀ n : Lat W, n.w.cell? ⟨b, 0, none⟩ = some (.slice (some ⟨g, o, none⟩) ws.length c) := fun n => n.cell (Nat.lt_of_lt_of_le hb hb0.size) (cell_on hb0 hb e0)
  have n1 : ∀ n : Lat W, n.w.cell? ⟨w.heap.size, 0, none⟩ = some (.int .i64 (p.1 : Int)) := fun n => n.cell hlt0 d0
  have n2 : ∀ n : Lat W, n.w.cell? ⟨w.heap.size, 1, none⟩ = some (.int .i64 (p.2 : Int)) := fun n => n.cell hlt0 d1
  have n3 : ∀ n : Lat W, n.w.cell? ⟨c1, p1 + p.1, none⟩ = some (.int .i64 (q : Int)) := fun n => n.cell (Nat.lt_of_lt_of_le gc hb0.size) (cell_on hb0 gc z1)
  have hbm' : bm < w.heap.size := Nat.lt_of_lt_of_le hbm hz0
  have n4 : ∀ n : Lat W, n.w.cell? ⟨bm, om + p.2 * 2 + 1, none⟩ = some (.int .i64 ((ws[p.1][q]).2[p.2]).2) := fun n => n.cell (Nat.lt_of_lt_of_le hbm' hb0.size) (cell_on hb0 hbm' (cell_on hW hbm m1))
  have ce : ∀ n : Lat W, Calls Try.prog 54 #[.pointer (some ⟨g, o + p.1 * 10, none⟩), .int .i64 q] n.w fun e w'' => e = .returned (.agg #[.int .i64 (ws[p.1][q]).1, .slice (some ⟨bm, om, none⟩) (ws[p.1][q]).2.length sc]) ∧ Below n.w.heap.size n.w w'' := fun n => by
    have hx : ∀ {i : Nat} {v : Value}, w.cell? ⟨g, i, none⟩ = some v → n.w.cell? ⟨g, i, none⟩ = some v := fun h => n.cell (Nat.lt_of_lt_of_le hgl hb0.size) (cell_on hb0 hgl h)
    exact at_val n.w g (o + p.1 * 10) q _ _ _ _ (Nat.lt_of_lt_of_le (Nat.lt_of_lt_of_le hgl hb0.size) n.h.size) (by omega) (hx c8) (hx y0) (hx y1)
  have i0 : (0 : Int) ≤ (p.1 : Int) := by omega
  have i1 : (p.1 : Int) < (ws.length : Int) := by omega
  have i2 : (p.1 : Int) < (ps.length : Int) := by omega
  have i3 : (0 : Int) ≤ (p.2 : Int) := by omega
  have i4 : (p.2 : Int) < ((ws[p.1][q]).2.length : Int) := by omega
  have hfd := field_stamp (ws[p.1][q]).1 (some ⟨bm, om, none⟩) (ws[p.1][q]).2.length sc
  clear e0 e1 z1 m1 y0 y1 d0 d1 hrow hwo c8
  refine wp_region_lat (by kernel_rfl) (by kernel_rfl) ?_
  repeat (go_big_quiet_step ((go_at_call 54; exact Calls.lat_of (ce _))))
  refine wpQuiet_nil ?_
  rintro _ ⟨nq, rfl⟩
  go_wp2_with fail
  go_ret
  exact ⟨by rw [HV.out]; rfl, hb0.trans (nq.h.mono hb0.size)⟩

end Go.Proofs.Ytpfhegengmlkmac
