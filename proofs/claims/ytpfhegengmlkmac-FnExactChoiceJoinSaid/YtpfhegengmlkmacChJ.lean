/- Walks: agrees, least of choices. -/
import Derived.Test.YtpfhegengmlkmacChI
namespace Go.Proofs.Ytpfhegengmlkmac
open Go.RowKit Go.BigFrame
set_option maxRecDepth 100000

/-- The lists of spots are such as sources have, each of two at least. -/
def ShW (ws : List (List ItemL)) (sh : List (List Spot)) : Prop := SharedP ws sh ∧ (∀ src ∈ sh, 1 < src.length ∧ src.length ≤ 1000) ∧ sh.length ≤ 1000

/-- The first spots of a source have what its first spot has. -/
def SameTo (ws : List (List ItemL)) (ps : List Int) (src : List Spot) (n : Nat) : Prop := ∀ i, (h : i < src.length) → i < n → ∀ h0 : 0 < src.length, verM ws ps src[i] = verM ws ps src[0]
theorem sameTo_step {ws : List (List ItemL)} {ps : List Int} {src : List Spot} {n : Nat} (H : SameTo ws ps src n) (hn : n < src.length) (h0 : 0 < src.length) (h : verM ws ps src[n] = verM ws ps src[0]) : SameTo ws ps src (n + 1) := fun i hi hlt _ => by
  by_cases e : i = n
  · subst e; exact h
  · exact H i hi (by omega) h0
theorem agW_same {ws : List (List ItemL)} {ps : List Int} {sh : List (List Spot)} (hok : OkW ws) (hl : ps.length = ws.length) (hin : InW ws ps) (hsh : SharedP ws sh) (H : ∀ j, (h : j < sh.length) → SameTo ws ps sh[j] sh[j].length) : AgW ws ps := by
  rw [agW_iff hok hl hin hsh]
  intro src hs p hp q hq
  obtain ⟨j, hj, rfl⟩ := List.mem_iff_getElem.1 hs
  obtain ⟨x, hx, rfl⟩ := List.mem_iff_getElem.1 hp
  obtain ⟨y, hy, rfl⟩ := List.mem_iff_getElem.1 hq
  rw [H j hj x hx hx (by omega), H j hj y hy hy (by omega)]
theorem agW_not {ws : List (List ItemL)} {ps : List Int} {sh : List (List Spot)} (hok : OkW ws) (hl : ps.length = ws.length) (hin : InW ws ps) (hsh : SharedP ws sh) {j i : Nat} (hj : j < sh.length) (hi : i < sh[j].length) (h0 : 0 < sh[j].length) (h : verM ws ps sh[j][i] ≠ verM ws ps sh[j][0]) : ¬ AgW ws ps := fun hA =>
  h ((agW_iff hok hl hin hsh).1 hA sh[j] (List.getElem_mem hj) _ (List.getElem_mem hi) _ (List.getElem_mem h0))

/-- What version answers at a spot of the shared ones, at any world behind. -/
theorem version_lat {W0 W : World} {b : Nat} {ws : List (List ItemL)} {sh : List (List Spot)} {a' : Option Addr} {cap' : Nat} {ps : List Int} (h : ChB W0 W b ws sh) (hW : Below W0.heap.size W0 W) (hok : OkW ws) (hl : ps.length = ws.length) (hin : InW ws ps) (hr' : RowZ W a' ps) (hsh : SharedP ws sh) {src : List Spot} (hs : src ∈ sh) {p : Spot} (hp : p ∈ src) (n : Lat W) :
    Calls Try.prog 86 #[.pointer (some ⟨b, 0, none⟩), .slice a' ps.length cap', .agg #[.int .i64 (p.1 : Int), .int .i64 (p.2 : Int)]] n.w fun e w' => e = .returned (.int .i64 (verM ws ps p)) ∧ Below n.w.heap.size n.w w' := by
  obtain ⟨s, hall⟩ := hsh.1 src hs
  exact version_any W0 n.w b ws sh a' cap' ps p s (h.below n.h) (hW.trans (n.h.mono hW.size)) hok hl hin (hr'.below n.h) (hall p hp)

set_option maxHeartbeats 1200000 in
theorem agrees_any (W0 w : World) (b : Nat) (ws : List (List ItemL)) (sh : List (List Spot)) (a' : Option Addr) (cap' : Nat) (ps : List Int) (h : ChB W0 w b ws sh) (hW : Below W0.heap.size W0 w) (hok : OkW ws) (hl : ps.length = ws.length) (hin : InW ws ps) (hr' : RowZ w a' ps) (hsh : ShW ws sh) :
    Calls Try.prog 60 #[.pointer (some ⟨b, 0, none⟩), .slice a' ps.length cap'] w fun e w' => IsB (AgW ws ps) e ∧ Below w.heap.size w w' := by
  have HIN : Hid (InW ws ps) := hin
  have HOK : Hid (OkW ws) := hok
  have HSH : Hid (ShW ws sh) := hsh
  have HC : Hid (ChB W0 w b ws sh) := h
  have HL : Hid (ps.length = ws.length) := hl
  have HZ : Hid (RowZ w a' ps) := hr'
  have hshl := hsh.2.2
  obtain ⟨hb, a, c, a2, c2, e0, hc, e1, hc2, hv, hg⟩ := h
  clear hin hok hsh hv hc hl hr'
  go_enter Try.func60, Try.ntmps60
  go_wp2_with fail
  go_loopw [14] (fun i wr => ∃ k : Nat, k ≤ sh.length ∧ i = .int .i64 k ∧ Hid (∀ j, (h : j < sh.length) → j < k → SameTo ws ps sh[j] sh[j].length) ∧ Below w.heap.size w wr) (fun i _ => sh.length - (intOf i).toNat)
  case atStart => exact ⟨0, Nat.zero_le _, rfl, fun _ _ h => absurd h (Nat.not_lt_zero _), Below.refl _ _⟩
  case round =>
    obtain ⟨k, hk, rfl, HI, hbl⟩ := hrel
    by_cases hlt : k < sh.length
    · obtain ⟨b1, o1, rfl, hb1, s1, t1, f1, ht1, hp⟩ := hg.below hbl k hlt
      have k0 : (0 : Int) ≤ (k : Int) := by omega
      have k1 : (k : Int) < (sh.length : Int) := by omega
      have hsrc := HSH.out.2.1 sh[k] (List.getElem_mem hlt)
      have hs1 := hsrc.1
      have hs2 := hsrc.2
      have hmem : sh[k] ∈ sh := List.getElem_mem hlt
      clear hsrc
      go_wp2_with fail
      go_loopw [20] (fun i2 wr2 => ∃ j : Nat, j ≤ sh[k].length ∧ i2 = .int .i64 j ∧ Hid (SameTo ws ps sh[k] j) ∧ Below wr.heap.size wr wr2) (fun i2 _ => sh[k].length - (intOf i2).toNat)
      case atStart => exact ⟨0, Nat.zero_le _, rfl, fun _ _ h => absurd h (Nat.not_lt_zero _), Below.refl _ _⟩
      case round =>
        obtain ⟨j, hj, rfl, HJ, hbl2⟩ := hrel
        have B2 : Below w.heap.size w wr := hbl.trans (hbl2.mono hbl.size)
        by_cases hjlt : j < sh[k].length
        · obtain ⟨b2, o2, rfl, hb2, f2, f3⟩ := hp.below hbl2 j hjlt
          obtain ⟨b3, o3, e3, _, f4, f5⟩ := hp.below hbl2 0 (by omega)
          cases e3
          have j0 : (0 : Int) ≤ (j : Int) := by omega
          have j1 : (j : Int) < (sh[k].length : Int) := by omega
          have j2 : (0 : Int) < (sh[k].length : Int) := by omega
          go_wp2_with fail
          simp only [Nat.zero_mul, Nat.add_zero] at f4 f5
          have hb0 : Below wr.heap.size wr (wr.alloc (.cells #[.int .i64 (sh[k][j].1 : Int), .int .i64 (sh[k][j].2 : Int)] 119)) := (Below.refl _ _).alloc (Nat.le_refl _) _
          have hlt0 := box_lt wr (.cells #[.int .i64 (sh[k][j].1 : Int), .int .i64 (sh[k][j].2 : Int)] 119)
          have d0 := box0 wr (.int .i64 (sh[k][j].1 : Int)) (.int .i64 (sh[k][j].2 : Int)) 119
          have d1 := box1 wr (.int .i64 (sh[k][j].1 : Int)) (.int .i64 (sh[k][j].2 : Int)) 119
          generalize wr.alloc (.cells #[.int .i64 (sh[k][j].1 : Int), .int .i64 (sh[k][j].2 : Int)] 119) = W at *
          have B3 : Below w.heap.size w W := B2.trans (hb0.mono B2.size)
          have hne := Lat.some W
          have n0 : ∀ n : Lat W, n.w.cell? ⟨wr.heap.size, 0, none⟩ = some (.int .i64 (sh[k][j].1 : Int)) := fun n => n.cell hlt0 d0
          have n1 : ∀ n : Lat W, n.w.cell? ⟨wr.heap.size, 1, none⟩ = some (.int .i64 (sh[k][j].2 : Int)) := fun n => n.cell hlt0 d1
          have n2 : ∀ n : Lat W, n.w.cell? ⟨b2, o2, none⟩ = some (.int .i64 (sh[k][0].1 : Int)) := fun n => n.cell (Nat.lt_of_lt_of_le hb2 hb0.size) (cell_on hb0 hb2 f4)
          have n3 : ∀ n : Lat W, n.w.cell? ⟨b2, o2 + 1, none⟩ = some (.int .i64 (sh[k][0].2 : Int)) := fun n => n.cell (Nat.lt_of_lt_of_le hb2 hb0.size) (cell_on hb0 hb2 f5)
          have c1 : ∀ n : Lat W, Calls Try.prog 86 #[.pointer (some ⟨b, 0, none⟩), .slice a' ps.length cap', .agg #[.int .i64 (sh[k][j].1 : Int), .int .i64 (sh[k][j].2 : Int)]] n.w fun e w' => e = .returned (.int .i64 (verM ws ps sh[k][j])) ∧ Below n.w.heap.size n.w w' :=
            fun n => version_lat (HC.out.below B3) (hW.trans (B3.mono hW.size)) HOK.out HL.out HIN.out (HZ.out.below B3) HSH.out.1 hmem (List.getElem_mem hjlt) n
          have c3 : ∀ n : Lat W, Calls Try.prog 86 #[.pointer (some ⟨b, 0, none⟩), .slice a' ps.length cap', .agg #[.int .i64 (sh[k][0].1 : Int), .int .i64 (sh[k][0].2 : Int)]] n.w fun e w' => e = .returned (.int .i64 (verM ws ps sh[k][0])) ∧ Below n.w.heap.size n.w w' :=
            fun n => version_lat (HC.out.below B3) (hW.trans (B3.mono hW.size)) HOK.out HL.out HIN.out (HZ.out.below B3) HSH.out.1 hmem (List.getElem_mem (by omega)) n
          clear f2 f3 f4 f5 d0 d1
          have HE : Hid (verM ws ps sh[k][j] = verM ws ps sh[k][0] → SameTo ws ps sh[k] (j + 1)) := fun he => sameTo_step HJ.out hjlt (by omega) he
          have HNE : Hid (¬ verM ws ps sh[k][j] = verM ws ps sh[k][0] → ¬ AgW ws ps) := fun he => agW_not HOK.out HL.out HIN.out HSH.out.1 hlt hjlt (by omega) he
          clear HIN HOK HSH HC HL HZ HJ hp f1 hmem hg
          generalize verM ws ps sh[k][j] = va at *
          generalize verM ws ps sh[k][0] = vb at *
          generalize (sh[k][j].1 : Int) = pa at *
          generalize (sh[k][j].2 : Int) = pb at *
          generalize (sh[k][0].1 : Int) = qa at *
          generalize (sh[k][0].2 : Int) = qb at *
          by_cases he : va = vb
          · have HST : Hid (SameTo ws ps sh[k] (j + 1)) := HE.out he
            clear HE HNE
            have he' : (va != vb) = false := by rw [bne_eq_false_iff_eq]; exact he
            refine wp_region_lat (by kernel_rfl) (by kernel_rfl) ?_
            iterate 4 (go_big_quiet_step ((go_at_call 86; exact Calls.lat_of (c1 _))))
            iterate 7 (go_big_quiet_step ((go_at_call 86; exact Calls.lat_of (c3 _))))
            refine wpQuiet_nil ?_
            rintro _ ⟨nq, rfl⟩
            go_wp2_with fail
            exact ⟨⟨j + 1, by omega, by go_num, HST, (hbl2.trans (hb0.mono hbl2.size)).trans (nq.h.mono (Nat.le_trans hbl2.size hb0.size))⟩, by simp [intOf]; omega⟩
          · have HN : Hid (¬ AgW ws ps) := HNE.out he
            clear HE HNE
            have he' : (va != vb) = true := by rw [bne_iff_ne]; exact he
            refine wp_region_lat (by kernel_rfl) (by kernel_rfl) ?_
            iterate 4 (go_big_quiet_step ((go_at_call 86; exact Calls.lat_of (c1 _))))
            iterate 7 (go_big_quiet_step ((go_at_call 86; exact Calls.lat_of (c3 _))))
            refine wpQuiet_nil ?_
            rintro _ ⟨nq, rfl⟩
            go_wp2_with fail
            go_ret
            exact ⟨isB_false HN.out, B3.trans (nq.h.mono B3.size)⟩
        · have HST : Hid (∀ q, (h : q < sh.length) → q < k + 1 → SameTo ws ps sh[q] sh[q].length) := fun q hq hlt' => by
            by_cases e : q = k
            · subst e
              exact fun i hi _ h0 => HJ.out i hi (by omega) h0
            · exact HI.out q hq (by omega)
          go_wp2_with fail
          exact ⟨⟨k + 1, by omega, by go_num, HST, B2⟩, by simp [intOf]; omega⟩
    · have HF : Hid (AgW ws ps) := agW_same HOK.out HL.out HIN.out HSH.out.1 (fun j hj => HI.out j hj (by omega))
      go_wp2_with fail
      go_ret
      exact ⟨isB_true HF.out, hbl⟩

end Go.Proofs.Ytpfhegengmlkmac
