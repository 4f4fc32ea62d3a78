/- Texts of this claim, one behind the other. -/
import Derived.Sort.KeysCollected
import Derived.Test.YtpfhegengmlkmaaGreatZK9
import Derived.Test.YtpfhegengmlkmaaGreatZK25
namespace Go.Proofs.YtpfhegengmlkmaaGreat
open Go.RowKit Go.BigFrame
set_option maxRecDepth 100000

/-- The lists of spots are such as sources have, each of two at least. -/
def ShW (ws : List (List ItemL)) (sh : List (List Spot)) : Prop := SharedP ws sh ∧ (∀ src ∈ sh, 1 < src.length ∧ src.length ≤ 1000) ∧ sh.length ≤ 1000

/-- The first spots of a source have what its first spot has. -/
def SameTo (ws : List (List ItemL)) (ps : List Int) (src : List Spot) (n : Nat) : Prop := ∀ i, (h : i < src.length) → i < n → ∀ h0 : 0 < src.length, verM ws ps src[i] = verM ws ps src[0]
theorem sameTo_step {ws : List (List ItemL)} {ps : List Int} {src : List Spot} {n : Nat} (H : SameTo ws ps src n) (hn : n < src.length) (h0 : 0 < src.length) (h : verM ws ps src[n] = verM ws ps src[0]) : SameTo ws ps src (n + 1) := fun i hi hlt _ => by
  by_cases e : i = n
  · subst e; exact h
  · exact H i hi (by omega) h0
theorem agW_same {ws : List (List ItemL)} {ps : List Int} {sh : List (List Spot)} (hok : OkW ws) (hl : ps.length = ws.length) (hin : InW ws ps) (hsh : SharedP ws sh) (H : ∀ j, (h : j < sh.length) → SameTo ws ps sh[j] sh[j].length) : AgW ws ps := by
  rw [agW_iff hok hl hin hsh]
  intro src hs p hp q hq
  obtain ⟨j, hj, rfl⟩ := List.mem_iff_getElem.1 hs
  obtain ⟨x, hx, rfl⟩ := List.mem_iff_getElem.1 hp
  obtain ⟨y, hy, rfl⟩ := List.mem_iff_getElem.1 hq
  rw [H j hj x hx hx (by omega), H j hj y hy hy (by omega)]
theorem agW_not {ws : List (List ItemL)} {ps : List Int} {sh : List (List Spot)} (hok : OkW ws) (hl : ps.length = ws.length) (hin : InW ws ps) (hsh : SharedP ws sh) {j i : Nat} (hj : j < sh.length) (hi : i < sh[j].length) (h0 : 0 < sh[j].length) (h : verM ws ps sh[j][i] ≠ verM ws ps sh[j][0]) : ¬ AgW ws ps := fun hA =>
  h ((agW_iff hok hl hin hsh).1 hA sh[j] (List.getElem_mem hj) _ (List.getElem_mem hi) _ (List.getElem_mem h0))

/-- What version answers at a spot of the shared ones, at any world behind. -/
theorem version_lat {W0 W : World} {b : Nat} {ws : List (List ItemL)} {sh : List (List Spot)} {a' : Option Addr} {cap' : Nat} {ps : List Int} (h : ChB W0 W b ws sh) (hW : Below W0.heap.size W0 W) (hok : OkW ws) (hl : ps.length = ws.length) (hin : InW ws ps) (hr' : RowZ W a' ps) (hsh : SharedP ws sh) {src : List Spot} (hs : src ∈ sh) {p : Spot} (hp : p ∈ src) (n : Lat W) :
    Calls Tryz.prog 46 #[.pointer (some ⟨b, 0, none⟩), .slice a' ps.length cap', .agg #[.int .i64 (p.1 : Int), .int .i64 (p.2 : Int)]] n.w fun e w' => e = .returned (.int .i64 (verM ws ps p)) ∧ Below n.w.heap.size n.w w' := by
  obtain ⟨s, hall⟩ := hsh.1 src hs
  exact version_any W0 n.w b ws sh a' cap' ps p s (h.below n.h) (hW.trans (n.h.mono hW.size)) hok hl hin (hr'.below n.h) (hall p hp)

set_option maxHeartbeats 1200000 in
theorem agrees_any (W0 w : World) (b : Nat) (ws : List (List ItemL)) (sh : List (List Spot)) (a' : Option Addr) (cap' : Nat) (ps : List Int) (h : ChB W0 w b ws sh) (hW : Below W0.heap.size W0 w) (hok : OkW ws) (hl : ps.length = ws.length) (hin : InW ws ps) (hr' : RowZ w a' ps) (hsh : ShW ws sh) :
    Calls Tryz.prog 26 #[.pointer (some ⟨b, 0, none⟩), .slice a' ps.length cap'] w fun e w' => IsB (AgW ws ps) e ∧ Below w.heap.size w w' := by
  have HIN : Hid (InW ws ps) := hin
  have HOK : Hid (OkW ws) := hok
  have HSH : Hid (ShW ws sh) := hsh
  have HC : Hid (ChB W0 w b ws sh) := h
  have HL : Hid (ps.length = ws.length) := hl
  have HZ : Hid (RowZ w a' ps) := hr'
  have hshl := hsh.2.2
  obtain ⟨hb, a, c, a2, c2, e0, hc, e1, hc2, hv, hg⟩ := h
  clear hin hok hsh hv hc hl hr'
  go_enter Tryz.func26, Tryz.ntmps26
  go_wp2_with fail
  go_loopw [14] (fun i wr => ∃ k : Nat, k ≤ sh.length ∧ i = .int .i64 k ∧ Hid (∀ j, (h : j < sh.length) → j < k → SameTo ws ps sh[j] sh[j].length) ∧ Below w.heap.size w wr) (fun i _ => sh.length - (intOf i).toNat)
  case atStart => exact ⟨0, Nat.zero_le _, rfl, fun _ _ h => absurd h (Nat.not_lt_zero _), Below.refl _ _⟩
  case round =>
    obtain ⟨k, hk, rfl, HI, hbl⟩ := hrel
    by_cases hlt : k < sh.length
    · obtain ⟨b1, o1, rfl, hb1, s1, t1, f1, ht1, hp⟩ := hg.below hbl k hlt
      have k0 : (0 : Int) ≤ (k : Int) := by omega
      have k1 : (k : Int) < (sh.length : Int) := by omega
      have hsrc := HSH.out.2.1 sh[k] (List.getElem_mem hlt)
      have hs1 := hsrc.1
      have hs2 := hsrc.2
      have hmem : sh[k] ∈ sh := List.getElem_mem hlt
      clear hsrc
      go_wp2_with fail
      go_loopw [20] (fun i2 wr2 => ∃ j : Nat, j ≤ sh[k].length ∧ i2 = .int .i64 j ∧ Hid (SameTo ws ps sh[k] j) ∧ Below wr.heap.size wr wr2) (fun i2 _ => sh[k].length - (intOf i2).toNat)
      case atStart => exact ⟨0, Nat.zero_le _, rfl, fun _ _ h => absurd h (Nat.not_lt_zero _), Below.refl _ _⟩
      case round =>
        obtain ⟨j, hj, rfl, HJ, hbl2⟩ := hrel
        have B2 : Below w.heap.size w wr := hbl.trans (hbl2.mono hbl.size)
        by_cases hjlt : j < sh[k].length
        · obtain ⟨b2, o2, rfl, hb2, f2, f3⟩ := hp.below hbl2 j hjlt
          obtain ⟨b3, o3, e3, _, f4, f5⟩ := hp.below hbl2 0 (by omega)
          cases e3
          have j0 : (0 : Int) ≤ (j : Int) := by omega
          have j1 : (j : Int) < (sh[k].length : Int) := by omega
          have j2 : (0 : Int) < (sh[k].length : Int) := by omega
          go_wp2_with fail
          simp only [Nat.zero_mul, Nat.add_zero] at f4 f5
          have hb0 : Below wr.heap.size wr (wr.alloc (.cells #[.int .i64 (sh[k][j].1 : Int), .int .i64 (sh[k][j].2 : Int)] 100)) := (Below.refl _ _).alloc (Nat.le_refl _) _
          have hlt0 := box_lt wr (.cells #[.int .i64 (sh[k][j].1 : Int), .int .i64 (sh[k][j].2 : Int)] 100)
          have d0 := box0 wr (.int .i64 (sh[k][j].1 : Int)) (.int .i64 (sh[k][j].2 : Int)) 100
          have d1 := box1 wr (.int .i64 (sh[k][j].1 : Int)) (.int .i64 (sh[k][j].2 : Int)) 100
          generalize wr.alloc (.cells #[.int .i64 (sh[k][j].1 : Int), .int .i64 (sh[k][j].2 : Int)] 100) = W at *
          have B3 : Below w.heap.size w W := B2.trans (hb0.mono B2.size)
          have hne := Lat.some W
          have n0 : ∀ n : Lat W, n.w.cell? ⟨wr.heap.size, 0, none⟩ = some (.int .i64 (sh[k][j].1 : Int)) := fun n => n.cell hlt0 d0
          have n1 : ∀ n : Lat W, n.w.cell? ⟨wr.heap.size, 1, none⟩ = some (.int .i64 (sh[k][j].2 : Int)) := fun n => n.cell hlt0 d1
          have n2 : ∀ n : Lat W, n.w.cell? ⟨b2, o2, none⟩ = some (.int .i64 (sh[k][0].1 : Int)) := fun n => n.cell (Nat.lt_of_lt_of_le hb2 hb0.size) (cell_on hb0 hb2 f4)
          have n3 : ∀ n : Lat W, n.w.cell? ⟨b2, o2 + 1, none⟩ = some (.int .i64 (sh[k][0].2 : Int)) := fun n => n.cell (Nat.lt_of_lt_of_le hb2 hb0.size) (cell_on hb0 hb2 f5)
          have c1 : ∀ n : Lat W, Calls Tryz.prog 46 #[.pointer (some ⟨b, 0, none⟩), .slice a' ps.length cap', .agg #[.int .i64 (sh[k][j].1 : Int), .int .i64 (sh[k][j].2 : Int)]] n.w fun e w' => e = .returned (.int .i64 (verM ws ps sh[k][j])) ∧ Below n.w.heap.size n.w w' :=
            fun n => version_lat (HC.out.below B3) (hW.trans (B3.mono hW.size)) HOK.out HL.out HIN.out (HZ.out.below B3) HSH.out.1 hmem (List.getElem_mem hjlt) n
          have c3 : ∀ n : Lat W, Calls Tryz.prog 46 #[.pointer (some ⟨b, 0, none⟩), .slice a' ps.length cap', .agg #[.int .i64 (sh[k][0].1 : Int), .int .i64 (sh[k][0].2 : Int)]] n.w fun e w' => e = .returned (.int .i64 (verM ws ps sh[k][0])) ∧ Below n.w.heap.size n.w w' :=
            fun n => version_lat (HC.out.below B3) (hW.trans (B3.mono hW.size)) HOK.out HL.out HIN.out (HZ.out.below B3) HSH.out.1 hmem (List.getElem_mem (by omega)) n
          clear f2 f3 f4 f5 d0 d1
          have HE : Hid (verM ws ps sh[k][j] = verM ws ps sh[k][0] → SameTo ws ps sh[k] (j + 1)) := fun he => sameTo_step HJ.out hjlt (by omega) he
          have HNE : Hid (¬ verM ws ps sh[k][j] = verM ws ps sh[k][0] → ¬ AgW ws ps) := fun he => agW_not HOK.out HL.out HIN.out HSH.out.1 hlt hjlt (by omega) he
          clear HIN HOK HSH HC HL HZ HJ hp f1 hmem hg
          generalize verM ws ps sh[k][j] = va at *
          generalize verM ws ps sh[k][0] = vb at *
          generalize (sh[k][j].1 : Int) = pa at *
          generalize (sh[k][j].2 : Int) = pb at *
          generalize (sh[k][0].1 : Int) = qa at *
          generalize (sh[k][0].2 : Int) = qb at *
          by_cases he : va = vb
          · have HST : Hid (SameTo ws ps sh[k] (j + 1)) := HE.out he
            clear HE HNE
            have he' : (va != vb) = false := by rw [bne_eq_false_iff_eq]; exact he
            refine wp_region_lat (by kernel_rfl) (by kernel_rfl) ?_
            iterate 4 (go_big_quiet_step ((go_at_call 46; exact Calls.lat_of (c1 _))))
            iterate 7 (go_big_quiet_step ((go_at_call 46; exact Calls.lat_of (c3 _))))
            refine wpQuiet_nil ?_
            rintro _ ⟨nq, rfl⟩
            go_wp2_with fail
            exact ⟨⟨j + 1, by omega, by go_num, HST, (hbl2.trans (hb0.mono hbl2.size)).trans (nq.h.mono (Nat.le_trans hbl2.size hb0.size))⟩, by simp [intOf]; omega⟩
          · have HN : Hid (¬ AgW ws ps) := HNE.out he
            clear HE HNE
            have he' : (va != vb) = true := by rw [bne_iff_ne]; exact he
            refine wp_region_lat (by kernel_rfl) (by kernel_rfl) ?_
            iterate 4 (go_big_quiet_step ((go_at_call 46; exact Calls.lat_of (c1 _))))
            iterate 7 (go_big_quiet_step ((go_at_call 46; exact Calls.lat_of (c3 _))))
            refine wpQuiet_nil ?_
            rintro _ ⟨nq, rfl⟩
            go_wp2_with fail
            go_ret
            exact ⟨isB_false HN.out, B3.trans (nq.h.mono B3.size)⟩
        · have HST : Hid (∀ q, (h : q < sh.length) → q < k + 1 → SameTo ws ps sh[q] sh[q].length) := fun q hq hlt' => by
            by_cases e : q = k
            · subst e
              exact fun i hi _ h0 => HJ.out i hi (by omega) h0
            · exact HI.out q hq (by omega)
          go_wp2_with fail
          exact ⟨⟨k + 1, by omega, by go_num, HST, B2⟩, by simp [intOf]; omega⟩
    · have HF : Hid (AgW ws ps) := agW_same HOK.out HL.out HIN.out HSH.out.1 (fun j hj => HI.out j hj (by omega))
      go_wp2_with fail
      go_ret
      exact ⟨isB_true HF.out, hbl⟩

end Go.Proofs.YtpfhegengmlkmaaGreat

namespace Go.Proofs.YtpfhegengmlkmaaGreat
open Go.RowKit Go.BigFrame

theorem GrpS.keep {w w' : World} {B b n : Nat} {D : DataW Value} {V : ByteArray → Value} {S : ByteArray → List Spot} (h : GrpS w B b n D V S) (hb : Below w.heap.size w w') : GrpS w' B b n D V S :=
  ⟨h.own.kept (grown_below hb none) (by simp), h.lt, h.eq, h.has, fun s => own_keep (h.row s) hb, h.far⟩

theorem Tryz.infoP : (Tryz.prog.info? 100).map (fun i => (i.zero, i.size, i.bytes)) = some (some (.agg #[.int .i64 0, .int .i64 0]), 2, 16) := by kernel_rfl

theorem wp_append_spot {o : Oper} {a : Act} {w : World} {K : Act → World → Prop} {Q : Exit → Act → World → Prop} (s x : Operand)
    (ho : o.op = .call { callee := .builtin .append, args := #[s, x], argTypes := #[97, 97] }) (base : Nat) (v : Value) (l : List Spot) (hs : a.eval s = v) (hg : GathP w base v l) (hbase : base ≤ w.heap.size)
    (ad : Nat) (p : Spot) (hx : a.eval x = .slice (some ⟨ad, 0, none⟩) 1 1) (c0 : w.cell? ⟨ad, 0, none⟩ = some (.int .i64 (p.1 : Int))) (c1 : w.cell? ⟨ad, 1, none⟩ = some (.int .i64 (p.2 : Int))) (hl : l.length ≤ 1048576)
    (h : ∀ v' w', w'.ownsRow base 100 2 v' (l.length + 1) (scells l ++ [.int .i64 (p.1 : Int), .int .i64 (p.2 : Int)]) → w.grownBy w' v.ownBlock → (v'.ownBlock = v.ownBlock ∨ v'.ownBlock = some w.heap.size) → K (a.put o.dst v') w') : o.wp Tryz.prog a w K Q := by
  obtain ⟨i0, hi, hz0, hz1, hz2⟩ := info_parts Tryz.infoP
  obtain ⟨v', w', hr, h2, h3, _, h5⟩ := run_append_own_at (P := Tryz.prog) w base 97 o.type 100 i0 (.agg #[.int .i64 0, .int .i64 0]) 2 16 Tryz.underlying97 hi hz0 hz1 hz2 rfl (by decide) v l.length (scells l) hg ⟨ad, 0, none⟩ 1 1 [.int .i64 (p.1 : Int), .int .i64 (p.2 : Int)] rfl (by
      intro j u hj
      match j, hj with
      | 0, hj => simp at hj; subst hj; exact c0
      | 1, hj => simp at hj; subst hj; exact c1) (by simp [Value.oneCell']) (by unfold maxLen; omega) (by omega) hbase
  unfold Oper.wp execOp
  simp only [ho, resolve, invoke, builtin, Sem.run_bind, Sem.run_pure, Result.andThen_ok, List.map_toArray, List.map_cons, List.map_nil, hs, hx, hr]
  exact h _ w' h2 h3 h5

theorem Tryz.keyed : Maps.Keyed Tryz.prog 9 := Maps.string_keyed Tryz.underlying9

theorem key_text (s : ByteArray) (hs : s.size ≤ maxLen) : keyOf Tryz.prog 9 (.string s) = some (litS s) := by
  rw [keyOf_string Tryz.underlying9]
  simp [mapKey, Tryz.underlying9, litS, hs]

theorem Tryz.zeroSp (w : World) : (zeroValue 97).run Tryz.prog w = .ok (.slice none 0 0) w := by kernel_rfl

theorem wp_update_spot {o : Oper} {a : Act} {w : World} {K : Act → World → Prop} {Q : Exit → Act → World → Prop} (m x y : Operand) (hop : o.op = Op.mapUpdate 127 m x y) (b n : Nat) (D : DataW Value) (hm : a.eval m = .map (some b)) (hown : w.ownsMap Tryz.prog 9 heldE b n D) (hn : n < maxLen) (s : ByteArray) (hs : s.size ≤ maxLen) (v : Value) (hx : a.eval x = .string s) (hy : a.eval y = v)
    (h : ∀ w', w'.ownsMap Tryz.prog 9 heldE b (n + 1) (D.put (litS s) (.held v)) → w.grownBy w' (some b) → K (a.put o.dst undef) w') : o.wp Tryz.prog a w K Q := by
  obtain ⟨w', hrun, r1, r2⟩ := hown.update Tryz.keyed Tryz.underlying127 hn (key := .string s) (val := v) (kl := litS s) (d := .held v) (ps := []) (key_text s hs) rfl
  unfold Oper.wp
  simp [execOp, hop, hm, hx, hy, hrun, Result.andThen]
  exact h w' r1 r2

theorem lookup_spot {w : World} {b n : Nat} {D : DataW Value} {V : ByteArray → Value} {S : ByteArray → List Spot} {B : Nat} (h : GrpS w B b n D V S) (s : ByteArray) (hs : s.size ≤ maxLen) : (Instr.lookup 127 (.map (some b)) (.string s) false).run Tryz.prog w = .ok (V s) w := by
  obtain ⟨v, ps, hrun, hv⟩ := h.own.lookup Tryz.keyed Tryz.underlying127 (Tryz.zeroSp w) (zd := .held (.slice none 0 0)) (zp := []) rfl (key_text s hs)
  unfold heldE at hv
  simp only [Option.some.injEq, Prod.mk.injEq] at hv
  rw [h.eq s] at hv
  obtain rfl : v = V s := by simpa using hv.1
  exact hrun

/-- All spots ahead of place (k, j) are in S; and S has no others than spots. -/
def SpotsTo (ws : List (List ItemL)) (k j : Nat) (S : ByteArray → List Spot) : Prop := (∀ s p, p ∈ S s → SpotOf ws s p) ∧ ∀ s p, SpotOf ws s p → (p.1 < k ∨ (p.1 = k ∧ p.2 < j)) → p ∈ S s
theorem spotsTo_start (ws : List (List ItemL)) : SpotsTo ws 0 0 (fun _ => []) := ⟨fun s p h => by simp at h, fun s p _ h => by omega⟩
theorem SpotsTo.empty {ws : List (List ItemL)} {k : Nat} {S : ByteArray → List Spot} (h : SpotsTo ws k 0 S) (hk : k < ws.length) (h0 : ws[k].length = 0) : SpotsTo ws (k + 1) 0 S := ⟨h.1, fun s p hp hlt => by
  rcases Nat.lt_or_ge p.1 k with hl | hl
  · exact h.2 s p hp (.inl hl)
  · obtain ⟨_, h3, _⟩ := hp
    have e : p.1 = k := by omega
    exfalso
    simp only [e] at h3
    omega⟩
theorem SpotsTo.whole {ws : List (List ItemL)} {k : Nat} {S : ByteArray → List Spot} (hk : k < ws.length) (h0 : 0 < ws[k].length) (h : SpotsTo ws k (ws[k][ws[k].length - 1]).2.length S) : SpotsTo ws (k + 1) 0 S := ⟨h.1, fun s p hp hlt => by
  rcases Nat.lt_or_ge p.1 k with hl | hl
  · exact h.2 s p hp (.inl hl)
  · have e : p.1 = k := by omega
    have hp2 := hp
    obtain ⟨_, _, h4, _⟩ := hp2
    refine h.2 s p hp (.inr ⟨e, ?_⟩)
    simp only [e] at h4
    exact h4⟩
open Classical in
theorem SpotsTo.step {ws : List (List ItemL)} {k j : Nat} {S : ByteArray → List Spot} (h : SpotsTo ws k j S) (hk : k < ws.length) (h0 : 0 < ws[k].length) (hj : j < (ws[k][ws[k].length - 1]).2.length) {s : ByteArray} (hs : ((ws[k][ws[k].length - 1]).2[j]).1 = s) : SpotsTo ws k (j + 1) (fun t => if t = s then S s ++ [(k, j)] else S t) := by
  have hnew : SpotOf ws s (k, j) := ⟨hk, h0, hj, hs⟩
  refine ⟨fun t p hp => ?_, fun t p hp hlt => ?_⟩
  · by_cases e : t = s
    · subst e
      simp only [↓reduceIte] at hp
      rcases List.mem_append.1 hp with hp | hp
      · exact h.1 _ p hp
      · obtain rfl : p = (k, j) := by simpa using hp
        exact hnew
    · simp only [if_neg e] at hp
      exact h.1 t p hp
  · by_cases hq : p.1 < k ∨ (p.1 = k ∧ p.2 < j)
    · have hm := h.2 t p hp hq
      by_cases e : t = s
      · subst e
        simp only [↓reduceIte]
        exact List.mem_append_left _ hm
      · simp only [if_neg e]
        exact hm
    · have e1 : p = (k, j) := Prod.ext (by show p.1 = k; omega) (by show p.2 = j; omega)
      subst e1
      obtain ⟨_, _, _, hs'⟩ := hp
      simp only at hs'
      have e : t = s := by rw [← hs', hs]
      simp only [if_pos e]
      exact List.mem_append_right _ (by simp)

end Go.Proofs.YtpfhegengmlkmaaGreat

namespace Go.Proofs.YtpfhegengmlkmaaGreat
open Go.RowKit Go.BigFrame

/-- The texts of some lists of bytes. -/
def textsL (ss : List (List UInt8)) : List ByteArray := ss.map fun l => ⟨l.toArray⟩
theorem textsL_cells (ss : List (List UInt8)) : ss.map encStr = (textsL ss).map .string := by simp [textsL, Function.comp_def]

theorem GrpS.listed {w : World} {B b n : Nat} {D : DataW Value} {V : ByteArray → Value} {S : ByteArray → List Spot} (h : GrpS w B b n D V S) {ss : List (List UInt8)} (hp : ss.Perm (strKeys D)) {s : ByteArray} (hs : S s ≠ []) : s ∈ textsL (ss.mergeSort (fun x y => decide (x ≤ y))) := by
  have h1 := (h.has s).2 hs
  obtain ⟨es, rfl, _⟩ := World.ownsMap.keysOf h.own
  rw [Maps.has_eq, List.any_eq_true] at h1
  obtain ⟨p, hm, hk⟩ := h1
  have e : p.1 = litS s := by
    by_cases e : p.1 = litS s
    · exact e
    · rw [Maps.sameKey_ne e] at hk
      cases hk
  have h2 : s.data.toList ∈ strKeys (DataW.map es) := List.mem_map.2 ⟨p, hm, by rw [e]; rfl⟩
  have h3 := (List.mergeSort_perm ss (fun x y => decide (x ≤ y))).mem_iff.2 (hp.mem_iff.2 h2)
  exact List.mem_map.2 ⟨_, h3, by simp⟩

/-- Lists of spots that the call itself gathers, with the slices that they lie in. -/
def GathG (w : World) (B : Nat) (v : Value) (L : List (List Spot × Value)) : Prop := w.ownsRow B 97 1 v L.length (L.map (·.2)) ∧ ∀ p ∈ L, GathP w B p.2 p.1
theorem gathG_none (w : World) (B : Nat) : GathG w B (.slice none 0 0) [] := ⟨World.ownsRow_nil _ _ _ _, by simp⟩
theorem GathG.keep {w w' : World} {B : Nat} {v : Value} {L : List (List Spot × Value)} (h : GathG w B v L) (hb : Below w.heap.size w w') : GathG w' B v L := ⟨own_keep h.1 hb, fun p hp => own_keep (h.2 p hp) hb⟩
theorem GathG.snoc {w w' : World} {B : Nat} {v v' y : Value} {L : List (List Spot × Value)} {l : List Spot} (h : GathG w B v L) (hl : GathP w B y l) (hne : 100 ≠ 97)
    (h' : w'.ownsRow B 97 1 v' (L.length + 1) ((L.map (·.2)) ++ [y])) (hg : w.grownBy w' v.ownBlock) : GathG w' B v' (L ++ [(l, y)]) := by
  refine ⟨?_, fun p hp => ?_⟩
  · rw [List.length_append, List.map_append]
    exact h'
  · rcases List.mem_append.1 hp with hp | hp
    · exact World.ownsRow.kept (h.2 p hp) hg (own_types (h.2 p hp) h.1 hne)
    · obtain rfl : p = (l, y) := by simpa using hp
      exact World.ownsRow.kept hl hg (own_types hl h.1 hne)
theorem GrpS.kept {w w' : World} {B b n k : Nat} {D : DataW Value} {V : ByteArray → Value} {S : ByteArray → List Spot} {v : Value} {xs : List Value} (h : GrpS w B b n D V S) (hv : w.ownsRow B 97 1 v k xs) (hg : w.grownBy w' v.ownBlock) (hne : 100 ≠ 97) : GrpS w' B b n D V S :=
  ⟨h.own.kept hg (fun e => by have := own_from hv _ e.symm; have := h.lt; omega), h.lt, h.eq, h.has, fun s => World.ownsRow.kept (h.row s) hg (own_types (h.row s) hv hne), h.far⟩
theorem GathG.row {w : World} {B : Nat} {v : Value} {L : List (List Spot × Value)} (h : GathG w B v L) : ∃ a cap, v = .slice a L.length cap ∧ L.length ≤ cap ∧ RowG w a (L.map (·.1)) := by
  rcases h.1.2 with ⟨rfl, h0⟩ | ⟨g, cap, cur, rfl, hB, hh, hn, _⟩
  · exact ⟨none, 0, by rw [h0], by omega, fun k hk => by rw [List.length_map] at hk; omega⟩
  · have hlt : g < w.heap.size := (Array.getElem?_eq_some_iff.1 hh).1
    refine ⟨_, cap, rfl, hn, fun k hk => ⟨g, 0, rfl, hlt, ?_⟩⟩
    rw [List.length_map] at hk
    obtain ⟨a, c, e, hc, hr⟩ := (h.2 L[k] (List.getElem_mem hk)).row
    refine ⟨a, c, ?_, by simpa using hc, by simpa using hr⟩
    rw [Nat.zero_add, World.ownsRow.cellAt h.1 _ (by omega)]
    simp [hk, e]

theorem Tryz.infoQ : (Tryz.prog.info? 97).map (fun i => (i.zero, i.size, i.bytes)) = some (some (.slice none 0 0), 1, 24) := by kernel_rfl
theorem spot_unlike : 100 ≠ 97 := by decide
theorem text_unlike : 9 ≠ 97 := by decide

theorem GathP.keep {w w' : World} {B : Nat} {v : Value} {l : List Spot} (h : GathP w B v l) (hb : Below w.heap.size w w') : GathP w' B v l := own_keep h hb
theorem GathS.beside {w w' : World} {B k : Nat} {v y : Value} {l : List ByteArray} {xs : List Value} (h : GathS w B v l) (hv : w.ownsRow B 97 1 y k xs) (hg : w.grownBy w' y.ownBlock) : GathS w' B v l := World.ownsRow.kept h hg (own_types h hv text_unlike)

/-- Of the first i texts those that have two spots or more are in L, and no others. -/
def SharedTo (S : ByteArray → List Spot) (names : List ByteArray) (i : Nat) (L : List (List Spot × Value)) : Prop :=
  (∀ p ∈ L, ∃ s, p.1 = S s ∧ 1 < (S s).length) ∧ ∀ q, (hq : q < names.length) → q < i → 1 < (S names[q]).length → ∃ p ∈ L, p.1 = S names[q]
theorem SharedTo.skip {S : ByteArray → List Spot} {names : List ByteArray} {i : Nat} {L : List (List Spot × Value)} (h : SharedTo S names i L) (hi : i < names.length) (hn : ¬ 1 < (S names[i]).length) : SharedTo S names (i + 1) L := ⟨h.1, fun q hq hlt h1 => by
  by_cases e : q = i
  · subst e; exact absurd h1 hn
  · exact h.2 q hq (by omega) h1⟩
theorem SharedTo.take {S : ByteArray → List Spot} {names : List ByteArray} {i : Nat} {L : List (List Spot × Value)} (h : SharedTo S names i L) (hi : i < names.length) (hn : 1 < (S names[i]).length) (y : Value) : SharedTo S names (i + 1) (L ++ [(S names[i], y)]) := by
  refine ⟨fun p hp => ?_, fun q hq hlt h1 => ?_⟩
  · rcases List.mem_append.1 hp with hp | hp
    · exact h.1 p hp
    · obtain rfl : p = (S names[i], y) := by simpa using hp
      exact ⟨names[i], rfl, hn⟩
  · by_cases e : q = i
    · subst e
      exact ⟨(S names[q], y), by simp, rfl⟩
    · obtain ⟨p, hp, he⟩ := h.2 q hq (by omega) h1
      exact ⟨p, List.mem_append_left _ hp, he⟩
theorem SharedTo.shared {ws : List (List ItemL)} {S : ByteArray → List Spot} {names : List ByteArray} {L : List (List Spot × Value)} (h : SharedTo S names names.length L) (hS : SpotsTo ws ws.length 0 S) (hn : ∀ s, S s ≠ [] → s ∈ names) (h72 : ∀ s, (S s).length ≤ 1000) (hL : L.length ≤ 1000) : ShW ws (L.map (·.1)) := by
  refine ⟨⟨fun src hs => ?_, fun s i k j l hik h1 h2 => ?_⟩, fun src hs => ?_, by rw [List.length_map]; exact hL⟩
  · obtain ⟨p, hp, rfl⟩ := List.mem_map.1 hs
    obtain ⟨s, e, _⟩ := h.1 p hp
    exact ⟨s, fun q hq => hS.1 s q (by rw [← e]; exact hq)⟩
  · have m1 := hS.2 s _ h1 (.inl h1.1)
    have m2 := hS.2 s _ h2 (.inl h2.1)
    have hlen : 1 < (S s).length := by
      match hS' : S s, m1, m2 with
      | [], m1, _ => simp at m1
      | [x], m1, m2 =>
        have e1 : (i, j) = x := by simpa using m1
        have e2 : (k, l) = x := by simpa using m2
        rw [← e1] at e2
        exact absurd (Prod.mk.inj e2).1.symm hik
      | _ :: _ :: _, _, _ => simp
    obtain ⟨q, hq, e⟩ := List.mem_iff_getElem.1 (hn s (fun e => by rw [e] at hlen; simp at hlen))
    obtain ⟨p, hp, he⟩ := h.2 q hq hq (by rw [e]; exact hlen)
    rw [e] at he
    exact ⟨p.1, List.mem_map.2 ⟨p, hp, rfl⟩, by rw [he]; exact m1, by rw [he]; exact m2⟩
  · obtain ⟨p, hp, rfl⟩ := List.mem_map.1 hs
    obtain ⟨s, e, h1⟩ := h.1 p hp
    rw [e]
    exact ⟨h1, h72 s⟩

end Go.Proofs.YtpfhegengmlkmaaGreat
