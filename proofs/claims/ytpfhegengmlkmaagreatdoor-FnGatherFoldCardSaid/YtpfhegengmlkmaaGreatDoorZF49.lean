/- Texts of this claim, one behind the other. -/
import Derived.Deep.DeepCutAuto
import Derived.Test.YtpfhegengmlkmaaGreatDoorZF29
import Derived.Test.YtpfhegengmlkmaaGreatDoorZF46
import Derived.Test.YtpfhegengmlkmaaGreatDoorZF47
import Derived.Test.YtpfhegengmlkmaaGreatDoorZF48
namespace Go.Proofs.YtpfhegengmlkmaaGreatDoor
open Go.RowKit Go.BigFrame
set_option maxRecDepth 100000

theorem RowF.take {w : World} {a : Option Addr} {l : List FeedV} (h : RowF w a l) (k : Nat) : RowF w a (l.take k) := fun j hj => by
  have hj' : j < l.length := by rw [List.length_take] at hj; omega
  obtain ⟨b, o, e, h1, h2, h3, v, h4, h5⟩ := h j hj'
  have e1 : (l.take k)[j] = l[j] := List.getElem_take
  rw [e1]
  exact ⟨b, o, e, h1, h2, h3, v, h4, h5⟩
theorem FitF.take {l : List FeedV} (h : FitF l) (k : Nat) : FitF (l.take k) := ⟨by have := h.1; rw [List.length_take]; omega, fun j hj => by
  have hj' : j < l.length := by rw [List.length_take] at hj; omega
  rw [List.getElem_take]
  exact h.2 j hj'⟩
theorem RowZ.take {w : World} {a : Option Addr} {l : List Int} (h : RowZ w a l) (k : Nat) : RowZ w a (l.take k) := fun j hj => by
  have hj' : j < l.length := by rw [List.length_take] at hj; omega
  rw [List.getElem_take]
  exact h j hj'
theorem RowH.take {w : World} {a : Option Addr} {l : List ShowV} (h : RowH w a l) (k : Nat) : RowH w a (l.take k) := fun j hj => by
  have hj' : j < l.length := by rw [List.length_take] at hj; omega
  rw [List.getElem_take]
  exact h j hj'
/-- What a beginning of a play answers, against what the whole answers. -/
theorem PlayR.part {ins : List ByteArray} {fs : List FeedV} {sh sh' : List ShowV} {cs cs' : List Int} {k : Nat} (h : PlayR ins fs sh cs) (hk : k ≤ fs.length) (h60 : fs.length ≤ 60) (h' : PlayR ins (fs.take k) sh' cs') :
    (cs = [] ∧ cs' = []) ∨ (IsN ins ins true ∧ cs'.length = k ∧ cs' = cs.take k ∧ sh'.length ≤ sh.length ∧ sh' = sh.take sh'.length ∧ ∃ g, PlayTo (newG ins) fs g sh cs) := by
  obtain ⟨nm, ok, h1, h2⟩ := h
  obtain ⟨nm', ok', k1, k2⟩ := h'
  obtain ⟨rfl, rfl⟩ := h1.one k1
  have hl : (fs.take k).length ≤ 60 := by rw [List.length_take]; omega
  rcases h2 with ⟨rfl, _, g, h2⟩ | ⟨hn, rfl, rfl⟩
  · obtain rfl : nm = ins := by
      rcases h1 with ⟨_, _, e⟩ | ⟨e, _, _⟩
      · exact e
      · cases e
    rcases k2 with ⟨_, _, g', k2⟩ | ⟨kn, _, _⟩
    · obtain ⟨g2, sh2, cs2, p1, p2, p3, p4⟩ := h2.part k hk
      obtain ⟨_, rfl, rfl⟩ := k2.one p1
      refine .inr ⟨h1, ?_, p4, p2, p3, g, h2⟩
      rw [p1.len, List.length_take]
      omega
    · rcases kn with e | e
      · cases e
      · omega
  · rcases hn with rfl | e
    · rcases k2 with ⟨e, _⟩ | ⟨_, _, rfl⟩
      · cases e
      · exact .inl ⟨rfl, rfl⟩
    · omega

set_option maxHeartbeats 12800000 in
theorem lawFold_any (ab am : Option Addr) (n c nm cm : Nat) (w : World) (h : Bytes w ab n c) (hn : n ≤ maxLen) (hm : Bytes w am nm cm) (hnm : nm ≤ maxLen) (het : ErrT w) :
    Calls Tryz.prog 4 #[.slice ab n c, .slice am nm cm] w fun e w' => e = .returned (.bool true) ∧ Below w.heap.size w w' := by
  unfold maxLen at hn hnm
  go_enter Tryz.func4, Tryz.ntmps4
  by_cases hbig : 1048576 < n
  · have hbig' : decide ((1048576 : Int) < (n : Int)) = true := by simp; omega
    go_wp2_with fail
    go_ret
    exact ⟨rfl, Below.refl _ _⟩
  have hbig' : decide ((1048576 : Int) < (n : Int)) = false := by simp; omega
  by_cases hbig2 : 1048576 < nm
  · have hbig2' : decide ((1048576 : Int) < (nm : Int)) = true := by simp; omega
    go_wp2_with fail
    go_ret
    exact ⟨rfl, Below.refl _ _⟩
  have hbig2' : decide ((1048576 : Int) < (nm : Int)) = false := by simp; omega
  go_wp2_with fail
  refine (drawPlay_rows ab n c _ h).mono ?_
  rintro e w1 ⟨⟨ia, ic, ins, fa, fc, fs, rfl, hi1, hi5, hs8, hic, hic2, hri, hfc, h61, hff, hrf⟩, B⟩
  replace hm := hm.below B
  replace het := het.below B
  have hil : ins.length ≤ 1048576 := by omega
  clear h hbig hbig' hbig2 hbig2'
  go_wp2_with fail
  refine (implPlay_any ia fa ic fc ins fs w1 hil hic hic2 hri hs8 hff hrf het).mono ?_
  rintro e w2 ⟨⟨L, cs, sa, ca, sc, cc, rfl, hR, hA, _, hsc⟩, b2⟩
  obtain ⟨hfew, hc60, hL60⟩ := hR.few
  rw [List.length_map] at hL60
  obtain ⟨hsa, hca⟩ := hA.rows
  have HR : Hid (PlayR ins fs (L.map (·.sv)) cs) := hR
  have HFEW : Hid (FewH (L.map (·.sv))) := hfew
  have hsc1 := hsc.1
  have hsc2 := hsc.2
  replace hm := hm.below b2
  replace het := het.below b2
  replace hri := hri.below b2
  replace hrf := hrf.below b2
  replace B : Below w.heap.size w w2 := B.trans (b2.mono B.size)
  clear b2 hA hR hfew hsc
  go_wp2_with fail
  refine (specPlay_any ia fa ic fc ins fs w2 hil hri hs8 hff hrf).mono ?_
  rintro e w3 ⟨⟨L', cs', sa', ca', sc', cc', rfl, hR', hA', _, _⟩, b3⟩
  obtain ⟨hsa', hca'⟩ := hA'.rows
  obtain ⟨esv, ecs⟩ := hR'.one HR.out
  subst ecs
  rw [esv] at hsa'
  have hLL : L'.length = L.length := by have := congrArg List.length esv; simpa using this
  replace hm := hm.below b3
  replace het := het.below b3
  replace hri := hri.below b3
  replace hrf := hrf.below b3
  replace hsa := hsa.below b3
  replace hca := hca.below b3
  replace B : Below w.heap.size w w3 := B.trans (b3.mono B.size)
  have hcall := bsShows_same sa sa' sc sc' (L.map (·.sv)) w3 (by rw [List.length_map]; omega) HFEW.out hsa hsa'
  rw [List.length_map] at hcall
  rw [hLL]
  have HCALL : Hid _ := hcall
  clear b3 hA' hR' esv hLL hcall hsa'
  go_wp2_with fail
  refine Calls.mono HCALL.out ?_
  rintro e w4 ⟨rfl, b4⟩
  replace hm := hm.below b4
  replace het := het.below b4
  replace hri := hri.below b4
  replace hrf := hrf.below b4
  replace hsa := hsa.below b4
  replace hca := hca.below b4
  replace hca' := hca'.below b4
  replace B : Below w.heap.size w w4 := B.trans (b4.mono B.size)
  clear b4 HCALL
  go_wp2_with fail
  refine (bsInts_same ca ca' cc cc' cs' w4 (by unfold maxLen; omega) hca hca').mono ?_
  rintro e w5 ⟨rfl, b5⟩
  replace hm := hm.below b5
  replace het := het.below b5
  replace hri := hri.below b5
  replace hrf := hrf.below b5
  replace hsa := hsa.below b5
  replace hca := hca.below b5
  replace B : Below w.heap.size w w5 := B.trans (b5.mono B.size)
  clear b5 hca'
  by_cases h60 : 60 < fs.length
  · have HC0 : Hid (cs' = []) := by
      obtain ⟨nm, ok, k1, ⟨_, e, _⟩ | ⟨_, _, e⟩⟩ := HR.out
      · omega
      · exact e
    have e := HC0.out
    subst e
    go_wp2_with fail
    go_ret
    exact ⟨rfl, B⟩
  have hfl60 : fs.length ≤ 60 := by omega
  go_upto_region 11 with fail
  go_cut [69] (fun bv wx => (∃ b : Bool, bv = .bool b ∧ (b = true → 0 < fs.length ∧ 0 < nm)) ∧ Hid (wx = w5))
  case first =>
    by_cases hf0 : 0 < fs.length
    · by_cases hm0 : 0 < nm
      · have hf0' : decide (0 < (fs.length : Int)) = true := decide_eq_true (by omega)
        have hm0' : decide (0 < (nm : Int)) = true := decide_eq_true (by omega)
        go_wp2_with fail
        go_meet
        exact ⟨⟨true, rfl, fun _ => ⟨hf0, hm0⟩⟩, rfl⟩
      · have hf0' : decide (0 < (fs.length : Int)) = true := decide_eq_true (by omega)
        have hm0' : decide (0 < (nm : Int)) = false := decide_eq_false (by omega)
        go_wp2_with fail
        go_meet
        exact ⟨⟨false, rfl, fun h => by cases h⟩, rfl⟩
    · have hf0' : decide (0 < (fs.length : Int)) = false := decide_eq_false (by omega)
      go_wp2_with fail
      go_meet
      exact ⟨⟨false, rfl, fun h => by cases h⟩, rfl⟩
  case rest =>
  obtain ⟨⟨b69, rfl, hb69⟩, HWX⟩ := hcut
  have e := HWX.out
  subst e
  have HB69 : Hid (b69 = true → 0 < fs.length ∧ 0 < nm) := hb69
  clear hb69 HWX
  go_upto_if 69 with fail
  go_cut [11] (fun kv wx => (∃ k : Nat, k ≤ fs.length ∧ kv = .int .i64 k) ∧ Hid (wx = wc))
  case first =>
    cases b69 with
    | true =>
      obtain ⟨bm, om, vm, rfl, hbm, hv0, hv1, hcm⟩ := hm.byte 0 (HB69.out rfl).2
      obtain ⟨vn, rfl⟩ := Int.eq_ofNat_of_zero_le hv0
      have hm0 : (0 : Int) < (nm : Int) := by have := (HB69.out rfl).2; omega
      rw [Nat.add_zero] at hcm
      go_wp2_with fail
      go_meet
      exact ⟨⟨vn % (fs.length + 1), Nat.le_of_lt_succ (Nat.mod_lt _ (Nat.succ_pos _)), by simp [Int.natCast_emod]⟩, rfl⟩
    | false =>
      go_wp2_with fail
      go_meet
      exact ⟨⟨0, by omega, rfl⟩, rfl⟩
  case rest =>
  obtain ⟨⟨k, hk, rfl⟩, HWX⟩ := hcut
  have e := HWX.out
  subst e
  clear HWX HB69 hm
  have hlen : (fs.take k).length = k := by rw [List.length_take]; omega
  have hcall := implPlay_any ia fa ic fc ins (fs.take k) wc hil hic hic2 hri hs8 (hff.take k) (hrf.take k) het
  rw [hlen] at hcall
  have HCALL : Hid _ := hcall
  have k0 : (0 : Int) ≤ (k : Int) := by omega
  have k1 : (k : Int) ≤ (fc : Int) := by omega
  clear hcall hlen
  go_wp2_with fail
  refine Calls.mono HCALL.out ?_
  rintro e w6 ⟨⟨L2, cs2, sa2, ca2, sc2, cc2, rfl, hR2, hA2, _, _⟩, b6⟩
  have HPART : Hid _ := HR.out.part hk hfl60 hR2
  obtain ⟨hsa2, hca2⟩ := hA2.rows
  obtain ⟨hfew2, hc2, hl2⟩ := hR2.few
  rw [List.length_map] at hl2
  have HFEW2 : Hid (FewH (L2.map (·.sv))) := hfew2
  replace het := het.below b6
  replace hri := hri.below b6
  replace hrf := hrf.below b6
  replace hsa := hsa.below b6
  replace hca := hca.below b6
  replace B : Below w.heap.size w w6 := B.trans (b6.mono B.size)
  clear b6 hA2 hR2 hfew2 HCALL
  by_cases hc0 : cs'.length = 0
  · have HC2 : Hid (cs2.length = 0) := by
      unfold Hid
      rcases HPART.out with ⟨_, e⟩ | ⟨_, _, e, _⟩
      · rw [e]; rfl
      · rw [e, List.length_take]; omega
    have h0 : ((cs'.length : Int) == 0) = true := by rw [beq_iff_eq]; omega
    have h2 : ((cs2.length : Int) == 0) = true := by have := HC2.out; rw [beq_iff_eq]; omega
    go_wp2_with fail
    go_ret
    exact ⟨by simp, B⟩
  have h0 : ((cs'.length : Int) == 0) = false := by rw [beq_eq_false_iff_ne]; omega
  obtain ⟨HIN, hl2k, HCS, hl12, HSH, HPT⟩ : Hid (IsN ins ins true) ∧ cs2.length = k ∧ Hid (cs2 = cs'.take k) ∧ L2.length ≤ L.length ∧ Hid (L2.map (·.sv) = (L.map (·.sv)).take L2.length) ∧ Hid (∃ g, PlayTo (newG ins) fs g (L.map (·.sv)) cs') := by
    rcases HPART.out with ⟨e, _⟩ | ⟨h1, h2, h3, h4, h5, h6⟩
    · rw [e] at hc0; simp at hc0
    · rw [List.length_map, List.length_map] at h4
      rw [List.length_map] at h5
      exact ⟨h1, h2, h3, h4, h5, h6⟩
  have hclen : cs'.length = fs.length := by
    obtain ⟨g, h⟩ := HPT.out
    exact h.len
  have hcall := bsInts_same ca2 ca cc2 cc cs2 w6 (by unfold maxLen; omega) hca2 (by rw [HCS.out]; exact hca.take k)
  rw [hl2k] at hcall
  have HCALL : Hid _ := hcall
  have k2 : (k : Int) ≤ (cc : Int) := by omega
  have hkk : (((cs2.length : Nat) : Int) != (k : Int)) = false := by simp [hl2k]
  have HLEN : Hid (cs2.length = k ∧ cs'.length = fs.length) := ⟨hl2k, hclen⟩
  rw [hl2k]
  clear hcall HPART hl2k hclen
  go_wp2_with fail
  refine Calls.mono HCALL.out ?_
  rintro e w7 ⟨rfl, b7⟩
  replace het := het.below b7
  replace hri := hri.below b7
  replace hrf := hrf.below b7
  replace hsa := hsa.below b7
  replace hca := hca.below b7
  replace hsa2 := hsa2.below b7
  replace B : Below w.heap.size w w7 := B.trans (b7.mono B.size)
  clear b7 HCALL hca2
  have hcall := bsShows_same sa2 sa sc2 sc (L2.map (·.sv)) w7 (by rw [List.length_map]; omega) HFEW2.out hsa2 (by rw [HSH.out]; exact hsa.take _)
  rw [List.length_map] at hcall
  have HCALL : Hid _ := hcall
  have q1 : decide ((L.length : Int) < (L2.length : Int)) = false := decide_eq_false (by omega)
  have q2 : (L2.length : Int) ≤ (sc : Int) := by omega
  clear hcall hsa2
  go_wp2_with fail
  refine Calls.mono HCALL.out ?_
  rintro e w8 ⟨rfl, b8⟩
  replace het := het.below b8
  replace hri := hri.below b8
  replace hrf := hrf.below b8
  replace hsa := hsa.below b8
  replace hca := hca.below b8
  replace B : Below w.heap.size w w8 := B.trans (b8.mono B.size)
  clear b8 HCALL HFEW2 HCS HSH
  go_wp2_with fail
  refine (implGN_any ia ic ins _ hil hic hic2 hri hs8).mono ?_
  rintro e w9 ⟨hE, b9⟩
  have z9 := b9.size
  replace het := het.below b9
  replace hrf := hrf.below b9
  replace hsa := hsa.below b9
  replace hca := hca.below b9
  have hz8 := B.size
  replace B : Below w.heap.size w w9 := B.trans (b9.mono B.size)
  rcases hE.start with ⟨s0, e0, s1, e1, s2, e2, Lw, rfl, hN, hmap, hsg, hcap⟩ | ⟨rfl, hN⟩
  · clear hE hN b9 hri
    have bA : Below w9.heap.size w9 (w9.alloc (.cells #[.slice s0 ins.length e0, .slice s1 Lw.length e1, .slice s2 0 e2] 30)) := (Below.refl _ _).alloc (Nat.le_refl _) _
    have tA := tri_new w9 (.slice s0 ins.length e0) (.slice s1 Lw.length e1) (.slice s2 0 e2) 30
    have zA : (w9.alloc (.cells #[.slice s0 ins.length e0, .slice s1 Lw.length e1, .slice s2 0 e2] 30)).heap.size = w9.heap.size + 1 := by simp
    have hW0 : PlyW (w9.heap.size + 1) (w9.alloc (.cells #[.slice s0 ins.length e0, .slice s1 Lw.length e1, .slice s2 0 e2] 30)) w9.heap.size w8.heap.size w9.heap.size (newG ins) Lw s0 s1 s2 e0 e1 e2 (.slice none 0 0) (.slice none 0 0) [] [] :=
      { tG := tA, map := hmap, nice := newG_nice HIN.out, sg := hsg.below bA, glt := by omega, gbox := .inr (Nat.le_refl _), bB := Nat.lt_succ_self _, BU := by omega, osh := World.ownsRow_nil _ _ _ _, oco := World.ownsRow_nil _ _ _ _, at_ := (fun p hp => by simp at hp), dis := List.Pairwise.nil, sfar := (fun p hp => by simp at hp), cfar := (fun p hp => by simp at hp), sgf := (fun k e => by cases e), cgf := (fun k e => by cases e) }
    clear tA hsg zA hmap
    go_wp2_with fail
    generalize w9.alloc (.cells #[.slice s0 ins.length e0, .slice s1 Lw.length e1, .slice s2 0 e2] 30) = WA at *
    have HWA : Hid (Below w9.heap.size w9 WA) := bA
    clear bA
    go_loopw [16, 17] (fun nv iv wr => ∃ (k glo ghi : Nat) (g : GatL) (Lw : List WinY) (a0 a1 a2 : Option Addr) (d0 d1 d2 : Nat) (shp : List ShowV) (csp : List Int), k ≤ fs.length ∧ iv = .int .i64 k ∧ nv = .int .i64 (shp.length : Nat) ∧ shp.length ≤ k ∧ PlyW (w9.heap.size + 1) wr w9.heap.size glo ghi g Lw a0 a1 a2 d0 d1 d2 (.slice none 0 0) (.slice none 0 0) [] [] ∧ (g.ins.length ≤ d0 ∧ d0 ≤ maxLen) ∧ Hid (PlayTo (newG ins) (fs.take k) g shp csp) ∧ Below w9.heap.size w9 wr) (fun _ iv _ => fs.length - (intOf iv).toNat)
    case atStart => exact ⟨0, w8.heap.size, w9.heap.size, newG ins, Lw, s0, s1, s2, e0, e1, e2, [], [], Nat.zero_le _, rfl, rfl, Nat.le_refl _, hW0, hcap, PlayTo.nil, HWA.out⟩
    case round =>
      clear hW0 hcap HWA
      obtain ⟨k', glo, ghi, g, Lw', p0, p1, p2, d0, d1, d2, shp, csp, hk', rfl, rfl, hsk, hW, hcap, HP, hb⟩ := hrel
      have BW := B.trans (hb.mono B.size)
      by_cases hlt : k' < fs.length
      · obtain ⟨bf, of, rfl, hbf, q0', q1', vq, q2', ⟨fa', fc', rfl, hfc', hrow⟩⟩ := (hrf.below hb) k' hlt
        have k0' : (0 : Int) ≤ (k' : Int) := by omega
        have k1' : (k' : Int) < (fs.length : Int) := by omega
        have hfk := hff.2 k' hlt
        go_wp2_with fail
        have hbl : w9.heap.size < wr.heap.size := block_lt_of_cell hW.tG.c0
        have HSS : Hid (∀ u : World, Below wr.heap.size wr u → u.cell? ⟨w9.heap.size, 0, none⟩ = some (.slice p0 g.ins.length d0) ∧ u.cell? ⟨w9.heap.size, 1, none⟩ = some (.slice p1 Lw'.length d1) ∧ u.cell? ⟨w9.heap.size, 2, none⟩ = some (.slice p2 g.shown.length d2) ∧ u.cell? ⟨bf, of + k' * 3, none⟩ = some (.int .i64 fs[k'].1) ∧ u.cell? ⟨bf, of + k' * 3 + 1, none⟩ = some (.int .i64 fs[k'].2.1) ∧ u.cell? ⟨bf, of + k' * 3 + 2, none⟩ = some (.slice fa' fs[k'].2.2.length fc')) := fun u hu => ⟨cell_on hu hbl hW.tG.c0, cell_on hu hbl hW.tG.c1, cell_on hu hbl hW.tG.c2, cell_on hu hbf q0', cell_on hu hbf q1', cell_on hu hbf q2'⟩
        obtain ⟨hLl, r0, r1, r2⟩ := hW.rows
        have hil' : g.ins.length ≤ 1048576 := by have := hW.nice.ins; omega
        have HLL : Hid (Lw'.length = g.wins.length) := hLl
        have hetW := het.below hb
        clear hLl q0' q1' q2'
        refine wp_region_inv (by kernel_rfl) (by kernel_rfl) (fun f a u => ∃ (R : ResG) (b10 b11 : Nat) (v11 v12 v13 v32 v33 v34 v35 v36 v37 v38 v39 v40 v41 : Value), a = { tmps := #[Value.slice ab n c, Value.slice am nm cm, undef, undef, u4, Value.slice ia ins.length ic, Value.slice (some { block := bf, off := of }) fs.length fc, Value.slice sa L.length sc, Value.slice ca cs'.length cc, Value.slice sa' L.length sc', Value.slice ca' cs'.length cc', Value.int IntKind.i64 (k : Int), Value.slice sa2 L2.length sc2, Value.slice ca2 k cc2, Value.pointer (some { block := w9.heap.size, off := 0 }), Value.bool true, Value.int IntKind.i64 (shp.length : Int), Value.int IntKind.i64 (k' : Int), v11, v12, v13, u21, u22, u23, u24, u25, u26, u27, u28, u29, u30, u31, u32, u33, u34, u35, u36, u37, u38, u39, u40, u41, u42, u43, u44, u45, u46, u47, u48, u49, u50, u51, u52, u53, u54, u55, u56, u57, u58, u59, u60, u61, u62, u63, u64, u65, u66, u67, u68, u69, u70, u71, u72, u73, u74, u75, u76, u77, Value.tuple #[Value.slice sa2 L2.length sc2, Value.slice ca2 k cc2], Value.slice ia ins.length ic, Value.slice (some { block := bf, off := of }) fs.length fc, Value.int IntKind.i64 (k : Int), Value.slice (some { block := bf, off := of }) k fc, Value.tuple #[Value.slice sa2 L2.length sc2, Value.slice ca2 k cc2], Value.slice sa2 L2.length sc2, Value.slice ca2 k cc2, Value.slice ca cs'.length cc, Value.int IntKind.i64 (cs'.length : Int), Value.bool false, u89, u90, u91, Value.slice ca2 k cc2, Value.int IntKind.i64 (k : Int), Value.int IntKind.i64 (k : Int), Value.bool false, Value.bool false, Value.slice ca2 k cc2, Value.slice ca cs'.length cc, Value.int IntKind.i64 (k : Int), Value.slice ca k cc, Value.bool true, Value.bool false, Value.bool false, Value.bool false, Value.slice sa2 L2.length sc2, Value.int IntKind.i64 (L2.length : Int), Value.slice sa L.length sc, Value.int IntKind.i64 (L.length : Int), Value.bool false, Value.bool false, Value.bool false, Value.slice sa2 L2.length sc2, Value.slice sa L.length sc, Value.slice sa2 L2.length sc2, Value.int IntKind.i64 (L2.length : Int), Value.slice sa L2.length sc, Value.bool true, Value.bool false, Value.bool false, Value.tuple #[Value.agg #[Value.slice s0 ins.length e0, Value.slice s1 Lw.length e1, Value.slice s2 0 e2], Value.bool true], Value.slice ia ins.length ic, Value.tuple #[Value.agg #[Value.slice s0 ins.length e0, Value.slice s1 Lw.length e1, Value.slice s2 0 e2], Value.bool true], Value.agg #[Value.slice s0 ins.length e0, Value.slice s1 Lw.length e1, Value.slice s2 0 e2], Value.bool true, Value.int IntKind.i64 (k' : Int), Value.slice (some { block := bf, off := of }) fs.length fc, Value.int IntKind.i64 (fs.length : Int), Value.bool true, u129, u130, v32, v33, v34, v35, v36, v37, v38, v39, v40, v41, u141, u142, u143, u144, u145, u146, u147, u148, u149, u150, u151, u152, u153, u154, u155, u156, u157, u158, u159, u160, u161, u162, u163, u164, u165, u166, u167, u168, u169, u170], defers := [] } ∧ Fy (CalI g fs[k'].1 fs[k'].2.1 fs[k'].2.2) wr (.agg #[.slice p0 g.ins.length d0, .slice p1 Lw'.length d1, .slice p2 g.shown.length d2]) (.slice (some ⟨bf, of, none⟩) fs.length fc) (.int .i64 (k' : Int)) (.pointer (some ⟨bf, of + k' * 3, none⟩)) (.agg #[.int .i64 fs[k'].1, .int .i64 fs[k'].2.1, .slice fa' fs[k'].2.2.length fc']) f R b10 b11 v11 v12 v13 v32 v33 v34 v35 v36 v37 v38 v39 v40 v41 u) ?start ?step ?fin
        case start =>
          refine ⟨⟨⟨[], [], []⟩, [], [], [], 0, none, none, none, none, none, 0, 0, 0, 0, 0, 0, 0, 0, 0⟩, 0, 0, _, _, _, _, _, _, _, _, _, _, _, _, _, rfl, ?_⟩
          exact { bel := (Below.refl _ _).drew, k0 := (fun h => by cases h), k1 := (fun h => by cases h), k2 := (fun h => by cases h), k3 := (fun h => by cases h), k4 := (fun h => by cases h), k5 := (fun h => by cases h), k6 := (fun h => by cases h), k7 := (fun h => by cases h), k8 := (fun h => by cases h), k9 := (fun h => by cases h), k10 := (fun h => by cases h), k11 := (fun h => by cases h), k14 := (fun h => by cases h), ne := (fun h => by cases h), c6 := (fun h => by cases h), c7 := (fun h => by cases h), c8 := (fun h => by cases h), c9 := (fun h => by cases h), c12 := (fun h => by cases h), c13 := (fun h => by cases h), c14 := (fun h => by cases h) }
        case step =>
          rintro f a u j ⟨R, b10, b11, v11, v12, v13, v32, v33, v34, v35, v36, v37, v38, v39, v40, v41, rfl, hF⟩ hj hfj hw
          obtain ⟨z0, z1, z2, z3, z4, z5⟩ := HSS.out _ hF.bel
          have hj' : j < 15 := hj
          have hC : ∀ R u u', CalI g fs[k'].1 fs[k'].2.1 fs[k'].2.2 R u → Below u.heap.size u u' → CalI g fs[k'].1 fs[k'].2.1 fs[k'].2.2 R u' := fun R u u' h hb => h.below hb
          rcases (by omega : j = 0 ∨ j = 1 ∨ j = 2 ∨ j = 3 ∨ j = 4 ∨ j = 5 ∨ j = 6 ∨ j = 7 ∨ j = 8 ∨ j = 9 ∨ j = 10 ∨ j = 11 ∨ j = 12 ∨ j = 13 ∨ j = 14) with rfl | rfl | rfl | rfl | rfl | rfl | rfl | rfl | rfl | rfl | rfl | rfl | rfl | rfl | rfl
          · refine wpOp_wanted rfl (by kernel_rfl) ?_
            go_simp
            exact ⟨R, b10, b11, _, _, _, _, _, _, _, _, _, _, _, _, _, ⟨rfl, rfl, rfl, rfl, rfl, rfl, rfl, rfl, rfl, rfl, rfl, rfl, rfl⟩, { hF with k0 := fun _ => rfl }⟩
          · refine wpOp_wanted rfl (by kernel_rfl) ?_
            go_simp
            exact ⟨R, b10, b11, _, _, _, _, _, _, _, _, _, _, _, _, _, ⟨rfl, rfl, rfl, rfl, rfl, rfl, rfl, rfl, rfl, rfl, rfl, rfl, rfl⟩, { hF with k1 := fun _ => rfl }⟩
          · refine wpOp_wanted rfl (by kernel_rfl) ?_
            go_simp
            exact ⟨R, b10, b11, _, _, _, _, _, _, _, _, _, _, _, _, _, ⟨rfl, rfl, rfl, rfl, rfl, rfl, rfl, rfl, rfl, rfl, rfl, rfl, rfl⟩, { hF with k2 := fun _ => rfl }⟩
          · have h1 : f 1 = true := hw 1 (of_decide_eq_true (by kernel_rfl))
            have h2 : f 2 = true := hw 2 (of_decide_eq_true (by kernel_rfl))
            obtain rfl := hF.k1 h1
            obtain rfl := hF.k2 h2
            refine wpOp_wanted rfl (by kernel_rfl) ?_
            go_simp
            exact ⟨R, b10, b11, _, _, _, _, _, _, _, _, _, _, _, _, _, ⟨rfl, rfl, rfl, rfl, rfl, rfl, rfl, rfl, rfl, rfl, rfl, rfl, rfl⟩, { hF with k3 := fun _ => rfl }⟩
          · have h3 : f 3 = true := hw 3 (of_decide_eq_true (by kernel_rfl))
            obtain rfl := hF.k3 h3
            refine wpOp_wanted rfl (by kernel_rfl) ?_
            go_simp
            exact ⟨R, b10, b11, _, _, _, _, _, _, _, _, _, _, _, _, _, ⟨rfl, rfl, rfl, rfl, rfl, rfl, rfl, rfl, rfl, rfl, rfl, rfl, rfl⟩, { hF with k4 := fun _ => rfl }⟩
          · have h0 : f 0 = true := hw 0 (of_decide_eq_true (by kernel_rfl))
            have h4 : f 4 = true := hw 4 (of_decide_eq_true (by kernel_rfl))
            obtain rfl := hF.k0 h0
            obtain rfl := hF.k4 h4
            have hcall := implGP_any p0 p1 p2 fa' d0 d1 d2 fc' g fs[k'].1 fs[k'].2.1 fs[k'].2.2 u hW.nice.fit hil' hcap.1 hcap.2 (r0.below hF.bel) (r1.below hF.bel) (r2.below hF.bel) hfk hfc' (hrow.below hF.bel) (hetW.below hF.bel)
            rw [← HLL.out] at hcall
            refine wpOp_wanted rfl (by kernel_rfl) ?_
            go_simp
            refine Calls.mono hcall ?_
            rintro e n ⟨hE, bx⟩
            obtain ⟨R', rfl, e1, e2, hcal⟩ := hE.cal
            have hF' := hF.below hC bx
            have no6 : f 6 = true → False := fun h => by have := hF.c6 h; rw [hfj] at this; cases this
            have no7 : f 7 = true → False := fun h => by have := hF.c7 h; rw [hfj] at this; cases this
            have no8 : f 8 = true → False := fun h => by have := hF.c8 h; rw [hfj] at this; cases this
            have no9 : f 9 = true → False := fun h => by have := hF.c9 h; rw [hfj] at this; cases this
            have no12 : f 12 = true → False := fun h => by have := (hF.c12 h).1; rw [hfj] at this; cases this
            have no13 : f 13 = true → False := fun h => by have := (hF.c13 h).1; rw [hfj] at this; cases this
            have no14 : f 14 = true → False := fun h => by have := hF.c14 h; rw [hfj] at this; cases this
            have zW := hF.bel.size
            exact ⟨R', b10, b11, _, _, _, _, _, _, _, _, _, _, _, _, _, ⟨rfl, rfl, rfl, rfl, rfl, rfl, rfl, rfl, rfl, rfl, rfl, rfl, rfl⟩, { bel := hF'.bel, k0 := hF'.k0, k1 := hF'.k1, k2 := hF'.k2, k3 := hF'.k3, k4 := hF'.k4, k5 := fun _ => ⟨rfl, hcal, by rw [e1]; exact zW⟩, k6 := fun e => (no6 e).elim, k7 := fun e => (no7 e).elim, k8 := fun e => (no8 e).elim, k9 := fun e => (no9 e).elim, k10 := fun e => let ⟨q0, q1, q2, q3, q4, q5⟩ := hF'.k10 e; ⟨q0, q1, q2, fun _ => .inl (by rw [e1]; exact (hF.k10 e).2.2.1), q4, fun e' => (no12 e').elim⟩, k11 := fun e => let ⟨q0, q1, q2, q3, q4, q5⟩ := hF'.k11 e; ⟨q0, q1, q2, fun _ => .inl (by rw [e1]; exact (hF.k11 e).2.2.1), q4, fun e' => (no13 e').elim⟩, k14 := fun e => (no14 e).elim, ne := hF'.ne, c6 := fun _ => rfl, c7 := fun _ => rfl, c8 := fun _ => rfl, c9 := fun _ => rfl, c12 := fun e => (no12 e).elim, c13 := fun e => (no13 e).elim, c14 := fun e => (no14 e).elim }⟩
          · have h5 : f 5 = true := hw 5 (of_decide_eq_true (by kernel_rfl))
            obtain ⟨rfl, _, _⟩ := hF.k5 h5
            refine wpOp_wanted rfl (by kernel_rfl) ?_
            go_simp
            exact ⟨R, b10, b11, _, _, _, _, _, _, _, _, _, _, _, _, _, ⟨rfl, rfl, rfl, rfl, rfl, rfl, rfl, rfl, rfl, rfl, rfl, rfl, rfl⟩, { hF with k6 := fun _ => rfl, c6 := fun _ => h5 }⟩
          · have h6 : f 6 = true := hw 6 (of_decide_eq_true (by kernel_rfl))
            have h5 := hF.c6 h6
            obtain rfl := hF.k6 h6
            refine wpOp_wanted rfl (by kernel_rfl) ?_
            go_simp
            exact ⟨R, b10, b11, _, _, _, _, _, _, _, _, _, _, _, _, _, ⟨rfl, rfl, rfl, rfl, rfl, rfl, rfl, rfl, rfl, rfl, rfl, rfl, rfl⟩, { hF with k7 := fun _ => rfl, c7 := fun _ => h5 }⟩
          · have h6 : f 6 = true := hw 6 (of_decide_eq_true (by kernel_rfl))
            have h5 := hF.c6 h6
            obtain rfl := hF.k6 h6
            refine wpOp_wanted rfl (by kernel_rfl) ?_
            go_simp
            exact ⟨R, b10, b11, _, _, _, _, _, _, _, _, _, _, _, _, _, ⟨rfl, rfl, rfl, rfl, rfl, rfl, rfl, rfl, rfl, rfl, rfl, rfl, rfl⟩, { hF with k8 := fun _ => rfl, c8 := fun _ => h5 }⟩
          · have h6 : f 6 = true := hw 6 (of_decide_eq_true (by kernel_rfl))
            have h5 := hF.c6 h6
            obtain rfl := hF.k6 h6
            refine wpOp_wanted rfl (by kernel_rfl) ?_
            go_simp
            exact ⟨R, b10, b11, _, _, _, _, _, _, _, _, _, _, _, _, _, ⟨rfl, rfl, rfl, rfl, rfl, rfl, rfl, rfl, rfl, rfl, rfl, rfl, rfl⟩, { hF with k9 := fun _ => rfl, c9 := fun _ => h5 }⟩
          · refine wpOp_wanted rfl (by kernel_rfl) ?_
            go_simp
            have bx : Below u.heap.size u (u.alloc (.cells #[.slice none 0 0, .slice none 0 0, .slice none 0 0] 30)) := (Below.refl _ _).alloc (Nat.le_refl _) _
            have hF' := hF.below hC bx
            have no12 : f 12 = true → False := fun h => by have := (hF.c12 h).2; rw [hfj] at this; cases this
            have hnew := tri_new u (.slice none 0 0) (.slice none 0 0) (.slice none 0 0) 30
            have zW := hF.bel.size
            exact ⟨R, u.heap.size, b11, _, _, _, _, _, _, _, _, _, _, _, _, _, ⟨rfl, rfl, rfl, rfl, rfl, rfl, rfl, rfl, rfl, rfl, rfl, rfl, rfl⟩, { hF' with k10 := fun _ => ⟨rfl, zW, by simp, fun e => .inr (hF.k5 e).2.1.o4, fun _ => hnew, fun e => (no12 e).elim⟩, ne := fun _ e => Nat.ne_of_gt (hF.k11 e).2.2.1, c12 := fun e => (no12 e).elim }⟩
          · refine wpOp_wanted rfl (by kernel_rfl) ?_
            go_simp
            have bx : Below u.heap.size u (u.alloc (.cells #[.slice none 0 0, .slice none 0 0] 36)) := (Below.refl _ _).alloc (Nat.le_refl _) _
            have hF' := hF.below hC bx
            have no13 : f 13 = true → False := fun h => by have := (hF.c13 h).2; rw [hfj] at this; cases this
            have hnew := duo_new u (.slice none 0 0) (.slice none 0 0) 36
            have zW := hF.bel.size
            exact ⟨R, b10, u.heap.size, _, _, _, _, _, _, _, _, _, _, _, _, _, ⟨rfl, rfl, rfl, rfl, rfl, rfl, rfl, rfl, rfl, rfl, rfl, rfl, rfl⟩, { hF' with k11 := fun _ => ⟨rfl, zW, by simp, fun e => .inr (hF.k5 e).2.1.o4, fun _ => hnew, fun e => (no13 e).elim⟩, ne := fun e _ => Nat.ne_of_lt (hF.k10 e).2.2.1, c13 := fun e => (no13 e).elim }⟩
          · have h10 : f 10 = true := hw 10 (of_decide_eq_true (by kernel_rfl))
            have h7 : f 7 = true := hw 7 (of_decide_eq_true (by kernel_rfl))
            have h11 : f 11 = true := hw 11 (of_decide_eq_true (by kernel_rfl))
            have h5 := hF.c7 h7
            obtain rfl := hF.k7 h7
            obtain ⟨rfl, q1, q2, q3, q4, _⟩ := hF.k10 h10
            have tt := q4 hfj
            obtain ⟨i0, i1, i2, o0, o1, o2⟩ := id tt
            refine wpOp_wanted rfl (by kernel_rfl) ?_
            go_simp
            have sx : Span b10 (b10 + 1) u (((u.setCell ⟨b10, 0, none⟩ (.slice R.s0 R.g.ins.length R.d0)).setCell ⟨b10, 1, none⟩ (.slice R.s1 R.L.length R.d1)).setCell ⟨b10, 2, none⟩ (.slice R.s2 R.g.shown.length R.d2)) := (((Span.refl _ _ _).setCell (Nat.le_refl _) (Nat.lt_succ_self _) _ _).setCell (Nat.le_refl _) (Nat.lt_succ_self _) _ _).setCell (Nat.le_refl _) (Nat.lt_succ_self _) _ _
            have tn := ((tt.set0 (.slice R.s0 R.g.ins.length R.d0)).set1 (.slice R.s1 R.L.length R.d1)).set2c (.slice R.s2 R.g.shown.length R.d2)
            have zx : (((u.setCell ⟨b10, 0, none⟩ (.slice R.s0 R.g.ins.length R.d0)).setCell ⟨b10, 1, none⟩ (.slice R.s1 R.L.length R.d1)).setCell ⟨b10, 2, none⟩ (.slice R.s2 R.g.shown.length R.d2)).heap.size = u.heap.size := by simp
            have far := q3 h5
            have ne := hF.ne h10 h11
            have hb' := hF.bel.trans (sx.below q1 hF.bel.size)
            generalize (((u.setCell ⟨b10, 0, none⟩ (.slice R.s0 R.g.ins.length R.d0)).setCell ⟨b10, 1, none⟩ (.slice R.s1 R.L.length R.d1)).setCell ⟨b10, 2, none⟩ (.slice R.s2 R.g.shown.length R.d2)) = n at *
            exact ⟨R, b10, b11, _, _, _, _, _, _, _, _, _, _, _, _, _, ⟨rfl, rfl, rfl, rfl, rfl, rfl, rfl, rfl, rfl, rfl, rfl, rfl, rfl⟩, { bel := hb', k0 := hF.k0, k1 := hF.k1, k2 := hF.k2, k3 := hF.k3, k4 := hF.k4, k5 := fun e => let ⟨r0, r1, r2⟩ := hF.k5 e; ⟨r0, r1.span sx (by omega), r2⟩, k6 := hF.k6, k7 := hF.k7, k8 := hF.k8, k9 := hF.k9, k10 := fun _ => ⟨rfl, q1, by omega, fun _ => far, (fun e => by cases e), fun _ => tn⟩, k11 := fun e => let ⟨r0, r1, r2, r3, r4, r5⟩ := hF.k11 e; ⟨r0, r1, by omega, r3, fun e' => (r4 e').span sx (by omega), fun e' => (r5 e').span sx (by omega)⟩, k14 := hF.k14, ne := hF.ne, c6 := hF.c6, c7 := hF.c7, c8 := hF.c8, c9 := hF.c9, c12 := fun _ => ⟨h5, h10⟩, c13 := hF.c13, c14 := hF.c14 }⟩
          · have h11 : f 11 = true := hw 11 (of_decide_eq_true (by kernel_rfl))
            have h8 : f 8 = true := hw 8 (of_decide_eq_true (by kernel_rfl))
            have h10 : f 10 = true := hw 10 (of_decide_eq_true (by kernel_rfl))
            have h5 := hF.c8 h8
            obtain rfl := hF.k8 h8
            obtain ⟨rfl, q1, q2, q3, q4, _⟩ := hF.k11 h11
            have tt := q4 hfj
            obtain ⟨i0, i1, o0, o1⟩ := id tt
            refine wpOp_wanted rfl (by kernel_rfl) ?_
            go_simp
            have sx : Span b11 (b11 + 1) u ((u.setCell ⟨b11, 0, none⟩ (.slice R.s3 R.sv.length R.d3)).setCell ⟨b11, 1, none⟩ (.slice R.s4 R.ss.length R.d4)) := ((Span.refl _ _ _).setCell (Nat.le_refl _) (Nat.lt_succ_self _) _ _).setCell (Nat.le_refl _) (Nat.lt_succ_self _) _ _
            have tn := (tt.set0 (.slice R.s3 R.sv.length R.d3)).set1 (.slice R.s4 R.ss.length R.d4)
            have zx : ((u.setCell ⟨b11, 0, none⟩ (.slice R.s3 R.sv.length R.d3)).setCell ⟨b11, 1, none⟩ (.slice R.s4 R.ss.length R.d4)).heap.size = u.heap.size := by simp
            have far := q3 h5
            have ne := hF.ne h10 h11
            have hb' := hF.bel.trans (sx.below q1 hF.bel.size)
            generalize ((u.setCell ⟨b11, 0, none⟩ (.slice R.s3 R.sv.length R.d3)).setCell ⟨b11, 1, none⟩ (.slice R.s4 R.ss.length R.d4)) = n at *
            exact ⟨R, b10, b11, _, _, _, _, _, _, _, _, _, _, _, _, _, ⟨rfl, rfl, rfl, rfl, rfl, rfl, rfl, rfl, rfl, rfl, rfl, rfl, rfl⟩, { bel := hb', k0 := hF.k0, k1 := hF.k1, k2 := hF.k2, k3 := hF.k3, k4 := hF.k4, k5 := fun e => let ⟨r0, r1, r2⟩ := hF.k5 e; ⟨r0, r1.span sx (by omega), r2⟩, k6 := hF.k6, k7 := hF.k7, k8 := hF.k8, k9 := hF.k9, k11 := fun _ => ⟨rfl, q1, by omega, fun _ => far, (fun e => by cases e), fun _ => tn⟩, k10 := fun e => let ⟨r0, r1, r2, r3, r4, r5⟩ := hF.k10 e; ⟨r0, r1, by omega, r3, fun e' => (r4 e').span sx (by omega), fun e' => (r5 e').span sx (by omega)⟩, k14 := hF.k14, ne := hF.ne, c6 := hF.c6, c7 := hF.c7, c8 := hF.c8, c9 := hF.c9, c12 := hF.c12, c13 := fun _ => ⟨h5, h11⟩, c14 := hF.c14 }⟩
          · have h9 : f 9 = true := hw 9 (of_decide_eq_true (by kernel_rfl))
            have h5 := hF.c9 h9
            obtain rfl := hF.k9 h9
            refine wpOp_wanted rfl (by kernel_rfl) ?_
            go_simp
            exact ⟨R, b10, b11, _, _, _, _, _, _, _, _, _, _, _, _, _, ⟨rfl, rfl, rfl, rfl, rfl, rfl, rfl, rfl, rfl, rfl, rfl, rfl, rfl⟩, { hF with k14 := fun _ => rfl, c14 := fun _ => h5 }⟩
        case fin =>
          rintro f a u ⟨R, b10, b11, v11, v12, v13, v32, v33, v34, v35, v36, v37, v38, v39, v40, v41, rfl, hF⟩ hall
          have hm6 := hF.k6 (hall 6 (of_decide_eq_true (by kernel_rfl)))
          have hm7 := hF.k7 (hall 7 (of_decide_eq_true (by kernel_rfl)))
          have hm8 := hF.k8 (hall 8 (of_decide_eq_true (by kernel_rfl)))
          have hm9 := hF.k9 (hall 9 (of_decide_eq_true (by kernel_rfl)))
          have hm0 := hF.k0 (hall 0 (of_decide_eq_true (by kernel_rfl)))
          have hm1 := hF.k1 (hall 1 (of_decide_eq_true (by kernel_rfl)))
          have hm2 := hF.k2 (hall 2 (of_decide_eq_true (by kernel_rfl)))
          have hm3 := hF.k3 (hall 3 (of_decide_eq_true (by kernel_rfl)))
          have hm4 := hF.k4 (hall 4 (of_decide_eq_true (by kernel_rfl)))
          subst hm0 hm1 hm2 hm3 hm4 hm6 hm7 hm8 hm9
          obtain ⟨rfl, hI, wtl⟩ := hF.k5 (hall 5 (of_decide_eq_true (by kernel_rfl)))
          obtain ⟨rfl, w10, l10, far10, _, tT⟩ := hF.k10 (hall 10 (of_decide_eq_true (by kernel_rfl)))
          obtain ⟨rfl, w11, l11, far11, _, dS⟩ := hF.k11 (hall 11 (of_decide_eq_true (by kernel_rfl)))
          obtain rfl := hF.k14 (hall 14 (of_decide_eq_true (by kernel_rfl)))
          have ne := hF.ne (hall 10 (of_decide_eq_true (by kernel_rfl))) (hall 11 (of_decide_eq_true (by kernel_rfl)))
          replace tT := tT (hall 12 (of_decide_eq_true (by kernel_rfl)))
          replace dS := dS (hall 13 (of_decide_eq_true (by kernel_rfl)))
          replace far10 := far10 (hall 5 (of_decide_eq_true (by kernel_rfl)))
          replace far11 := far11 (hall 5 (of_decide_eq_true (by kernel_rfl)))
          have hWX := hW.keep hF.bel
          have BX := hb.trans (hF.bel.mono hb.size)
          have zX := hF.bel.size
          have HPUT : Hid (PutG g fs[k'].1 fs[k'].2.1 fs[k'].2.2 R.g R.sv R.ss R.code) := hI.put
          have hBt : w9.heap.size + 1 ≤ wr.heap.size := hW.BU
          clear hF hall HSS hW r0 r1 r2 hrow hetW
          have HSTEP : Hid (PlayTo (newG ins) (fs.take (k' + 1)) (if R.code = 2 then g else R.g) (if R.code = 1 then shp ++ [(R.sv, R.ss)] else shp) (csp ++ [R.code]) ∧ cs'[k']? = some R.code ∧ (R.code = 1 → (L.map (·.sv))[shp.length]? = some (R.sv, R.ss))) := by
            obtain ⟨gF, hPF⟩ := HPT.out
            exact PlayTo.step hPF hlt HP.out HPUT.out
          have hkc : k' < cs'.length := by have := HLEN.out; omega
          obtain ⟨bc, oc, rfl, hbc, hcc⟩ := (hca.below BX) k' hkc
          have hce : cs'[k'] = R.code := by
            have := HSTEP.out.2.1
            rw [List.getElem?_eq_getElem hkc] at this
            exact Option.some.inj this
          rw [hce] at hcc
          have kc1 : (k' : Int) < (cs'.length : Int) := by omega
          have hnice := HPUT.out.nice.1
          have o1 := hI.o1
          have o2 := hI.o2
          have o3 := hI.o3
          have o4 := hI.o4
          clear hce HP
          by_cases h2 : R.code = 2
          · have HA : Hid (PlayTo (newG ins) (fs.take (k' + 1)) g shp (csp ++ [R.code])) := by
              have := HSTEP.out.1
              rw [if_pos h2, if_neg (by omega)] at this
              exact this
            clear HSTEP tT dS hI
            go_wp2_with fail
            exact ⟨⟨k' + 1, glo, ghi, g, Lw', p0, p1, p2, d0, d1, d2, shp, csp ++ [R.code], by omega, by go_num, rfl, by omega, hWX, hcap, HA, BX⟩, by simp [intOf]; omega⟩
          · have hW6 := hWX.put (d0' := R.d0) (d1' := R.d1) (d2' := R.d2) hI.map hnice hI.sg (by omega) (.inl (by omega)) (fun j e => by cases e) (fun j e => by cases e)
            have sp6 : Span w9.heap.size (w9.heap.size + 1) u (((u.setCell ⟨w9.heap.size, 0, none⟩ (.slice R.s0 R.g.ins.length R.d0)).setCell ⟨w9.heap.size, 1, none⟩ (.slice R.s1 R.L.length R.d1)).setCell ⟨w9.heap.size, 2, none⟩ (.slice R.s2 R.g.shown.length R.d2)) := (((Span.refl _ _ _).setCell (Nat.le_refl _) (Nat.lt_succ_self _) _ _).setCell (Nat.le_refl _) (Nat.lt_succ_self _) _ _).setCell (Nat.le_refl _) (Nat.lt_succ_self _) _ _
            have hI6 := hI.span sp6 (by omega)
            have dS6 := dS.span sp6 (by omega)
            have B6 := BX.trans (sp6.below (Nat.le_refl _) BX.size)
            obtain ⟨y0, y1, y2, y3, y4, y5⟩ := id hWX.tG
            obtain ⟨t0, t1, t2, _, _, _⟩ := id tT
            have hcap6 := hI.cap
            by_cases h1 : R.code = 1
            · have HB : Hid (PlayTo (newG ins) (fs.take (k' + 1)) R.g (shp ++ [(R.sv, R.ss)]) (csp ++ [R.code])) := by
                have := HSTEP.out.1
                rw [if_neg h2, if_pos h1] at this
                exact this
              have hsx := HSTEP.out.2.2 h1
              obtain ⟨hsl, hse⟩ := List.getElem?_eq_some_iff.1 hsx
              have hsl' : shp.length < L.length := by simpa using hsl
              obtain ⟨bs, os_, rfl, hbs, sa3, sc3, sa4, sc4, hs0, hs1, hrz, hrm⟩ := (hsa.below B6) shp.length hsl
              rw [hse] at hs0 hs1 hrz hrm
              obtain ⟨x0, x1, _, _⟩ := id dS6
              have l11 : b11 < (((u.setCell ⟨w9.heap.size, 0, none⟩ (.slice R.s0 R.g.ins.length R.d0)).setCell ⟨w9.heap.size, 1, none⟩ (.slice R.s1 R.L.length R.d1)).setCell ⟨w9.heap.size, 2, none⟩ (.slice R.s2 R.g.shown.length R.d2)).heap.size := block_lt_of_cell x0
              obtain ⟨_, hv6, hst6⟩ := HPUT.out.nice
              have hst12 := hst6.1
              have n0 : (0 : Int) ≤ (shp.length : Int) := by omega
              have n1 : (shp.length : Int) < (L.length : Int) := by omega
              have n2 : decide ((L.length : Int) ≤ (shp.length : Int)) = false := decide_eq_false (by omega)
              have n3 : decide (L.length ≤ shp.length) = false := decide_eq_false (by omega)
              have hz6 := hI6.sz.row
              have hs6 := hI6.ss.row
              clear hsx hse HSTEP hI dS hWX BX hI6 hst6
              go_wp2_with fail
              generalize ((u.setCell ⟨w9.heap.size, 0, none⟩ (.slice R.s0 R.g.ins.length R.d0)).setCell ⟨w9.heap.size, 1, none⟩ (.slice R.s1 R.L.length R.d1)).setCell ⟨w9.heap.size, 2, none⟩ (.slice R.s2 R.g.shown.length R.d2) = W6 at *
              clear y0 y1 y2 y3 y4 y5 t0 t1 t2 tT sp6 dS6
              refine wp_region_lat (by kernel_rfl) (by kernel_rfl) ?_
              have hne := Lat.some W6
              have m0 : ∀ n : Lat W6, n.w.cell? ⟨b11, 0, none⟩ = some (.slice R.s3 R.sv.length R.d3) := fun n => n.cell l11 x0
              have m1 : ∀ n : Lat W6, n.w.cell? ⟨b11, 1, none⟩ = some (.slice R.s4 R.ss.length R.d4) := fun n => n.cell l11 x1
              have m2 : ∀ n : Lat W6, n.w.cell? ⟨bs, os_ + shp.length * 2, none⟩ = some (.slice sa3 R.sv.length sc3) := fun n => n.cell hbs hs0
              have m3 : ∀ n : Lat W6, n.w.cell? ⟨bs, os_ + shp.length * 2 + 1, none⟩ = some (.slice sa4 R.ss.length sc4) := fun n => n.cell hbs hs1
              have ce : ∀ n : Lat W6, Calls Tryz.prog 12 #[.agg #[.slice R.s3 R.sv.length R.d3, .slice R.s4 R.ss.length R.d4], .agg #[.slice sa3 R.sv.length sc3, .slice sa4 R.ss.length sc4]] n.w fun e w'' => e = .returned (.bool true) ∧ Below n.w.heap.size n.w w'' := fun n => bsShow_same _ _ _ _ _ _ _ _ _ _ _ (by unfold maxLen; omega) (by unfold maxLen; omega) (hz6.below n.h) (hs6.below n.h) (hrz.below n.h) (hrm.below n.h)
              repeat (go_big_quiet_step ((go_at_call 12; exact Calls.lat_of (ce _))))
              refine wpQuiet_nil ?_
              rintro _ ⟨nq, rfl⟩
              have hWN := hW6.keep nq.h
              have BN := B6.trans (nq.h.mono B6.size)
              go_wp2_with fail
              exact ⟨⟨k' + 1, R.tl, R.h1, R.g, R.L, R.s0, R.s1, R.s2, R.d0, R.d1, R.d2, shp ++ [(R.sv, R.ss)], csp ++ [R.code], by omega, by go_num, by simp [go_sem], by simp; omega, hWN, hcap6, HB, BN⟩, by simp [intOf]; omega⟩
            · have HB : Hid (PlayTo (newG ins) (fs.take (k' + 1)) R.g shp (csp ++ [R.code])) := by
                have := HSTEP.out.1
                rw [if_neg h2, if_neg h1] at this
                exact this
              clear HSTEP hI dS hWX BX
              go_wp2_with fail
              exact ⟨⟨k' + 1, R.tl, R.h1, R.g, R.L, R.s0, R.s1, R.s2, R.d0, R.d1, R.d2, shp, csp ++ [R.code], by omega, by go_num, rfl, by omega, hW6, hcap6, HB, B6⟩, by simp [intOf]; omega⟩
      · obtain rfl : k' = fs.length := by omega
        have HEQ : Hid (shp.length = L.length) := by
          have h := HP.out
          rw [List.take_of_length_le (Nat.le_refl _)] at h
          obtain ⟨gF, hPF⟩ := HPT.out
          have := congrArg List.length (h.one hPF).2.1
          rw [List.length_map] at this
          exact this
        have heq : ((shp.length : Int) == (L.length : Int)) = true := by have := HEQ.out; rw [beq_iff_eq]; omega
        go_wp2_with fail
        go_ret
        exact ⟨by simp, BW⟩
  · exact absurd (hN.one HIN.out).2 (by simp)

end Go.Proofs.YtpfhegengmlkmaaGreatDoor
