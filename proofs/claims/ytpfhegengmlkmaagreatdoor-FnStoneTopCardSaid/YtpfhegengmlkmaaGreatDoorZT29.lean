/- Texts of this claim, one behind the other. -/
import Derived.Laws.IdiomStrings
import Derived.Test.YtpfhegengmlkmaaGreatDoorZT1
import Derived.Test.YtpfhegengmlkmaaGreatDoorZT5
import Derived.Test.YtpfhegengmlkmaaGreatDoorZT6
import Derived.Test.YtpfhegengmlkmaaGreatDoorZT18
import Derived.Test.YtpfhegengmlkmaaGreatDoorZT22
import Derived.Test.YtpfhegengmlkmaaGreatDoorZT23
import Derived.Test.YtpfhegengmlkmaaGreatDoorZT24
import Derived.Test.YtpfhegengmlkmaaGreatDoorZT27
import Derived.Test.YtpfhegengmlkmaaGreatDoorZT28
namespace Go.Proofs.YtpfhegengmlkmaaGreatDoor
open Go.RowKit Go.BigFrame
set_option maxRecDepth 100000

/-- The slice at address 'a' holds lists of numbers, each in a slice of its own. -/
def RowU (w : World) (a : Option Addr) (F : List (List Int)) : Prop := ∀ i, (h : i < F.length) → ∃ b o, a = some ⟨b, o, none⟩ ∧ b < w.heap.size ∧ ∃ s c, w.cell? ⟨b, o + i, none⟩ = some (.slice s F[i].length c) ∧ RowZ w s F[i]
theorem RowU.below {w w' : World} {a : Option Addr} {F : List (List Int)} (h : RowU w a F) (hb : Below w.heap.size w w') : RowU w' a F := fun i hi => by
  obtain ⟨b, o, e, h1, s, c, h2, h3⟩ := h i hi
  exact ⟨b, o, e, Nat.lt_of_lt_of_le h1 hb.size, s, c, cell_on hb h1 h2, h3.below hb⟩
theorem GathU.row {w : World} {B : Nat} {v : Value} {L : List (List Int × Nat × Nat)} (h : GathU w B v L) (h0 : ∀ p ∈ L, 0 < p.1.length) : ∃ a cap, v = .slice a L.length cap ∧ RowU w a (L.map (·.1)) := by
  rcases h.1.2 with ⟨rfl, e0⟩ | ⟨g, cap, cur, rfl, hB, hh, hn, _⟩
  · exact ⟨none, 0, by rw [e0], fun k hk => by rw [List.length_map] at hk; omega⟩
  · have hlt : g < w.heap.size := (Array.getElem?_eq_some_iff.1 hh).1
    refine ⟨_, cap, rfl, fun k hk => ⟨g, 0, rfl, hlt, ?_⟩⟩
    rw [List.length_map] at hk
    have hm := List.getElem_mem hk
    refine ⟨some ⟨L[k].2.1, 0, none⟩, L[k].2.2, ?_, by simpa using (h.2 L[k] hm).rowz rfl (h0 _ hm)⟩
    rw [Nat.zero_add, World.ownsRow.cellAt h.1 _ (by omega)]
    simp [hk]
/-- Block 'g' begins with the numbers 'l'. -/
def NumB (w : World) (g : Nat) (l : List Int) : Prop := ∃ m f, w.rowIs g 3 m f ∧ l.length ≤ m ∧ ∀ j, (h : j < l.length) → f j = .int .i64 l[j]
theorem NumB.cell {w : World} {g : Nat} {l : List Int} (h : NumB w g l) {j : Nat} (hj : j < l.length) : w.cell? ⟨g, j, none⟩ = some (.int .i64 l[j]) := by
  obtain ⟨m, f, h, hm, hf⟩ := h
  rw [h.cell (by omega), hf j hj]
theorem NumB.frozen {w : World} {g : Nat} {l : List Int} (h : NumB w g l) (j : Nat) : w.frozen? ⟨g, j, none⟩ = false := by
  obtain ⟨m, f, h, _⟩ := h
  exact h.frozen j
theorem NumB.lt {w : World} {g : Nat} {l : List Int} (h : NumB w g l) : g < w.heap.size := by
  obtain ⟨m, f, h, _⟩ := h
  exact h.lt
theorem NumB.set {w : World} {g : Nat} {l : List Int} (h : NumB w g l) (j : Nat) (x : Int) : NumB (w.setCell ⟨g, j, none⟩ (.int .i64 x)) g (l.set j x) := by
  obtain ⟨m, f, h, hm, hf⟩ := h
  refine ⟨m, _, h.set _ _, by rw [List.length_set]; exact hm, fun i hi => ?_⟩
  rw [List.length_set] at hi
  by_cases e : i = j
  · subst e; simp
  · simp only [if_neg e]
    rw [hf i hi, List.getElem_set_ne (fun h => e h.symm)]
theorem NumB.below {w w' : World} {g : Nat} {l : List Int} (h : NumB w g l) (hb : Below w.heap.size w w') : NumB w' g l := by
  have hlt := h.lt
  obtain ⟨m, f, h, hf⟩ := h
  exact ⟨m, f, h.of_block (hb.block g hlt), hf⟩
theorem NumB.row {w : World} {g : Nat} {l : List Int} (h : NumB w g l) : RowZ w (some ⟨g, 0, none⟩) l := fun k hk => ⟨g, 0, rfl, h.lt, by rw [Nat.zero_add]; exact h.cell hk⟩
theorem GathN.block {w : World} {B g n c : Nat} {l : List Int} (h : GathN w B (.slice (some ⟨g, 0, none⟩) n c) l) : B ≤ g ∧ NumB w g l := by
  rcases h.2 with ⟨e, _⟩ | ⟨g', cap, cur, e, hB, hh, hn, hc, hs, ht⟩
  · cases e
  · obtain rfl : g = g' := by simpa using (Value.slice.inj e).1
    refine ⟨hB, cap * 1, fun i => (cur[i]?).getD undef, ⟨cur, hh, hs, fun i hi => ?_⟩, by omega, fun k hk => ?_⟩
    · have hi' : i < cur.size := by omega
      simp [Array.getElem?_eq_getElem hi']
    · have h2 : (l.map fun x => Value.int .i64 x)[k]? = some (.int .i64 l[k]) := by simp [hk]
      rw [← ht, List.getElem?_take_of_lt (by simp; omega)] at h2
      simp only [Array.getElem?_toList] at h2
      simp only [h2]
      rfl

/-- The first k places have been held against q. -/
def MixP (cur q : List Int) (k : Nat) (l : List Int) : Prop := l.length = cur.length ∧ ∀ j, (h : j < l.length) → (hc : j < cur.length) → (hq : j < q.length) → l[j] = if j < k then max cur[j] q[j] else cur[j]
theorem mix_start (cur q : List Int) : MixP cur q 0 cur := ⟨rfl, fun j h hc hq => by simp⟩
theorem MixP.up {cur q l : List Int} {k : Nat} (h : MixP cur q k l) (hk : k < l.length) (hq : k < q.length) (hlt : l[k] < q[k]) : MixP cur q (k + 1) (l.set k q[k]) := by
  refine ⟨by rw [List.length_set]; exact h.1, fun j hj0 hc hq' => ?_⟩
  have hj : j < l.length := by simpa using hj0
  by_cases e : j = k
  · subst e
    have h2 := h.2 j hj hc hq'
    rw [if_neg (by omega)] at h2
    rw [List.getElem_set_self, if_pos (by omega)]
    omega
  · have h2 := h.2 j hj hc hq'
    rw [List.getElem_set_ne (fun h => e h.symm), h2]
    by_cases e2 : j < k
    · rw [if_pos e2, if_pos (by omega)]
    · rw [if_neg e2, if_neg (by omega)]
theorem MixP.same {cur q l : List Int} {k : Nat} (h : MixP cur q k l) (hk : k < l.length) (hq : k < q.length) (hlt : ¬ l[k] < q[k]) : MixP cur q (k + 1) l := by
  refine ⟨h.1, fun j hj hc hq' => ?_⟩
  have h2 := h.2 j hj hc hq'
  by_cases e : j = k
  · subst e
    rw [if_neg (by omega)] at h2
    rw [if_pos (by omega)]
    omega
  · rw [h2]
    by_cases e2 : j < k
    · rw [if_pos e2, if_pos (by omega)]
    · rw [if_neg e2, if_neg (by omega)]
theorem MixP.whole {cur q l : List Int} {k : Nat} (h : MixP cur q k l) (hq : q.length = cur.length) (hk : cur.length ≤ k) : l = List.zipWith max cur q := by
  apply List.ext_getElem
  · rw [h.1, List.length_zipWith, hq, Nat.min_self]
  · intro j h1 h2
    have hl := h.1
    rw [List.getElem_zipWith, h.2 j h1 (by omega) (by omega), if_pos (by omega)]
theorem topL_take {b : List Int} {F : List (List Int)} {i : Nat} (h : i < F.length) : topL b (F.take (i + 1)) = List.zipWith max (topL b (F.take i)) F[i] := by
  rw [List.take_succ_eq_append_getElem h]
  unfold topL
  rw [List.foldl_append]
  rfl

set_option maxHeartbeats 1600000 in
theorem specCB_any (a : Option Addr) (cap : Nat) (ws : List (List ItemL)) (w : World) (hf : FitW ws) (hr : RowW w a ws) :
    Calls Tryz.prog 38 #[.slice a ws.length cap] w fun e w' => ((∃ g c out, e = .returned (.tuple #[.slice (some ⟨g, 0, none⟩) out.length c, .bool true]) ∧ BestP ws out true ∧ w.heap.size ≤ g ∧ NumB w' g out) ∨ (e = .returned (.tuple #[.slice none 0 0, .bool false]) ∧ BestP ws [] false)) ∧ Below w.heap.size w w' := by
  go_enter Tryz.func38, Tryz.ntmps38
  go_wp2_with fail
  refine (l3Ok_any a cap ws _ hf hr).mono ?_
  rintro e w1 ⟨⟨r, rfl, hr1⟩, b1⟩
  have HR : Hid (r = true ↔ OkW ws) := hr1
  clear hr1
  cases r with
  | false =>
    have HN : Hid (BestP ws [] false) := none_best (.inl fun h => by have := HR.out.2 h; simp at this)
    go_wp2_with fail
    exact bodyPost_ret (v := .tuple #[.slice none 0 0, .bool false]) (by simp [results, Tryz.results38, go_sem]) rfl ⟨.inr ⟨rfl, HN.out⟩, b1⟩
  | true =>
    have HOK : Hid (OkW ws) := HR.out.1 rfl
    clear HR
    have h6 := HOK.out.2.1
    have h1l := HOK.out.1
    go_wp2_with fail
    have hpow : 4 ^ ws.length ≤ 4096 := Nat.le_trans (Nat.pow_le_pow_right (by omega) h6) (by decide)
    refine (l3All_any w w1.heap.size a cap ws b1.size hf hr h6 (fun k hk => (HOK.out.2.2 k hk).1) ws.length none 0 [] (.slice none 0 0) [] w1 b1 (fun k hk => absurd hk (Nat.not_lt_zero k)) (fun _ => rfl) (fun b o h => by cases h) ⟨by simp, fun i hi => by simp at hi⟩ (by simp) (gathU_none _ _) (Nat.le_refl _) (by simp; omega)).mono ?_
    rintro e w2 ⟨⟨v2, L, rfl, hg2, hL, _⟩, hgr⟩
    have hb2 : Below w1.heap.size w1 w2 := (Below.refl _ _).grown hgr (Nat.le_refl _) (fun k hk => by cases hk)
    have B2 : Below w.heap.size w w2 := b1.trans (hb2.mono b1.size)
    simp only [List.map_nil, List.nil_append] at hL
    have hlens : ∀ q ∈ foundL ws ws.length [], q.length = ws.length := fun q hq => (chP_iff.2 ⟨HOK.out, hq⟩).2.1
    have hcnt : (foundL ws ws.length []).length ≤ 4096 := Nat.le_trans (foundL_len (fun k hk => (HOK.out.2.2 k hk).1) ws.length []) hpow
    obtain ⟨va, vc, rfl, hru⟩ := hg2.row (fun p hp => by
      have := hlens p.1 (by rw [← hL]; exact List.mem_map.2 ⟨p, hp, rfl⟩)
      omega)
    rw [hL] at hru
    have hLl : L.length = (foundL ws ws.length []).length := by rw [← hL, List.length_map]
    rw [hLl]
    clear hg2 hgr hLl hL
    generalize hF : foundL ws ws.length [] = F at *
    have HF : Hid (foundL ws ws.length [] = F) := hF
    clear hF
    by_cases h0 : F.length = 0
    · have HN : Hid (BestP ws [] false) := none_best (.inr (by rw [HF.out]; exact List.length_eq_zero_iff.1 h0))
      have h0' : ((F.length : Int) == 0) = true := by rw [beq_iff_eq]; omega
      go_wp2_with fail
      exact bodyPost_ret (v := .tuple #[.slice none 0 0, .bool false]) (by simp [results, Tryz.results38, go_sem]) rfl ⟨.inr ⟨rfl, HN.out⟩, B2⟩
    have h0' : ((F.length : Int) == 0) = false := by rw [beq_eq_false_iff_ne]; omega
    obtain ⟨bu, ou, rfl, hbu, s0, c0, hu0, hz0⟩ := hru 0 (by omega)
    have i0 : (0 : Int) < (F.length : Int) := by omega
    have hl0 : F[0].length = ws.length := hlens _ (List.getElem_mem (by omega))
    have HL0 : Hid (F[0].length = ws.length) := hl0
    have hl6 : F[0].length ≤ 6 := by omega
    have hnn : F[0] = [] → s0 = none := fun h => by rw [h] at hl0; simp at hl0; omega
    have HLENS : Hid (∀ q ∈ F, q.length = ws.length) := hlens
    clear hl0 hlens
    rw [Nat.add_zero] at hu0
    have hbx : Below w2.heap.size w2 (w2.alloc (.cells #[] 3)) := (Below.refl _ _).alloc (Nat.le_refl _) _
    have hu0' := cell_on hbx hbu hu0
    have hz0' := hz0.below hbx
    go_wp2_with (first | (at_builtin; refine wpList_append_nums rfl _ _ rfl w2.heap.size w2.heap.size c0 s0 F[0] rfl (heap_alloc_new w2 _) (Nat.le_refl _) rfl hz0' hnn (by omega) ?_; intro g3 c3 w3 hn3 hgr3 hge3))
    obtain ⟨_, hnb⟩ := hn3.block
    have hb3 : Below w2.heap.size w2 w3 := hbx.grown hgr3 (by simp) (fun k hk => by cases hk; exact Nat.le_refl _)
    clear hn3 hgr3 hu0 hu0' hz0 hz0' hbx
    have B3 : Below w.heap.size w w3 := B2.trans (hb3.mono B2.size)
    go_loopw [6] (fun i wr => ∃ (k : Nat) (l : List Int), k ≤ F.length ∧ i = .int .i64 k ∧ l.length = F[0].length ∧ Hid (l = topL F[0] (F.take k)) ∧ NumB wr g3 l ∧ Below w2.heap.size w2 wr) (fun i _ => F.length - (intOf i).toNat)
    case atStart => exact ⟨0, F[0], Nat.zero_le _, rfl, rfl, rfl, hnb, hb3⟩
    case round =>
      clear hnb
      obtain ⟨k, l, hk, rfl, hll, HT, hnb, hbl⟩ := hrel
      by_cases hlt : k < F.length
      · have hqlen : F[k].length = F[0].length := by rw [HLENS.out _ (List.getElem_mem hlt), HL0.out]
        have HQL : Hid (F[k].length = F[0].length) := hqlen
        have hq6 : F[k].length ≤ 6 := by omega
        have HLL : Hid (l.length = F[0].length) := hll
        have k0 : (0 : Int) ≤ (k : Int) := by omega
        have k1 : (k : Int) < (F.length : Int) := by omega
        clear hqlen hll
        go_wp2_with fail
        go_loopw [7] (fun i2 wr2 => ∃ (j : Nat) (m : List Int), j ≤ F[0].length ∧ i2 = .int .i64 j ∧ Hid (MixP l F[k] j m) ∧ NumB wr2 g3 m ∧ Below w2.heap.size w2 wr2) (fun i2 _ => F[0].length - (intOf i2).toNat)
        case atStart => exact ⟨0, l, Nat.zero_le _, rfl, mix_start l F[k], hnb, hbl⟩
        case round =>
          clear hnb hbl
          obtain ⟨j, m, hj, rfl, HM, hnb, hbl⟩ := hrel
          by_cases hjlt : j < F[0].length
          · have hml : m.length = F[0].length := by rw [HM.out.1, HLL.out]
            have hjm : j < m.length := by omega
            have hjq : j < F[k].length := by rw [HQL.out]; omega
            obtain ⟨b5, o5, e5, hb5, s5, c5, f5, r5⟩ := hru.below hbl k hlt
            cases e5
            obtain ⟨b6, o6, rfl, hb6, f6⟩ := r5 j hjq
            have f7 := hnb.cell hjm
            have z7 := hnb.frozen j
            have j0 : (0 : Int) ≤ (j : Int) := by omega
            have j1 : (j : Int) < (F[0].length : Int) := by omega
            have j2 : (j : Int) < (F[k].length : Int) := by omega
            clear hml
            by_cases hgt : m[j] < F[k][j]
            · have HX : Hid (MixP l F[k] (j + 1) (m.set j F[k][j])) := HM.out.up hjm hjq hgt
              have hgt' : decide (m[j] < F[k][j]) = true := decide_eq_true hgt
              go_wp2_with fail
              go_quiet (fail)
              go_wp2_with fail
              have hset := (hnb.below (below_drewN (Below.refl _ _) nq)).set j F[k][j]
              exact ⟨⟨j + 1, _, by omega, by go_num, HX, hset, (below_drewN hbl _).setCell (by simp only; omega) _⟩, by simp [intOf]; omega⟩
            · have HX : Hid (MixP l F[k] (j + 1) m) := HM.out.same hjm hjq hgt
              have hgt' : decide (m[j] < F[k][j]) = false := decide_eq_false hgt
              go_wp2_with fail
              go_quiet (fail)
              go_wp2_with fail
              exact ⟨⟨j + 1, m, by omega, by go_num, HX, hnb.below (below_drewN (Below.refl _ _) _), below_drewN hbl _⟩, by simp [intOf]; omega⟩
          · have HX : Hid (m = topL F[0] (F.take (k + 1))) := by
              unfold Hid
              rw [topL_take hlt, ← HT.out]
              exact HM.out.whole (by rw [HQL.out, HLL.out]) (by rw [HLL.out]; omega)
            have hml : m.length = F[0].length := by rw [HM.out.1, HLL.out]
            go_wp2_with fail
            exact ⟨⟨k + 1, m, by omega, by go_num, hml, HX, hnb, hbl⟩, by simp [intOf]; omega⟩
      · have HB : Hid (BestP ws l true) := by
          unfold Hid
          rw [HT.out, List.take_of_length_le (by omega)]
          have e : foundL ws ws.length [] = F[0] :: F.tail := by rw [HF.out]; cases F with
            | nil => simp at h0
            | cons x y => rfl
          have h := topL_best HOK.out e
          rwa [← e, HF.out] at h
        go_wp2_with fail
        exact bodyPost_ret (v := .tuple #[.slice (some ⟨g3, 0, none⟩) l.length c3, .bool true]) (by simp [results, Tryz.results38, go_sem, hll]) rfl ⟨.inl ⟨g3, c3, l, rfl, HB.out, Nat.le_trans B2.size hge3, hnb⟩, B2.trans (hbl.mono B2.size)⟩

end Go.Proofs.YtpfhegengmlkmaaGreatDoor

namespace Go.Proofs.YtpfhegengmlkmaaGreatDoor
open Go.RowKit Go.BigFrame

theorem NumB.but {w w' : World} {g b : Nat} {l : List Int} (h : NumB w g l) (hb : But b w w') (hne : g ≠ b) : NumB w' g l := by
  have hlt := h.lt
  obtain ⟨m, f, h, hf⟩ := h
  exact ⟨m, f, h.of_block (hb.block g hlt hne), hf⟩
theorem NumB.span {w w' : World} {g lo hi : Nat} {l : List Int} (h : NumB w g l) (hs : Span lo hi w w') (hd : g < lo ∨ hi ≤ g) : NumB w' g l := by
  have hlt := h.lt
  obtain ⟨m, f, h, hf⟩ := h
  exact ⟨m, f, h.of_block (hs.block g hlt hd), hf⟩
/-- The numbers of an answer lie in a block between two. -/
def SafeZ (w : World) (lo hi : Nat) (a : Option Addr) (l : List Int) : Prop := l = [] ∨ ∃ g, a = some ⟨g, 0, none⟩ ∧ lo ≤ g ∧ g < hi ∧ NumB w g l
theorem SafeZ.row {w : World} {lo hi : Nat} {a : Option Addr} {l : List Int} (h : SafeZ w lo hi a l) : RowZ w a l := by
  rcases h with rfl | ⟨g, rfl, _, _, hn⟩
  · exact fun k hk => absurd hk (Nat.not_lt_zero k)
  · exact hn.row
theorem SafeZ.below {w w' : World} {lo hi : Nat} {a : Option Addr} {l : List Int} (h : SafeZ w lo hi a l) (hb : Below w.heap.size w w') : SafeZ w' lo hi a l := by
  rcases h with rfl | ⟨g, rfl, h1, h2, hn⟩
  · exact .inl rfl
  · exact .inr ⟨g, rfl, h1, h2, hn.below hb⟩
theorem SafeZ.span {w w' : World} {lo hi lo' hi' : Nat} {a : Option Addr} {l : List Int} (h : SafeZ w lo hi a l) (hs : Span lo' hi' w w') (hd : hi ≤ lo' ∨ hi' ≤ lo) : SafeZ w' lo hi a l := by
  rcases h with rfl | ⟨g, rfl, h1, h2, hn⟩
  · exact .inl rfl
  · exact .inr ⟨g, rfl, h1, h2, hn.span hs (by omega)⟩

end Go.Proofs.YtpfhegengmlkmaaGreatDoor

namespace Go.Proofs.YtpfhegengmlkmaaGreatDoor
open Go.RowKit Go.BigFrame
set_option maxRecDepth 100000

theorem Span.of_below {lo hi : Nat} {w w' : World} (h : Below w.heap.size w w') : Span lo hi w w' := ⟨h.os, h.tape, h.output, h.size, fun k hk _ => h.block k hk⟩
theorem Span.cell {lo hi b o : Nat} {w w' : World} {v : Value} (h : Span lo hi w w') (hc : w.cell? ⟨b, o, none⟩ = some v) (hd : b < lo ∨ hi ≤ b) : w'.cell? ⟨b, o, none⟩ = some v :=
  (World.cell?_of_block (h.block b (block_lt_of_cell hc) hd)).trans hc

end Go.Proofs.YtpfhegengmlkmaaGreatDoor

namespace Go.Proofs.YtpfhegengmlkmaaGreatDoor
open Go.RowKit Go.BigFrame
set_option maxRecDepth 100000

/-- A feed: the input that it names, and its item. -/
abbrev FeedV := Int × ItemL
/-- The slice at address 'a' holds the feeds 'l', each in three cells. -/
def RowF (w : World) (a : Option Addr) (l : List FeedV) : Prop :=
  ∀ k, (h : k < l.length) → ∃ b o, a = some ⟨b, o, none⟩ ∧ b < w.heap.size ∧ w.cell? ⟨b, o + k * 3, none⟩ = some (.int .i64 l[k].1) ∧ w.cell? ⟨b, o + k * 3 + 1, none⟩ = some (.int .i64 l[k].2.1) ∧ ∃ v, w.cell? ⟨b, o + k * 3 + 2, none⟩ = some v ∧ IsSl w v l[k].2.2
def FitF (l : List FeedV) : Prop := l.length ≤ maxLen ∧ ∀ j, (h : j < l.length) → FitM l[j].2.2
theorem RowF.below {w w' : World} {a : Option Addr} {l : List FeedV} (h : RowF w a l) (hb : Below w.heap.size w w') : RowF w' a l := fun k hk => by
  obtain ⟨b, o, ha, hlt, h0, h1, v, h2, h3⟩ := h k hk
  exact ⟨b, o, ha, Nat.lt_of_lt_of_le hlt hb.size, by rw [hb.cell hlt]; exact h0, by rw [hb.cell hlt]; exact h1, v, by rw [hb.cell hlt]; exact h2, h3.below hb⟩
/-- The first 'k' feeds of 'l' lie in block 'g', which has room for all; their marks lie each in a block of its own, from 'lo' on and ahead of 'T'. -/
def PartF (w : World) (lo T g : Nat) (l : List FeedV) (k : Nat) : Prop :=
  ∃ (G C : Nat → Nat) (m : Nat) (f : Nat → Value), w.rowIs g 42 m f ∧ l.length * 3 ≤ m ∧
    (∀ j, (h : j < l.length) → j < k → f (j * 3) = .int .i64 l[j].1 ∧ f (j * 3 + 1) = .int .i64 l[j].2.1 ∧ f (j * 3 + 2) = .slice (some ⟨G j, 0, none⟩) l[j].2.2.length (C j) ∧ l[j].2.2.length ≤ C j ∧ Own w (G j) l[j].2.2 ∧ lo ≤ G j ∧ G j < T ∧ G j ≠ g) ∧ ∀ i j, i < k → j < k → i ≠ j → G i ≠ G j
theorem PartF.lt {w : World} {lo T g k : Nat} {l : List FeedV} (h : PartF w lo T g l k) : g < w.heap.size := by
  obtain ⟨_, _, _, _, h, _⟩ := h
  exact h.lt
theorem PartF.below {w w' : World} {lo T g k : Nat} {l : List FeedV} (h : PartF w lo T g l k) (hb : Below w.heap.size w w') : PartF w' lo T g l k := by
  have hlt := h.lt
  obtain ⟨G, C, m, f, h, hm, hf, hd⟩ := h
  refine ⟨G, C, m, f, h.of_block (hb.block g hlt), hm, fun j hj hk => ?_, hd⟩
  obtain ⟨h1, h2, h3, h4, h5, h6⟩ := hf j hj hk
  exact ⟨h1, h2, h3, h4, h5.below hb, h6⟩
theorem PartF.grow {w : World} {lo T T' g k : Nat} {l : List FeedV} (h : PartF w lo T g l k) (hT : T ≤ T') : PartF w lo T' g l k := by
  obtain ⟨G, C, m, f, h, hm, hf, hd⟩ := h
  refine ⟨G, C, m, f, h, hm, fun j hj hk => ?_, hd⟩
  obtain ⟨h1, h2, h3, h4, h5, h6, h7, h8⟩ := hf j hj hk
  exact ⟨h1, h2, h3, h4, h5, h6, by omega, h8⟩
theorem PartF.made (w : World) (lo : Nat) (l : List FeedV) (z : Array Value) : PartF (w.alloc (.cells (madeCells z (l.length * 3)) 42)) lo (w.heap.size + 1) w.heap.size l 0 := by
  refine ⟨fun _ => 0, fun _ => 0, l.length * 3, fun i => z[i % z.size]!, ?_, Nat.le_refl _, fun j _ h => by omega, fun i j h => by omega⟩
  have h := World.rowIs_alloc w (madeCells z (l.length * 3)) 42 (fun i => z[i % z.size]!) (fun i hi => by
    rw [size_madeCells] at hi
    simp [madeCells, hi])
  rwa [size_madeCells] at h
theorem PartF.cell {w : World} {lo T g k : Nat} {l : List FeedV} (h : PartF w lo T g l k) {i : Nat} (hi : i < l.length * 3) : ∃ v, w.cell? ⟨g, i, none⟩ = some v := by
  obtain ⟨_, _, m, f, h, hm, _⟩ := h
  exact ⟨_, h.cell (by omega)⟩
theorem PartF.frozen {w : World} {lo T g k : Nat} {l : List FeedV} (h : PartF w lo T g l k) (i : Nat) : w.frozen? ⟨g, i, none⟩ = false := by
  obtain ⟨_, _, m, f, h, _⟩ := h
  exact h.frozen i
theorem PartF.step {w : World} {lo T g k : Nat} {l : List FeedV} (h : PartF w lo T g l k) (hk : k < l.length) {b c : Nat} (hT : T ≤ b) (hlo : lo ≤ b) (hg : b ≠ g) (hc : l[k].2.2.length ≤ c) (ho : Own w b l[k].2.2) :
    PartF (((w.setCell ⟨g, k * 3, none⟩ (.int .i64 l[k].1)).setCell ⟨g, k * 3 + 1, none⟩ (.int .i64 l[k].2.1)).setCell ⟨g, k * 3 + 2, none⟩ (.slice (some ⟨b, 0, none⟩) l[k].2.2.length c)) lo (b + 1) g l (k + 1) := by
  obtain ⟨G, C, m, f, h, hm, hf, hd⟩ := h
  refine ⟨fun j => if j = k then b else G j, fun j => if j = k then c else C j, m, _, ((h.set _ _).set _ _).set _ _, hm, fun j hj hlt => ?_, fun i j hi hj hne => ?_⟩
  · by_cases e : j = k
    · subst e
      simp only [if_true]
      refine ⟨by simp, by simp, by simp, hc, ((ho.setOther hg _ _).setOther hg _ _).setOther hg _ _, hlo, by omega, hg⟩
    · obtain ⟨h1, h2, h3, h4, h5, h6, h7, h8⟩ := hf j hj (by omega)
      have e0 : j * 3 ≠ k * 3 + 1 := by omega
      have e1 : j * 3 ≠ k * 3 := by omega
      have e2 : j * 3 ≠ k * 3 + 2 := by omega
      have e3 : j * 3 + 1 ≠ k * 3 := by omega
      have e4 : j * 3 + 1 ≠ k * 3 + 1 := by omega
      have e5 : j * 3 + 1 ≠ k * 3 + 2 := by omega
      have e6 : j * 3 + 2 ≠ k * 3 := by omega
      have e7 : j * 3 + 2 ≠ k * 3 + 1 := by omega
      have e8 : j * 3 + 2 ≠ k * 3 + 2 := by omega
      simp only [if_neg e, if_neg e0, if_neg e1, if_neg e2, if_neg e3, if_neg e4, if_neg e5, if_neg e6, if_neg e7, if_neg e8]
      exact ⟨h1, h2, h3, h4, ((h5.setOther h8 _ _).setOther h8 _ _).setOther h8 _ _, h6, by omega, h8⟩
  · by_cases e : i = k
    · subst e
      have hj' : j < i := by omega
      have := (hf j (by omega) hj').2.2.2.2.2.2.1
      simp only [if_true, if_neg (by omega : ¬ j = i)]
      omega
    · by_cases e' : j = k
      · subst e'
        have hi' : i < j := by omega
        have := (hf i (by omega) hi').2.2.2.2.2.2.1
        simp only [if_true, if_neg e]
        omega
      · simp only [if_neg e, if_neg e']
        exact hd i j (by omega) (by omega) hne
theorem PartF.row {w : World} {lo T g : Nat} {l : List FeedV} (h : PartF w lo T g l l.length) : RowF w (some ⟨g, 0, none⟩) l := fun k hk => by
  obtain ⟨G, C, m, f, h, hm, hf, _⟩ := h
  obtain ⟨h1, h2, h3, h4, h5, _⟩ := hf k hk hk
  exact ⟨g, 0, rfl, h.lt, by rw [Nat.zero_add, h.cell (by omega), h1], by rw [Nat.zero_add, h.cell (by omega), h2], _, by rw [Nat.zero_add, h.cell (by omega), h3], _, _, rfl, h4, h5.row⟩
/-- From the 'k'-th on the feeds' marks lie each in a block of its own. -/
def RestF (w : World) (lo T g : Nat) (l : List FeedV) (k : Nat) : Prop :=
  ∃ (G C : Nat → Nat) (m : Nat) (f : Nat → Value), w.rowIs g 42 m f ∧ l.length * 3 ≤ m ∧
    (∀ j, (h : j < l.length) → k ≤ j → f (j * 3 + 2) = .slice (some ⟨G j, 0, none⟩) l[j].2.2.length (C j) ∧ Own w (G j) l[j].2.2 ∧ lo ≤ G j ∧ G j < T ∧ G j ≠ g) ∧ ∀ i j, i < l.length → j < l.length → i ≠ j → G i ≠ G j
theorem PartF.rest {w : World} {lo T g : Nat} {l : List FeedV} (h : PartF w lo T g l l.length) : RestF w lo T g l 0 := by
  obtain ⟨G, C, m, f, h, hm, hf, hd⟩ := h
  refine ⟨G, C, m, f, h, hm, fun j hj _ => ?_, hd⟩
  obtain ⟨h1, h2, h3, h4, h5, h6, h7, h8⟩ := hf j hj hj
  exact ⟨h3, h5, h6, h7, h8⟩
theorem RestF.turn {w : World} {lo T g : Nat} {l : List FeedV} {j : Nat} (h : RestF w lo T g l j) (hj : j < l.length) :
    ∃ b c, w.cell? ⟨g, j * 3 + 2, none⟩ = some (.slice (some ⟨b, 0, none⟩) l[j].2.2.length c) ∧ Own w b l[j].2.2 ∧ lo ≤ b ∧ b < T ∧ b ≠ g ∧ (∃ v, w.cell? ⟨g, j * 3, none⟩ = some v) ∧ (∃ v, w.cell? ⟨g, j * 3 + 1, none⟩ = some v) ∧ (∀ i, w.frozen? ⟨g, i, none⟩ = false) ∧ g < w.heap.size ∧
      ∀ (x y : Value) (w2 : World), But b ((w.setCell ⟨g, j * 3, none⟩ x).setCell ⟨g, j * 3 + 1, none⟩ y) w2 → RestF w2 lo T g l (j + 1) := by
  obtain ⟨G, C, m0, f, h, hm, hf, hd⟩ := h
  obtain ⟨f1, f2, f3, f4, f5⟩ := hf j hj (Nat.le_refl _)
  refine ⟨G j, C j, by rw [h.cell (by omega), f1], f2, f3, f4, f5, ⟨_, h.cell (by omega)⟩, ⟨_, h.cell (by omega)⟩, h.frozen, h.lt, fun x y w2 hb => ?_⟩
  have hg := h.lt
  refine ⟨G, C, m0, _, ((h.set (j * 3) x).set (j * 3 + 1) y).of_block (hb.block g (by simpa [World.setCell] using hg) (Ne.symm f5)), hm, fun i hi hk => ?_, hd⟩
  obtain ⟨i1, i2, i3, i4, i5⟩ := hf i hi (by omega)
  have e1 : i * 3 + 2 ≠ j * 3 := by omega
  have e2 : i * 3 + 2 ≠ j * 3 + 1 := by omega
  simp only [if_neg e1, if_neg e2]
  exact ⟨i1, hb.own ((i2.setOther i5 _ _).setOther i5 _ _) (hd i j hi hj (by omega)), i3, i4, i5⟩

end Go.Proofs.YtpfhegengmlkmaaGreatDoor

namespace Go.Proofs.YtpfhegengmlkmaaGreatDoor
open Go.RowKit Go.BigFrame
set_option maxRecDepth 100000

/-- The feed alone, without where it lies. -/
def fvL (p : FeedL) : FeedV := (p.1, p.2.1)
theorem GathF.rows {w : World} {B : Nat} {v : Value} {L : List FeedL} (h : GathF w B v L) : ∃ a cap, v = .slice a (L.map fvL).length cap ∧ (L.map fvL).length ≤ cap ∧ RowF w a (L.map fvL) := by
  rcases h.1.2 with ⟨rfl, h0⟩ | ⟨g, cap, cur, rfl, _, hh, hn, _⟩
  · have e : L = [] := List.length_eq_zero_iff.1 h0
    subst e
    exact ⟨none, 0, rfl, Nat.le_refl _, fun k hk => by simp at hk⟩
  · refine ⟨some ⟨g, 0, none⟩, cap, by rw [List.length_map], by rw [List.length_map]; exact hn, fun k hk => ?_⟩
    have hk' : k < L.length := by simpa using hk
    have h2 := fcells_at L k hk'
    have c0 := (World.ownsRow.cellAt h.1 (k * 3) (by omega)).trans h2.1
    have c1 := (World.ownsRow.cellAt h.1 (k * 3 + 1) (by omega)).trans h2.2.1
    have c2 := (World.ownsRow.cellAt h.1 (k * 3 + 2) (by omega)).trans h2.2.2
    have e : (L.map fvL)[k] = (L[k].1, L[k].2.1) := by simp [fvL]
    rw [e]
    refine ⟨g, 0, rfl, (Array.getElem?_eq_some_iff.1 hh).1, by rw [Nat.zero_add]; exact c0, by rw [Nat.zero_add]; exact c1, _, by rw [Nat.zero_add]; exact c2, (h.2 _ (List.getElem_mem hk')).1.isSl⟩
theorem GathF.fit {w : World} {B : Nat} {v : Value} {L : List FeedL} (h : GathF w B v L) (hl : L.length ≤ 1000) : FitF (L.map fvL) := by
  refine ⟨by rw [List.length_map]; unfold maxLen; omega, fun j hj => ?_⟩
  have hj' : j < L.length := by simpa using hj
  have e : (L.map fvL)[j] = (L[j].1, L[j].2.1) := by simp [fvL]
  rw [e]
  obtain ⟨_, h1, h2⟩ := h.2 _ (List.getElem_mem hj')
  exact ⟨by unfold maxLen; simp only; omega, fun i hi => by have := h2 _ (List.getElem_mem hi); unfold maxLen; omega⟩
theorem GathS.rows {w : World} {B : Nat} {v : Value} {l : List ByteArray} (h : GathS w B v l) : ∃ a cap, v = .slice a l.length cap ∧ l.length ≤ cap ∧ cap ≤ maxLen ∧ RowS w a l := by
  obtain ⟨a, cap, e, hr⟩ := h.shape
  refine ⟨a, cap, e, ?_⟩
  rcases (show World.ownsRow _ _ _ _ _ _ _ from h).2 with ⟨e', h0⟩ | ⟨g, cap', cur, e', _, hh, hn, hm, _⟩
  · rw [e] at e'
    simp only [Value.slice.injEq] at e'
    exact ⟨by omega, by omega, hr⟩
  · rw [e] at e'
    simp only [Value.slice.injEq] at e'
    exact ⟨by omega, by omega, hr⟩
theorem drawPlay_rows (ab : Option Addr) (n c : Nat) (w : World) (h : Bytes w ab n c) :
    Calls Tryz.prog 6 #[.slice ab n c] w fun e w' => (∃ ia ic ins fa fc fs, e = .returned (.tuple #[.slice ia (List.length ins) ic, .slice fa (List.length fs) fc]) ∧ 1 ≤ ins.length ∧ ins.length ≤ 5 ∧ (∀ j, (h : j < ins.length) → ins[j].size ≤ maxLen) ∧ ins.length ≤ ic ∧ ic ≤ maxLen ∧ RowS w' ia ins ∧ fs.length ≤ fc ∧ fs.length ≤ 61 ∧ FitF fs ∧ RowF w' fa fs) ∧ Below w.heap.size w w' := by
  refine (drawPlay_any ab n c w h).mono ?_
  rintro e w1 ⟨⟨vi, li, vf, Lf, rfl, hgi, h1, h5, hs8, hgf, h61⟩, B1⟩
  obtain ⟨ia, ic, rfl, h2, h3, hri⟩ := hgi.rows
  obtain ⟨fa, fc, rfl, h4, hrf⟩ := hgf.rows
  refine ⟨⟨ia, ic, li, fa, fc, Lf.map fvL, rfl, h1, h5, fun j hj => ?_, h2, h3, hri, h4, by rw [List.length_map]; exact h61, hgf.fit (by omega), hrf⟩, B1⟩
  have := hs8 _ (List.getElem_mem hj)
  unfold maxLen
  omega

end Go.Proofs.YtpfhegengmlkmaaGreatDoor
