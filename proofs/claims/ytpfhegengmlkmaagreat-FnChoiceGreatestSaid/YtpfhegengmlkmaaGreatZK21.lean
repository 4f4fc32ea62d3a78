/- Texts of this claim, one behind the other. -/
import Derived.Laws.IdiomStrings
import Derived.Test.YtpfhegengmlkmaaGreatZK1
import Derived.Test.YtpfhegengmlkmaaGreatZK5
import Derived.Test.YtpfhegengmlkmaaGreatZK6
import Derived.Test.YtpfhegengmlkmaaGreatZK7
import Derived.Test.YtpfhegengmlkmaaGreatZK9
import Derived.Test.YtpfhegengmlkmaaGreatZK10
import Derived.Test.YtpfhegengmlkmaaGreatZK16
import Derived.Test.YtpfhegengmlkmaaGreatZK17
import Derived.Test.YtpfhegengmlkmaaGreatZK19
import Derived.Test.YtpfhegengmlkmaaGreatZK20
namespace Go.Proofs.YtpfhegengmlkmaaGreat
open Go.RowKit Go.BigFrame
set_option maxRecDepth 100000

/-- The slice at address 'a' holds lists of numbers, each in a slice of its own. -/
def RowU (w : World) (a : Option Addr) (F : List (List Int)) : Prop := ∀ i, (h : i < F.length) → ∃ b o, a = some ⟨b, o, none⟩ ∧ b < w.heap.size ∧ ∃ s c, w.cell? ⟨b, o + i, none⟩ = some (.slice s F[i].length c) ∧ RowZ w s F[i]
theorem RowU.below {w w' : World} {a : Option Addr} {F : List (List Int)} (h : RowU w a F) (hb : Below w.heap.size w w') : RowU w' a F := fun i hi => by
  obtain ⟨b, o, e, h1, s, c, h2, h3⟩ := h i hi
  exact ⟨b, o, e, Nat.lt_of_lt_of_le h1 hb.size, s, c, cell_on hb h1 h2, h3.below hb⟩
theorem GathU.row {w : World} {B : Nat} {v : Value} {L : List (List Int × Nat × Nat)} (h : GathU w B v L) (h0 : ∀ p ∈ L, 0 < p.1.length) : ∃ a cap, v = .slice a L.length cap ∧ RowU w a (L.map (·.1)) := by
  rcases h.1.2 with ⟨rfl, e0⟩ | ⟨g, cap, cur, rfl, hB, hh, hn, _⟩
  · exact ⟨none, 0, by rw [e0], fun k hk => by rw [List.length_map] at hk; omega⟩
  · have hlt : g < w.heap.size := (Array.getElem?_eq_some_iff.1 hh).1
    refine ⟨_, cap, rfl, fun k hk => ⟨g, 0, rfl, hlt, ?_⟩⟩
    rw [List.length_map] at hk
    have hm := List.getElem_mem hk
    refine ⟨some ⟨L[k].2.1, 0, none⟩, L[k].2.2, ?_, by simpa using (h.2 L[k] hm).rowz rfl (h0 _ hm)⟩
    rw [Nat.zero_add, World.ownsRow.cellAt h.1 _ (by omega)]
    simp [hk]
/-- Block 'g' begins with the numbers 'l'. -/
def NumB (w : World) (g : Nat) (l : List Int) : Prop := ∃ m f, w.rowIs g 3 m f ∧ l.length ≤ m ∧ ∀ j, (h : j < l.length) → f j = .int .i64 l[j]
theorem NumB.cell {w : World} {g : Nat} {l : List Int} (h : NumB w g l) {j : Nat} (hj : j < l.length) : w.cell? ⟨g, j, none⟩ = some (.int .i64 l[j]) := by
  obtain ⟨m, f, h, hm, hf⟩ := h
  rw [h.cell (by omega), hf j hj]
theorem NumB.frozen {w : World} {g : Nat} {l : List Int} (h : NumB w g l) (j : Nat) : w.frozen? ⟨g, j, none⟩ = false := by
  obtain ⟨m, f, h, _⟩ := h
  exact h.frozen j
theorem NumB.lt {w : World} {g : Nat} {l : List Int} (h : NumB w g l) : g < w.heap.size := by
  obtain ⟨m, f, h, _⟩ := h
  exact h.lt
theorem NumB.set {w : World} {g : Nat} {l : List Int} (h : NumB w g l) (j : Nat) (x : Int) : NumB (w.setCell ⟨g, j, none⟩ (.int .i64 x)) g (l.set j x) := by
  obtain ⟨m, f, h, hm, hf⟩ := h
  refine ⟨m, _, h.set _ _, by rw [List.length_set]; exact hm, fun i hi => ?_⟩
  rw [List.length_set] at hi
  by_cases e : i = j
  · subst e; simp
  · simp only [if_neg e]
    rw [hf i hi, List.getElem_set_ne (fun h => e h.symm)]
theorem NumB.below {w w' : World} {g : Nat} {l : List Int} (h : NumB w g l) (hb : Below w.heap.size w w') : NumB w' g l := by
  have hlt := h.lt
  obtain ⟨m, f, h, hf⟩ := h
  exact ⟨m, f, h.of_block (hb.block g hlt), hf⟩
theorem NumB.row {w : World} {g : Nat} {l : List Int} (h : NumB w g l) : RowZ w (some ⟨g, 0, none⟩) l := fun k hk => ⟨g, 0, rfl, h.lt, by rw [Nat.zero_add]; exact h.cell hk⟩
theorem GathN.block {w : World} {B g n c : Nat} {l : List Int} (h : GathN w B (.slice (some ⟨g, 0, none⟩) n c) l) : B ≤ g ∧ NumB w g l := by
  rcases h.2 with ⟨e, _⟩ | ⟨g', cap, cur, e, hB, hh, hn, hc, hs, ht⟩
  · cases e
  · obtain rfl : g = g' := by simpa using (Value.slice.inj e).1
    refine ⟨hB, cap * 1, fun i => (cur[i]?).getD undef, ⟨cur, hh, hs, fun i hi => ?_⟩, by omega, fun k hk => ?_⟩
    · have hi' : i < cur.size := by omega
      simp [Array.getElem?_eq_getElem hi']
    · have h2 : (l.map fun x => Value.int .i64 x)[k]? = some (.int .i64 l[k]) := by simp [hk]
      rw [← ht, List.getElem?_take_of_lt (by simp; omega)] at h2
      simp only [Array.getElem?_toList] at h2
      simp only [h2]
      rfl

/-- The first k places have been held against q. -/
def MixP (cur q : List Int) (k : Nat) (l : List Int) : Prop := l.length = cur.length ∧ ∀ j, (h : j < l.length) → (hc : j < cur.length) → (hq : j < q.length) → l[j] = if j < k then max cur[j] q[j] else cur[j]
theorem mix_start (cur q : List Int) : MixP cur q 0 cur := ⟨rfl, fun j h hc hq => by simp⟩
theorem MixP.up {cur q l : List Int} {k : Nat} (h : MixP cur q k l) (hk : k < l.length) (hq : k < q.length) (hlt : l[k] < q[k]) : MixP cur q (k + 1) (l.set k q[k]) := by
  refine ⟨by rw [List.length_set]; exact h.1, fun j hj0 hc hq' => ?_⟩
  have hj : j < l.length := by simpa using hj0
  by_cases e : j = k
  · subst e
    have h2 := h.2 j hj hc hq'
    rw [if_neg (by omega)] at h2
    rw [List.getElem_set_self, if_pos (by omega)]
    omega
  · have h2 := h.2 j hj hc hq'
    rw [List.getElem_set_ne (fun h => e h.symm), h2]
    by_cases e2 : j < k
    · rw [if_pos e2, if_pos (by omega)]
    · rw [if_neg e2, if_neg (by omega)]
theorem MixP.same {cur q l : List Int} {k : Nat} (h : MixP cur q k l) (hk : k < l.length) (hq : k < q.length) (hlt : ¬ l[k] < q[k]) : MixP cur q (k + 1) l := by
  refine ⟨h.1, fun j hj hc hq' => ?_⟩
  have h2 := h.2 j hj hc hq'
  by_cases e : j = k
  · subst e
    rw [if_neg (by omega)] at h2
    rw [if_pos (by omega)]
    omega
  · rw [h2]
    by_cases e2 : j < k
    · rw [if_pos e2, if_pos (by omega)]
    · rw [if_neg e2, if_neg (by omega)]
theorem MixP.whole {cur q l : List Int} {k : Nat} (h : MixP cur q k l) (hq : q.length = cur.length) (hk : cur.length ≤ k) : l = List.zipWith max cur q := by
  apply List.ext_getElem
  · rw [h.1, List.length_zipWith, hq, Nat.min_self]
  · intro j h1 h2
    have hl := h.1
    rw [List.getElem_zipWith, h.2 j h1 (by omega) (by omega), if_pos (by omega)]
theorem topL_take {b : List Int} {F : List (List Int)} {i : Nat} (h : i < F.length) : topL b (F.take (i + 1)) = List.zipWith max (topL b (F.take i)) F[i] := by
  rw [List.take_succ_eq_append_getElem h]
  unfold topL
  rw [List.foldl_append]
  rfl

set_option maxHeartbeats 1600000 in
theorem specCB_any (a : Option Addr) (cap : Nat) (ws : List (List ItemL)) (w : World) (hf : FitW ws) (hr : RowW w a ws) :
    Calls Tryz.prog 7 #[.slice a ws.length cap] w fun e w' => ((∃ g c out, e = .returned (.tuple #[.slice (some ⟨g, 0, none⟩) out.length c, .bool true]) ∧ BestP ws out true ∧ w.heap.size ≤ g ∧ NumB w' g out) ∨ (e = .returned (.tuple #[.slice none 0 0, .bool false]) ∧ BestP ws [] false)) ∧ Below w.heap.size w w' := by
  go_enter Tryz.func7, Tryz.ntmps7
  go_wp2_with fail
  refine (l3Ok_any a cap ws _ hf hr).mono ?_
  rintro e w1 ⟨⟨r, rfl, hr1⟩, b1⟩
  have HR : Hid (r = true ↔ OkW ws) := hr1
  clear hr1
  cases r with
  | false =>
    have HN : Hid (BestP ws [] false) := none_best (.inl fun h => by have := HR.out.2 h; simp at this)
    go_wp2_with fail
    exact bodyPost_ret (v := .tuple #[.slice none 0 0, .bool false]) (by simp [results, Tryz.results7, go_sem]) rfl ⟨.inr ⟨rfl, HN.out⟩, b1⟩
  | true =>
    have HOK : Hid (OkW ws) := HR.out.1 rfl
    clear HR
    have h6 := HOK.out.2.1
    have h1l := HOK.out.1
    go_wp2_with fail
    have hpow : 4 ^ ws.length ≤ 4096 := Nat.le_trans (Nat.pow_le_pow_right (by omega) h6) (by decide)
    refine (l3All_any w w1.heap.size a cap ws b1.size hf hr h6 (fun k hk => (HOK.out.2.2 k hk).1) ws.length none 0 [] (.slice none 0 0) [] w1 b1 (fun k hk => absurd hk (Nat.not_lt_zero k)) (fun _ => rfl) (fun b o h => by cases h) ⟨by simp, fun i hi => by simp at hi⟩ (by simp) (gathU_none _ _) (Nat.le_refl _) (by simp; omega)).mono ?_
    rintro e w2 ⟨⟨v2, L, rfl, hg2, hL, _⟩, hgr⟩
    have hb2 : Below w1.heap.size w1 w2 := (Below.refl _ _).grown hgr (Nat.le_refl _) (fun k hk => by cases hk)
    have B2 : Below w.heap.size w w2 := b1.trans (hb2.mono b1.size)
    simp only [List.map_nil, List.nil_append] at hL
    have hlens : ∀ q ∈ foundL ws ws.length [], q.length = ws.length := fun q hq => (chP_iff.2 ⟨HOK.out, hq⟩).2.1
    have hcnt : (foundL ws ws.length []).length ≤ 4096 := Nat.le_trans (foundL_len (fun k hk => (HOK.out.2.2 k hk).1) ws.length []) hpow
    obtain ⟨va, vc, rfl, hru⟩ := hg2.row (fun p hp => by
      have := hlens p.1 (by rw [← hL]; exact List.mem_map.2 ⟨p, hp, rfl⟩)
      omega)
    rw [hL] at hru
    have hLl : L.length = (foundL ws ws.length []).length := by rw [← hL, List.length_map]
    rw [hLl]
    clear hg2 hgr hLl hL
    generalize hF : foundL ws ws.length [] = F at *
    have HF : Hid (foundL ws ws.length [] = F) := hF
    clear hF
    by_cases h0 : F.length = 0
    · have HN : Hid (BestP ws [] false) := none_best (.inr (by rw [HF.out]; exact List.length_eq_zero_iff.1 h0))
      have h0' : ((F.length : Int) == 0) = true := by rw [beq_iff_eq]; omega
      go_wp2_with fail
      exact bodyPost_ret (v := .tuple #[.slice none 0 0, .bool false]) (by simp [results, Tryz.results7, go_sem]) rfl ⟨.inr ⟨rfl, HN.out⟩, B2⟩
    have h0' : ((F.length : Int) == 0) = false := by rw [beq_eq_false_iff_ne]; omega
    obtain ⟨bu, ou, rfl, hbu, s0, c0, hu0, hz0⟩ := hru 0 (by omega)
    have i0 : (0 : Int) < (F.length : Int) := by omega
    have hl0 : F[0].length = ws.length := hlens _ (List.getElem_mem (by omega))
    have HL0 : Hid (F[0].length = ws.length) := hl0
    have hl6 : F[0].length ≤ 6 := by omega
    have hnn : F[0] = [] → s0 = none := fun h => by rw [h] at hl0; simp at hl0; omega
    have HLENS : Hid (∀ q ∈ F, q.length = ws.length) := hlens
    clear hl0 hlens
    rw [Nat.add_zero] at hu0
    have hbx : Below w2.heap.size w2 (w2.alloc (.cells #[] 3)) := (Below.refl _ _).alloc (Nat.le_refl _) _
    have hu0' := cell_on hbx hbu hu0
    have hz0' := hz0.below hbx
    go_wp2_with (first | (at_builtin; refine wpList_append_nums rfl _ _ rfl w2.heap.size w2.heap.size c0 s0 F[0] rfl (heap_alloc_new w2 _) (Nat.le_refl _) rfl hz0' hnn (by omega) ?_; intro g3 c3 w3 hn3 hgr3 hge3))
    obtain ⟨_, hnb⟩ := hn3.block
    have hb3 : Below w2.heap.size w2 w3 := hbx.grown hgr3 (by simp) (fun k hk => by cases hk; exact Nat.le_refl _)
    clear hn3 hgr3 hu0 hu0' hz0 hz0' hbx
    have B3 : Below w.heap.size w w3 := B2.trans (hb3.mono B2.size)
    go_loopw [6] (fun i wr => ∃ (k : Nat) (l : List Int), k ≤ F.length ∧ i = .int .i64 k ∧ l.length = F[0].length ∧ Hid (l = topL F[0] (F.take k)) ∧ NumB wr g3 l ∧ Below w2.heap.size w2 wr) (fun i _ => F.length - (intOf i).toNat)
    case atStart => exact ⟨0, F[0], Nat.zero_le _, rfl, rfl, rfl, hnb, hb3⟩
    case round =>
      clear hnb
      obtain ⟨k, l, hk, rfl, hll, HT, hnb, hbl⟩ := hrel
      by_cases hlt : k < F.length
      · have hqlen : F[k].length = F[0].length := by rw [HLENS.out _ (List.getElem_mem hlt), HL0.out]
        have HQL : Hid (F[k].length = F[0].length) := hqlen
        have hq6 : F[k].length ≤ 6 := by omega
        have HLL : Hid (l.length = F[0].length) := hll
        have k0 : (0 : Int) ≤ (k : Int) := by omega
        have k1 : (k : Int) < (F.length : Int) := by omega
        clear hqlen hll
        go_wp2_with fail
        go_loopw [7] (fun i2 wr2 => ∃ (j : Nat) (m : List Int), j ≤ F[0].length ∧ i2 = .int .i64 j ∧ Hid (MixP l F[k] j m) ∧ NumB wr2 g3 m ∧ Below w2.heap.size w2 wr2) (fun i2 _ => F[0].length - (intOf i2).toNat)
        case atStart => exact ⟨0, l, Nat.zero_le _, rfl, mix_start l F[k], hnb, hbl⟩
        case round =>
          clear hnb hbl
          obtain ⟨j, m, hj, rfl, HM, hnb, hbl⟩ := hrel
          by_cases hjlt : j < F[0].length
          · have hml : m.length = F[0].length := by rw [HM.out.1, HLL.out]
            have hjm : j < m.length := by omega
            have hjq : j < F[k].length := by rw [HQL.out]; omega
            obtain ⟨b5, o5, e5, hb5, s5, c5, f5, r5⟩ := hru.below hbl k hlt
            cases e5
            obtain ⟨b6, o6, rfl, hb6, f6⟩ := r5 j hjq
            have f7 := hnb.cell hjm
            have z7 := hnb.frozen j
            have j0 : (0 : Int) ≤ (j : Int) := by omega
            have j1 : (j : Int) < (F[0].length : Int) := by omega
            have j2 : (j : Int) < (F[k].length : Int) := by omega
            clear hml
            by_cases hgt : m[j] < F[k][j]
            · have HX : Hid (MixP l F[k] (j + 1) (m.set j F[k][j])) := HM.out.up hjm hjq hgt
              have hgt' : decide (m[j] < F[k][j]) = true := decide_eq_true hgt
              go_wp2_with fail
              go_quiet (fail)
              go_wp2_with fail
              have hset := (hnb.below (below_drewN (Below.refl _ _) nq)).set j F[k][j]
              exact ⟨⟨j + 1, _, by omega, by go_num, HX, hset, (below_drewN hbl _).setCell (by simp only; omega) _⟩, by simp [intOf]; omega⟩
            · have HX : Hid (MixP l F[k] (j + 1) m) := HM.out.same hjm hjq hgt
              have hgt' : decide (m[j] < F[k][j]) = false := decide_eq_false hgt
              go_wp2_with fail
              go_quiet (fail)
              go_wp2_with fail
              exact ⟨⟨j + 1, m, by omega, by go_num, HX, hnb.below (below_drewN (Below.refl _ _) _), below_drewN hbl _⟩, by simp [intOf]; omega⟩
          · have HX : Hid (m = topL F[0] (F.take (k + 1))) := by
              unfold Hid
              rw [topL_take hlt, ← HT.out]
              exact HM.out.whole (by rw [HQL.out, HLL.out]) (by rw [HLL.out]; omega)
            have hml : m.length = F[0].length := by rw [HM.out.1, HLL.out]
            go_wp2_with fail
            exact ⟨⟨k + 1, m, by omega, by go_num, hml, HX, hnb, hbl⟩, by simp [intOf]; omega⟩
      · have HB : Hid (BestP ws l true) := by
          unfold Hid
          rw [HT.out, List.take_of_length_le (by omega)]
          have e : foundL ws ws.length [] = F[0] :: F.tail := by rw [HF.out]; cases F with
            | nil => simp at h0
            | cons x y => rfl
          have h := topL_best HOK.out e
          rwa [← e, HF.out] at h
        go_wp2_with fail
        exact bodyPost_ret (v := .tuple #[.slice (some ⟨g3, 0, none⟩) l.length c3, .bool true]) (by simp [results, Tryz.results7, go_sem, hll]) rfl ⟨.inl ⟨g3, c3, l, rfl, HB.out, Nat.le_trans B2.size hge3, hnb⟩, B2.trans (hbl.mono B2.size)⟩

end Go.Proofs.YtpfhegengmlkmaaGreat

namespace Go.Proofs.YtpfhegengmlkmaaGreat
open Go.RowKit Go.BigFrame

theorem NumB.but {w w' : World} {g b : Nat} {l : List Int} (h : NumB w g l) (hb : But b w w') (hne : g ≠ b) : NumB w' g l := by
  have hlt := h.lt
  obtain ⟨m, f, h, hf⟩ := h
  exact ⟨m, f, h.of_block (hb.block g hlt hne), hf⟩
theorem NumB.span {w w' : World} {g lo hi : Nat} {l : List Int} (h : NumB w g l) (hs : Span lo hi w w') (hd : g < lo ∨ hi ≤ g) : NumB w' g l := by
  have hlt := h.lt
  obtain ⟨m, f, h, hf⟩ := h
  exact ⟨m, f, h.of_block (hs.block g hlt hd), hf⟩
/-- The numbers of an answer lie in a block between two. -/
def SafeZ (w : World) (lo hi : Nat) (a : Option Addr) (l : List Int) : Prop := l = [] ∨ ∃ g, a = some ⟨g, 0, none⟩ ∧ lo ≤ g ∧ g < hi ∧ NumB w g l
theorem SafeZ.row {w : World} {lo hi : Nat} {a : Option Addr} {l : List Int} (h : SafeZ w lo hi a l) : RowZ w a l := by
  rcases h with rfl | ⟨g, rfl, _, _, hn⟩
  · exact fun k hk => absurd hk (Nat.not_lt_zero k)
  · exact hn.row
theorem SafeZ.below {w w' : World} {lo hi : Nat} {a : Option Addr} {l : List Int} (h : SafeZ w lo hi a l) (hb : Below w.heap.size w w') : SafeZ w' lo hi a l := by
  rcases h with rfl | ⟨g, rfl, h1, h2, hn⟩
  · exact .inl rfl
  · exact .inr ⟨g, rfl, h1, h2, hn.below hb⟩
theorem SafeZ.span {w w' : World} {lo hi lo' hi' : Nat} {a : Option Addr} {l : List Int} (h : SafeZ w lo hi a l) (hs : Span lo' hi' w w') (hd : hi ≤ lo' ∨ hi' ≤ lo) : SafeZ w' lo hi a l := by
  rcases h with rfl | ⟨g, rfl, h1, h2, hn⟩
  · exact .inl rfl
  · exact .inr ⟨g, rfl, h1, h2, hn.span hs (by omega)⟩

end Go.Proofs.YtpfhegengmlkmaaGreat

namespace Go.Proofs.YtpfhegengmlkmaaGreat
open Go.RowKit Go.BigFrame
set_option maxRecDepth 100000

theorem Span.of_below {lo hi : Nat} {w w' : World} (h : Below w.heap.size w w') : Span lo hi w w' := ⟨h.os, h.tape, h.output, h.size, fun k hk _ => h.block k hk⟩
theorem Span.cell {lo hi b o : Nat} {w w' : World} {v : Value} (h : Span lo hi w w') (hc : w.cell? ⟨b, o, none⟩ = some v) (hd : b < lo ∨ hi ≤ b) : w'.cell? ⟨b, o, none⟩ = some v :=
  (World.cell?_of_block (h.block b (block_lt_of_cell hc) hd)).trans hc

end Go.Proofs.YtpfhegengmlkmaaGreat

namespace Go.Proofs.YtpfhegengmlkmaaGreat
open Go.RowKit Go.BigFrame
set_option maxRecDepth 100000

/-- A show: its values and its stamp. -/
abbrev ShowV := List Int × List (ByteArray × Int)
/-- The slice at address 'a' holds the shows 'l', each in two cells. -/
def RowH (w : World) (a : Option Addr) (l : List ShowV) : Prop :=
  ∀ k, (h : k < l.length) → ∃ b o, a = some ⟨b, o, none⟩ ∧ b < w.heap.size ∧ ∃ a1 c1 a2 c2, w.cell? ⟨b, o + k * 2, none⟩ = some (.slice a1 l[k].1.length c1) ∧ w.cell? ⟨b, o + k * 2 + 1, none⟩ = some (.slice a2 l[k].2.length c2) ∧ RowZ w a1 l[k].1 ∧ Row w a2 l[k].2
/-- As few as a show may have. -/
def FewH (l : List ShowV) : Prop := ∀ p ∈ l, p.1.length ≤ 6 ∧ p.2.length ≤ 12
theorem RowH.below {w w' : World} {a : Option Addr} {l : List ShowV} (h : RowH w a l) (hb : Below w.heap.size w w') : RowH w' a l := fun k hk => by
  obtain ⟨b, o, ha, hlt, a1, c1, a2, c2, h0, h1, h2, h3⟩ := h k hk
  exact ⟨b, o, ha, Nat.lt_of_lt_of_le hlt hb.size, a1, c1, a2, c2, by rw [hb.cell hlt]; exact h0, by rw [hb.cell hlt]; exact h1, h2.below hb, h3.below hb⟩

/-- A show of an answer: its numbers and its marks, the slices, and the blocks between which they lie. -/
structure ShoY where
  vals : List Int
  st : List (ByteArray × Int)
  a1 : Option Addr
  c1 : Nat
  a2 : Option Addr
  c2 : Nat
  lo : Nat
  mid : Nat
  mi2 : Nat
  hi : Nat
abbrev ShoY.sv (p : ShoY) : ShowV := (p.vals, p.st)
structure ShoY.In (w : World) (p : ShoY) : Prop where
  z : SafeZ w p.lo p.mid p.a1 p.vals
  s : Safe w p.mi2 p.hi p.a2 p.st
  o1 : p.lo ≤ p.mid
  o2 : p.mid ≤ p.hi
  o3 : p.hi ≤ w.heap.size
  o4 : p.lo ≤ p.mi2
  o5 : p.mi2 ≤ p.hi
theorem ShoY.In.below {w w' : World} {p : ShoY} (h : p.In w) (hb : Below w.heap.size w w') : p.In w' := ⟨h.z.below hb, h.s.below hb, h.o1, h.o2, Nat.le_trans h.o3 hb.size, h.o4, h.o5⟩
theorem ShoY.In.span {w w' : World} {p : ShoY} {lo hi : Nat} (h : p.In w) (hs : Span lo hi w w') (hd : p.hi ≤ lo ∨ hi ≤ p.lo) : p.In w' :=
  ⟨h.z.span hs (by have := h.o1; have := h.o2; omega), h.s.span hs (by have := h.o4; have := h.o5; omega), h.o1, h.o2, Nat.le_trans h.o3 hs.size, h.o4, h.o5⟩
/-- Block 't' begins with the shows of L, each in blocks of its own between lo and hi. -/
structure HW (w : World) (lo hi t : Nat) (L : List ShoY) : Prop where
  lt : t < w.heap.size
  cell : ∀ k, (h : k < L.length) → w.cell? ⟨t, k * 2, none⟩ = some (.slice L[k].a1 L[k].vals.length L[k].c1) ∧ w.cell? ⟨t, k * 2 + 1, none⟩ = some (.slice L[k].a2 L[k].st.length L[k].c2)
  at_ : ∀ p ∈ L, p.In w
  far : ∀ p ∈ L, t < p.lo ∨ p.hi ≤ t
  in_ : ∀ p ∈ L, lo ≤ p.lo ∧ p.hi ≤ hi
  dis : L.Pairwise fun p q => p.hi ≤ q.lo ∨ q.hi ≤ p.lo
theorem HW.below {w w' : World} {lo hi t : Nat} {L : List ShoY} (h : HW w lo hi t L) (hb : Below w.heap.size w w') : HW w' lo hi t L :=
  ⟨Nat.lt_of_lt_of_le h.lt hb.size, fun k hk => ⟨cell_on hb h.lt (h.cell k hk).1, cell_on hb h.lt (h.cell k hk).2⟩, fun p hp => (h.at_ p hp).below hb, h.far, h.in_, h.dis⟩
theorem HW.span {w w' : World} {lo hi t lo' hi' : Nat} {L : List ShoY} (h : HW w lo hi t L) (hs : Span lo' hi' w w') (ht : t < lo' ∨ hi' ≤ t) (hd : ∀ p ∈ L, p.hi ≤ lo' ∨ hi' ≤ p.lo) : HW w' lo hi t L := by
  have e := hs.block t h.lt ht
  exact ⟨Nat.lt_of_lt_of_le h.lt hs.size, fun k hk => ⟨(World.cell?_of_block (a := ⟨t, k * 2, none⟩) e).trans (h.cell k hk).1, (World.cell?_of_block (a := ⟨t, k * 2 + 1, none⟩) e).trans (h.cell k hk).2⟩, fun p hp => (h.at_ p hp).span hs (hd p hp), h.far, h.in_, h.dis⟩
theorem HW.row {w : World} {lo hi t : Nat} {L : List ShoY} (h : HW w lo hi t L) : RowH w (some ⟨t, 0, none⟩) (L.map (·.sv)) := fun k hk => by
  have hk' : k < L.length := by simpa using hk
  have h0 := h.cell k hk'
  have h1 := h.at_ L[k] (List.getElem_mem hk')
  exact ⟨t, 0, rfl, h.lt, L[k].a1, L[k].c1, L[k].a2, L[k].c2, by simpa using h0.1, by simpa using h0.2, by simpa using h1.z.row, by simpa using h1.s.row⟩

/-- All but the shows' own blocks lies as it lay. -/
structure KeepH (L : List ShoY) (w w' : World) : Prop where
  os : w'.os = w.os
  tape : w'.tape = w.tape
  output : w'.output = w.output
  size : w.heap.size ≤ w'.heap.size
  block : ∀ k, k < w.heap.size → (∀ p ∈ L, k < p.lo ∨ p.hi ≤ k) → w'.heap[k]? = w.heap[k]?
theorem KeepH.refl (L : List ShoY) (w : World) : KeepH L w w := ⟨rfl, rfl, rfl, Nat.le_refl _, fun _ _ _ => rfl⟩
theorem KeepH.trans {L : List ShoY} {x y z : World} (h : KeepH L x y) (k : KeepH L y z) : KeepH L x z := ⟨k.os.trans h.os, k.tape.trans h.tape, k.output.trans h.output, Nat.le_trans h.size k.size, fun i hi hn => (k.block i (Nat.lt_of_lt_of_le hi h.size) hn).trans (h.block i hi hn)⟩
theorem KeepH.span {L : List ShoY} {w w' : World} {lo hi : Nat} (h : KeepH L w w') (hin : ∀ p ∈ L, lo ≤ p.lo ∧ p.hi ≤ hi) : Span lo hi w w' := ⟨h.os, h.tape, h.output, h.size, fun k hk hn => h.block k hk fun p hp => by have := hin p hp; omega⟩

/-- As few as a show of an answer may have. -/
def FewY (L : List ShoY) : Prop := ∀ p ∈ L, p.vals.length ≤ 6 ∧ p.st.length ≤ 12
/-- One show's contents turned. -/
theorem HW.turn {w w' : World} {lo hi t : Nat} {L : List ShoY} (h : HW w lo hi t L) {j : Nat} (hj : j < L.length) {q : ShoY} (hq : q.a1 = L[j].a1 ∧ q.c1 = L[j].c1 ∧ q.a2 = L[j].a2 ∧ q.c2 = L[j].c2 ∧ q.lo = L[j].lo ∧ q.hi = L[j].hi ∧ q.vals.length = L[j].vals.length ∧ q.st.length = L[j].st.length) (hs : Span L[j].lo L[j].hi w w') (hn : q.In w') : HW w' lo hi t (L.set j q) := by
  have hm := List.getElem_mem hj
  have hd := List.pairwise_iff_getElem.1 h.dis
  have hset : ∀ i, (hi : i < (L.set j q).length) → ∃ hi' : i < L.length, ((L.set j q)[i].a1 = L[i].a1 ∧ (L.set j q)[i].c1 = L[i].c1 ∧ (L.set j q)[i].a2 = L[i].a2 ∧ (L.set j q)[i].c2 = L[i].c2 ∧ (L.set j q)[i].lo = L[i].lo ∧ (L.set j q)[i].hi = L[i].hi ∧ (L.set j q)[i].vals.length = L[i].vals.length ∧ (L.set j q)[i].st.length = L[i].st.length) := fun i hi => by
    have hi' : i < L.length := by simpa using hi
    refine ⟨hi', ?_⟩
    rw [List.getElem_set]
    split
    · rename_i e; subst e; exact hq
    · exact ⟨rfl, rfl, rfl, rfl, rfl, rfl, rfl, rfl⟩
  have eb := hs.block t h.lt (h.far _ hm)
  refine ⟨Nat.lt_of_lt_of_le h.lt hs.size, fun k hk => ?_, fun p hp => ?_, fun p hp => ?_, fun p hp => ?_, ?_⟩
  · obtain ⟨hk', e1, e2, e3, e4, _, _, e5, e6⟩ := hset k hk
    rw [e1, e2, e3, e4, e5, e6, World.cell?_of_block (a := ⟨t, k * 2, none⟩) eb, World.cell?_of_block (a := ⟨t, k * 2 + 1, none⟩) eb]
    exact h.cell k hk'
  · obtain ⟨i, hi, rfl⟩ := List.mem_iff_getElem.1 hp
    have hi' : i < L.length := by simpa using hi
    rw [List.getElem_set]
    split
    · exact hn
    · rename_i e
      refine (h.at_ L[i] (List.getElem_mem hi')).span hs ?_
      rcases Nat.lt_or_gt_of_ne e with h4 | h4
      · exact (hd j i hj hi' h4).symm
      · exact hd i j hi' hj h4
  · obtain ⟨i, hi, rfl⟩ := List.mem_iff_getElem.1 hp
    obtain ⟨hi', _, _, _, _, e2, e3, _, _⟩ := hset i hi
    rw [e2, e3]
    exact h.far _ (List.getElem_mem hi')
  · obtain ⟨i, hi, rfl⟩ := List.mem_iff_getElem.1 hp
    obtain ⟨hi', _, _, _, _, e2, e3, _, _⟩ := hset i hi
    rw [e2, e3]
    exact h.in_ _ (List.getElem_mem hi')
  · rw [List.pairwise_iff_getElem]
    intro a b ha hb hab
    obtain ⟨ha', _, _, _, _, e2, e3, _, _⟩ := hset a ha
    obtain ⟨hb', _, _, _, _, f2, f3, _, _⟩ := hset b hb
    rw [e2, e3, f2, f3]
    exact hd a b ha' hb' hab

end Go.Proofs.YtpfhegengmlkmaaGreat
