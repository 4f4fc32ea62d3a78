/- Texts of this claim, one behind the other. -/
import Derived.Laws.StructEq
import Derived.Test.YtpfhegengmlkmaaGreatDoorZF1
import Derived.Test.YtpfhegengmlkmaaGreatDoorZF6
import Derived.Test.YtpfhegengmlkmaaGreatDoorZF24
import Derived.Test.YtpfhegengmlkmaaGreatDoorZF30
namespace Go.Proofs.YtpfhegengmlkmaaGreatDoor
open Go.RowKit

theorem PlayTo.len {g0 : GatL} {l : List FeedV} {g : GatL} {sh : List ShowV} {cs : List Int} (h : PlayTo g0 l g sh cs) : cs.length = l.length := by
  induction h with
  | nil => rfl
  | snoc h hp ih => simp [ih]
/-- Every beginning of a play is a play, and its answer a beginning of the answer. -/
theorem PlayTo.part {g0 : GatL} {l : List FeedV} {g : GatL} {sh : List ShowV} {cs : List Int} (h : PlayTo g0 l g sh cs) : ∀ k, k ≤ l.length → ∃ g' sh' cs', PlayTo g0 (l.take k) g' sh' cs' ∧ sh'.length ≤ sh.length ∧ sh' = sh.take sh'.length ∧ cs' = cs.take k := by
  induction h with
  | nil =>
    intro k hk
    exact ⟨g0, [], [], by simpa using PlayTo.nil, Nat.le_refl _, rfl, by simp⟩
  | @snoc fs gp g1 shp csp f sv ss c h hp ih =>
    intro k hk
    have hlen := h.len
    by_cases hlt : k ≤ fs.length
    · obtain ⟨g', sh', cs', h1, h2, h3, h4⟩ := ih k hlt
      refine ⟨g', sh', cs', by rw [List.take_append_of_le_length hlt]; exact h1, ?_, ?_, by rw [List.take_append_of_le_length (by omega)]; exact h4⟩
      · split
        · simp; omega
        · exact h2
      · split
        · rw [List.take_append_of_le_length h2]; exact h3
        · exact h3
    · have hk' : k = (fs ++ [f]).length := by simp at hk ⊢; omega
      subst hk'
      refine ⟨_, _, _, by rw [List.take_length]; exact PlayTo.snoc h hp, Nat.le_refl _, by rw [List.take_length], ?_⟩
      rw [List.take_of_length_le (by simp [hlen])]
/-- What one feed of a play comes to is what the whole play tells of it. -/
theorem PlayTo.step {g0 gp g1 g : GatL} {l : List FeedV} {sh shp : List ShowV} {cs csp : List Int} {sv : List Int} {ss : List (ByteArray × Int)} {c : Int} (h : PlayTo g0 l g sh cs) {k : Nat} (hk : k < l.length) (hp : PlayTo g0 (l.take k) gp shp csp) (hput : PutG gp l[k].1 l[k].2.1 l[k].2.2 g1 sv ss c) :
    PlayTo g0 (l.take (k + 1)) (if c = 2 then gp else g1) (if c = 1 then shp ++ [(sv, ss)] else shp) (csp ++ [c]) ∧ cs[k]? = some c ∧ (c = 1 → sh[shp.length]? = some (sv, ss)) := by
  have hs := PlayTo.snoc (f := l[k]) hp hput
  rw [← List.take_succ_eq_append_getElem hk] at hs
  obtain ⟨g', sh', cs', h1, h2, h3, h4⟩ := h.part (k + 1) hk
  obtain ⟨_, e2, e3⟩ := hs.one h1
  refine ⟨hs, ?_, fun hc => ?_⟩
  · have hl := hp.len
    have e : csp.length = k := by rw [hl, List.length_take]; omega
    have : (csp ++ [c])[k]? = some c := by rw [← e]; simp
    rw [e3, h4, List.getElem?_take] at this
    simpa using this
  · rw [if_pos hc] at e2
    have : (shp ++ [(sv, ss)])[shp.length]? = some (sv, ss) := by simp
    have hlen : sh'.length = shp.length + 1 := by rw [← e2]; simp
    rw [e2, h3, List.getElem?_take] at this
    rw [if_pos (by omega)] at this
    exact this

end Go.Proofs.YtpfhegengmlkmaaGreatDoor

namespace Go.Proofs.YtpfhegengmlkmaaGreatDoor
open Go.RowKit Go.BigFrame
set_option maxRecDepth 100000

theorem take_eq_succ {la lb : List (ByteArray × Int)} {k : Nat} (h : la.take k = lb.take k) (ha : k < la.length) (hb : k < lb.length) (e : la[k] = lb[k]) : la.take (k + 1) = lb.take (k + 1) := by
  rw [List.take_succ_eq_append_getElem ha, List.take_succ_eq_append_getElem hb, h, e]

set_option maxHeartbeats 800000 in
theorem bsMarks_any (aa ab : Option Addr) (ca cb : Nat) (la lb : List (ByteArray × Int)) (w : World) (hla : la.length ≤ maxLen) (hlb : lb.length ≤ maxLen) (ha : Row w aa la) (hb : Row w ab lb) :
    Calls Tryz.prog 29 #[.slice aa la.length ca, .slice ab lb.length cb] w fun e w' => (∃ r : Bool, e = .returned (.bool r) ∧ (r = true ↔ la = lb)) ∧ Below w.heap.size w w' := by
  unfold maxLen at hla hlb
  go_enter Tryz.func29, Tryz.ntmps29
  by_cases hlen : la.length = lb.length
  · have hlen' : ((la.length : Int) != (lb.length : Int)) = false := by simp; omega
    go_wp2_with fail
    go_loopw [5] (fun i wr => ∃ k : Nat, k ≤ la.length ∧ i = .int .i64 k ∧ la.take k = lb.take k ∧ Below w.heap.size w wr) (fun i _ => la.length - (intOf i).toNat)
    case atStart => exact ⟨0, Nat.zero_le _, rfl, rfl, Below.refl _ _⟩
    case round =>
      obtain ⟨k, hk, rfl, hinv, hbl⟩ := hrel
      by_cases hlt : k < la.length
      · have hltb : k < lb.length := by omega
        obtain ⟨b1, o1, rfl, hlt1, c0, c1⟩ := ha k hlt
        obtain ⟨b2, o2, rfl, hlt2, d0, d1⟩ := hb k hltb
        have e0 := cell_on hbl hlt1 c0
        have e1 := cell_on hbl hlt1 c1
        have f0 := cell_on hbl hlt2 d0
        have f1 := cell_on hbl hlt2 d1
        have k0 : (0 : Int) ≤ (k : Int) := by omega
        have k1 : (k : Int) < (la.length : Int) := by omega
        have k2 : (k : Int) < (lb.length : Int) := by omega
        by_cases hs : la[k].1 = lb[k].1
        · have hs' : (la[k].1.toList == lb[k].1.toList) = true := toList_beq.2 hs
          by_cases hv : la[k].2 = lb[k].2
          · have hv' : (la[k].2 == lb[k].2) = true := by simp [hv]
            go_wp2_with fail
            go_quiet (fail)
            go_wp2_with fail
            exact ⟨⟨k + 1, by omega, by go_num, take_eq_succ hinv hlt hltb (Prod.ext hs hv), below_drewN hbl _⟩, by simp [intOf]; omega⟩
          · have hv' : (la[k].2 == lb[k].2) = false := by simp [hv]
            go_wp2_with fail
            go_quiet (fail)
            go_wp2_with fail
            go_ret
            exact ⟨⟨false, rfl, by simp; rintro rfl; exact hv rfl⟩, below_drewN hbl _⟩
        · have hs' : (la[k].1.toList == lb[k].1.toList) = false := toList_bne.2 hs
          go_wp2_with fail
          go_quiet (fail)
          go_wp2_with fail
          go_ret
          exact ⟨⟨false, rfl, by simp; rintro rfl; exact hs rfl⟩, below_drewN hbl _⟩
      · have hfin : la = lb := by
          rw [List.take_of_length_le (by omega), List.take_of_length_le (by omega)] at hinv
          exact hinv
        have HF : Hid (la = lb) := hfin
        clear hfin hinv
        go_wp2_with fail
        go_ret
        exact ⟨⟨true, rfl, by simp [HF.out]⟩, hbl⟩
  · have hlen' : ((la.length : Int) != (lb.length : Int)) = true := by simp; omega
    go_wp2_with fail
    go_ret
    exact ⟨⟨false, rfl, by simp; rintro rfl; exact hlen rfl⟩, Below.refl _ _⟩

end Go.Proofs.YtpfhegengmlkmaaGreatDoor

namespace Go.Proofs.YtpfhegengmlkmaaGreatDoor
open Go.RowKit Go.BigFrame
set_option maxRecDepth 100000

theorem bsMarks_same (aa ab : Option Addr) (ca cb : Nat) (l : List (ByteArray × Int)) (w : World) (hl : l.length ≤ maxLen) (ha : Row w aa l) (hb : Row w ab l) :
    Calls Tryz.prog 29 #[.slice aa l.length ca, .slice ab l.length cb] w fun e w' => e = .returned (.bool true) ∧ Below w.heap.size w w' :=
  (bsMarks_any aa ab ca cb l l w hl hl ha hb).mono fun _ _ ⟨⟨r, he, hr⟩, h⟩ => ⟨by rw [he, hr.2 rfl], h⟩

end Go.Proofs.YtpfhegengmlkmaaGreatDoor

namespace Go.Proofs.YtpfhegengmlkmaaGreatDoor
open Go.RowKit Go.BigFrame
set_option maxRecDepth 100000

set_option maxHeartbeats 800000 in
theorem bsInts_same (a b : Option Addr) (ca cb : Nat) (ps : List Int) (w : World) (hp : ps.length ≤ maxLen) (ha : RowZ w a ps) (hb : RowZ w b ps) :
    Calls Tryz.prog 19 #[.slice a ps.length ca, .slice b ps.length cb] w fun e w' => e = .returned (.bool true) ∧ Below w.heap.size w w' := by
  unfold maxLen at hp
  go_enter Tryz.func19, Tryz.ntmps19
  go_wp2_with fail
  go_loopw [5] (fun i wr => ∃ k : Nat, k ≤ ps.length ∧ i = .int .i64 k ∧ Below w.heap.size w wr) (fun i _ => ps.length - (intOf i).toNat)
  case atStart => exact ⟨0, Nat.zero_le _, rfl, Below.refl _ _⟩
  case round =>
    obtain ⟨k, hk, rfl, hbl⟩ := hrel
    by_cases hlt : k < ps.length
    · obtain ⟨b1, o1, rfl, g1, e1⟩ := ha.below hbl k hlt
      obtain ⟨b2, o2, rfl, g2, f1⟩ := hb.below hbl k hlt
      have k0 : (0 : Int) ≤ (k : Int) := by omega
      have k1 : (k : Int) < (ps.length : Int) := by omega
      go_wp2_with fail
      go_quiet (fail)
      go_wp2_with fail
      exact ⟨⟨k + 1, by omega, by go_num, below_drewN hbl _⟩, by simp [intOf]; omega⟩
    · go_wp2_with fail
      go_ret
      exact ⟨rfl, hbl⟩

set_option maxHeartbeats 800000 in
theorem bsShow_same (a1 a2 b1 b2 : Option Addr) (c1 c2 d1 d2 : Nat) (sv : List Int) (ss : List (ByteArray × Int)) (w : World) (hv : sv.length ≤ maxLen) (hl : ss.length ≤ maxLen) (h1 : RowZ w a1 sv) (h2 : Row w a2 ss) (h3 : RowZ w b1 sv) (h4 : Row w b2 ss) :
    Calls Tryz.prog 12 #[.agg #[.slice a1 sv.length c1, .slice a2 ss.length c2], .agg #[.slice b1 sv.length d1, .slice b2 ss.length d2]] w fun e w' => e = .returned (.bool true) ∧ Below w.heap.size w w' := by
  have hb0 : Below w.heap.size w ((w.alloc (.cells #[.slice a1 sv.length c1, .slice a2 ss.length c2] 36)).alloc (.cells #[.slice b1 sv.length d1, .slice b2 ss.length d2] 36)) := ((Below.refl _ _).alloc (Nat.le_refl _) _).alloc (by simp) _
  have d1' : ((w.alloc (.cells #[.slice a1 sv.length c1, .slice a2 ss.length c2] 36)).alloc (.cells #[.slice b1 sv.length d1, .slice b2 ss.length d2] 36)).cell? ⟨w.heap.size, 1, none⟩ = some (.slice a2 ss.length c2) := by simp [go_sem]
  have d2' : ((w.alloc (.cells #[.slice a1 sv.length c1, .slice a2 ss.length c2] 36)).alloc (.cells #[.slice b1 sv.length d1, .slice b2 ss.length d2] 36)).cell? ⟨w.heap.size + 1, 1, none⟩ = some (.slice b2 ss.length d2) := by simp [go_sem]
  go_enter Tryz.func12, Tryz.ntmps12
  go_wp2_with fail
  generalize (w.alloc (.cells #[.slice a1 sv.length c1, .slice a2 ss.length c2] 36)).alloc (.cells #[.slice b1 sv.length d1, .slice b2 ss.length d2] 36) = W0 at *
  refine (bsInts_same a1 b1 c1 d1 sv _ hv (h1.below hb0) (h3.below hb0)).mono ?_
  rintro e w1 ⟨rfl, b1'⟩
  have B1 : Below w.heap.size w w1 := hb0.trans (b1'.mono hb0.size)
  replace d1' := cell_on b1' (block_lt_of_cell d1') d1'
  replace d2' := cell_on b1' (block_lt_of_cell d2') d2'
  go_wp2_with fail
  refine (bsMarks_same a2 b2 c2 d2 ss _ hl (h2.below B1) (h4.below B1)).mono ?_
  rintro e w2 ⟨rfl, b2'⟩
  go_wp2_with fail
  go_ret
  exact ⟨rfl, B1.trans (b2'.mono B1.size)⟩

set_option maxHeartbeats 1600000 in
theorem bsShows_same (a b : Option Addr) (ca cb : Nat) (l : List ShowV) (w : World) (hl : l.length ≤ 1048576) (hf : FewH l) (ha : RowH w a l) (hb : RowH w b l) :
    Calls Tryz.prog 18 #[.slice a l.length ca, .slice b l.length cb] w fun e w' => e = .returned (.bool true) ∧ Below w.heap.size w w' := by
  go_enter Tryz.func18, Tryz.ntmps18
  go_wp2_with fail
  go_loopw [5] (fun i wr => ∃ k : Nat, k ≤ l.length ∧ i = .int .i64 k ∧ Below w.heap.size w wr) (fun i _ => l.length - (intOf i).toNat)
  case atStart => exact ⟨0, Nat.zero_le _, rfl, Below.refl _ _⟩
  case round =>
    obtain ⟨k, hk, rfl, hbl⟩ := hrel
    by_cases hlt : k < l.length
    · obtain ⟨b1, o1, rfl, g1, s1, t1, s2, t2, e0, e1, r1, r2⟩ := ha.below hbl k hlt
      obtain ⟨b2, o2, rfl, g2, s3, t3, s4, t4, f0, f1, r3, r4⟩ := hb.below hbl k hlt
      have k0 : (0 : Int) ≤ (k : Int) := by omega
      have k1 : (k : Int) < (l.length : Int) := by omega
      have hlk := hf _ (List.getElem_mem hlt)
      have hv : l[k].1.length ≤ maxLen := by unfold maxLen; omega
      have hs : l[k].2.length ≤ maxLen := by unfold maxLen; omega
      go_wp2_with fail
      refine wp_region_lat (by kernel_rfl) (by kernel_rfl) ?_
      have hne := Lat.some wr
      have q0 : ∀ n : Lat wr, n.w.cell? ⟨b1, o1 + k * 2, none⟩ = some (.slice s1 l[k].1.length t1) := fun n => n.cell g1 e0
      have q1 : ∀ n : Lat wr, n.w.cell? ⟨b1, o1 + k * 2 + 1, none⟩ = some (.slice s2 l[k].2.length t2) := fun n => n.cell g1 e1
      have q2 : ∀ n : Lat wr, n.w.cell? ⟨b2, o2 + k * 2, none⟩ = some (.slice s3 l[k].1.length t3) := fun n => n.cell g2 f0
      have q3 : ∀ n : Lat wr, n.w.cell? ⟨b2, o2 + k * 2 + 1, none⟩ = some (.slice s4 l[k].2.length t4) := fun n => n.cell g2 f1
      have ce : ∀ n : Lat wr, Calls Tryz.prog 12 #[.agg #[.slice s1 l[k].1.length t1, .slice s2 l[k].2.length t2], .agg #[.slice s3 l[k].1.length t3, .slice s4 l[k].2.length t4]] n.w fun e w'' => e = .returned (.bool true) ∧ Below n.w.heap.size n.w w'' := fun n => bsShow_same _ _ _ _ _ _ _ _ _ _ _ hv hs (r1.below n.h) (r2.below n.h) (r3.below n.h) (r4.below n.h)
      repeat (go_big_quiet_step ((go_at_call 12; exact Calls.lat_of (ce _))))
      refine wpQuiet_nil ?_
      rintro _ ⟨nq, rfl⟩
      go_wp2_with fail
      exact ⟨⟨k + 1, by omega, by go_num, hbl.trans (nq.h.mono hbl.size)⟩, by simp [intOf]; omega⟩
    · go_wp2_with fail
      go_ret
      exact ⟨rfl, hbl⟩

end Go.Proofs.YtpfhegengmlkmaaGreatDoor
