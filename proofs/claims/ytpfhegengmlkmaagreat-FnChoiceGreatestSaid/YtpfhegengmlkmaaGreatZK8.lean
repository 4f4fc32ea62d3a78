/- Texts of this claim, one behind the other. -/
import Derived.Test.YtpfhegengmlkmaaGreatZK6
import Derived.Test.YtpfhegengmlkmaaGreatZK7
namespace Go.Proofs.YtpfhegengmlkmaaGreat

theorem agree_get {a b : List (ByteArray × Int)} (ha : StampP a) (hb : StampP b) : AgreeP a b ↔ ∀ s, 0 < getM a s → 0 < getM b s → getM a s = getM b s := by
  have sa := stamp_sorted ha
  have sb := stamp_sorted hb
  constructor
  · rintro ⟨_, _, h⟩ s h1 h2
    obtain ⟨k, hk, ek⟩ := List.mem_iff_getElem.1 (getM_pos h1)
    have := h k hk
    rw [ek] at this
    simp only at this
    omega
  · intro h
    refine ⟨ha, hb, fun i hi => ?_⟩
    have e := getM_mem sa (List.getElem_mem hi)
    have e1 := sa.2 _ (List.getElem_mem hi)
    have e2 := getM_nonneg (s := a[i].1) sb
    by_cases h0 : getM b a[i].1 = 0
    · exact .inl h0
    · right
      rw [← h a[i].1 (by omega) (by omega), e]

/-- An item: its value and its stamp. -/
abbrev ItemM := Int × List (ByteArray × Int)
/-- The same sources, and below. -/
def AboveP (a b : List (ByteArray × Int)) : Prop := namesM a = namesM b ∧ StampP a ∧ StampP b ∧ BelowP a b ∧ ¬ BelowP b a
/-- A window. -/
def WinP (l : List ItemM) : Prop := l.length ≤ 4 ∧ (∀ j, (h : j < l.length) → StampP l[j].2 ∧ l[j].2 ≠ []) ∧ ∀ j, (h : j + 1 < l.length) → AboveP l[j].2 l[j + 1].2
theorem names_get {a b : List (ByteArray × Int)} (ha : StampP a) (hb : StampP b) (h : namesM a = namesM b) (s : ByteArray) : 0 < getM a s ↔ 0 < getM b s := by
  rw [← among_names (stamp_sorted ha), ← among_names (stamp_sorted hb), h]
theorem WinP.names {l : List ItemM} (h : WinP l) : ∀ (d i : Nat) (hj : i + d < l.length), namesM l[i].2 = namesM l[i + d].2
  | 0, _, _ => rfl
  | d + 1, i, hj => (h.names d i (by omega)).trans (h.2.2 (i + d) (by omega)).1
theorem WinP.rise {l : List ItemM} (h : WinP l) : ∀ (d i : Nat) (hj : i + d < l.length) (s : ByteArray), getM l[i].2 s ≤ getM l[i + d].2 s
  | 0, _, _, _ => Int.le_refl _
  | d + 1, i, hj, s => by
    have h1 := h.rise d i (by omega) s
    have ha := h.2.2 (i + d) (by omega)
    have h2 := (belowP_iff (stamp_sorted ha.2.1) (stamp_sorted ha.2.2.1)).1 ha.2.2.2.1 s
    exact Int.le_trans h1 h2
theorem WinP.le {l : List ItemM} (h : WinP l) {i j : Nat} (hij : i ≤ j) (hj : j < l.length) (s : ByteArray) : getM (l[i]'(by omega)).2 s ≤ getM l[j].2 s := by
  obtain ⟨d, rfl⟩ : ∃ d, j = i + d := ⟨j - i, by omega⟩
  exact h.rise d i hj s
theorem WinP.same {l : List ItemM} (h : WinP l) {i j : Nat} (hi : i < l.length) (hj : j < l.length) (s : ByteArray) : 0 < getM l[i].2 s ↔ 0 < getM l[j].2 s := by
  have hn : namesM l[i].2 = namesM l[j].2 := by
    rcases Nat.le_total i j with hij | hij
    · obtain ⟨d, rfl⟩ : ∃ d, j = i + d := ⟨j - i, by omega⟩
      exact h.names d i hj
    · obtain ⟨d, rfl⟩ : ∃ d, i = j + d := ⟨i - j, by omega⟩
      exact (h.names d j hi).symm
  exact names_get (h.2.1 i hi).1 (h.2.1 j hj).1 hn s
/-- Of two windows: where (i, k) and (i', k') agree, the later of both agree. -/
theorem later_agrees {u v : List ItemM} (hu : WinP u) (hv : WinP v) {i i' k k' : Nat} (hi : i < u.length) (hi' : i' < u.length) (hk : k < v.length) (hk' : k' < v.length)
    (h : AgreeP u[i].2 v[k].2) (h' : AgreeP u[i'].2 v[k'].2) : AgreeP (u[max i i']'(by omega)).2 (v[max k k']'(by omega)).2 := by
  have key : ∀ {u v : List ItemM} (_ : WinP u) (_ : WinP v) {i i' k k' : Nat} (hi : i < u.length) (hi' : i' < u.length) (hk : k < v.length) (hk' : k' < v.length), AgreeP u[i].2 v[k].2 → AgreeP u[i'].2 v[k'].2 → i' ≤ i → k ≤ k' → AgreeP u[i].2 v[k'].2 := by
    intro u v hu hv i i' k k' hi hi' hk hk' h h' h1 h2
    rw [agree_get (hu.2.1 i hi).1 (hv.2.1 k' hk').1]
    rw [agree_get (hu.2.1 i hi).1 (hv.2.1 k hk).1] at h
    rw [agree_get (hu.2.1 i' hi').1 (hv.2.1 k' hk').1] at h'
    intro s p1 p2
    have e1 := h s p1 ((hv.same hk hk' s).2 p2)
    have e2 := h' s ((hu.same hi' hi s).2 p1) p2
    have l1 := hu.le h1 hi s
    have l2 := hv.le h2 hk' s
    omega
  rcases Nat.le_total i i' with h1 | h1 <;> rcases Nat.le_total k k' with h2 | h2
  · simp only [Nat.max_eq_right h1, Nat.max_eq_right h2]; exact h'
  · simp only [Nat.max_eq_right h1, Nat.max_eq_left h2]
    exact key hu hv hi' hi hk' hk h' h h1 h2
  · simp only [Nat.max_eq_left h1, Nat.max_eq_right h2]
    exact key hu hv hi hi' hk hk' h h' h1 h2
  · simp only [Nat.max_eq_left h1, Nat.max_eq_left h2]; exact h

end Go.Proofs.YtpfhegengmlkmaaGreat

namespace Go.Proofs.YtpfhegengmlkmaaGreat
open Go.RowKit Go.BigFrame

theorem names_take_step {la lb : List (ByteArray × Int)} {k : Nat} (h : namesM (la.take k) = namesM (lb.take k)) (ha : k < la.length) (hb : k < lb.length) (e : la[k].1 = lb[k].1) : namesM (la.take (k + 1)) = namesM (lb.take (k + 1)) := by
  unfold namesM at *
  rw [List.take_succ_eq_append_getElem ha, List.take_succ_eq_append_getElem hb, List.map_append, List.map_append, h]
  simp [e]
theorem names_at {la lb : List (ByteArray × Int)} (h : namesM la = namesM lb) {k : Nat} (ha : k < la.length) (hb : k < lb.length) : la[k].1 = lb[k].1 := by
  have h1 : (namesM la)[k]? = (namesM lb)[k]? := by rw [h]
  unfold namesM at h1
  simpa [ha, hb] using h1
theorem names_len {la lb : List (ByteArray × Int)} (h : namesM la = namesM lb) : la.length = lb.length := by
  have := congrArg List.length h
  unfold namesM at this
  simpa using this

set_option maxHeartbeats 800000 in
theorem l2Sources_any (aa ab : Option Addr) (ca cb : Nat) (la lb : List (ByteArray × Int)) (w : World) (hla : la.length ≤ maxLen) (ha : Row w aa la) (hb : Row w ab lb) :
    Calls Tryz.prog 93 #[.slice aa la.length ca, .slice ab lb.length cb] w fun e w' => IsB (namesM la = namesM lb) e ∧ Below w.heap.size w w' := by
  unfold maxLen at hla
  go_enter Tryz.func93, Tryz.ntmps93
  by_cases hlen : la.length = lb.length
  · have hlen' : ((la.length : Int) != (lb.length : Int)) = false := by rw [bne_eq_false_iff_eq]; omega
    have HLEN : Hid (la.length = lb.length) := hlen
    have hle1 : la.length ≤ lb.length := by omega
    have hle2 : lb.length ≤ la.length := by omega
    clear hlen
    go_wp2_with fail
    go_loopw [5] (fun i wr => ∃ k : Nat, k ≤ la.length ∧ i = .int .i64 k ∧ namesM (la.take k) = namesM (lb.take k) ∧ Below w.heap.size w wr) (fun i _ => la.length - (intOf i).toNat)
    case atStart => exact ⟨0, Nat.zero_le _, rfl, rfl, Below.refl _ _⟩
    case round =>
      obtain ⟨k, hk, rfl, hinv, hbl⟩ := hrel
      by_cases hlt : k < la.length
      · have hltb : k < lb.length := by omega
        obtain ⟨b1, o1, rfl, hlt1, c0, c1⟩ := ha k hlt
        obtain ⟨b2, o2, rfl, hlt2, d0, d1⟩ := hb k hltb
        have e0 := cell_on hbl hlt1 c0
        have f0 := cell_on hbl hlt2 d0
        have k0 : (0 : Int) ≤ (k : Int) := by omega
        have k1 : (k : Int) < (la.length : Int) := by omega
        have k2 : (k : Int) < (lb.length : Int) := by omega
        have HI : Hid (namesM (la.take k) = namesM (lb.take k)) := hinv
        clear hinv
        by_cases hs : la[k].1 = lb[k].1
        · have hs' : (la[k].1.toList == lb[k].1.toList) = true := toList_beq.2 hs
          have HS : Hid (la[k].1 = lb[k].1) := hs
          clear hs
          go_wp2_with fail
          go_quiet (fail)
          go_wp2_with fail
          exact ⟨⟨k + 1, by omega, by go_num, names_take_step HI.out hlt hltb HS.out, below_drewN hbl _⟩, by simp [intOf]; omega⟩
        · have hs' : (la[k].1.toList == lb[k].1.toList) = false := toList_bne.2 hs
          go_wp2_with fail
          go_quiet (fail)
          go_wp2_with fail
          go_ret
          exact ⟨isB_false (fun h => hs (names_at h hlt hltb)), below_drewN hbl _⟩
      · have HF : Hid (namesM la = namesM lb) := by
          rw [List.take_of_length_le (by omega), List.take_of_length_le (by omega)] at hinv
          exact hinv
        clear hinv
        go_wp2_with fail
        go_ret
        exact ⟨isB_true HF.out, hbl⟩
  · have hlen' : ((la.length : Int) != (lb.length : Int)) = true := by rw [bne_iff_ne]; omega
    go_wp2_with fail
    go_ret
    exact ⟨isB_false (fun h => hlen (names_len h)), Below.refl _ _⟩

set_option maxHeartbeats 800000 in
theorem l2Above_any (x y : Int) (aa ab : Option Addr) (ca cb : Nat) (la lb : List (ByteArray × Int)) (w : World) (fa : FitM la) (fb : FitM lb) (ha : Row w aa la) (hb : Row w ab lb) :
    Calls Tryz.prog 76 #[.agg #[.int .i64 x, .slice aa la.length ca], .agg #[.int .i64 y, .slice ab lb.length cb]] w fun e w' => IsB (AboveP la lb) e ∧ Below w.heap.size w w' := by
  go_enter Tryz.func76, Tryz.ntmps76
  go_wp2_with fail
  have hsz : ((w.alloc (.cells #[.int .i64 x, .slice aa la.length ca] 40)).alloc (.cells #[.int .i64 y, .slice ab lb.length cb] 40)).heap.size = w.heap.size + 2 := by simp
  have c1 : ((w.alloc (.cells #[.int .i64 x, .slice aa la.length ca] 40)).alloc (.cells #[.int .i64 y, .slice ab lb.length cb] 40)).cell? ⟨w.heap.size, 1, none⟩ = some (.slice aa la.length ca) := by simp [go_sem]
  have d1 : ((w.alloc (.cells #[.int .i64 x, .slice aa la.length ca] 40)).alloc (.cells #[.int .i64 y, .slice ab lb.length cb] 40)).cell? ⟨w.heap.size + 1, 1, none⟩ = some (.slice ab lb.length cb) := by simp [go_sem]
  have hb0 : Below w.heap.size w ((w.alloc (.cells #[.int .i64 x, .slice aa la.length ca] 40)).alloc (.cells #[.int .i64 y, .slice ab lb.length cb] 40)) := ((Below.refl _ _).alloc (Nat.le_refl _) _).alloc (by simp) _
  generalize (w.alloc (.cells #[.int .i64 x, .slice aa la.length ca] 40)).alloc (.cells #[.int .i64 y, .slice ab lb.length cb] 40) = W0 at *
  have g0 : w.heap.size < W0.heap.size := by omega
  have g1 : w.heap.size + 1 < W0.heap.size := by omega
  refine (l2Sources_any aa ab ca cb la lb _ fa.1 (ha.below hb0) (hb.below hb0)).mono ?_
  rintro e w1 ⟨⟨r, rfl, hr⟩, b1⟩
  replace c1 := cell_on b1 g0 c1
  replace d1 := cell_on b1 g1 d1
  have B1 : Below w.heap.size w w1 := hb0.trans (b1.mono hb0.size)
  have HR : Hid (r = true ↔ namesM la = namesM lb) := hr
  clear hr
  cases r
  · have HN : Hid (¬ AboveP la lb) := fun h => by simpa using HR.out.2 h.1
    clear HR
    go_wp2_with fail
    go_ret
    exact ⟨isB_false HN.out, B1⟩
  · go_wp2_with fail
    refine (specOrder_any aa ab ca cb la lb _ fa.1 fb.1 ((ha.below hb0).below b1) ((hb.below hb0).below b1) fa.2 fb.2).mono ?_
    rintro e w2 ⟨⟨v, rfl, hv⟩, b2⟩
    have B2 : Below w.heap.size w w2 := B1.trans (b2.mono B1.size)
    have HV : Hid (v = 1 ↔ (StampP la ∧ StampP lb ∧ BelowP la lb ∧ ¬ BelowP lb la)) := ord_less hv
    clear hv
    go_wp2_with fail
    go_ret
    refine ⟨⟨v == 1, rfl, ?_⟩, B2⟩
    rw [beq_iff_eq, HV.out]
    exact ⟨fun h => ⟨HR.out.1 (by trivial), h⟩, fun h => h.2⟩

/-- The first k items are as in a window. -/
def WinTo (l : List ItemM) (k : Nat) : Prop := (∀ j, (h : j < l.length) → j < k → StampP l[j].2 ∧ l[j].2 ≠ []) ∧ ∀ j, (h : j + 1 < l.length) → j + 1 < k → AboveP l[j].2 l[j + 1].2
theorem winTo_zero (l : List ItemM) : WinTo l 0 := ⟨fun _ _ h => by omega, fun _ _ h => by omega⟩
theorem winTo_step {l : List ItemM} {k : Nat} (H : WinTo l k) (hk : k < l.length) (hm : StampP l[k].2 ∧ l[k].2 ≠ []) (ha : 0 < k → AboveP (l[k - 1]'(by omega)).2 l[k].2) : WinTo l (k + 1) := by
  refine ⟨fun j hj hlt => ?_, fun j hj hlt => ?_⟩
  · by_cases e : j = k
    · subst e; exact hm
    · exact H.1 j hj (by omega)
  · by_cases e : j + 1 = k
    · subst e; exact ha (by omega)
    · exact H.2 j hj (by omega)
theorem winP_of {l : List ItemM} {k : Nat} (H : WinTo l k) (hk : ¬ k < l.length) (h : l.length ≤ 4) : WinP l := ⟨h, fun j hj => H.1 j hj (by omega), fun j hj => H.2 j hj (by omega)⟩
theorem winP_above {l : List ItemM} (h : WinP l) {k : Nat} (h0 : 0 < k) (hk : k < l.length) : AboveP (l[k - 1]'(by omega)).2 l[k].2 := by
  obtain ⟨m, rfl⟩ : ∃ m, k = m + 1 := ⟨k - 1, by omega⟩
  exact h.2.2 m hk

theorem boolOf (P : Prop) : ∃ q : Bool, q = true ↔ P := by
  by_cases h : P
  · exact ⟨true, by simp [h]⟩
  · exact ⟨false, by simp [h]⟩

set_option maxHeartbeats 1600000 in
theorem specWinOk_any (a : Option Addr) (cap : Nat) (l : List ItemL) (w : World) (hf : FitI l) (hr : RowI w a l) :
    Calls Tryz.prog 47 #[.slice a l.length cap] w fun e w' => IsB (WinP l) e ∧ Below w.heap.size w w' := by
  have hl := hf.1
  unfold maxLen at hl
  by_cases h4 : 4 < l.length
  · go_enter Tryz.func47, Tryz.ntmps47
    go_wp2_with fail
    go_ret
    exact ⟨isB_false (fun h => by have := h.1; omega), Below.refl _ _⟩
  go_enter Tryz.func47, Tryz.ntmps47
  go_wp2_with fail
  go_loopw [3] (fun i wr => ∃ k : Nat, k ≤ l.length ∧ i = .int .i64 k ∧ WinTo l k ∧ Below w.heap.size w wr) (fun i _ => l.length - (intOf i).toNat)
  case atStart => exact ⟨0, Nat.zero_le _, rfl, winTo_zero l, Below.refl _ _⟩
  case round =>
    obtain ⟨k, hk, rfl, hinv, hbl⟩ := hrel
    have HI : Hid (WinTo l k) := hinv
    have hzr := hbl.size
    clear hinv
    by_cases hlt : k < l.length
    · obtain ⟨b1, o1, rfl, g1, e0, v1, e1, ⟨s1, t1, rfl, _, r1⟩⟩ := hr.below hbl k hlt
      have k0 : (0 : Int) ≤ (k : Int) := by omega
      have k1 : (k : Int) < (l.length : Int) := by omega
      have fk := hf.2 k hlt
      go_wp2_with fail
      refine (specOk_b s1 t1 l[k].2 _ fk.1 r1 fk.2).mono ?_
      rintro e w1 ⟨⟨r, rfl, hr1⟩, b1'⟩
      have HR1 : Hid (r = true ↔ StampP l[k].2) := hr1
      replace e0 := cell_on b1' g1 e0
      replace e1 := cell_on b1' g1 e1
      replace r1 := r1.below b1'
      have B1 : Below w.heap.size w w1 := hbl.trans (b1'.mono hzr)
      have g1' : b1 < w1.heap.size := Nat.lt_of_lt_of_le g1 b1'.size
      clear hr1
      cases r
      · have HN : Hid (¬ WinP l) := fun h => by simpa using HR1.out.2 (h.2.1 k hlt).1
        clear HR1
        go_wp2_with fail
        go_ret
        exact ⟨isB_false HN.out, B1⟩
      have HSP : Hid (StampP l[k].2) := HR1.out.1 rfl
      clear HR1
      by_cases hz : l[k].2.length = 0
      · have hz' : ((l[k].2.length : Int) == 0) = true := by rw [beq_iff_eq]; omega
        have HN : Hid (¬ WinP l) := fun h => (h.2.1 k hlt).2 (List.length_eq_zero_iff.1 hz)
        clear hz
        go_wp2_with fail
        go_ret
        exact ⟨isB_false HN.out, B1⟩
      have hz' : ((l[k].2.length : Int) == 0) = false := by rw [beq_eq_false_iff_ne]; omega
      have HNE : Hid (l[k].2 ≠ []) := fun e => hz (by rw [e]; rfl)
      clear hz
      by_cases hk0 : 0 < k
      · obtain ⟨b2, o2, eb, g2, f0, v2, f1, ⟨s2, t2, rfl, _, r2⟩⟩ := (hr.below B1) (k - 1) (by omega)
        obtain ⟨rfl, rfl⟩ : b1 = b2 ∧ o1 = o2 := by simpa using eb
        have fk2 := hf.2 (k - 1) (by omega)
        have k3 : (0 : Int) ≤ (k : Int) - 1 := by omega
        have hkm : ((k : Int) - 1) = ((k - 1 : Nat) : Int) := by omega
        obtain ⟨q, hq⟩ : ∃ q : Bool, q = true ↔ AboveP (l[k - 1]'(by omega)).2 l[k].2 := boolOf _
        have HQ : Hid (q = true ↔ AboveP (l[k - 1]'(by omega)).2 l[k].2) := hq
        have hne := Lat.some w1
        have ce : ∀ n : Lat w1, Calls Tryz.prog 76 #[.agg #[.int .i64 (l[k - 1]'(by omega)).1, .slice s2 (l[k - 1]'(by omega)).2.length t2], .agg #[.int .i64 l[k].1, .slice s1 l[k].2.length t1]] n.w fun e w'' => e = .returned (.bool q) ∧ Below n.w.heap.size n.w w'' := fun n =>
          (l2Above_any _ _ s2 s1 t2 t1 _ _ n.w fk2 fk (r2.below n.h) (r1.below n.h)).mono fun _ _ ⟨⟨q', he, hq'⟩, hb'⟩ => ⟨by rw [he, show q' = q by rw [Bool.eq_iff_iff, hq', HQ.out]], hb'⟩
        have q0 : ∀ n : Lat w1, n.w.cell? ⟨b1, o1 + k * 2, none⟩ = some (.int .i64 l[k].1) := fun n => n.cell g1' e0
        have q1 : ∀ n : Lat w1, n.w.cell? ⟨b1, o1 + k * 2 + 1, none⟩ = some (.slice s1 l[k].2.length t1) := fun n => n.cell g1' e1
        have q2 : ∀ n : Lat w1, n.w.cell? ⟨b1, o1 + (k - 1) * 2, none⟩ = some (.int .i64 (l[k - 1]'(by omega)).1) := fun n => n.cell g1' f0
        have q3 : ∀ n : Lat w1, n.w.cell? ⟨b1, o1 + (k - 1) * 2 + 1, none⟩ = some (.slice s2 (l[k - 1]'(by omega)).2.length t2) := fun n => n.cell g1' f1
        clear hq
        go_wp2_with fail
        refine wp_region_lat (by kernel_rfl) (by kernel_rfl) ?_
        repeat (go_big_quiet_step ((go_at_call 76; exact Calls.lat_of (ce _))))
        refine wpQuiet_nil ?_
        rintro _ ⟨nq, rfl⟩
        have Bn : Below w.heap.size w nq.w := B1.trans (nq.h.mono B1.size)
        cases q
        · have HN : Hid (¬ WinP l) := fun h => by simpa using HQ.out.2 (winP_above h hk0 hlt)
          clear HQ ce
          go_wp2_with fail
          go_ret
          exact ⟨isB_false HN.out, Bn⟩
        · have HST : Hid (WinTo l (k + 1)) := winTo_step HI.out hlt ⟨HSP.out, HNE.out⟩ (fun _ => HQ.out.1 rfl)
          clear HQ ce
          go_wp2_with fail
          exact ⟨⟨k + 1, by omega, by go_num, HST.out, Bn⟩, by simp [intOf]; omega⟩
      · have HST : Hid (WinTo l (k + 1)) := winTo_step HI.out hlt ⟨HSP.out, HNE.out⟩ (fun h => absurd h hk0)
        go_wp2_with fail
        go_quiet (fail)
        go_wp2_with fail
        exact ⟨⟨k + 1, by omega, by go_num, HST.out, below_drewN B1 _⟩, by simp [intOf]; omega⟩
    · have HF : Hid (WinP l) := winP_of HI.out hlt (by omega)
      go_wp2_with fail
      go_ret
      exact ⟨isB_true HF.out, hbl⟩

end Go.Proofs.YtpfhegengmlkmaaGreat
