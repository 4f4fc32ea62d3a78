/- Texts of this claim, one behind the other. -/
import Derived.Deep.RegionHeld3
import Derived.Lib.Strings
import Derived.Lib.Walk
import Derived.Lib.BufferWrite
import Derived.Lib.UnsafeStr
import Derived.Laws.MakeOwn
import Derived.Test.YtpfhegengmlkmaaGreatZK1
import Derived.Test.YtpfhegengmlkmaaGreatZK6
import Derived.Test.YtpfhegengmlkmaaGreatZK9
import Derived.Test.YtpfhegengmlkmaaGreatZK10
import Derived.Test.YtpfhegengmlkmaaGreatZK16
import Derived.Test.YtpfhegengmlkmaaGreatZK17
namespace Go.Proofs.YtpfhegengmlkmaaGreat
open Go.RowKit Go.BigFrame

set_option maxHeartbeats 800000 in
theorem l4Ins_any (a : Option Addr) (cap : Nat) (l : List ByteArray) (w : World) (hl : l.length ≤ 1048576) (hr : RowS w a l) (hs : ∀ j, (h : j < l.length) → l[j].size ≤ maxLen) :
    Calls Tryz.prog 61 #[.slice a l.length cap] w fun e w' => IsB (InsP l) e ∧ Below w.heap.size w w' := by
  by_cases h1 : l.length < 1
  · go_enter Tryz.func61, Tryz.ntmps61
    go_wp2_with fail
    go_ret
    exact ⟨isB_false (fun h => by have := h.1; omega), Below.refl _ _⟩
  by_cases h6 : 6 < l.length
  · go_enter Tryz.func61, Tryz.ntmps61
    go_wp2_with fail
    go_ret
    exact ⟨isB_false (fun h => by have := h.2.1; omega), Below.refl _ _⟩
  go_enter Tryz.func61, Tryz.ntmps61
  go_wp2_with fail
  go_loopw [3] (fun i wr => ∃ k : Nat, k ≤ l.length ∧ i = .int .i64 k ∧ Hid (InsTo l k) ∧ Below w.heap.size w wr) (fun i _ => l.length - (intOf i).toNat)
  case atStart => exact ⟨0, Nat.zero_le _, rfl, fun _ _ h => absurd h (Nat.not_lt_zero _), Below.refl _ _⟩
  case round =>
    obtain ⟨k, hk, rfl, HI, hbl⟩ := hrel
    by_cases hlt : k < l.length
    · obtain ⟨b, o, rfl, hblt, c0⟩ := hr.below hbl k hlt
      have k0 : (0 : Int) ≤ (k : Int) := by omega
      have k1 : (k : Int) < (l.length : Int) := by omega
      have HS := hs k hlt
      go_wp2_with fail
      refine (l1Name_any l[k] _ HS).mono ?_
      rintro e w1 ⟨⟨r, rfl, hr1⟩, rfl⟩
      have HR : Hid (r = true ↔ NameP l[k]) := hr1
      clear hr1
      cases r with
      | false =>
        have HN : Hid (¬ InsP l) := fun h => by have h3 := (h.2.2 k hlt).1; have := HR.out.2 h3; simp at this
        go_wp2_with fail
        go_ret
        exact ⟨isB_false HN.out, hbl⟩
      | true =>
        have HP : Hid (NameP l[k]) := HR.out.1 rfl
        clear HR
        go_wp2_with fail
        go_loopw [4] (fun i2 wr2 => ∃ j : Nat, j ≤ k ∧ i2 = .int .i64 j ∧ Hid (∀ q, (hq : q < j) → (hl : q < l.length) → l[q] ≠ l[k]) ∧ Below w.heap.size w wr2) (fun i2 _ => k - (intOf i2).toNat)
        case atStart => exact ⟨0, Nat.zero_le _, rfl, fun _ h => absurd h (Nat.not_lt_zero _), hbl⟩
        case round =>
          obtain ⟨j, hj, rfl, HJ, hbl2⟩ := hrel
          by_cases hjlt : j < k
          · have hjl : j < l.length := by omega
            obtain ⟨b1, o1, e1, hb1, c1⟩ := hr.below hbl2 j hjl
            obtain ⟨b2, o2, e2, hb2, c2⟩ := hr.below hbl2 k hlt
            cases e1
            cases e2
            have j0 : (0 : Int) ≤ (j : Int) := by omega
            have j1 : (j : Int) < (l.length : Int) := by omega
            by_cases he : l[j] = l[k]
            · have hb' : (l[j].toList == l[k].toList) = true := toList_beq.2 he
              have HN : Hid (¬ InsP l) := fun h => (h.2.2 k hlt).2 j hjlt he
              go_wp2_with fail
              go_quiet (fail)
              go_wp2_with fail
              go_ret
              exact ⟨isB_false HN.out, below_drewN hbl2 _⟩
            · have hb' : (l[j].toList == l[k].toList) = false := toList_bne.2 he
              have HJ2 : Hid (∀ q, (hq : q < j + 1) → (hl : q < l.length) → l[q] ≠ l[k]) := fun q hq hl => by
                by_cases e : q = j
                · subst e; exact he
                · exact HJ.out q (by omega) hl
              go_wp2_with fail
              go_quiet (fail)
              go_wp2_with fail
              exact ⟨⟨j + 1, by omega, by go_num, HJ2, below_drewN hbl2 _⟩, by simp [intOf]; omega⟩
          · have HST : Hid (InsTo l (k + 1)) := insTo_step HI.out hlt HP.out (fun q hq => HJ.out q (by omega) (by omega))
            go_wp2_with fail
            exact ⟨⟨k + 1, by omega, by go_num, HST, hbl2⟩, by simp [intOf]; omega⟩
    · have HF : Hid (InsP l) := ⟨by omega, by omega, fun i hi => HI.out i hi (by omega)⟩
      go_wp2_with fail
      go_ret
      exact ⟨isB_true HF.out, hbl⟩

end Go.Proofs.YtpfhegengmlkmaaGreat

namespace Go.Proofs.YtpfhegengmlkmaaGreat
open Go.RowKit Go.BigFrame

/-- A gather that may be. -/
structure GatP (g : GatL) : Prop where
  ins : InsP g.ins
  len : g.wins.length = g.ins.length
  wins : OkW g.wins
  shown : StampP g.shown

set_option maxHeartbeats 800000 in
theorem specGOk_any (a0 a1 a2 : Option Addr) (c0 c1 c2 : Nat) (g : GatL) (w : World) (hf : FitG g) (hi : g.ins.length ≤ 1048576) (r0 : RowS w a0 g.ins) (r1 : RowW w a1 g.wins) (r2 : Row w a2 g.shown) :
    Calls Tryz.prog 65 #[.agg #[.slice a0 g.ins.length c0, .slice a1 g.wins.length c1, .slice a2 g.shown.length c2]] w fun e w' => IsB (GatP g) e ∧ Below w.heap.size w w' := by
  have hl := hf.wins.1
  unfold maxLen at hl
  have hb0 : Below w.heap.size w (w.alloc (.cells #[.slice a0 g.ins.length c0, .slice a1 g.wins.length c1, .slice a2 g.shown.length c2] 80)) := (Below.refl _ _).alloc (Nat.le_refl _) _
  have hlt := box_lt w (.cells #[.slice a0 g.ins.length c0, .slice a1 g.wins.length c1, .slice a2 g.shown.length c2] 80)
  have d0 : (w.alloc (.cells #[.slice a0 g.ins.length c0, .slice a1 g.wins.length c1, .slice a2 g.shown.length c2] 80)).cell? ⟨w.heap.size, 0, none⟩ = some (.slice a0 g.ins.length c0) := by simp [go_sem]
  have d1 : (w.alloc (.cells #[.slice a0 g.ins.length c0, .slice a1 g.wins.length c1, .slice a2 g.shown.length c2] 80)).cell? ⟨w.heap.size, 1, none⟩ = some (.slice a1 g.wins.length c1) := by simp [go_sem]
  have d2 : (w.alloc (.cells #[.slice a0 g.ins.length c0, .slice a1 g.wins.length c1, .slice a2 g.shown.length c2] 80)).cell? ⟨w.heap.size, 2, none⟩ = some (.slice a2 g.shown.length c2) := by simp [go_sem]
  go_enter Tryz.func65, Tryz.ntmps65
  go_wp2_with fail
  generalize w.alloc (.cells #[.slice a0 g.ins.length c0, .slice a1 g.wins.length c1, .slice a2 g.shown.length c2] 80) = W0 at *
  refine (l4Ins_any a0 c0 g.ins _ hi (r0.below hb0) hf.ins.2).mono ?_
  rintro e w1 ⟨⟨r, rfl, hr⟩, b1⟩
  have HR : Hid (r = true ↔ InsP g.ins) := hr
  clear hr
  have B1 : Below w.heap.size w w1 := hb0.trans (b1.mono hb0.size)
  replace d0 := cell_on b1 (by omega) d0
  replace d1 := cell_on b1 (by omega) d1
  replace d2 := cell_on b1 (by omega) d2
  have z1 := b1.size
  clear b1
  cases r with
  | false =>
    have HN : Hid (¬ GatP g) := fun h => by have := HR.out.2 h.ins; simp at this
    go_wp2_with fail
    go_ret
    exact ⟨isB_false HN.out, B1⟩
  | true =>
    have HP : Hid (InsP g.ins) := HR.out.1 rfl
    clear HR
    by_cases hlen : g.wins.length = g.ins.length
    · have HL : Hid (g.wins.length = g.ins.length) := hlen
      have hlen' : ((g.wins.length : Int) == (g.ins.length : Int)) = true := by rw [beq_iff_eq]; omega
      clear hlen
      go_wp2_with fail
      refine (l3Ok_any a1 c1 g.wins _ hf.wins (r1.below B1)).mono ?_
      rintro e w2 ⟨⟨r, rfl, hr⟩, b2⟩
      have HR : Hid (r = true ↔ OkW g.wins) := hr
      clear hr
      have B2 : Below w.heap.size w w2 := B1.trans (b2.mono B1.size)
      replace d2 := cell_on b2 (by omega) d2
      have z2 := b2.size
      clear b2
      cases r with
      | false =>
        have HN : Hid (¬ GatP g) := fun h => by have := HR.out.2 h.wins; simp at this
        go_wp2_with fail
        go_ret
        exact ⟨isB_false HN.out, B2⟩
      | true =>
        have HW : Hid (OkW g.wins) := HR.out.1 rfl
        clear HR
        go_wp2_with fail
        refine (specStampOk_any a2 c2 g.shown _ hf.shown.1 (r2.below B2) hf.shown.2).mono ?_
        rintro e w3 ⟨⟨r, rfl, hr⟩, n, rfl⟩
        have HR : Hid (r = true ↔ GatP g) := hr.trans ⟨fun h => ⟨HP.out, HL.out, HW.out, h⟩, fun h => h.shown⟩
        clear hr
        go_wp2_with fail
        go_ret
        exact ⟨⟨r, rfl, HR.out⟩, below_drewN B2 _⟩
    · have hlen' : ((g.wins.length : Int) == (g.ins.length : Int)) = false := by rw [beq_eq_false_iff_ne]; omega
      have HN : Hid (¬ GatP g) := fun h => hlen h.len
      go_wp2_with fail
      go_ret
      exact ⟨isB_false HN.out, B1⟩

end Go.Proofs.YtpfhegengmlkmaaGreat

namespace Go.Proofs.YtpfhegengmlkmaaGreat
open Go.RowKit Go.BigFrame
set_option maxRecDepth 100000

/-- Three cells of a block of the call's own. -/
structure Tri (w : World) (b : Nat) (x y z : Value) : Prop where
  c0 : w.cell? ⟨b, 0, none⟩ = some x
  c1 : w.cell? ⟨b, 1, none⟩ = some y
  c2 : w.cell? ⟨b, 2, none⟩ = some z
  f0 : w.frozen? ⟨b, 0, none⟩ = false
  f1 : w.frozen? ⟨b, 1, none⟩ = false
  f2 : w.frozen? ⟨b, 2, none⟩ = false
theorem Tri.keep {w w' : World} {b : Nat} {x y z : Value} (h : Tri w b x y z) (hb : Below w.heap.size w w') : Tri w' b x y z := by
  have hlt := block_lt_of_cell h.c0
  exact ⟨cell_on hb hlt h.c0, cell_on hb hlt h.c1, cell_on hb hlt h.c2, (hb.frozen (p := ⟨b, 0, none⟩) hlt).trans h.f0, (hb.frozen (p := ⟨b, 1, none⟩) hlt).trans h.f1, (hb.frozen (p := ⟨b, 2, none⟩) hlt).trans h.f2⟩
theorem Tri.grown {w w' : World} {b : Nat} {x y z : Value} {r : Option Nat} (h : Tri w b x y z) (hg : w.grownBy w' r) (hne : some b ≠ r) : Tri w' b x y z := by
  have hlt := block_lt_of_cell h.c0
  exact ⟨grown_cell hg hne h.c0, grown_cell hg hne h.c1, grown_cell hg hne h.c2, (hg.frozen_far ⟨b, 0, none⟩ hlt hne).trans h.f0, (hg.frozen_far ⟨b, 1, none⟩ hlt hne).trans h.f1, (hg.frozen_far ⟨b, 2, none⟩ hlt hne).trans h.f2⟩
theorem Tri.set0 {w : World} {b : Nat} {x y z : Value} (h : Tri w b x y z) (v : Value) : Tri (w.setCell ⟨b, 0, none⟩ v) b v y z :=
  ⟨by simp [go_sem, h.c0], by simp [go_sem, h.c1], by simp [go_sem, h.c2], by simp [go_sem, h.f0], by simp [go_sem, h.f1], by simp [go_sem, h.f2]⟩
theorem Tri.set1 {w : World} {b : Nat} {x y z : Value} (h : Tri w b x y z) (v : Value) : Tri (w.setCell ⟨b, 1, none⟩ v) b x v z :=
  ⟨by simp [go_sem, h.c0], by simp [go_sem, h.c1], by simp [go_sem, h.c2], by simp [go_sem, h.f0], by simp [go_sem, h.f1], by simp [go_sem, h.f2]⟩
theorem Tri.far {w : World} {b q : Nat} {x y z : Value} (h : Tri w b x y z) (hq : b ≠ q) (i : Nat) (v : Value) : Tri (w.setCell ⟨q, i, none⟩ v) b x y z :=
  ⟨by rw [set_far _ _ _ _ hq]; exact h.c0, by rw [set_far _ _ _ _ hq]; exact h.c1, by rw [set_far _ _ _ _ hq]; exact h.c2, by simp [go_sem, h.f0], by simp [go_sem, h.f1], by simp [go_sem, h.f2]⟩
theorem tri_new (w : World) (x y z : Value) (t : TypeId) : Tri (w.alloc (.cells #[x, y, z] t)) w.heap.size x y z := ⟨by simp [go_sem], by simp [go_sem], by simp [go_sem], by simp [go_sem], by simp [go_sem], by simp [go_sem]⟩

theorem wp_append_win {o : Oper} {a : Act} {w : World} {K : Act → World → Prop} {Q : Exit → Act → World → Prop} (s x : Operand)
    (ho : o.op = .call { callee := .builtin .append, args := #[s, x], argTypes := #[23, 23] }) (base : Nat) (v : Value) (L : List WinY) (hs : a.eval s = v) (hg : GathY w base v L) (hbase : base ≤ w.heap.size)
    (ad : Nat) (p : WinY) (hw : ∀ q ∈ L, q.hi ≤ p.lo) (hp : p.In w base) (hpv : ∀ k, v.ownBlock = some k → k < p.lo ∨ p.hi ≤ k) (hx : a.eval x = .slice (some ⟨ad, 0, none⟩) 1 1) (c0 : w.cell? ⟨ad, 0, none⟩ = some p.v) (hl : L.length ≤ 1048576)
    (h : ∀ v' w', GathY w' base v' (L ++ [p]) → w.grownBy w' v.ownBlock → (v'.ownBlock = v.ownBlock ∨ v'.ownBlock = some w.heap.size) → K (a.put o.dst v') w') : o.wp Tryz.prog a w K Q := by
  obtain ⟨i0, hi, hz0, hz1, hz2⟩ := info_parts Tryz.infoW
  obtain ⟨pa, pc, pe, _⟩ := hp.1
  obtain ⟨v', w', hr, h2, h3, _, h5⟩ := run_append_own_at (P := Tryz.prog) w base 23 o.type 41 i0 (.slice none 0 0) 1 24 Tryz.underlying23 hi hz0 hz1 hz2 rfl (by decide) v L.length (L.map (·.v)) hg.own ⟨ad, 0, none⟩ 1 1 [p.v] rfl (by
      intro j u hj
      match j, hj with
      | 0, hj => simp at hj; subst hj; exact c0) (by simp [Value.oneCell', pe]) (by unfold maxLen; omega) (by omega) hbase
  unfold Oper.wp execOp
  simp only [ho, resolve, invoke, builtin, Sem.run_bind, Sem.run_pure, Result.andThen_ok, List.map_toArray, List.map_cons, List.map_nil, hs, hx, hr]
  exact h _ w' (hg.snoc hw hp hpv h2 h3 h5) h3 h5
theorem own_grown {w w' : World} {g : Nat} {l : List (ByteArray × Int)} {r : Option Nat} (h : Own w g l) (hg : w.grownBy w' r) (hne : some g ≠ r) : Own w' g l := by
  have hlt := h.lt
  obtain ⟨m, f, h', hf⟩ := h
  exact ⟨m, f, h'.of_block (hg.block g hlt hne), hf⟩
theorem str_unlike : 9 ≠ 41 := by decide

/-- What fresh answers: all that the gather has, in memory of the call's own. -/
def FreG (w w' : World) (g : GatL) (e : Ending) : Prop := ∃ B v0 v1 L gm cm, w.heap.size ≤ B ∧ e = .returned (.agg #[v0, v1, .slice (some ⟨gm, 0, none⟩) g.shown.length cm]) ∧ GathS w' B v0 g.ins ∧ GathY w' B v1 L ∧ L.map (·.l) = g.wins ∧ (∀ p ∈ L, ∀ k, v0.ownBlock = some k → k < p.lo ∨ p.hi ≤ k) ∧ w.heap.size ≤ gm ∧ gm < B ∧ g.shown.length ≤ cm ∧ Own w' gm g.shown

end Go.Proofs.YtpfhegengmlkmaaGreat

namespace Go.Proofs.YtpfhegengmlkmaaGreat
open Go.RowKit Go.BigFrame
set_option maxRecDepth 100000

/-- Block 't' begins with the windows of L, each in blocks of its own between lo and hi. -/
structure YW (w : World) (lo hi t : Nat) (L : List WinY) : Prop where
  lt : t < w.heap.size
  cell : ∀ k, (h : k < L.length) → w.cell? ⟨t, k, none⟩ = some L[k].v
  at_ : ∀ p ∈ L, ∃ a c, p.v = .slice a p.l.length c ∧ p.l.length ≤ c ∧ SafeI w p.lo p.hi a p.l
  far : ∀ p ∈ L, t < p.lo ∨ p.hi ≤ t
  in_ : ∀ p ∈ L, lo ≤ p.lo ∧ p.lo ≤ p.hi ∧ p.hi ≤ hi
  dis : L.Pairwise fun p q => p.hi ≤ q.lo ∨ q.hi ≤ p.lo
theorem YW.below {w w' : World} {lo hi t : Nat} {L : List WinY} (h : YW w lo hi t L) (hb : Below w.heap.size w w') : YW w' lo hi t L :=
  ⟨Nat.lt_of_lt_of_le h.lt hb.size, fun k hk => cell_on hb h.lt (h.cell k hk), fun p hp => by obtain ⟨a, c, h1, h2, h3⟩ := h.at_ p hp; exact ⟨a, c, h1, h2, h3.below hb⟩, h.far, h.in_, h.dis⟩
/-- All but the windows' own blocks lies as it lay. -/
structure KeepY (L : List WinY) (w w' : World) : Prop where
  os : w'.os = w.os
  tape : w'.tape = w.tape
  output : w'.output = w.output
  size : w.heap.size ≤ w'.heap.size
  block : ∀ k, k < w.heap.size → (∀ p ∈ L, k < p.lo ∨ p.hi ≤ k) → w'.heap[k]? = w.heap[k]?
theorem KeepY.refl (L : List WinY) (w : World) : KeepY L w w := ⟨rfl, rfl, rfl, Nat.le_refl _, fun _ _ _ => rfl⟩
theorem KeepY.trans {L : List WinY} {x y z : World} (h : KeepY L x y) (k : KeepY L y z) : KeepY L x z := ⟨k.os.trans h.os, k.tape.trans h.tape, k.output.trans h.output, Nat.le_trans h.size k.size, fun i hi hn => (k.block i (Nat.lt_of_lt_of_le hi h.size) hn).trans (h.block i hi hn)⟩
theorem KeepY.of_below {L : List WinY} {w w' : World} (h : Below w.heap.size w w') : KeepY L w w' := ⟨h.os, h.tape, h.output, h.size, fun k hk _ => h.block k hk⟩
theorem KeepY.span {L : List WinY} {w w' : World} {lo hi : Nat} (h : KeepY L w w') (hin : ∀ p ∈ L, lo ≤ p.lo ∧ p.lo ≤ p.hi ∧ p.hi ≤ hi) : Span lo hi w w' := ⟨h.os, h.tape, h.output, h.size, fun k hk hn => h.block k hk fun p hp => by have := hin p hp; omega⟩

/-- One window's contents turned. -/
theorem YW.turn {w w' : World} {lo hi t : Nat} {L : List WinY} (h : YW w lo hi t L) {j : Nat} (hj : j < L.length) {q : WinY} (hq : q.v = L[j].v ∧ q.lo = L[j].lo ∧ q.hi = L[j].hi) (hs : Span L[j].lo L[j].hi w w') (hn : ∃ a c, q.v = .slice a q.l.length c ∧ q.l.length ≤ c ∧ SafeI w' q.lo q.hi a q.l) : YW w' lo hi t (L.set j q) := by
  have hm := List.getElem_mem hj
  have hd := List.pairwise_iff_getElem.1 h.dis
  have hset : ∀ i, (hi : i < (L.set j q).length) → ∃ hi' : i < L.length, (L.set j q)[i].v = L[i].v ∧ (L.set j q)[i].lo = L[i].lo ∧ (L.set j q)[i].hi = L[i].hi := fun i hi => by
    have hi' : i < L.length := by simpa using hi
    refine ⟨hi', ?_⟩
    rw [List.getElem_set]
    split
    · rename_i e; subst e; exact hq
    · exact ⟨rfl, rfl, rfl⟩
  refine ⟨Nat.lt_of_lt_of_le h.lt hs.size, fun k hk => ?_, fun p hp => ?_, fun p hp => ?_, fun p hp => ?_, ?_⟩
  · obtain ⟨hk', e1, _, _⟩ := hset k hk
    rw [e1, World.cell?_of_block (hs.block t h.lt (h.far _ hm))]
    exact h.cell k hk'
  · obtain ⟨i, hi, rfl⟩ := List.mem_iff_getElem.1 hp
    have hi' : i < L.length := by simpa using hi
    rw [List.getElem_set]
    split
    · exact hn
    · rename_i e
      obtain ⟨a, c, h1, h2, h3⟩ := h.at_ L[i] (List.getElem_mem hi')
      refine ⟨a, c, h1, h2, h3.span hs ?_⟩
      rcases Nat.lt_or_gt_of_ne e with h4 | h4
      · exact (hd j i hj hi' h4).symm
      · exact hd i j hi' hj h4
  · obtain ⟨i, hi, rfl⟩ := List.mem_iff_getElem.1 hp
    obtain ⟨hi', _, e2, e3⟩ := hset i hi
    rw [e2, e3]
    exact h.far _ (List.getElem_mem hi')
  · obtain ⟨i, hi, rfl⟩ := List.mem_iff_getElem.1 hp
    obtain ⟨hi', _, e2, e3⟩ := hset i hi
    rw [e2, e3]
    exact h.in_ _ (List.getElem_mem hi')
  · rw [List.pairwise_iff_getElem]
    intro a b ha hb hab
    obtain ⟨ha', _, e2, e3⟩ := hset a ha
    obtain ⟨hb', _, f2, f3⟩ := hset b hb
    rw [e2, e3, f2, f3]
    exact hd a b ha' hb' hab
theorem YW.row {w : World} {lo hi t : Nat} {L : List WinY} (h : YW w lo hi t L) : RowW w (some ⟨t, 0, none⟩) (L.map (·.l)) := fun k hk => by
  have hk' : k < L.length := by simpa using hk
  obtain ⟨a, c, h1, h2, h3⟩ := h.at_ L[k] (List.getElem_mem hk')
  exact ⟨t, 0, rfl, h.lt, a, c, by rw [Nat.zero_add, h.cell k hk', h1]; simp, by simpa using h2, by simpa using h3.row⟩

end Go.Proofs.YtpfhegengmlkmaaGreat

namespace Go.Proofs.YtpfhegengmlkmaaGreat
open Go.RowKit Go.BigFrame
set_option maxRecDepth 100000

/-- A gather to which nothing has come. -/
def newG (ins : List ByteArray) : GatL := ⟨ins, List.replicate ins.length [], []⟩
/-- What GatherNew answers. -/
def NewE (w w' : World) (ins : List ByteArray) (e : Ending) : Prop := (∃ B v0 v1 L v2, w.heap.size ≤ B ∧ e = .returned (.tuple #[.agg #[v0, v1, v2], .bool true]) ∧ InsP ins ∧ GathS w' B v0 ins ∧ GathY w' B v1 L ∧ L.map (·.l) = List.replicate ins.length [] ∧ (∃ a c, v2 = .slice a 0 c)) ∨ (e = .returned (.tuple #[.agg #[.slice none 0 0, .slice none 0 0, .slice none 0 0], .bool false]) ∧ ¬ InsP ins)

end Go.Proofs.YtpfhegengmlkmaaGreat

namespace Go.Proofs.YtpfhegengmlkmaaGreat
open Go.RowKit Go.BigFrame
set_option maxRecDepth 100000

theorem own_ne {w : World} {B e size n q : Nat} {v : Value} {xs : List Value} (h : w.ownsRow B e size v n xs) (hq : v.ownBlock ≠ some q) (i : Nat) (z : Value) : (w.setCell ⟨q, i, none⟩ z).ownsRow B e size v n xs := by
  obtain ⟨hl, h | ⟨g, cap, cur, hv, hgB, hh, r⟩⟩ := h
  · exact ⟨hl, .inl h⟩
  · refine ⟨hl, .inr ⟨g, cap, cur, hv, hgB, (Below.heap_setCell _ _ _ _ ?_).trans hh, r⟩⟩
    intro e
    exact hq (by rw [hv]; simp only at e; rw [e]; rfl)
theorem GathY.lower {w : World} {B B' : Nat} {v : Value} {L : List WinY} (h : GathY w B v L) (hB : B' ≤ B) : GathY w B' v L := ⟨own_lower h.own hB, fun p hp => ⟨(h.at_ p hp).1, Nat.le_trans hB (h.at_ p hp).2.1, (h.at_ p hp).2.2⟩, h.far, h.dis⟩
theorem replicate_snoc (n : Nat) : List.replicate n ([] : List ItemL) ++ [[]] = List.replicate (n + 1) [] := by rw [List.replicate_succ']

set_option maxHeartbeats 3200000 in
theorem specGN_any (a : Option Addr) (cap : Nat) (ins : List ByteArray) (w : World) (hl : ins.length ≤ 1048576) (hr : RowS w a ins) (hs : ∀ j, (h : j < ins.length) → ins[j].size ≤ maxLen) :
    Calls Tryz.prog 37 #[.slice a ins.length cap] w fun e w' => NewE w w' ins e ∧ Below w.heap.size w w' := by
  have hb0 : Below w.heap.size w (w.alloc (.cells #[.slice none 0 0, .slice none 0 0, .slice none 0 0] 80)) := (Below.refl _ _).alloc (Nat.le_refl _) _
  have tR := tri_new w (.slice none 0 0) (.slice none 0 0) (.slice none 0 0) 80
  go_enter Tryz.func37, Tryz.ntmps37
  go_wp2_with fail
  generalize w.alloc (.cells #[.slice none 0 0, .slice none 0 0, .slice none 0 0] 80) = W0 at *
  refine (l4Ins_any a cap ins _ hl (hr.below hb0) hs).mono ?_
  rintro e w1 ⟨⟨r, rfl, hr1⟩, b1⟩
  have HR : Hid (r = true ↔ InsP ins) := hr1
  clear hr1
  have B1 : Below w.heap.size w w1 := hb0.trans (b1.mono hb0.size)
  replace tR := tR.keep b1
  cases r with
  | false =>
    have HN : Hid (¬ InsP ins) := fun h => by have := HR.out.2 h; simp at this
    obtain ⟨r0, r1, r2, f0, f1, f2⟩ := id tR
    go_wp2_with fail
    have e0 : (((w1.setCell ⟨w.heap.size, 0, none⟩ (.slice none 0 0)).setCell ⟨w.heap.size, 1, none⟩ (.slice none 0 0)).setCell ⟨w.heap.size, 2, none⟩ (.slice none 0 0)).cell? ⟨w.heap.size, 0, none⟩ = some (.slice none 0 0) := by simp [go_sem, r0]
    have e1 : (((w1.setCell ⟨w.heap.size, 0, none⟩ (.slice none 0 0)).setCell ⟨w.heap.size, 1, none⟩ (.slice none 0 0)).setCell ⟨w.heap.size, 2, none⟩ (.slice none 0 0)).cell? ⟨w.heap.size, 1, none⟩ = some (.slice none 0 0) := by simp [go_sem, r1]
    have e2 : (((w1.setCell ⟨w.heap.size, 0, none⟩ (.slice none 0 0)).setCell ⟨w.heap.size, 1, none⟩ (.slice none 0 0)).setCell ⟨w.heap.size, 2, none⟩ (.slice none 0 0)).cell? ⟨w.heap.size, 2, none⟩ = some (.slice none 0 0) := by simp [go_sem, r2]
    exact bodyPost_ret (v := .tuple #[.agg #[.slice none 0 0, .slice none 0 0, .slice none 0 0], .bool false]) (by simp [results, Tryz.results37, go_sem, e0, e1, e2]) rfl ⟨.inr ⟨rfl, HN.out⟩, ((B1.setCell (Nat.le_refl _) _).setCell (Nat.le_refl _) _).setCell (Nat.le_refl _) _⟩
  | true =>
    have HP : Hid (InsP ins) := HR.out.1 rfl
    clear HR
    have h1 := HP.out.1
    have h6 := HP.out.2.1
    obtain ⟨bn, on, rfl, hbn, _⟩ := hr 0 (by omega)
    obtain ⟨i0, hi, hz0, hz1, hz2⟩ := info_parts Tryz.infoS
    have bE : Below w1.heap.size w1 (w1.alloc (.cells #[] 9)) := (Below.refl _ _).alloc (Nat.le_refl _) _
    have BE : Below w.heap.size w (w1.alloc (.cells #[] 9)) := B1.trans (bE.mono B1.size)
    have hnews : ∀ j u, (ins.map Value.string)[j]? = some u → (w1.alloc (.cells #[] 9)).cell? ((⟨bn, on, none⟩ : Addr).add j) = some u := fun j u hj => by
      have hj' : j < ins.length := by
        rcases Nat.lt_or_ge j ins.length with h | h
        · exact h
        · rw [List.getElem?_eq_none (by simpa using h)] at hj; cases hj
      obtain ⟨b, o, e, _, hc⟩ := hr.below BE j hj'
      cases e
      have ea : (⟨bn, on, none⟩ : Addr).add j = ⟨bn, on + j, none⟩ := by unfold Addr.add; split <;> simp_all
      rw [ea, hc]
      simpa [hj'] using hj
    have hown0 : (w1.alloc (.cells #[] 9)).ownsRow w1.heap.size 9 1 (.slice (some ⟨w1.heap.size, 0, none⟩) 0 0) 0 [] := ⟨rfl, .inr ⟨w1.heap.size, 0, #[], rfl, Nat.le_refl _, heap_alloc_new w1 _, Nat.le_refl _, Nat.zero_le _, rfl, rfl⟩⟩
    go_wp2_with (first | (at_builtin; refine wpList_append_lies _ rfl _ _ 43 rfl w1.heap.size 9 i0 (.string .empty) 1 16 Tryz.underlying43 hi hz0 hz1 hz2 rfl (by decide) _ 0 [] rfl hown0 ⟨bn, on, none⟩ ins.length cap (ins.map Value.string) rfl (by simp) hnews (by simp [Value.oneCell']) (by omega) (by unfold maxLen; omega) (by omega) (by simp) _ rfl ?_; intro g3 c3 w3 hown3 hgr3 _ _))
    simp only [Nat.zero_add, List.nil_append] at hown3 ⊢
    have hgs3 : GathS w3 w1.heap.size (.slice (some ⟨g3, 0, none⟩) ins.length c3) ins := hown3
    have b3 : Below w1.heap.size w1 w3 := bE.grown hgr3 (by simp) (fun q hq => by cases hq; exact Nat.le_refl _)
    have hg3 : g3 < w3.heap.size := by have := World.ownsRow.lt hown3 g3 rfl; exact this.2
    have bT : Below w3.heap.size w3 (w3.alloc (.cells #[.slice (some ⟨g3, 0, none⟩) ins.length c3, .slice none 0 0, .slice none 0 0] 80)) := (Below.refl _ _).alloc (Nat.le_refl _) _
    have tT := tri_new w3 (.slice (some ⟨g3, 0, none⟩) ins.length c3) (.slice none 0 0) (.slice none 0 0) 80
    have tR3 := (tR.keep b3).keep bT
    have hgsT := hgs3.keep bT
    have B3 : Below w.heap.size w w3 := B1.trans (b3.mono B1.size)
    have BT : Below w.heap.size w (w3.alloc (.cells #[.slice (some ⟨g3, 0, none⟩) ins.length c3, .slice none 0 0, .slice none 0 0] 80)) := B3.trans (bT.mono B3.size)
    have zR : w.heap.size < w1.heap.size := block_lt_of_cell tR.c0
    have z13 := b3.size
    clear hown3 hgr3 hown0 hnews bE BE
    go_wp2_with fail
    generalize w3.alloc (.cells #[.slice (some ⟨g3, 0, none⟩) ins.length c3, .slice none 0 0, .slice none 0 0] 80) = WT at *
    have zT : w3.heap.size < WT.heap.size := block_lt_of_cell tT.c0
    go_loopw [5] (fun i wr => ∃ (k : Nat) (vw : Value) (L : List WinY), k ≤ ins.length ∧ i = .int .i64 k ∧ GathY wr (w3.heap.size + 1) vw L ∧ Hid (L.map (·.l) = List.replicate k []) ∧ GathS wr w1.heap.size (.slice (some ⟨g3, 0, none⟩) ins.length c3) ins ∧ Tri wr w.heap.size (.slice none 0 0) (.slice none 0 0) (.slice none 0 0) ∧ Tri wr w3.heap.size (.slice (some ⟨g3, 0, none⟩) ins.length c3) vw (.slice none 0 0) ∧ w3.heap.size + 1 ≤ wr.heap.size ∧ Below w.heap.size w wr) (fun i _ => ins.length - (intOf i).toNat)
    case atStart => exact ⟨0, _, [], Nat.zero_le _, rfl, gathY_none _ _, by simp [Hid], hgsT, tR3, tT, zT, BT⟩
    case round =>
      clear tT tR3 hgsT BT
      obtain ⟨k, vw, L, hk, rfl, hgy, HL, hgs, tR', tT, hsz, hbl⟩ := hrel
      have zz := hbl.size
      by_cases hlt : k < ins.length
      · have k0 : (0 : Int) ≤ (k : Int) := by omega
        have k1 : (k : Int) < (ins.length : Int) := by omega
        have q0 := tT.c1
        have hbx : Below wr.heap.size wr (wr.alloc (.cells #[.slice none 0 0] 41)) := (Below.refl _ _).alloc (Nat.le_refl _) _
        have hlL : L.length ≤ 1048576 := by have := congrArg List.length HL.out; rw [List.length_map, List.length_replicate] at this; omega
        have hin : (WinY.mk [] (.slice none 0 0) wr.heap.size wr.heap.size).In (wr.alloc (.cells #[.slice none 0 0] 41)) (w3.heap.size + 1) := ⟨⟨none, 0, rfl, Nat.le_refl _, .inl rfl⟩, hsz, Nat.le_refl _, hbx.size⟩
        have hfar : ∀ q, q < w3.heap.size + 1 → some q ≠ vw.ownBlock := fun q hq e => by have := own_from hgy.own q e.symm; omega
        go_wp2_with (first | (at_builtin; refine wpList_plain rfl (fun K hK => ?_); refine wp_append_win _ _ rfl (w3.heap.size + 1) vw L rfl (hgy.keep hbx) (by have := hbx.size; omega) wr.heap.size (WinY.mk [] (.slice none 0 0) wr.heap.size wr.heap.size) (fun q hq => (hgy.at_ q hq).2.2.2) hin (fun q hq => .inl (World.ownsRow.lt hgy.own q hq).2) rfl (by simp [go_sem]) hlL ?_; intro vw' w5 hgy5 hgr5 hloc5; obtain ⟨vwa, vwc, rfl, _, _⟩ := hgy5.row; have tT5 := (tT.keep hbx).grown hgr5 (hfar _ (by omega)); have q5 := tT5.c1; have q6 := tT5.f1; refine hK _ _ ?_))
        have tR5 := (tR'.keep hbx).grown hgr5 (hfar _ (by omega))
        have hgs5 : GathS w5 w1.heap.size (.slice (some ⟨g3, 0, none⟩) ins.length c3) ins := World.ownsRow.kept (hgs.keep hbx) hgr5 (own_types (show World.ownsRow _ _ _ _ _ _ _ from hgs) hgy.own str_unlike)
        have B5 : Below w.heap.size w w5 := (hbl.trans (hbx.mono hbl.size)).grown hgr5 (by have := hbx.size; omega) (fun q hq => by have := own_from hgy.own q hq; omega)
        have z5 := hgr5.size
        have z6 := hbx.size
        have HL5 : Hid ((L ++ [WinY.mk [] (.slice none 0 0) wr.heap.size wr.heap.size]).map (·.l) = List.replicate (k + 1) []) := by
          unfold Hid
          rw [List.map_append, HL.out]
          exact replicate_snoc k
        simp only [List.length_append, List.length_cons, List.length_nil, Nat.zero_add] at hgy5
        exact ⟨⟨k + 1, _, _, by omega, by go_num, hgy5.set (by omega) 1 _, HL5, own_ne hgs5 (by simp [Value.ownBlock]; omega) 1 _, tR5.far (by omega) 1 _, tT5.set1 _, by simp only [World.size_setCell]; omega, B5.setCell (by simp only; omega) _⟩, by simp [intOf]; omega⟩
      · obtain rfl : k = ins.length := by omega
        obtain ⟨d0, d1, d2, _, _, _⟩ := id tT
        obtain ⟨r0, r1, r2, f0, f1, f2⟩ := id tR'
        obtain ⟨swa, swc, rfl, _, _⟩ := hgy.row
        go_wp2_with fail
        have e0 : (((wr.setCell ⟨w.heap.size, 0, none⟩ (.slice (some ⟨g3, 0, none⟩) ins.length c3)).setCell ⟨w.heap.size, 1, none⟩ (.slice swa L.length swc)).setCell ⟨w.heap.size, 2, none⟩ (.slice none 0 0)).cell? ⟨w.heap.size, 0, none⟩ = some (.slice (some ⟨g3, 0, none⟩) ins.length c3) := by simp [go_sem, r0]
        have e1 : (((wr.setCell ⟨w.heap.size, 0, none⟩ (.slice (some ⟨g3, 0, none⟩) ins.length c3)).setCell ⟨w.heap.size, 1, none⟩ (.slice swa L.length swc)).setCell ⟨w.heap.size, 2, none⟩ (.slice none 0 0)).cell? ⟨w.heap.size, 1, none⟩ = some (.slice swa L.length swc) := by simp [go_sem, r1]
        have e2 : (((wr.setCell ⟨w.heap.size, 0, none⟩ (.slice (some ⟨g3, 0, none⟩) ins.length c3)).setCell ⟨w.heap.size, 1, none⟩ (.slice swa L.length swc)).setCell ⟨w.heap.size, 2, none⟩ (.slice none 0 0)).cell? ⟨w.heap.size, 2, none⟩ = some (.slice none 0 0) := by simp [go_sem, r2]
        have g1 : GathS (((wr.setCell ⟨w.heap.size, 0, none⟩ (.slice (some ⟨g3, 0, none⟩) ins.length c3)).setCell ⟨w.heap.size, 1, none⟩ (.slice swa L.length swc)).setCell ⟨w.heap.size, 2, none⟩ (.slice none 0 0)) w1.heap.size (.slice (some ⟨g3, 0, none⟩) ins.length c3) ins := own_farY (own_farY (own_farY (show World.ownsRow _ _ _ _ _ _ _ from hgs) zR 0 _) zR 1 _) zR 2 _
        have g2 := (((hgy.lower (show w1.heap.size ≤ w3.heap.size + 1 by omega)).set zR 0 (.slice (some ⟨g3, 0, none⟩) ins.length c3)).set zR 1 (.slice swa L.length swc)).set zR 2 (.slice none 0 0)
        exact bodyPost_ret (v := .tuple #[.agg #[.slice (some ⟨g3, 0, none⟩) ins.length c3, .slice swa L.length swc, .slice none 0 0], .bool true]) (by simp [results, Tryz.results37, go_sem, e0, e1, e2]) rfl ⟨.inl ⟨w1.heap.size, _, _, L, _, by omega, rfl, HP.out, g1, g2, HL.out, ⟨_, _, rfl⟩⟩, ((hbl.setCell (Nat.le_refl _) _).setCell (Nat.le_refl _) _).setCell (Nat.le_refl _) _⟩

end Go.Proofs.YtpfhegengmlkmaaGreat
