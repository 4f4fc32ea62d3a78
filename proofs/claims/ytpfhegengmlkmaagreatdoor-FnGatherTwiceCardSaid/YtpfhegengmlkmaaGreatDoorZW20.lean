/- Texts of this claim, one behind the other. -/
import Derived.Test.YtpfhegengmlkmaaGreatDoorZW1
import Derived.Test.YtpfhegengmlkmaaGreatDoorZW4
import Derived.Test.YtpfhegengmlkmaaGreatDoorZW5
import Derived.Test.YtpfhegengmlkmaaGreatDoorZW6
import Derived.Test.YtpfhegengmlkmaaGreatDoorZW8
import Derived.Test.YtpfhegengmlkmaaGreatDoorZW11
import Derived.Test.YtpfhegengmlkmaaGreatDoorZW17
import Derived.Test.YtpfhegengmlkmaaGreatDoorZW18
import Derived.Test.YtpfhegengmlkmaaGreatDoorZW19
namespace Go.Proofs.YtpfhegengmlkmaaGreatDoor
open Go.RowKit Go.BigFrame
set_option maxRecDepth 100000

/-- Items with stamps alone. -/
def StampsP (l : List ItemL) : Prop := l.length ≤ 5 ∧ ∀ j, (hj : j < l.length) → StampP l[j].2
theorem StampsP.fit {l : List ItemL} (h : StampsP l) : FitI l := ⟨by have := h.1; unfold maxLen; omega, fun j hj => stamp_fit (h.2 j hj)⟩
theorem StampsP.small {l : List ItemL} (h : StampsP l) : Small1 l := ⟨by have := h.1; omega, fun j hj => by have := (h.2 j hj).1; omega⟩
theorem isP_stamps {l : List ItemL} {x : Int} {m : List (ByteArray × Int)} {r : List ItemL} {c : Int} (h : IsP l x m r c) : StampsP r := by
  by_cases hp : WinP l ∧ StampP m ∧ m ≠ []
  · have hs : ∀ k, (h : k < l.length) → StampP l[k].2 := fun k hk => (hp.1.2.1 k hk).1
    have h4 := hp.1.1
    by_cases ht : TakeP l m
    · rw [(h.2.2 hp ht).1]
      unfold putL
      split
      · exact ⟨by simp; omega, stamps_put hs hp.2.1⟩
      · exact ⟨by simp; omega, stamps_put (stamps_tail hs) hp.2.1⟩
    · rw [(h.2.1 hp ht).1]
      exact ⟨by omega, hs⟩
  · rw [(h.1 hp).1]
    exact ⟨by simp, fun j hj => absurd hj (Nat.not_lt_zero j)⟩

end Go.Proofs.YtpfhegengmlkmaaGreatDoor

namespace Go.Proofs.YtpfhegengmlkmaaGreatDoor
open Go.RowKit Go.BigFrame
set_option maxRecDepth 100000

set_option maxHeartbeats 1600000 in
theorem freshItems_any (a : Option Addr) (c : Nat) (l : List ItemL) (w : World) (hr : RowI w a l) (hn : l.length ≤ 1048576) (hl : ∀ k, (h : k < l.length) → StampP l[k].2) :
    Calls Tryz.prog 58 #[.slice a l.length c] w fun e w' => (∃ v, e = .returned v ∧ GathI w' w.heap.size v l) ∧ Below w.heap.size w w' := by
  obtain ⟨i0, hi, hz0, hz1, hz2⟩ := info_parts Tryz.infoI
  have hmk : ∀ u : World, (Instr.makeSlice 66 (.int .i64 0) (.int .i64 (l.length : Int))).run Tryz.prog u =
      .ok (.slice (some ⟨u.heap.size, 0, none⟩) 0 l.length) (u.alloc (.cells (madeCells #[.int .i64 0, .slice none 0 0] (l.length * 2)) 40)) := fun u => by
    have h := run_make (P := Tryz.prog) u 66 40 i0 (.agg #[.int .i64 0, .slice none 0 0]) Tryz.underlying66 hi hz0 .i64 .i64 0 (l.length : Int) (by omega) (by omega) (by rw [hz2]; omega) (by omega)
    simpa [hz1, Value.cells] using h
  have hb0 : Below w.heap.size w (w.alloc (.cells (madeCells #[.int .i64 0, .slice none 0 0] (l.length * 2)) 40)) := (Below.refl _ _).alloc (Nat.le_refl _) _
  have hg0 : GathI (w.alloc (.cells (madeCells #[.int .i64 0, .slice none 0 0] (l.length * 2)) 40)) w.heap.size (.slice (some ⟨w.heap.size, 0, none⟩) 0 l.length) [] :=
    ⟨[], rfl, ⟨rfl, .inr ⟨w.heap.size, l.length, madeCells #[.int .i64 0, .slice none 0 0] (l.length * 2), rfl, Nat.le_refl _, heap_alloc_new w _, Nat.zero_le _, by unfold maxLen; omega, size_madeCells _ _, rfl⟩⟩, by simp, List.Pairwise.nil⟩
  have HSL : Hid (∀ k, (h : k < l.length) → StampP l[k].2) := hl
  clear hl
  go_enter Tryz.func58, Tryz.ntmps58
  go_wp2_with fail
  generalize (w.alloc (.cells (madeCells #[.int .i64 0, .slice none 0 0] (l.length * 2)) 40)) = W1 at *
  clear hmk
  go_loopw [3, 11] (fun out i wr => ∃ k : Nat, k ≤ l.length ∧ i = .int .i64 k ∧ GathI wr w.heap.size out (l.take k) ∧ Below w.heap.size w wr) (fun _ i _ => l.length - (intOf i).toNat)
  case atStart => exact ⟨0, Nat.zero_le _, rfl, hg0, hb0⟩
  case round =>
    obtain ⟨k, hk, rfl, hg, hb⟩ := hrel
    clear hg0 hb0
    by_cases hlt : k < l.length
    · obtain ⟨b, o, rfl, hblt, c0, v, c1, ⟨sa, sc, rfl, hcap, hrow⟩⟩ := hr.below hb k hlt
      have k0 : (0 : Int) ≤ (k : Int) := by omega
      have k1 : (k : Int) < (l.length : Int) := by omega
      have HT : Hid (l.take (k + 1) = l.take k ++ [(l[k].1, l[k].2)]) := List.take_succ_eq_append_getElem hlt
      have htl : (l.take k).length ≤ 1048576 := by rw [List.length_take]; omega
      have hzr := hb.size
      have hst := HSL.out k hlt
      have hlk : l[k].2.length ≤ 1048576 := by have := hst.1; omega
      have HL : Hid (∀ j, (h : j < l[k].2.length) → l[k].2[j].1.size ≤ 281474976710656) := fun j hj => by have := (hst.2.1 j hj).1.2.1; omega
      clear hst
      go_wp2_with fail
      have b3 : Below wr.heap.size wr (wr.alloc (.cells #[.int .i64 l[k].1, .slice sa l[k].2.length sc] 40)) := (Below.refl _ _).alloc (Nat.le_refl _) _
      refine (freshItem_any l[k].1 sa sc l[k].2 _ (hrow.below b3) hlk HL.out).mono ?_
      rintro e w4 ⟨⟨gm, cm, rfl, hgm, hcm, ho⟩, b4⟩
      have b4' : Below wr.heap.size wr w4 := b3.trans (b4.mono b3.size)
      have z3 := b3.size
      have z4 := b4'.size
      have b5 : Below wr.heap.size wr (w4.alloc (.cells #[.int .i64 l[k].1, .slice (some ⟨gm, 0, none⟩) l[k].2.length cm] 40)) := b4'.alloc b4'.size _
      have hbx : Below w4.heap.size w4 (w4.alloc (.cells #[.int .i64 l[k].1, .slice (some ⟨gm, 0, none⟩) l[k].2.length cm] 40)) := (Below.refl _ _).alloc (Nat.le_refl _) _
      have ho5 := ho.below hbx
      have B5 : Below w.heap.size w (w4.alloc (.cells #[.int .i64 l[k].1, .slice (some ⟨gm, 0, none⟩) l[k].2.length cm] 40)) := hb.trans (b5.mono hzr)
      clear b3 b4 b4' hrow hbx ho
      go_wp2_with (at_builtin; refine wpList_append_item rfl _ _ rfl wr w.heap.size _ (l.take k) rfl hg b5 hzr w4.heap.size l[k].1 l[k].2 gm cm rfl (box0 _ _ _ _) (box1 _ _ _ _) ho5 (by omega) hcm htl ?_; intro v' w6 hg6 b6)
      exact ⟨⟨k + 1, by omega, by go_num, by rw [HT.out]; exact hg6, B5.trans b6⟩, by simp [intOf]; omega⟩
    · rw [List.take_of_length_le (by omega)] at hg
      go_wp2_with fail
      go_ret
      exact ⟨⟨_, rfl, hg⟩, hb⟩

end Go.Proofs.YtpfhegengmlkmaaGreatDoor

namespace Go.Proofs.YtpfhegengmlkmaaGreatDoor
open Go.RowKit Go.BigFrame

def FitS (l : List ByteArray) : Prop := l.length ≤ maxLen ∧ ∀ j, (h : j < l.length) → l[j].size ≤ maxLen
def SmallS (n : Int) (l : List ByteArray) : Prop := (l.length : Int) ≤ n ∧ ∀ j, (h : j < l.length) → (l[j].size : Int) ≤ n
theorem SmallS.mono {n m : Int} {l : List ByteArray} (h : SmallS n l) (hm : n ≤ m) : SmallS m l := ⟨by have := h.1; omega, fun j hj => by have := h.2 j hj; omega⟩
theorem SmallW.mono {n m : Int} {l : List (List ItemL)} (h : SmallW n l) (hm : n ≤ m) : SmallW m l := ⟨by have := h.1; omega, fun j hj => (h.2 j hj).mono hm⟩
/-- A gather: its inputs' names, its windows, and what it showed. -/
structure GatL where
  ins : List ByteArray
  wins : List (List ItemL)
  shown : List (ByteArray × Int)
structure FitG (g : GatL) : Prop where
  ins : FitS g.ins
  wins : FitW g.wins
  shown : FitM g.shown
/-- The value 'v' is the gather 'g'. -/
def IsGa (w : World) (v : Value) (g : GatL) : Prop := ∃ a0 c0 a1 c1 a2 c2, v = .agg #[.slice a0 g.ins.length c0, .slice a1 g.wins.length c1, .slice a2 g.shown.length c2] ∧ g.ins.length ≤ c0 ∧ g.wins.length ≤ c1 ∧ g.shown.length ≤ c2 ∧ RowS w a0 g.ins ∧ RowW w a1 g.wins ∧ Row w a2 g.shown
theorem IsGa.below {w w' : World} {v : Value} {g : GatL} (h : IsGa w v g) (hb : Below w.heap.size w w') : IsGa w' v g := by
  obtain ⟨a0, c0, a1, c1, a2, c2, h1, h2, h3, h4, h5, h6, h7⟩ := h
  exact ⟨a0, c0, a1, c1, a2, c2, h1, h2, h3, h4, h5.below hb, h6.below hb, h7.below hb⟩

end Go.Proofs.YtpfhegengmlkmaaGreatDoor

namespace Go.Proofs.YtpfhegengmlkmaaGreatDoor
open Go.RowKit Go.BigFrame

theorem PartS.setOther {w : World} {b k : Nat} {l : List ByteArray} (h : PartS w b l k) {q : Nat} (hq : b ≠ q) (i : Nat) (v : Value) : PartS (w.setCell ⟨q, i, none⟩ v) b l k := by
  obtain ⟨f, h, hf⟩ := h
  exact ⟨f, h.of_block (Below.heap_setCell _ _ _ _ (by simp only; omega)), hf⟩
theorem PartW.setBelow {w : World} {lo T g k q : Nat} {ws : List (List ItemL)} (h : PartW w lo T g ws k) (hq : q < lo) (hg : g ≠ q) (i : Nat) (v : Value) : PartW (w.setCell ⟨q, i, none⟩ v) lo T g ws k := by
  obtain ⟨L, U, G, f, h, hf, hd⟩ := h
  refine ⟨L, U, G, f, h.of_block (Below.heap_setCell _ _ _ _ (by simp only; omega)), fun j hj hk => ?_, hd⟩
  obtain ⟨h1, h2, h3, h4, h5, h6⟩ := hf j hj hk
  exact ⟨h1, h2.setBelow (by omega) (by omega) _ _, h3, h4, h5, h6⟩

end Go.Proofs.YtpfhegengmlkmaaGreatDoor

namespace Go.Proofs.YtpfhegengmlkmaaGreatDoor
open Go.RowKit Go.BigFrame

/-- From 1 to 6 names, no two alike. -/
def InsP (l : List ByteArray) : Prop := 1 ≤ l.length ∧ l.length ≤ 6 ∧ ∀ i, (h : i < l.length) → NameP l[i] ∧ ∀ k, (hk : k < i) → l[k] ≠ l[i]
/-- The first k of them are so. -/
def InsTo (l : List ByteArray) (n : Nat) : Prop := ∀ i, (h : i < l.length) → i < n → NameP l[i] ∧ ∀ k, (hk : k < i) → l[k] ≠ l[i]
theorem insTo_step {l : List ByteArray} {n : Nat} (h : InsTo l n) (hn : n < l.length) (h1 : NameP l[n]) (h2 : ∀ k, (hk : k < n) → l[k] ≠ l[n]) : InsTo l (n + 1) := fun i hi hlt => by
  by_cases e : i = n
  · subst e; exact ⟨h1, h2⟩
  · exact h i hi (by omega)
theorem RowS.take {w : World} {b o : Nat} {l : List ByteArray} (h : RowS w (some ⟨b, o, none⟩) l) (k : Nat) : RowS w (some ⟨b, o, none⟩) (l.take k) := fun j hj => by
  rw [List.length_take] at hj
  obtain ⟨b', o', e, h1, h2⟩ := h j (by omega)
  exact ⟨b', o', e, h1, by rw [List.getElem_take]; exact h2⟩

set_option maxHeartbeats 800000 in
theorem insOk_any (a : Option Addr) (cap : Nat) (l : List ByteArray) (w : World) (hl : l.length ≤ 1048576) (hc : l.length ≤ cap) (hc2 : cap ≤ maxLen) (hr : RowS w a l) (hs : ∀ j, (h : j < l.length) → l[j].size ≤ maxLen) :
    Calls Tryz.prog 26 #[.slice a l.length cap] w fun e w' => IsB (InsP l) e ∧ w' = w := by
  unfold maxLen at hc2
  by_cases h1 : l.length < 1
  · go_enter Tryz.func26, Tryz.ntmps26
    go_wp2_with fail
    go_ret
    exact ⟨isB_false (fun h => by have := h.1; omega), rfl⟩
  by_cases h6 : 6 < l.length
  · go_enter Tryz.func26, Tryz.ntmps26
    go_wp2_with fail
    go_ret
    exact ⟨isB_false (fun h => by have := h.2.1; omega), rfl⟩
  go_enter Tryz.func26, Tryz.ntmps26
  go_wp2_with fail
  go_loopw [15] (fun i wr => ∃ k : Nat, k ≤ l.length ∧ i = .int .i64 k ∧ Hid (InsTo l k) ∧ wr = w) (fun i _ => l.length - (intOf i).toNat)
  case atStart => exact ⟨0, Nat.zero_le _, rfl, fun _ _ h => absurd h (Nat.not_lt_zero _), rfl⟩
  case round =>
    obtain ⟨k, hk, rfl, HI, rfl⟩ := hrel
    by_cases hlt : k < l.length
    · obtain ⟨b, o, rfl, hblt, c0⟩ := hr k hlt
      have k0 : (0 : Int) ≤ (k : Int) := by omega
      have k1 : (k : Int) < (l.length : Int) := by omega
      have HS := hs k hlt
      have HT : Hid (∀ u : World, u = wr → Calls Tryz.prog 55 #[.slice (some ⟨b, o, none⟩) k cap, .string l[k]] u fun e w' => e = .returned (.bool (amongB (l.take k) l[k])) ∧ w' = u) := fun u hu => by
        have h := contains_any (some ⟨b, o, none⟩) cap (l.take k) l[k] u (by rw [List.length_take]; omega) (hu ▸ hr.take k)
        rwa [List.length_take, Nat.min_eq_left (by omega)] at h
      go_wp2_with fail
      refine (nameOk_any l[k] _ HS).mono ?_
      rintro e w1 ⟨⟨r, rfl, hr1⟩, rfl⟩
      have HR : Hid (r = true ↔ NameP l[k]) := hr1
      clear hr1
      cases r with
      | false =>
        have HN : Hid (¬ InsP l) := fun h => by have h3 := (h.2.2 k hlt).1; have := HR.out.2 h3; simp at this
        go_wp2_with fail
        go_ret
        exact ⟨isB_false HN.out, rfl⟩
      | true =>
        have HP : Hid (NameP l[k]) := HR.out.1 rfl
        go_wp2_with fail
        refine (HT.out _ rfl).mono ?_
        rintro e w1 ⟨rfl, rfl⟩
        cases hq : amongB (l.take k) l[k] with
        | false =>
          have HST : Hid (InsTo l (k + 1)) := insTo_step HI.out hlt HP.out (fun j hj he => by
            have := (among_iff (names := l.take k) (s := l[k])).2 ⟨j, by rw [List.length_take]; omega, by rw [List.getElem_take]; exact he⟩
            rw [hq] at this
            cases this)
          go_wp2_with fail
          exact ⟨⟨k + 1, by omega, by go_num, HST, by trivial⟩, by simp [intOf]; omega⟩
        | true =>
          have HN : Hid (¬ InsP l) := fun h => by
            obtain ⟨j, hj, he⟩ := among_iff.1 hq
            rw [List.length_take] at hj
            rw [List.getElem_take] at he
            exact (h.2.2 k hlt).2 j (by omega) he
          go_wp2_with fail
          go_ret
          exact ⟨isB_false HN.out, rfl⟩
    · have HF : Hid (InsP l) := ⟨by omega, by omega, fun i hi => HI.out i hi (by omega)⟩
      go_wp2_with fail
      go_ret
      exact ⟨isB_true HF.out, rfl⟩

end Go.Proofs.YtpfhegengmlkmaaGreatDoor

namespace Go.Proofs.YtpfhegengmlkmaaGreatDoor
open Go.RowKit Go.BigFrame

set_option maxHeartbeats 800000 in
theorem l4Ins_any (a : Option Addr) (cap : Nat) (l : List ByteArray) (w : World) (hl : l.length ≤ 1048576) (hr : RowS w a l) (hs : ∀ j, (h : j < l.length) → l[j].size ≤ maxLen) :
    Calls Tryz.prog 28 #[.slice a l.length cap] w fun e w' => IsB (InsP l) e ∧ Below w.heap.size w w' := by
  by_cases h1 : l.length < 1
  · go_enter Tryz.func28, Tryz.ntmps28
    go_wp2_with fail
    go_ret
    exact ⟨isB_false (fun h => by have := h.1; omega), Below.refl _ _⟩
  by_cases h6 : 6 < l.length
  · go_enter Tryz.func28, Tryz.ntmps28
    go_wp2_with fail
    go_ret
    exact ⟨isB_false (fun h => by have := h.2.1; omega), Below.refl _ _⟩
  go_enter Tryz.func28, Tryz.ntmps28
  go_wp2_with fail
  go_loopw [3] (fun i wr => ∃ k : Nat, k ≤ l.length ∧ i = .int .i64 k ∧ Hid (InsTo l k) ∧ Below w.heap.size w wr) (fun i _ => l.length - (intOf i).toNat)
  case atStart => exact ⟨0, Nat.zero_le _, rfl, fun _ _ h => absurd h (Nat.not_lt_zero _), Below.refl _ _⟩
  case round =>
    obtain ⟨k, hk, rfl, HI, hbl⟩ := hrel
    by_cases hlt : k < l.length
    · obtain ⟨b, o, rfl, hblt, c0⟩ := hr.below hbl k hlt
      have k0 : (0 : Int) ≤ (k : Int) := by omega
      have k1 : (k : Int) < (l.length : Int) := by omega
      have HS := hs k hlt
      go_wp2_with fail
      refine (l1Name_any l[k] _ HS).mono ?_
      rintro e w1 ⟨⟨r, rfl, hr1⟩, rfl⟩
      have HR : Hid (r = true ↔ NameP l[k]) := hr1
      clear hr1
      cases r with
      | false =>
        have HN : Hid (¬ InsP l) := fun h => by have h3 := (h.2.2 k hlt).1; have := HR.out.2 h3; simp at this
        go_wp2_with fail
        go_ret
        exact ⟨isB_false HN.out, hbl⟩
      | true =>
        have HP : Hid (NameP l[k]) := HR.out.1 rfl
        clear HR
        go_wp2_with fail
        go_loopw [4] (fun i2 wr2 => ∃ j : Nat, j ≤ k ∧ i2 = .int .i64 j ∧ Hid (∀ q, (hq : q < j) → (hl : q < l.length) → l[q] ≠ l[k]) ∧ Below w.heap.size w wr2) (fun i2 _ => k - (intOf i2).toNat)
        case atStart => exact ⟨0, Nat.zero_le _, rfl, fun _ h => absurd h (Nat.not_lt_zero _), hbl⟩
        case round =>
          obtain ⟨j, hj, rfl, HJ, hbl2⟩ := hrel
          by_cases hjlt : j < k
          · have hjl : j < l.length := by omega
            obtain ⟨b1, o1, e1, hb1, c1⟩ := hr.below hbl2 j hjl
            obtain ⟨b2, o2, e2, hb2, c2⟩ := hr.below hbl2 k hlt
            cases e1
            cases e2
            have j0 : (0 : Int) ≤ (j : Int) := by omega
            have j1 : (j : Int) < (l.length : Int) := by omega
            by_cases he : l[j] = l[k]
            · have hb' : (l[j].toList == l[k].toList) = true := toList_beq.2 he
              have HN : Hid (¬ InsP l) := fun h => (h.2.2 k hlt).2 j hjlt he
              go_wp2_with fail
              go_quiet (fail)
              go_wp2_with fail
              go_ret
              exact ⟨isB_false HN.out, below_drewN hbl2 _⟩
            · have hb' : (l[j].toList == l[k].toList) = false := toList_bne.2 he
              have HJ2 : Hid (∀ q, (hq : q < j + 1) → (hl : q < l.length) → l[q] ≠ l[k]) := fun q hq hl => by
                by_cases e : q = j
                · subst e; exact he
                · exact HJ.out q (by omega) hl
              go_wp2_with fail
              go_quiet (fail)
              go_wp2_with fail
              exact ⟨⟨j + 1, by omega, by go_num, HJ2, below_drewN hbl2 _⟩, by simp [intOf]; omega⟩
          · have HST : Hid (InsTo l (k + 1)) := insTo_step HI.out hlt HP.out (fun q hq => HJ.out q (by omega) (by omega))
            go_wp2_with fail
            exact ⟨⟨k + 1, by omega, by go_num, HST, hbl2⟩, by simp [intOf]; omega⟩
    · have HF : Hid (InsP l) := ⟨by omega, by omega, fun i hi => HI.out i hi (by omega)⟩
      go_wp2_with fail
      go_ret
      exact ⟨isB_true HF.out, hbl⟩

end Go.Proofs.YtpfhegengmlkmaaGreatDoor

namespace Go.Proofs.YtpfhegengmlkmaaGreatDoor
open Go.RowKit Go.BigFrame
set_option maxRecDepth 100000

set_option maxHeartbeats 800000 in
theorem implWinOk_any (a : Option Addr) (cap : Nat) (l : List ItemL) (w : World) (hf : FitI l) (hr : RowI w a l) :
    Calls Tryz.prog 97 #[.slice a l.length cap] w fun e w' => IsB (WinP l) e ∧ Below w.heap.size w w' := by
  go_enter Tryz.func97, Tryz.ntmps97
  go_wp2_with fail
  refine (readWindow_any a cap l _ hf hr).mono ?_
  rintro e w1 ⟨hE, b1⟩
  rcases hE with ⟨v, rfl, hp, hv⟩ | ⟨v, rfl, hp, hv⟩
  · have HP : Hid (WinP l) := hp
    clear hp
    obtain ⟨x0, x1, x2, x3, a0, a1, a2, a3, n0, n1, n2, n3, c0, c1, c2, c3, rfl, _⟩ := hv.laid
    go_wp2_with fail
    go_ret
    exact ⟨isB_true HP.out, b1.alloc b1.size _⟩
  · have HP : Hid (¬ WinP l) := hp
    clear hp
    obtain ⟨x0, x1, x2, x3, a0, a1, a2, a3, n0, n1, n2, n3, c0, c1, c2, c3, rfl, _⟩ := hv.laid
    go_wp2_with fail
    go_ret
    exact ⟨isB_false HP.out, b1.alloc b1.size _⟩

end Go.Proofs.YtpfhegengmlkmaaGreatDoor

namespace Go.Proofs.YtpfhegengmlkmaaGreatDoor
open Go.RowKit Go.BigFrame

/-- A gather that may be. -/
structure GatP (g : GatL) : Prop where
  ins : InsP g.ins
  len : g.wins.length = g.ins.length
  wins : OkW g.wins
  shown : StampP g.shown

set_option maxHeartbeats 800000 in
theorem specGOk_any (a0 a1 a2 : Option Addr) (c0 c1 c2 : Nat) (g : GatL) (w : World) (hf : FitG g) (hi : g.ins.length ≤ 1048576) (r0 : RowS w a0 g.ins) (r1 : RowW w a1 g.wins) (r2 : Row w a2 g.shown) :
    Calls Tryz.prog 35 #[.agg #[.slice a0 g.ins.length c0, .slice a1 g.wins.length c1, .slice a2 g.shown.length c2]] w fun e w' => IsB (GatP g) e ∧ Below w.heap.size w w' := by
  have hl := hf.wins.1
  unfold maxLen at hl
  have hb0 : Below w.heap.size w (w.alloc (.cells #[.slice a0 g.ins.length c0, .slice a1 g.wins.length c1, .slice a2 g.shown.length c2] 30)) := (Below.refl _ _).alloc (Nat.le_refl _) _
  have hlt := box_lt w (.cells #[.slice a0 g.ins.length c0, .slice a1 g.wins.length c1, .slice a2 g.shown.length c2] 30)
  have d0 : (w.alloc (.cells #[.slice a0 g.ins.length c0, .slice a1 g.wins.length c1, .slice a2 g.shown.length c2] 30)).cell? ⟨w.heap.size, 0, none⟩ = some (.slice a0 g.ins.length c0) := by simp [go_sem]
  have d1 : (w.alloc (.cells #[.slice a0 g.ins.length c0, .slice a1 g.wins.length c1, .slice a2 g.shown.length c2] 30)).cell? ⟨w.heap.size, 1, none⟩ = some (.slice a1 g.wins.length c1) := by simp [go_sem]
  have d2 : (w.alloc (.cells #[.slice a0 g.ins.length c0, .slice a1 g.wins.length c1, .slice a2 g.shown.length c2] 30)).cell? ⟨w.heap.size, 2, none⟩ = some (.slice a2 g.shown.length c2) := by simp [go_sem]
  go_enter Tryz.func35, Tryz.ntmps35
  go_wp2_with fail
  generalize w.alloc (.cells #[.slice a0 g.ins.length c0, .slice a1 g.wins.length c1, .slice a2 g.shown.length c2] 30) = W0 at *
  refine (l4Ins_any a0 c0 g.ins _ hi (r0.below hb0) hf.ins.2).mono ?_
  rintro e w1 ⟨⟨r, rfl, hr⟩, b1⟩
  have HR : Hid (r = true ↔ InsP g.ins) := hr
  clear hr
  have B1 : Below w.heap.size w w1 := hb0.trans (b1.mono hb0.size)
  replace d0 := cell_on b1 (by omega) d0
  replace d1 := cell_on b1 (by omega) d1
  replace d2 := cell_on b1 (by omega) d2
  have z1 := b1.size
  clear b1
  cases r with
  | false =>
    have HN : Hid (¬ GatP g) := fun h => by have := HR.out.2 h.ins; simp at this
    go_wp2_with fail
    go_ret
    exact ⟨isB_false HN.out, B1⟩
  | true =>
    have HP : Hid (InsP g.ins) := HR.out.1 rfl
    clear HR
    by_cases hlen : g.wins.length = g.ins.length
    · have HL : Hid (g.wins.length = g.ins.length) := hlen
      have hlen' : ((g.wins.length : Int) == (g.ins.length : Int)) = true := by rw [beq_iff_eq]; omega
      clear hlen
      go_wp2_with fail
      refine (l3Ok_any a1 c1 g.wins _ hf.wins (r1.below B1)).mono ?_
      rintro e w2 ⟨⟨r, rfl, hr⟩, b2⟩
      have HR : Hid (r = true ↔ OkW g.wins) := hr
      clear hr
      have B2 : Below w.heap.size w w2 := B1.trans (b2.mono B1.size)
      replace d2 := cell_on b2 (by omega) d2
      have z2 := b2.size
      clear b2
      cases r with
      | false =>
        have HN : Hid (¬ GatP g) := fun h => by have := HR.out.2 h.wins; simp at this
        go_wp2_with fail
        go_ret
        exact ⟨isB_false HN.out, B2⟩
      | true =>
        have HW : Hid (OkW g.wins) := HR.out.1 rfl
        clear HR
        go_wp2_with fail
        refine (specStampOk_any a2 c2 g.shown _ hf.shown.1 (r2.below B2) hf.shown.2).mono ?_
        rintro e w3 ⟨⟨r, rfl, hr⟩, n, rfl⟩
        have HR : Hid (r = true ↔ GatP g) := hr.trans ⟨fun h => ⟨HP.out, HL.out, HW.out, h⟩, fun h => h.shown⟩
        clear hr
        go_wp2_with fail
        go_ret
        exact ⟨⟨r, rfl, HR.out⟩, below_drewN B2 _⟩
    · have hlen' : ((g.wins.length : Int) == (g.ins.length : Int)) = false := by rw [beq_eq_false_iff_ne]; omega
      have HN : Hid (¬ GatP g) := fun h => hlen h.len
      go_wp2_with fail
      go_ret
      exact ⟨isB_false HN.out, B1⟩

set_option maxHeartbeats 800000 in
theorem implGOk_any (a0 a1 a2 : Option Addr) (c0 c1 c2 : Nat) (g : GatL) (w : World) (hf : FitG g) (hi : g.ins.length ≤ 1048576) (hc : g.ins.length ≤ c0) (hc2 : c0 ≤ maxLen) (r0 : RowS w a0 g.ins) (r1 : RowW w a1 g.wins) (r2 : Row w a2 g.shown) :
    Calls Tryz.prog 61 #[.agg #[.slice a0 g.ins.length c0, .slice a1 g.wins.length c1, .slice a2 g.shown.length c2]] w fun e w' => IsB (GatP g) e ∧ Below w.heap.size w w' := by
  have hl := hf.wins.1
  unfold maxLen at hl
  have hb0 : Below w.heap.size w (w.alloc (.cells #[.slice a0 g.ins.length c0, .slice a1 g.wins.length c1, .slice a2 g.shown.length c2] 30)) := (Below.refl _ _).alloc (Nat.le_refl _) _
  have hlt := box_lt w (.cells #[.slice a0 g.ins.length c0, .slice a1 g.wins.length c1, .slice a2 g.shown.length c2] 30)
  have d0 : (w.alloc (.cells #[.slice a0 g.ins.length c0, .slice a1 g.wins.length c1, .slice a2 g.shown.length c2] 30)).cell? ⟨w.heap.size, 0, none⟩ = some (.slice a0 g.ins.length c0) := by simp [go_sem]
  have d1 : (w.alloc (.cells #[.slice a0 g.ins.length c0, .slice a1 g.wins.length c1, .slice a2 g.shown.length c2] 30)).cell? ⟨w.heap.size, 1, none⟩ = some (.slice a1 g.wins.length c1) := by simp [go_sem]
  have d2 : (w.alloc (.cells #[.slice a0 g.ins.length c0, .slice a1 g.wins.length c1, .slice a2 g.shown.length c2] 30)).cell? ⟨w.heap.size, 2, none⟩ = some (.slice a2 g.shown.length c2) := by simp [go_sem]
  go_enter Tryz.func61, Tryz.ntmps61
  go_wp2_with fail
  generalize w.alloc (.cells #[.slice a0 g.ins.length c0, .slice a1 g.wins.length c1, .slice a2 g.shown.length c2] 30) = W0 at *
  refine (insOk_any a0 c0 g.ins _ hi hc hc2 (r0.below hb0) hf.ins.2).mono ?_
  rintro e w1 ⟨⟨r, rfl, hr⟩, rfl⟩
  have HR : Hid (r = true ↔ InsP g.ins) := hr
  clear hr
  cases r with
  | false =>
    have HN : Hid (¬ GatP g) := fun h => by have := HR.out.2 h.ins; simp at this
    go_wp2_with fail
    go_ret
    exact ⟨isB_false HN.out, hb0⟩
  | true =>
    have HP : Hid (InsP g.ins) := HR.out.1 rfl
    clear HR
    by_cases hlen : g.wins.length = g.ins.length
    · have HL : Hid (g.wins.length = g.ins.length) := hlen
      have hlen' : ((g.wins.length : Int) != (g.ins.length : Int)) = false := by rw [bne_eq_false_iff_eq]; omega
      clear hlen
      go_wp2_with fail
      go_loopw [21] (fun i wr => ∃ k : Nat, k ≤ g.wins.length ∧ i = .int .i64 k ∧ Hid (∀ j, (h : j < g.wins.length) → j < k → WinP g.wins[j]) ∧ Below w1.heap.size w1 wr) (fun i _ => g.wins.length - (intOf i).toNat)
      case atStart => exact ⟨0, Nat.zero_le _, rfl, fun _ _ h => absurd h (Nat.not_lt_zero _), Below.refl _ _⟩
      case round =>
        obtain ⟨k, hk, rfl, HI, hbl⟩ := hrel
        have B1 : Below w.heap.size w wr := hb0.trans (hbl.mono hb0.size)
        by_cases hk2 : k < g.wins.length
        · obtain ⟨b1, o1, rfl, g1, s1, t1, e1, _, q1⟩ := r1.below B1 k hk2
          have k0 : (0 : Int) ≤ (k : Int) := by omega
          have k1 : (k : Int) < (g.wins.length : Int) := by omega
          go_wp2_with fail
          refine (implWinOk_any s1 t1 g.wins[k] _ (hf.wins.2 k hk2) q1).mono ?_
          rintro e w2 ⟨⟨r, rfl, hr⟩, b2⟩
          have HR : Hid (r = true ↔ WinP g.wins[k]) := hr
          clear hr
          cases r with
          | false =>
            have HN : Hid (¬ GatP g) := fun h => by have := HR.out.2 (h.wins.2.2 k hk2); simp at this
            go_wp2_with fail
            go_ret
            exact ⟨isB_false HN.out, B1.trans (b2.mono B1.size)⟩
          | true =>
            have HST : Hid (∀ j, (h : j < g.wins.length) → j < k + 1 → WinP g.wins[j]) := win_step HI.out hk2 (HR.out.1 rfl)
            go_wp2_with fail
            exact ⟨⟨k + 1, by omega, by go_num, HST, hbl.trans (b2.mono hbl.size)⟩, by simp [intOf]; omega⟩
        · have HW : Hid (OkW g.wins) := ⟨by have := HP.out.1; have := HL.out; omega, by have := HP.out.2.1; have := HL.out; omega, fun j hj => HI.out j hj (by omega)⟩
          have e2 := cell_on hbl hlt d2
          go_wp2_with fail
          refine (implStampOk_any a2 c2 g.shown _ hf.shown.1 (r2.below B1) hf.shown.2).mono ?_
          rintro e w3 ⟨⟨r, rfl, hr⟩, b3⟩
          have HR : Hid (r = true ↔ GatP g) := hr.trans ⟨fun h => ⟨HP.out, HL.out, HW.out, h⟩, fun h => h.shown⟩
          clear hr
          go_wp2_with fail
          go_ret
          exact ⟨⟨r, rfl, HR.out⟩, B1.trans (b3.mono B1.size)⟩
    · have hlen' : ((g.wins.length : Int) != (g.ins.length : Int)) = true := by rw [bne_iff_ne]; omega
      have HN : Hid (¬ GatP g) := fun h => hlen h.len
      go_wp2_with fail
      go_ret
      exact ⟨isB_false HN.out, hb0⟩

end Go.Proofs.YtpfhegengmlkmaaGreatDoor
