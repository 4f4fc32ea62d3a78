/- Texts of this claim, one behind the other. -/
import Derived.Test.YtpfhegengmlkmaaGreatZK9
import Derived.Test.YtpfhegengmlkmaaGreatZK33
namespace Go.Proofs.YtpfhegengmlkmaaGreat
open Go.RowKit Go.BigFrame
set_option maxRecDepth 100000

/-- The slice value 'v' holds the numbers 'l', in a block of the call's own from number 'B' on. -/
def GathZ (w : World) (B : Nat) (v : Value) (l : List Int) : Prop := w.ownsRow B 3 1 v l.length (l.map fun x => .int .i64 x)
theorem GathZ.cells {w : World} {B g n cap : Nat} {l : List Int} (h : GathZ w B (.slice (some ⟨g, 0, none⟩) n cap) l) (hn : n = l.length) {j : Nat} (hj : j < l.length) : w.cell? ⟨g, j, none⟩ = some (.int .i64 l[j]) := by
  subst hn
  rw [World.ownsRow.cellAt h j (by omega)]
  simp [hj]
theorem GathZ.some {w : World} {B : Nat} {v : Value} {l : List Int} (h : GathZ w B v l) (h0 : 0 < l.length) : ∃ g cap, v = .slice (Option.some ⟨g, 0, none⟩) l.length cap ∧ B ≤ g := by
  obtain ⟨g, cap, e, hB, _⟩ := World.ownsRow.form h h0
  exact ⟨g, cap, e, hB⟩

set_option maxHeartbeats 1600000 in
theorem l6Which_any (R n c p : Nat) (ab : Option Addr) (w : World) (hr : Rd w R ab n c p) (hp : p ≤ 80000) :
    Calls Tryz.prog 36 #[.pointer (some ⟨R, 0, none⟩)] w fun e w' => (∃ v l p', e = .returned v ∧ GathZ w' w.heap.size v l ∧ 1 ≤ l.length ∧ l.length ≤ 4 ∧ Rd w' R ab n c p' ∧ p' ≤ p + 10) ∧ But R w w' := by
  obtain ⟨i0, hi, hz0, hz1, hz2⟩ := info_parts Tryz.infoZZ
  have hR := hr.lt
  go_enter Tryz.func36, Tryz.ntmps36
  go_wp2_with fail
  refine (pick_any R n c p ab 4 w hr (by omega) (by omega) (by omega)).mono ?_
  rintro e w1 ⟨⟨y, rfl, hy0, hy1⟩, hr1, hb1⟩
  obtain ⟨N, rfl⟩ := Int.eq_ofNat_of_zero_le hy0
  go_wp2_with fail
  go_loopw [3, 5] (fun out i wr => ∃ (k p' : Nat) (l : List Int), k ≤ N + 1 ∧ i = .int .i64 k ∧ GathZ wr w.heap.size out l ∧ l.length = k ∧ Rd wr R ab n c p' ∧ p' ≤ p + 1 + k ∧ But R w wr) (fun _ i _ => N + 1 - (intOf i).toNat)
  case atStart => exact ⟨0, p + 1, [], by omega, rfl, World.ownsRow_nil _ _ _ _, rfl, hr1, by omega, hb1⟩
  case round =>
    obtain ⟨k, p', l, hk, rfl, hg, hll, hrr, hp', hb⟩ := hrel
    clear hr hr1 hb1
    by_cases hlt : k < N + 1
    · have hlt' : decide ((k : Int) < 1 + (N : Int)) = true := decide_eq_true (by omega)
      go_wp2_with fail
      refine (pick_any R n c p' ab 15 wr hrr (by omega) (by omega) (by omega)).mono ?_
      rintro e w2 ⟨⟨x, rfl, hx0, hx1⟩, hr2, hb2⟩
      have hB2 : But R w w2 := hb.trans hb2
      have hg2 : w2.ownsRow w.heap.size 3 1 u3 l.length (l.map fun x => .int .i64 x) := owns_but hg hb2 hR
      have hbx : Below w2.heap.size w2 (w2.alloc (.cells #[.int .i64 (1 + x)] 3)) := (Below.refl _ _).alloc (Nat.le_refl _) _
      have hz2' := hB2.size
      clear hg hb hb2 hrr
      go_wp2_with (at_builtin; refine wpList_append_lies _ rfl _ _ 25 rfl w.heap.size 3 i0 (.int .i64 0) 1 8 Tryz.underlying25 hi hz0 hz1 hz2 rfl (by decide) _ _ _ rfl (owns_keep hg2 hbx) ⟨w2.heap.size, 0, none⟩ 1 1 [.int .i64 (1 + x)] rfl rfl (one_new w2 _ _) (by simp [Value.oneCell']) (by decide) (by unfold maxLen; omega) (by omega) (by simp; omega) _ rfl ?_; intro g3 c3 w3 hown hgrow _ _)
      have hB3 : But R w w3 := (hB2.trans (But.of_below hbx)).grown hgrow (owns_from (owns_keep hg2 hbx))
      have hr3 := (hr2.below hbx).grown hgrow (fun q e => by have := owns_from (owns_keep hg2 hbx) q e; omega)
      have hg3 : GathZ w3 w.heap.size (.slice (some ⟨g3, 0, none⟩) (l.length + 1) c3) (l ++ [1 + x]) := by
        unfold GathZ
        rw [List.length_append, List.map_append]
        exact hown
      rw [hll] at hg3
      exact ⟨⟨k + 1, p' + 1, l ++ [1 + x], by omega, by go_num, hg3, by simp [hll], hr3, by omega, hB3⟩, by simp [intOf]; omega⟩
    · have hlt' : decide ((k : Int) < 1 + (N : Int)) = false := decide_eq_false (by omega)
      go_wp2_with fail
      go_ret
      exact ⟨⟨_, l, p', rfl, hg, by omega, by omega, hrr, by omega⟩, hb⟩

set_option maxHeartbeats 1600000 in
theorem l6Ins_any (N : Nat) (w : World) (hN : N ≤ 10) :
    Calls Tryz.prog 38 #[.int .i64 N] w fun e w' => (∃ v l, e = .returned v ∧ GathS w' w.heap.size v l ∧ l.length = N ∧ ∀ s ∈ l, s.size ≤ 8) ∧ Below w.heap.size w w' := by
  obtain ⟨i0, hi, hz0, hz1, hz2⟩ := info_parts Tryz.infoS
  go_enter Tryz.func38, Tryz.ntmps38
  go_wp2_with fail
  go_loopw [3, 4] (fun out i wr => ∃ (k : Nat) (l : List ByteArray), k ≤ N ∧ i = .int .i64 k ∧ GathS wr w.heap.size out l ∧ l.length = k ∧ (∀ s ∈ l, s.size ≤ 8) ∧ Below w.heap.size w wr) (fun _ i _ => N - (intOf i).toNat)
  case atStart => exact ⟨0, [], Nat.zero_le _, rfl, gathS_none _ _, rfl, by simp, Below.refl _ _⟩
  case round =>
    obtain ⟨k, l, hk, rfl, hg, hll, hs8, hb⟩ := hrel
    by_cases hlt : k < N
    · have hcv := conv_byte (97 + (k : Int)) (by omega) (by omega) wr
      have hzr := hb.size
      generalize hsb : (⟨#[UInt8.ofNat (97 + (k : Int)).toNat]⟩ : ByteArray) = sb at *
      have hsz : sb.size ≤ 8 := by rw [← hsb]; show 1 ≤ 8; omega
      have hbx : Below wr.heap.size wr ((wr.alloc (.cells #[.int .u8 (97 + (k : Int))] 5)).alloc (.cells #[.string sb] 9)) := ((Below.refl _ _).alloc (Nat.le_refl _) _).alloc (by simp) _
      have hg2 : ((wr.alloc (.cells #[.int .u8 (97 + (k : Int))] 5)).alloc (.cells #[.string sb] 9)).ownsRow w.heap.size 9 1 u3 l.length (l.map .string) := owns_keep hg hbx
      have hnw : ∀ j u, ([.string sb] : List Value)[j]? = some u → ((wr.alloc (.cells #[.int .u8 (97 + (k : Int))] 5)).alloc (.cells #[.string sb] 9)).cell? ((⟨wr.heap.size + 1, 0, none⟩ : Addr).add j) = some u := by
        have q := one_new (wr.alloc (.cells #[.int .u8 (97 + (k : Int))] 5)) (.string sb) 9
        simpa only [World.size_alloc] using q
      clear hsb
      go_wp2_with (at_builtin; refine wpList_append_lies _ rfl _ _ 43 rfl w.heap.size 9 i0 (.string .empty) 1 16 Tryz.underlying43 hi hz0 hz1 hz2 rfl (by decide) _ _ _ rfl hg2 ⟨wr.heap.size + 1, 0, none⟩ 1 1 [.string sb] rfl rfl hnw (by simp [Value.oneCell']) (by decide) (by unfold maxLen; omega) (by omega) (by simp; omega) _ rfl ?_; intro g3 c3 w3 hown hgrow _ _)
      have hB3 : Below w.heap.size w w3 := (hb.trans (hbx.mono hzr)).grown hgrow (by simp; omega) (owns_from hg2)
      have hg3 := GathS.snoc hown
      rw [hll] at hg3
      exact ⟨⟨k + 1, l ++ [sb], by omega, by go_num, hg3, by simp [hll], fun s hs => (List.mem_append.1 hs).elim (hs8 s) fun e => by simp at e; subst e; exact hsz, hB3⟩, by simp [intOf]; omega⟩
    · go_wp2_with fail
      go_ret
      exact ⟨⟨_, l, rfl, hg, by omega, hs8⟩, hb⟩

end Go.Proofs.YtpfhegengmlkmaaGreat
