/- Walk: bsNames. -/
import Derived.Test.YtpfhegengmlkmaaGathS
import Derived.Test.YtpfhegengmlkmaaLawM
import Derived.Test.YtpfhegengmlkmaaBs
namespace Go.Proofs.Ytpfhegengmlkmaa
open Go.RowKit Go.BigFrame
set_option maxRecDepth 100000

set_option maxHeartbeats 800000 in
theorem bsNames_any (aa : Option Addr) (ca : Nat) (la : List (ByteArray × Int)) (w : World) (hla : la.length ≤ 1048576) (ha : Row w aa la) :
    Calls Try.prog 22 #[.slice aa la.length ca] w fun e w' => (∃ v, e = .returned v ∧ GathS w' w.heap.size v (namesM la)) ∧ Below w.heap.size w w' := by
  obtain ⟨i0, hi, hz0, hz1, hz2⟩ := info_parts Try.infoS
  go_enter Try.func22, Try.ntmps22
  go_wp2_with fail
  go_loopw [3, 4] (fun out i wr => ∃ k : Nat, k ≤ la.length ∧ i = .int .i64 k ∧ GathS wr w.heap.size out (namesM (la.take k)) ∧ Below w.heap.size w wr) (fun _ i _ => la.length - (intOf i).toNat)
  case atStart => exact ⟨0, Nat.zero_le _, rfl, gathS_none _ _, Below.refl _ _⟩
  case round =>
    obtain ⟨k, hk, rfl, hg, hbl⟩ := hrel
    have hzr := hbl.size
    by_cases hlt : k < la.length
    · obtain ⟨b1, o1, rfl, hlt1, c0, c1⟩ := ha k hlt
      have e0 := cell_on hbl hlt1 c0
      have k0 : (0 : Int) ≤ (k : Int) := by omega
      have k1 : (k : Int) < (la.length : Int) := by omega
      have HN : Hid (namesM (la.take (k + 1)) = namesM (la.take k) ++ [la[k].1]) := by rw [Hid, List.take_succ_eq_append_getElem hlt]; unfold namesM; rw [List.map_append]; rfl
      have hnl : (namesM (la.take k)).length ≤ 1048576 := by simp [namesM]; omega
      have hg4 : wr.ownsRow w.heap.size 9 1 _ (namesM (la.take k)).length ((namesM (la.take k)).map .string) := hg
      generalize namesM (la.take k) = o at *
      go_wp2_with (at_builtin; refine wpList_append_lies _ rfl _ _ 34 rfl w.heap.size 9 i0 (.string .empty) 1 16 Try.underlying34 hi hz0 hz1 hz2 rfl (by decide) _ _ _ rfl (hg4.alloc _) ⟨wr.heap.size, 0, none⟩ 1 1 [.string la[k].1] rfl rfl (one_new wr _ _) (by simp [Value.oneCell']) (by decide) (by unfold maxLen; omega) (by omega) (by simp; omega) _ rfl ?_; intro g' cap' w5 hown' hgrow _ _)
      have hob := ownsRow_block hg4
      refine ⟨⟨k + 1, by omega, by go_num, by rw [HN.out]; exact GathS.snoc hown', (hbl.alloc hzr _).grown hgrow (by simp; omega) hob⟩, by simp [intOf]; omega⟩
    · have HN : Hid (namesM (la.take k) = namesM la) := by rw [Hid, List.take_of_length_le (by omega)]
      rw [HN.out] at hg
      go_wp2_with fail
      go_ret
      exact ⟨⟨_, rfl, hg⟩, hbl⟩

end Go.Proofs.Ytpfhegengmlkmaa
