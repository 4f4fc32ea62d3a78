/- Walks: markStringS. -/
import Derived.Test.YtpfhegengmlkmabMt
import Derived.Test.YtpfhegengmlkmabStrs
namespace Go.Proofs.Ytpfhegengmlkmab
open Go.RowKit Go.BigFrame

set_option maxHeartbeats 800000 in
theorem markStringS_any (b cap : Nat) (l : List ByteArray) (k : Int) (w : World) (hn : l.length ≤ 1048576) (hk0 : 0 ≤ k) (hk1 : k ≤ 10000000) (ho : PartS w b l l.length) :
    Calls Try.prog 33 #[.slice (some ⟨b, 0, none⟩) l.length cap, .int .i64 k] w fun e w' => e = .returned (.int .i64 (k + (l.length : Int))) ∧ But b w w' := by
  obtain ⟨f, hf, _⟩ := ho
  have hp : ∃ f, w.rowIs b 9 l.length f := ⟨f, hf⟩
  clear hf
  go_enter Try.func33, Try.ntmps33
  go_wp2_with fail
  go_loopw [1, 5] (fun kk i wr => ∃ j : Nat, j ≤ l.length ∧ i = .int .i64 j ∧ kk = .int .i64 (k + (j : Int)) ∧ (∃ f, wr.rowIs b 9 l.length f) ∧ But b w wr) (fun _ i _ => l.length - (intOf i).toNat)
  case atStart => exact ⟨0, Nat.zero_le _, rfl, by simp, hp, But.refl _ _⟩
  case round =>
    obtain ⟨j, hj, rfl, rfl, ⟨f, hpj⟩, hb⟩ := hrel
    by_cases hlt : j < l.length
    · have hpl := hpj.lt
      go_wp2_with (first | (go_at_call 62; refine (markText_any _ _ (by omega)).mono ?_; rintro e w1 ⟨rfl, hb1⟩; have hp1 := hpj.of_block (hb1.block b hpl); have hv0 := hp1.cell hlt; have hz0 := hp1.frozen j))
      exact ⟨⟨j + 1, by omega, by go_num, by congr 1; omega, ⟨_, hp1.set _ _⟩, (hb.trans (But.of_below hb1)).setCell _ _⟩, by simp [intOf]; omega⟩
    · obtain rfl : j = l.length := by omega
      go_wp2_with fail
      go_ret
      exact ⟨rfl, hb⟩

end Go.Proofs.Ytpfhegengmlkmab
