/- FnExactTableRun, as a tied card: for every text, where the listed variables of the library and of the program start as the program's text lays them, the law returns true, and the text and the program's own two variables read afterwards as they did before. -/
import Derived.Test.YtpfhegengmlkmacGreatDoorCards
import Derived.Test.YtpfhegengmlkmacGreatDoorTie
import Derived.Test.YtpfhegengmlkmacGreatDoorZt50
namespace Go.Proofs.YtpfhegengmlkmacGreatDoor.fnExactTableRun
open Go.ChangeShapes Go.WideShapes Go.ChangeAt Go.RowKit
set_option maxRecDepth 100000
theorem over:Rows.FnExactTableRunSaid:=
 OpenClaim.holds_of_wide 5 Tryz.f5 rfl rfl rfl rfl rfl rfl rfl ⟨rfl,rfl,rfl,rfl,rfl⟩ rfl rfl rfl rfl rfl (by kernel_rfl) Tryz.func5 (by kernel_rfl)
  (of_decide_eq_true (by kernel_rfl)) (by unfold Func.isWrapper;first | (rw [if_pos (by decide +kernel)];kernel_rfl) | (rw [if_neg (by decide +kernel)];exact ⟨rfl,rfl⟩))
  (fun os started H enc _=>lifted os started H enc)
end Go.Proofs.YtpfhegengmlkmacGreatDoor.fnExactTableRun
namespace Go.Proofs.YtpfhegengmlkmacGreatDoor
theorem fnExactTableRun_card:Rows.FnExactTableRunCardSaid:=
 Claim7.holds_tied_plain_at .later [] [.data,.data,.data,.data,.handle,.sentinel,.sentinel,.sentinel,.data,.pinned] true _ true
  fnExactTableRun.over (fun _ h=>by cases h) (by kernel_rfl) (fun _ h=>by cases h) fnExactTableRun_row_tie rfl ⟨rfl,rfl⟩ (by kernel_rfl) rfl
  (fun f fn hf hfn=>by
   obtain rfl:f=5:=Option.some.inj ((show Tryz.prog.funcNamed "loop.example/bedstone/laws.FnExactTableRun" = some 5 by kernel_rfl).symm.trans hf) |>.symm
   obtain rfl:fn=Tryz.f5:=(Option.some.inj (Tryz.func5.symm.trans hfn)).symm
   exact ⟨by kernel_rfl,fun j t ht=>by
    rw [Tryz.params5] at ht
    have hm:t∈[9]:=by simpa using Array.mem_of_getElem? ht
    have hall:([9].all fun u=>!Tryz.prog.wantsStandIn u)=true:=by kernel_rfl
    exact (show Tryz.prog.wantsStandIn t=false by simpa using List.all_eq_true.1 hall t hm)⟩)
  (by kernel_rfl)
end Go.Proofs.YtpfhegengmlkmacGreatDoor
