/- FnTableTells, as a tied card: for every slice of bytes that can be read, where the listed variables of the library and of the program start as the program's text lays them, the law returns true, and the slice and the program's own two variables read afterwards as they did before. -/
import Derived.Test.YtpfhegengmlkmabGreatDoorCards
import Derived.Test.YtpfhegengmlkmabGreatDoorTie
import Derived.Test.YtpfhegengmlkmabGreatDoorZu51
namespace Go.Proofs.YtpfhegengmlkmabGreatDoor.fnTableTells
open Go.ChangeShapes Go.WideShapes Go.ChangeAt Go.RowKit
set_option maxRecDepth 100000
theorem over:Rows.FnTableTellsSaid:=
 OpenClaim.holds_of_wide 3 Tryz.f3 rfl rfl rfl rfl rfl rfl rfl ⟨rfl,rfl,rfl,rfl,rfl⟩ rfl rfl rfl rfl rfl (by kernel_rfl) Tryz.func3 (by kernel_rfl)
  (of_decide_eq_true (by kernel_rfl)) (by unfold Func.isWrapper;first|(rw[if_pos (by decide +kernel)];kernel_rfl)|(rw[if_neg (by decide +kernel)];exact⟨rfl,rfl⟩))
  (fun os started H enc _=>lifted os started H enc)
end Go.Proofs.YtpfhegengmlkmabGreatDoor.fnTableTells
namespace Go.Proofs.YtpfhegengmlkmabGreatDoor
theorem fnTableTells_card:Rows.FnTableTellsCardSaid:=
 Claim7.holds_tied_plain_at .later [] [.data,.data,.data,.data,.handle,.sentinel,.sentinel,.sentinel,.data,.pinned] true _ true
  fnTableTells.over (fun _ h=>by cases h) (by kernel_rfl) (fun _ h=>by cases h) fnTableTells_row_tie rfl ⟨rfl,rfl⟩ (by kernel_rfl) rfl
  (fun f fn hf hfn=>by
   obtain rfl:f=3:=Option.some.inj ((show Tryz.prog.funcNamed "loop.example/bedstone/laws.FnTableTells" = some 3 by kernel_rfl).symm.trans hf) |>.symm
   obtain rfl:fn=Tryz.f3:=(Option.some.inj (Tryz.func3.symm.trans hfn)).symm
   exact⟨by kernel_rfl,fun j t ht=>by
    rw[Tryz.params3]at ht
    have hm:t∈[22]:=by simpa using Array.mem_of_getElem? ht
    have hall:([22].all fun u=>!Tryz.prog.wantsStandIn u)=true:=by kernel_rfl
    exact(show Tryz.prog.wantsStandIn t=false by simpa using List.all_eq_true.1 hall t hm)⟩)
  (by kernel_rfl)
end Go.Proofs.YtpfhegengmlkmabGreatDoor
