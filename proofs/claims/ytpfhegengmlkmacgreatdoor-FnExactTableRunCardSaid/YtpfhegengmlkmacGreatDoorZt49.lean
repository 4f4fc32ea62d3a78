/- Texts of this claim. -/
import Derived.Test.YtpfhegengmlkmacGreatDoorRows
import Derived.ProofKit
import Derived.OpenShut
import Derived.ChangeOld
import Derived.ChangeSlices
import Derived.Test.YtpfhegengmlkmacGreatDoorZt44
import Derived.Test.YtpfhegengmlkmacGreatDoorZt48
namespace Go.Proofs.YtpfhegengmlkmacGreatDoor
open Go.RowKit Go.BigFrame
set_option maxRecDepth 100000
set_option maxHeartbeats 1600000 in
theorem lawTR_any (t:ByteArray) (w:World) (u:TypeId) (pv:Value) (hall:AllW w u pv) :
  Calls Tryz.prog 5 #[.string t] w fun e w'=>e=.returned (.bool true)∧Below w.heap.size w w':=by
 go_enter Tryz.func5,Tryz.ntmps5
 by_cases hl:1048576 < t.size
 ·have hl':(1048576:Int) < (t.size:Int):=by omega
  go_wp2_with fail
  go_ret
  exact ⟨rfl,Below.refl _ _⟩
 have hl':¬ (1048576:Int) < (t.size:Int):=by omega
 have cS:=specRun_any t w (by omega) (fun _ _ _ _ u0 r _=>doC_all u0 r)
 go_wp2_with (go_at_call 36;refine hid_hold ?_)
 unfold Hid
 refine cS.mono ?_
 rintro e w1 ⟨⟨s,rfl,hs⟩,b1⟩
 have cI:=implRun_any t w1 u pv (hall.below b1) (fun _ _ _ u0 _ _=>comC_all (bl u0))
 clear cS
 go_wp2_with (go_at_call 37;refine hid_hold ?_)
 unfold Hid
 refine cI.mono ?_
 rintro e w2 ⟨⟨s2,rfl,hs2⟩,b2⟩
 obtain rfl:=hs.one hs2
 have hq:(s.toList == s.toList)=true:=by simp
 clear hs hs2 cI
 go_wp2_with fail
 go_ret
 exact ⟨rfl,b1.trans (b2.mono b1.size)⟩
end Go.Proofs.YtpfhegengmlkmacGreatDoor
namespace Go.Proofs.YtpfhegengmlkmacGreatDoor
open Go.ChangeShapes Go.WideShapes Go.ChangeAt Go.RowKit
theorem Tryz.own:ownKnob Tryz.prog.godebug=none:=by kernel_rfl
theorem Tryz.laidOut:laidOutB Tryz.prog=true:=by kernel_rfl
end Go.Proofs.YtpfhegengmlkmacGreatDoor
