/- Texts of this claim. -/
import Derived.Test.YtpfhegengmlkmabGreatDoorZu6
namespace Go.Proofs.YtpfhegengmlkmabGreatDoor
open Go.RowKit
set_option maxHeartbeats 400000 in
theorem J5 (s:ByteArray)(v:Int)(w:World)(hs:s.size<=maxLen) :
  Calls Tryz.prog 157 #[.agg #[.string s,.int .i64 v]] w fun e w'=>rU (iZ (s,v)) e/\Below w.heap.size w w':=by
 go_enter Tryz.func157,Tryz.ntmps157
 go_wp2_with (first|(go_at_call 76;refine(vI _ _ hs).mono ?_;rintro e w' ⟨⟨r,rfl,hr⟩,rfl⟩;have HR:Hid (r=true↔kV s):=hr;clear hr))
 all_goals go_ret
 all_goals refine⟨⟨_,rfl, ?_⟩,(Below.refl _ _).alloc (Nat.le_refl _) _⟩
 all_goals have HR':=HR.out
 ·simp only[iZ,decide_eq_true_eq]
  exact⟨fun h=>⟨HR'.1 ‹_›,‹_›,h⟩,fun h=>h.2.2⟩
 ·exact⟨fun h=>(by cases h),fun h=>by have:=h.2.1;simp only at this;omega⟩
 ·exact⟨fun h=>(by cases h),fun h=>absurd (HR'.2 h.1) ‹_›⟩
set_option maxHeartbeats 800000 in
theorem mP (a:Option Addr)(cap:Nat)(l:List (ByteArray×Int))(w:World)(hl:l.length<=maxLen)(hr:Row w a l)(hs:∀j,(h:j<l.length)->l[j].1.size<=maxLen) :
  Calls Tryz.prog 6 #[.slice a l.length cap] w fun e w'=>rU (ah l) e/\∃n,w'=w.drewN n:=by
 unfold maxLen at hl
 by_cases h12:12<l.length
 ·go_enter Tryz.func6,Tryz.ntmps6
  go_wp2_with fail
  go_ret
  exact⟨ai (fun h=>by have:=h.1;omega),0,rfl⟩
 go_enter Tryz.func6,Tryz.ntmps6
 go_wp2_with fail
 go_loopw [3] (fun i wr=>∃k:Nat,k<=l.length/\i=.int .i64 k/\oJ l k/\∃n,wr=w.drewN n) (fun i _=>l.length-(intOf i).toNat)
 case atStart=>exact⟨0,Nat.zero_le _,rfl,qH l,0,rfl⟩
 case round=>
  obtain⟨k,hk,rfl,hall,nd,rfl⟩:=hrel
  by_cases hlt:k<l.length
  ·obtain⟨b,o,rfl,hblt,c0,c1⟩:=hr k hlt
   have HS:=hs k hlt
   have HST:=rq hall hlt
   by_cases hk0:k<1
   ·have hd:decide (0<k)=false:=by simp;omega
    go_wp2_with (first|(go_at_call 17;refine(pY _ _ HS).mono ?_;rintro e w' ⟨⟨r,rfl,hr⟩,rfl⟩;have HR:Hid (r=true↔kV l[k].1):=hr;clear hr))
    ·go_ret
     exact⟨ai (fun h=>by have:=(h.2.1 k hlt).2;omega),nd,rfl⟩
    ·go_quiet (fail)
     go_wp2_with fail
     exact⟨⟨k+1,by omega,by go_num,HST ⟨HR.out.1 ‹_›,‹_›⟩ (fun h=>by omega),_,rfl⟩,by simp[intOf];omega⟩
    ·go_ret
     exact⟨ai (fun h=>by have:=(h.2.1 k hlt).2;omega),nd,rfl⟩
    ·go_ret
     exact⟨ai (fun h=>absurd (HR.out.2 (h.2.1 k hlt).1) ‹_›),nd,rfl⟩
   ·obtain⟨b',o',he,_,d0,_⟩:=hr (k-1) (by omega)
    obtain⟨rfl,rfl⟩:b'=b/\o'=o:=by simp at he;exact⟨he.1.symm,he.2.symm⟩
    have hd:decide (0<k)=true:=by simp;omega
    go_wp2_with (first|(go_at_call 17;refine(pY _ _ HS).mono ?_;rintro e w' ⟨⟨r,rfl,hr⟩,rfl⟩;have HR:Hid (r=true↔kV l[k].1):=hr;clear hr))
    ·go_ret
     exact⟨ai (fun h=>by have:=(h.2.1 k hlt).2;omega),nd,rfl⟩
    ·go_quiet (fail)
     go_wp2_with fail
     ·go_ret
      exact⟨ai (fun h=>by have:=J7 h hk0 hlt;unfold Asc at this;simp_all),nd+nq,by simp⟩
     ·exact⟨⟨k+1,by omega,by go_num,HST ⟨HR.out.1 ‹_›,‹_›⟩ (fun _=>by unfold Asc;simp_all),_,rfl⟩,by simp[intOf];omega⟩
    ·go_ret
     exact⟨ai (fun h=>by have:=(h.2.1 k hlt).2;omega),nd,rfl⟩
    ·go_ret
     exact⟨ai (fun h=>absurd (HR.out.2 (h.2.1 k hlt).1) ‹_›),nd,rfl⟩
  ·go_wp2_with fail
   go_ret
   exact⟨dE (zH hall hlt (by omega)),nd,rfl⟩
theorem fZ (a:Option Addr)(cap:Nat)(l:List (ByteArray×Int))(w:World)(hl:l.length<=maxLen)(hr:Row w a l)(hs:∀j,(h:j<l.length)->l[j].1.size<=maxLen) :
  Calls Tryz.prog 6 #[.slice a l.length cap] w fun e w'=>rU (ah l) e/\Below w.heap.size w w':=
 (mP a cap l w hl hr hs).mono fun _ _ ⟨h,n,hw⟩=>⟨h,by rw[hw];exact below_drewN (Below.refl _ _) n⟩
end Go.Proofs.YtpfhegengmlkmabGreatDoor
