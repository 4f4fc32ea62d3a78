/- Texts of this claim. -/
import Derived.Test.YtpfhegengmlkmabGreatDoorZu2
import Derived.Test.YtpfhegengmlkmabGreatDoorZu4
import Derived.Test.YtpfhegengmlkmabGreatDoorZu6
namespace Go.Proofs.YtpfhegengmlkmabGreatDoor
open Go.RowKit Go.BigFrame
def bl (s:ByteArray):List UInt8:=s.data.toList
theorem ak (s:ByteArray):(bl s).length=s.size:=Array.length_toList
theorem iQ (s:ByteArray)(k:Nat)(h:k<s.size):(bl s)[k]?=some s[k]:=by
 unfold bl
 rw[Array.getElem?_toList]
 exact Array.getElem?_eq_getElem h
theorem iG (s:ByteArray)(a i:Nat):bl (s.extract a i)=((bl s).take i).drop a:=by
 unfold bl
 rw[ByteArray.data_extract,Array.toList_extract,List.extract_eq_take_drop,List.drop_take]
theorem xQ {L:List UInt8}{a i:Nat}(ha:a<=i)(hi:i<=L.length):L.drop a=(L.take i).drop a++L.drop i:=by
 have h:=congrArg (List.drop a) (List.take_append_drop i L)
 rw[List.drop_append,List.length_take,Nat.min_eq_left hi]at h
 rw[<- h,show a-i=0 by omega,List.drop_zero]
theorem drop_cons {L:List UInt8}{i:Nat}{x:UInt8}(h:L[i]?=some x):L.drop i=x::L.drop (i+1):=by
 obtain⟨hi,rfl⟩:=List.getElem?_eq_some_iff.1 h
 exact List.drop_eq_getElem_cons hi
theorem zD {L:List UInt8}{a i:Nat}{c:UInt8}(ha:a<=i)(h:L[i]?=some c)(hc:c∉(L.take i).drop a):aj c (L.drop a)=(L.take i).drop a::aj c (L.drop (i+1)):=by
 have hi:i<L.length:=(List.getElem?_eq_some_iff.1 h).1
 rw[xQ ha (by omega),drop_cons h,dK hc]
theorem zt {L:List UInt8}{a i:Nat}{x c:UInt8}(ha:a<=i)(h:L[i]?=some x)(hx:x≠c)(hc:c∉(L.take i).drop a):c∉(L.take (i+1)).drop a:=by
 obtain⟨hi,rfl⟩:=List.getElem?_eq_some_iff.1 h
 rw[List.take_succ_eq_append_getElem hi,List.drop_append,List.length_take,Nat.min_eq_left (by omega),show a-i=0 by omega,List.drop_zero,List.mem_append,not_or]
 exact⟨hc,by simp[Ne.symm hx]⟩
set_option maxHeartbeats 1600000 in
theorem uF (t:ByteArray)(c:UInt8)(w:World)(ht:t.size<=1000000) :
  Calls Tryz.prog 25 #[.string t,.int .u8 (c.toNat:Int)] w fun e w'=>(∃v us,e=.returned v/\aI w' w.heap.size v us/\us.map bl=aj c (bl t))/\Below w.heap.size w w':=by
 obtain⟨i0,hi,hz0,hz1,hz2⟩:=info_parts Tryz.infoS
 go_enter Tryz.func25,Tryz.ntmps25
 go_wp2_with fail
 go_loopw [5,6,7] (fun out av iv wr=>∃a i:Nat,a<=i/\i<=t.size/\av=.int .i64 a/\iv=.int .i64 i/\∃o,aI wr w.heap.size out o/\o.length<=i/\o.map bl++aj c ((bl t).drop a)=aj c (bl t)/\c∉((bl t).take i).drop a/\Below w.heap.size w wr) (fun _ _ iv _=>t.size-(intOf iv).toNat)
 case atStart=>exact⟨0,0,Nat.le_refl _,Nat.zero_le _,rfl,rfl,[],jr _ _,by simp,by simp,by simp,Below.refl _ _⟩
 case round=>
  obtain⟨a,i,hai,hit,rfl,rfl,o,hg,hol,hsp,hno,hbl⟩:=hrel
  have hzr:=hbl.size
  by_cases hlt:i<t.size
  ·have hat:=iQ t i hlt
   by_cases hc:t[i]=c
   ·have hc':((t[i].toNat:Int)==(c.toNat:Int))=true:=by rw[hc];simp
    have HS:Hid (aj c ((bl t).drop a)=((bl t).take i).drop a::aj c ((bl t).drop (i+1))):=zD hai (by rw[hat,hc]) hno
    have HSP:Hid (o.map bl++aj c ((bl t).drop a)=aj c (bl t)):=hsp
    have hg4:wr.ownsRow w.heap.size 9 1 _ o.length (o.map .string):=hg
    clear hsp hno hat
    go_wp2_with (at_builtin;refine wpList_append_lies _ rfl _ _ 23 rfl w.heap.size 9 i0 (.string .empty) 1 16 Tryz.underlying23 hi hz0 hz1 hz2 rfl (by decide) _ _ _ rfl (hg4.alloc _) ⟨wr.heap.size,0,none⟩ 1 1 [.string (t.extract a i)] rfl rfl (fA wr _ _) (by simp[Value.oneCell']) (by decide) (by unfold maxLen;omega) (by omega) (by simp;omega) _ rfl ?_;intro g' cap' w5 hown' hgrow _ _)
    have hob:=aN hg4
    refine⟨⟨i+1,i+1,Nat.le_refl _,by omega,by go_num,by go_num,o++[t.extract a i],aI.snoc hown',by simp;omega, ?_,by simp,(hbl.alloc hzr _).grown hgrow (by simp;omega) hob⟩,by simp[intOf];omega⟩
    rw[<- HSP.out,HS.out,List.map_append,List.append_assoc,List.map_singleton,iG]
    rfl
   ·have hc':((t[i].toNat:Int)==(c.toNat:Int))=false:=by
     rw[beq_eq_false_iff_ne]
     exact fun e=>hc (UInt8.toNat_inj.1 (by omega))
    have HN:Hid (c∉((bl t).take (i+1)).drop a):=zt hai hat hc hno
    have HSP:Hid (o.map bl++aj c ((bl t).drop a)=aj c (bl t)):=hsp
    clear hsp hno hat
    go_wp2_with fail
    exact⟨⟨a,i+1,by omega,by omega,rfl,by go_num,o,hg,by omega,HSP.out,HN.out,hbl⟩,by simp[intOf];omega⟩
  ·have HS:Hid (aj c ((bl t).drop a)=[(bl t).drop a]):=dV (by rw[List.take_of_length_le (by rw[ak];omega)]at hno;exact hno)
   have HSP:Hid (o.map bl++aj c ((bl t).drop a)=aj c (bl t)):=hsp
   have hg4:wr.ownsRow w.heap.size 9 1 _ o.length (o.map .string):=hg
   clear hsp hno
   go_wp2_with (at_builtin;refine wpList_append_lies _ rfl _ _ 23 rfl w.heap.size 9 i0 (.string .empty) 1 16 Tryz.underlying23 hi hz0 hz1 hz2 rfl (by decide) _ _ _ rfl (hg4.alloc _) ⟨wr.heap.size,0,none⟩ 1 1 [.string (t.extract a t.size)] rfl rfl (fA wr _ _) (by simp[Value.oneCell']) (by decide) (by unfold maxLen;omega) (by omega) (by simp;omega) _ rfl ?_;intro g' cap' w5 hown' hgrow _ _)
   have hob:=aN hg4
   go_ret
   refine⟨⟨_,o++[t.extract a t.size],rfl,aI.snoc hown', ?_⟩,(hbl.alloc hzr _).grown hgrow (by simp;omega) hob⟩
   rw[<- HSP.out,HS.out,List.map_append,List.map_singleton,iG,List.take_of_length_le (by rw[ak];omega)]
structure Sr (w:World) (R:Nat) (t:ByteArray) (p:Nat):Prop where
 c0:w.cell? ⟨R,0,none⟩=some (.string t)
 c1:w.cell? ⟨R,1,none⟩=some (.int .i64 (p:Int))
 f1:w.frozen? ⟨R,1,none⟩=false
 le:p<=t.size
 small:t.size<=1000
theorem Sr.lt {w:World}{R p:Nat}{t:ByteArray}(h:Sr w R t p):R<w.heap.size:=block_lt_of_cell h.c0
theorem Sr.same {w w':World}{R p:Nat}{t:ByteArray}(h:Sr w R t p)(hk:w'.heap[R]?=w.heap[R]?):Sr w' R t p:=
 ⟨(World.cell?_of_block hk).trans h.c0,(World.cell?_of_block hk).trans h.c1,(World.frozen?_of_block hk).trans h.f1,h.le,h.small⟩
theorem Sr.below {w w':World}{R p:Nat}{t:ByteArray}(h:Sr w R t p)(hb:Below w.heap.size w w'):Sr w' R t p:=h.same (hb.block R h.lt)
theorem Sr.step {w:World}{R p:Nat}{t:ByteArray}(h:Sr w R t p)(hp:p<t.size):Sr (w.setCell ⟨R,1,none⟩ (.int .i64 ((p:Int)+1))) R t (p+1):=
 ⟨by simp[go_sem,h.c0],by simp[go_sem,h.c1],by simp[go_sem,h.f1],hp,h.small⟩
def pk (t:ByteArray)(p:Nat):UInt8:=if h:p<t.size then t[p]else 0
theorem qG {t:ByteArray}{p:Nat}(h:p<t.size):pk t p=t[p]:=dif_pos h
theorem Am {t:ByteArray}{p:Nat}(h:¬p<t.size):pk t p=0:=dif_neg h
set_option maxHeartbeats 800000 in
theorem lG (R p:Nat)(t:ByteArray)(w:World)(hr:Sr w R t p) :
  Calls Tryz.prog 209 #[.pointer (some ⟨R,0,none⟩)] w fun e w'=>e=.returned (.int .u8 ((pk t p).toNat:Int))/\Below w.heap.size w w':=by
 obtain⟨c0,c1,f1,hle,hsm⟩:=hr
 go_enter Tryz.func209,Tryz.ntmps209
 by_cases hlt:p<t.size
 ·have hpe:((p:Int)==(t.size:Int))=false:=by rw[beq_eq_false_iff_ne];omega
  have HP:Hid (pk t p=t[p]):=qG hlt
  go_wp2_with fail
  go_quiet (fail)
  go_wp2_with fail
  go_quiet (fail)
  go_wp2_with fail
  go_ret
  exact⟨by rw[HP.out];rfl,by repeat (first|exact Below.refl _ _|apply below_drewN)⟩
 ·have hpe:((p:Int)==(t.size:Int))=true:=by rw[beq_iff_eq];omega
  have HP:Hid (pk t p=0):=Am hlt
  go_wp2_with fail
  go_quiet (fail)
  go_wp2_with fail
  go_ret
  exact⟨by rw[HP.out];rfl,by repeat (first|exact Below.refl _ _|apply below_drewN)⟩
def Jm (w:World)(R:Nat)(t:ByteArray)(p:Nat)(c:UInt8)(e:Ending):Prop:=(p<t.size/\pk t p=c/\e=.returned (.bool true)/\Sr w R t (p+1))∨(¬(p<t.size/\pk t p=c)/\e=.returned (.bool false)/\Sr w R t p)
set_option maxHeartbeats 800000 in
theorem take_any (R p:Nat)(t:ByteArray)(c:UInt8)(w:World)(hr:Sr w R t p) :
  Calls Tryz.prog 185 #[.pointer (some ⟨R,0,none⟩),.int .u8 (c.toNat:Int)] w fun e w'=>Jm w' R t p c e/\But R w w':=by
 obtain⟨c0,c1,f1,hle,hsm⟩:=id hr
 go_enter Tryz.func185,Tryz.ntmps185
 by_cases hlt:p<t.size
 ·have hpe:((p:Int)==(t.size:Int))=false:=by rw[beq_eq_false_iff_ne];omega
  by_cases hc:t[p]=c
  ·have hc':((t[p].toNat:Int) != (c.toNat:Int))=false:=by rw[hc];simp
   have HP:Hid (pk t p=c):=(qG hlt).trans hc
   clear hc
   go_wp2_with fail
   go_quiet (fail)
   go_wp2_with fail
   go_ret
   exact⟨.inl ⟨hlt,HP.out,rfl,(hr.below (below_drewN (Below.refl _ _) nq)).step hlt⟩,(But.of_below (below_drewN (Below.refl _ _) nq)).setCell _ _⟩
  ·have hc':((t[p].toNat:Int) != (c.toNat:Int))=true:=by
    rw[bne_iff_ne]
    exact fun e=>hc (UInt8.toNat_inj.1 (by omega))
   have HP:Hid (¬(p<t.size/\pk t p=c)):=fun h=>hc ((qG hlt).symm.trans h.2)
   clear hc
   go_wp2_with fail
   go_quiet (fail)
   go_wp2_with fail
   go_ret
   exact⟨.inr ⟨HP.out,rfl,hr.below (by repeat (first|exact Below.refl _ _|apply below_drewN))⟩,But.of_below (by repeat (first|exact Below.refl _ _|apply below_drewN))⟩
 ·have hpe:((p:Int)==(t.size:Int))=true:=by rw[beq_iff_eq];omega
  have HP:Hid (¬(p<t.size/\pk t p=c)):=fun h=>hlt h.1
  go_wp2_with fail
  go_quiet (fail)
  go_wp2_with fail
  go_ret
  exact⟨.inr ⟨HP.out,rfl,hr.below (by repeat (first|exact Below.refl _ _|apply below_drewN))⟩,But.of_below (by repeat (first|exact Below.refl _ _|apply below_drewN))⟩
end Go.Proofs.YtpfhegengmlkmabGreatDoor
