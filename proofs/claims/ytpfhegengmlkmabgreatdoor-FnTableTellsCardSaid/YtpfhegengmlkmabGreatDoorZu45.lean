/- Texts of this claim. -/
import Derived.Lib.AtoiAllCases
import Derived.Test.YtpfhegengmlkmabGreatDoorZu40
namespace Go.Proofs.YtpfhegengmlkmabGreatDoor
open Go.RowKit Go.BigFrame
set_option maxRecDepth 100000
structure vU (w:World) (u:TypeId) (pv:Value):Prop where
 tab:Tab w
 syn:∃t p,w.cell? ⟨6,0,none⟩=some (.iface t p)
 ran:∃t p,w.cell? ⟨7,0,none⟩=some (.iface t p)
 giv:Ef w u pv
theorem vU.below {w w':World}{u:TypeId}{pv:Value}(h:vU w u pv)(hb:Below w.heap.size w w'):vU w' u pv:=by
 obtain⟨t1,p1,h1⟩:=h.syn
 obtain⟨t2,p2,h2⟩:=h.ran
 exact⟨h.tab.below hb,⟨t1,p1,ae hb (World.block_lt_of_cell? _ _ h1) h1⟩,⟨t2,p2,ae hb (World.block_lt_of_cell? _ _ h2) h2⟩,h.giv.below hb⟩
def Jg (u:TypeId)(pv:Value):Ending:=.panicked [{ v:=.iface u pv,recovered:=false }]
theorem zK (n:Int)(w:World)(h0:-9223372036854775808<=n)(h1:n<=9223372036854775807)(ht:Tab w) :
  Calls Tryz.prog 101 #[.int .i64 n] w fun e w'=>e=.returned (.string ⟨(Lib.itoa n).toArray⟩)/\Below w.heap.size w w':=
 (Tryz.strconv_Itoa n h0 h1 w ht).mono fun _ w' ⟨he,k,os,hw⟩=>⟨he,by rw[hw];exact below_grow w k os⟩
set_option maxHeartbeats 1600000 in
theorem uQ (a:Option Addr)(cap:Nat)(l:List Int)(w:World)(hl:l.length<=6)(hv:∀v∈l,iw v)(hr:iC w a l)(ht:Tab w) :
  Calls Tryz.prog 103 #[.slice a l.length cap] w fun e w'=>e=.returned (.string ⟨(dY l).toArray⟩)/\Below w.heap.size w w':=by
 obtain⟨i0,hi,hz0,hz1,hz2⟩:=info_parts Tryz.infoS
 go_enter Tryz.func103,Tryz.ntmps103
 go_wp2_with fail
 go_loopw [3,8] (fun ws iv wr=>∃(k:Nat) (o:List ByteArray),k<=l.length/\iv=.int .i64 k/\aI wr w.heap.size ws o/\o.length<=k/\Hid (o.map (·.data.toList)=(l.take k).map Lib.itoa)/\Below w.heap.size w wr) (fun _ iv _=>l.length-(intOf iv).toNat)
 case atStart=>exact⟨0,[],Nat.zero_le _,rfl,jr _ _,Nat.le_refl _,by simp[Hid],Below.refl _ _⟩
 case round=>
  obtain⟨k,o,hk,rfl,hg,hol,HI,hbl⟩:=hrel
  have hzr:=hbl.size
  by_cases hlt:k<l.length
  ·obtain⟨b2,o2,rfl,hlt2,c0⟩:=hr k hlt
   have e0:=ae hbl hlt2 c0
   have k0:(0:Int)<=(k:Int):=by omega
   have k1:(k:Int)<(l.length:Int):=by omega
   have hvk:=hv _ (List.getElem_mem hlt)
   have HT:Hid ((l.take (k+1)).map Lib.itoa=(l.take k).map Lib.itoa++[Lib.itoa l[k]]):=by
    rw[Hid,List.take_succ_eq_append_getElem hlt,List.map_append,List.map_singleton]
   have cd:=zK l[k] wr (by have:=hvk.1;omega) (by have:=hvk.2;omega) (ht.below hbl)
   obtain⟨D,hD⟩:∃D:ByteArray,(⟨(Lib.itoa l[k]).toArray⟩:ByteArray)=D:=⟨_,rfl⟩
   have HDL:Hid (D.data.toList=Lib.itoa l[k]):=by rw[Hid,<- hD]
   rw[hD]at cd
   clear hD hvk c0
   go_wp2_with (go_at_call 101;refine cd.mono ?_)
   rintro e w3 ⟨rfl,b3⟩
   have B3:Below w.heap.size w w3:=hbl.trans (b3.mono hzr)
   have z3:=B3.size
   have hg3:w3.ownsRow w.heap.size 9 1 _ o.length (o.map .string):=hg.keep b3
   have hob:=aN hg3
   go_wp2_with (at_builtin;refine wpList_append_lies _ rfl _ _ 23 rfl w.heap.size 9 i0 (.string .empty) 1 16 Tryz.underlying23 hi hz0 hz1 hz2 rfl (by decide) _ _ _ rfl (hg3.alloc _) ⟨w3.heap.size,0,none⟩ 1 1 [.string D] rfl rfl (fA w3 _ _) (by simp[Value.oneCell']) (by decide) (by unfold maxLen;omega) (by omega) (by simp;omega) _ rfl ?_;intro g' cap' w5 hown' hgrow _ _)
   refine⟨⟨k+1,o++[D],by omega,by go_num,aI.snoc hown',by simp;omega, ?_,(B3.alloc z3 _).grown hgrow (by simp;omega) hob⟩,by simp[intOf];omega⟩
   rw[Hid,HT.out,List.map_append,HI.out,List.map_singleton,HDL.out]
  ·have HI2:Hid (o.map (·.data.toList)=l.map Lib.itoa):=by
    have h:=HI.out
    rw[List.take_of_length_le (by omega)]at h
    exact h
   clear HI
   by_cases ho0:0<o.length
   ·have hlen:(Lib.join (o.map (·.data.toList)) [32]).length<=140737488355328:=by
     rw[HI2.out]
     have h:=jT hv
     show(dY l).length<=_
     omega
    have HF:Hid ((⟨(Lib.join (o.map (·.data.toList)) [32]).toArray⟩:ByteArray)=⟨(dY l).toArray⟩):=by rw[Hid,HI2.out];rfl
    obtain⟨g,c,rfl,hcells,hgl,hcap⟩:=hg.slots ho0
    clear HI2
    have cJ:=Tryz.strings_Join g 0 c o ⟨#[32]⟩ wr hcells hgl (by omega) hcap hlen
    go_wp2_with (go_at_call 147;refine cJ.mono ?_;rintro e w3 ⟨rfl,b3⟩)
    go_ret
    exact⟨by show Ending.returned (.string ⟨(Lib.join (o.map (·.data.toList)) [32]).toArray⟩)=_;rw[HF.out],hbl.trans (b3.mono hzr)⟩
   ·obtain rfl:o=[]:=List.length_eq_zero_iff.1 (by omega)
    have hl0:l=[]:=by have h:=congrArg List.length HI2.out;simp at h;exact List.length_eq_zero_iff.1 h.symm
    subst hl0
    obtain⟨a5,c5,rfl,_⟩:=hg.shape
    have cJ:=Tryz.strings_Join_none a5 c5 ⟨#[32]⟩ wr
    clear HI2
    have hk0:¬(k:Int)<0:=by omega
    go_wp2_with (go_at_call 147;refine cJ.mono ?_)
    go_ret
    exact⟨rfl,hbl⟩
theorem zV (a:Option Addr)(cap:Nat)(m:List (ByteArray×Int))(w:World)(hs:ah m)(hr:Row w a m)(ht:Tab w) :
  Calls Tryz.prog 108 #[.slice a m.length cap] w fun e w'=>e=.returned (.string (dI m))/\Below w.heap.size w w':=
 (zZ a cap m w (by have:=hs.1;unfold maxLen;omega) hr (ww hs) ht).mono fun _ _ ⟨⟨_,he,h⟩,hb⟩=>⟨by rw[he,CX hs h],hb⟩
def kw (l:List Int)(m:List (ByteArray×Int)):List UInt8:=dY l++(KF++bl (dI m))
set_option maxHeartbeats 800000 in
theorem uT (a a2:Option Addr)(cap c2:Nat)(l:List Int)(m:List (ByteArray×Int))(w:World)(hl:l.length<=6)(hv:∀v∈l,iw v)(hr:iC w a l)(hs:ah m)(hm:Row w a2 m)(ht:Tab w) :
  Calls Tryz.prog 105 #[.slice a l.length cap,.slice a2 m.length c2] w fun e w'=>e=.returned (.string ⟨(kw l m).toArray⟩)/\Below w.heap.size w w':=by
 have c1:=uQ a cap l w hl hv hr ht
 have HL:=jT hv
 obtain⟨D,hD⟩:∃D:ByteArray,(⟨(dY l).toArray⟩:ByteArray)=D:=⟨_,rfl⟩
 have hDs:D.size<=200:=by
  rw[<- hD]
  show(dY l).toArray.size<=_
  simp
  omega
 have hSs:=jB hs
 have HE:Hid ((D++(⟨#[32,64,32]⟩:ByteArray))++dI m=⟨(kw l m).toArray⟩):=ji (by
  rw[au,au,<- hD,List.append_assoc];rfl)
 rw[hD]at c1
 clear hD HL
 have c3:=fun w' (b:Below w.heap.size w w')=>zV a2 c2 m w' hs (hm.below b) (ht.below b)
 generalize dI m=S at *
 go_enter Tryz.func105,Tryz.ntmps105
 go_wp2_with (go_at_call 103;refine c1.mono ?_)
 rintro e w1 ⟨rfl,b1⟩
 have c4:=c3 w1 b1
 go_wp2_with (go_at_call 108;refine c4.mono ?_)
 rintro e w2 ⟨rfl,b2⟩
 go_wp2_with fail
 go_ret
 exact⟨by rw[<- HE.out];rfl,b1.trans (b2.mono b1.size)⟩
def BI (sv:List Int)(ss:List (ByteArray×Int))(c:Int):List UInt8:=if c=1 then di++kw sv ss else if c=2 then DW else pJ c
set_option maxHeartbeats 800000 in
theorem uh (a a2:Option Addr)(cap c2:Nat)(l:List Int)(m:List (ByteArray×Int))(c:Int)(w:World)(hc:c=0∨c=1∨c=2∨c=3∨c=4)(hl:l.length<=6)(hv:∀v∈l,iw v)(hr:iC w a l)(hs:ah m)(hm:Row w a2 m)(ht:Tab w) :
  Calls Tryz.prog 100 #[.agg #[.slice a l.length cap,.slice a2 m.length c2],.int .i64 c] w fun e w'=>e=.returned (.string ⟨(BI l m c).toArray⟩)/\Below w.heap.size w w':=by
 have d0:=box0 w (.slice a l.length cap) (.slice a2 m.length c2) 73
 have d1:=box1 w (.slice a l.length cap) (.slice a2 m.length c2) 73
 have bel:Below w.heap.size w (w.alloc (.cells #[.slice a l.length cap,.slice a2 m.length c2] 73)):=(Below.refl _ _).alloc (Nat.le_refl _) _
 have cS:=uT a a2 cap c2 l m _ hl hv (hr.below bel) hs (hm.below bel) (ht.below bel)
 have HL:=jT hv
 have hSs:=jB hs
 obtain⟨D,hD⟩:∃D:ByteArray,(⟨(kw l m).toArray⟩:ByteArray)=D:=⟨_,rfl⟩
 have hDs:D.size<=1000:=by
  rw[<- hD]
  show(kw l m).toArray.size<=_
  have e2:KF.length=3:=rfl
  simp[kw,ak]
  omega
 have HE:Hid ((⟨#[115,104,111,119,115,32]⟩:ByteArray)++D=⟨(BI l m 1).toArray⟩):=ji (by
  rw[au,<- hD];rfl)
 rw[hD]at cS
 clear hD HL
 go_enter Tryz.func100,Tryz.ntmps100
 rcases hc with rfl|rfl|rfl|rfl|rfl
 ·go_wp2_with fail
  go_ret
  exact⟨rfl,bel⟩
 ·go_wp2_with fail
  generalize w.alloc (.cells #[.slice a l.length cap,.slice a2 m.length c2] 73)=W0 at *
  go_wp2_with (go_at_call 105;refine cS.mono ?_)
  rintro e w1 ⟨rfl,b1⟩
  go_wp2_with fail
  go_ret
  exact⟨by rw[<- HE.out];rfl,bel.trans (b1.mono bel.size)⟩
 ·go_wp2_with fail
  go_ret
  exact⟨rfl,bel⟩
 ·go_wp2_with fail
  go_ret
  exact⟨rfl,bel⟩
 ·go_wp2_with fail
  go_ret
  exact⟨rfl,bel⟩
set_option maxHeartbeats 800000 in
theorem Ad (a:Option Addr)(cap:Nat)(l:List ByteArray)(s:ByteArray)(w:World)(hl:l.length<=1048576)(hr:dQ w a l) :
  Calls Tryz.prog 99 #[.slice a l.length cap,.string s] w fun e w'=>e=.returned (.int .i64 (Lib.idxOfS l s))/\Below w.heap.size w w':=by
 go_enter Tryz.func99,Tryz.ntmps99
 go_wp2_with fail
 go_loopw [8] (fun i wr=>∃k:Nat,k<=l.length/\i=.int .i64 k/\Hid (∀q,(hq:q<k)->(hl:q<l.length)->l[q]≠s)/\Below w.heap.size w wr) (fun i _=>l.length-(intOf i).toNat)
 case atStart=>exact⟨0,Nat.zero_le _,rfl,fun _ h=>absurd h (Nat.not_lt_zero _),Below.refl _ _⟩
 case round=>
  obtain⟨k,hk,rfl,HI,hbl⟩:=hrel
  by_cases hlt:k<l.length
  ·obtain⟨b,o,rfl,hblt,c0⟩:=hr.below hbl k hlt
   have k0:(0:Int)<=(k:Int):=by omega
   have k1:(k:Int)<(l.length:Int):=by omega
   by_cases he:l[k]=s
   ·have hb':(s.toList==l[k].toList)=true:=fM.2 he.symm
    have HX:Hid (Lib.idxOfS l s=k):=Aq hlt he HI.out
    clear he
    go_wp2_with fail
    go_ret
    exact⟨by rw[HX.out];rfl,hbl⟩
   ·have hb':(s.toList==l[k].toList)=false:=bg.2 (fun e=>he e.symm)
    have HJ:Hid (∀q,(hq:q<k+1)->(hl:q<l.length)->l[q]≠s):=fun q hq hl=>by
     by_cases e:q=k
     ·subst e;exact he
     ·exact HI.out q (by omega) hl
    clear he
    go_wp2_with fail
    exact⟨⟨k+1,by omega,by go_num,HJ,hbl⟩,by simp[intOf];omega⟩
  ·have HX:Hid (Lib.idxOfS l s=-1):=Cb fun q hl=>HI.out q (by omega) hl
   go_wp2_with fail
   go_ret
   exact⟨by rw[HX.out];rfl,hbl⟩
theorem vZ:∀(d:List UInt8) (acc:Nat),(∀x∈d,DG x)->aY acc d<18446744073709551616->Lib.parseUint10 acc d=.ok (aY acc d)
 |[],acc,_,_=>by rw[iT];rfl
 |c::r,acc,h,hb=>by
  have hc:=h c (List.mem_cons_self ..)
  rw[jP]at hb ⊢
  have hm:=sS r (jG acc c)
  have e:acc*10+(c.toNat-48)=jG acc c:=by unfold jG;omega
  have hd:=wU acc c
  have ih:=vZ r (jG acc c) (fun x hx=>h x (List.mem_cons_of_mem _ hx)) hb
  unfold Lib.parseUint10
  rw[if_pos (show 48<=c.toNat/\c.toNat<=57 from hc),if_neg (by omega),e,if_neg (by omega)]
  exact ih
theorem xW (k:Nat):aY 0 (Lib.decDigits k)=k:=by
 rcases Nat.eq_zero_or_pos k with rfl|hk
 ·rw[aC (by omega)];rfl
 ·exact(gI k k (Nat.le_refl _) hk).2.2.2
theorem yU {k:Nat}(h:k<1000000000000000000):Lib.parseMag (Lib.decDigits k)=.ok k:=by
 unfold Lib.parseMag
 rw[if_neg (xq k),vZ _ _ (nX k) (by rw[xW];omega),xW]
theorem Gi {n:Int}(h:iw n):Lib.atoiAll (Lib.itoa n)=.ok n:=by
 have h1:=h.1
 have h2:=h.2
 by_cases hn:n<0
 ·obtain⟨k,rfl⟩:∃k:Nat,n=-(k:Int):=⟨n.natAbs,by omega⟩
  rw[ql (by omega),Lib.atoiAll_minus,yU (by omega)]
  simp only[Lib.signed]
  rw[if_neg (by omega)]
 ·obtain⟨k,rfl⟩:∃k:Nat,n=(k:Int):=⟨n.toNat,by omega⟩
  rw[nZ]
  have hp:=yU (k:=k) (by omega)
  have hd:=nX k
  cases hk:Lib.decDigits k with
  |nil=>exact absurd hk (xq k)
  |cons c r=>
   have hc:=hd c (by rw[hk];exact List.mem_cons_self ..)
   rw[Lib.atoiAll_plain c r (by have:=hc.1;omega) (by have:=hc.1;omega),<- hk,hp]
   simp only[Lib.signless]
   rw[if_neg (by omega)]
theorem iH.atoi {l:List UInt8}{n:Int}(h:iH l n):Lib.atoiAll l=.ok n:=by rw[h.1];exact Gi h.2
theorem Hq (v:Int):Lib.trimPrefix (Lib.itoa v) [45]=Lib.decDigits v.natAbs:=by
 by_cases hn:v<0
 ·obtain⟨k,rfl⟩:∃k:Nat,v=-(k:Int):=⟨v.natAbs,by omega⟩
  rw[ql (by omega)]
  simp[Lib.trimPrefix,Lib.hasPrefix]
 ·obtain⟨k,rfl⟩:∃k:Nat,v=(k:Int):=⟨v.toNat,by omega⟩
  rw[nZ]
  have:=xg k
  unfold Lib.trimPrefix
  rw[if_neg]
  ·simp
  ·intro e
   cases hk:Lib.decDigits k with
   |nil=>exact xq k hk
   |cons c r=>
    rw[hk]at e this
    simp[Lib.hasPrefix]at e
    simp at this
    exact this e.symm
theorem I5 {v:Int}(h:(Lib.decDigits v.natAbs).length<=18):iw v:=by
 have h1:=ve (nX v.natAbs) h
 rw[xW]at h1
 exact⟨by omega,by omega⟩
theorem JZ {l:List UInt8}{v:Int}(hl:l=Lib.itoa v)(h:18<(Lib.decDigits v.natAbs).length)(n:Int):¬iH l n:=fun hn=>by
 have:=BO (hl.symm.trans hn.1)
 subst this
 have h1:=tJ (k:=v.natAbs) (by have:=hn.2.1;have:=hn.2.2;omega)
 omega
def NI (t:ByteArray)(e:Ending):Prop:=(∃v,Lib.atoiAll (bl t)=.ok v/\e=.returned (.tuple #[.int .i64 v,.nilIface]))∨((∀v,Lib.atoiAll (bl t)≠.ok v)/\∃n T p,e=.returned (.tuple #[.int .i64 n,.iface T p]))
theorem Dl (w:World)(t:TypeId)(s:ByteArray):Below w.heap.size w (Lib.bytesWorld w t s):=Lib.bytesWorld_below w t s
theorem Jh (t:ByteArray)(w:World)(ht:t.size<=100000){u:TypeId}{pv:Value}(henv:vU w u pv) :
  Calls Tryz.prog 144 #[.string t] w fun e w'=>NI t e/\Below w.heap.size w w':=by
 cases h:Lib.atoiAll (bl t)with
 |ok v=>
  refine(Tryz.strconv_Atoi_ok t (by omega) v h w).mono ?_
  rintro e w' ⟨rfl,rfl|⟨s,rfl⟩⟩
  ·exact⟨.inl ⟨v,h,rfl⟩,Below.refl _ _⟩
  ·exact⟨.inl ⟨v,h,rfl⟩,Dl _ _ _⟩
 |«syntax»=>
  obtain⟨t1,p1,h1⟩:=henv.syn
  refine(Tryz.strconv_Atoi_syntax t (by omega) h _ w h1 (.inr ⟨_,_,rfl⟩)).mono ?_
  rintro e w' ⟨N,rfl,_,_,hb⟩
  exact⟨.inr ⟨fun v hv=>(by rw[h]at hv;cases hv),_,_,_,rfl⟩,hb⟩
 |range=>
  obtain⟨t1,p1,h1⟩:=henv.ran
  refine(Tryz.strconv_Atoi_range t (by omega) h _ w h1 (.inr ⟨_,_,rfl⟩)).mono ?_
  rintro e w' ⟨N,rfl,_,_,hb⟩
  exact⟨.inr ⟨fun v hv=>(by rw[h]at hv;cases hv),_,_,_,rfl⟩,hb⟩
def NY (t:ByteArray)(u:TypeId)(pv:Value)(e:Ending):Prop:=(∃n,iH (bl t) n/\e=.returned (.int .i64 n))∨((∀n,¬iH (bl t) n)/\e=Jg u pv)
theorem JD (t:ByteArray)(w:World):Calls Tryz.prog 145 #[.string t,.string ⟨#[45]⟩] w fun e w'=>e=.returned (.string ⟨(Lib.trimPrefix (bl t) [45]).toArray⟩)/\w'=w:=Tryz.strings_TrimPrefix t ⟨#[45]⟩ w
set_option maxHeartbeats 1600000 in
theorem wQ (t:ByteArray)(w:World)(ht:t.size<=100000)(u:TypeId)(pv:Value)(henv:vU w u pv) :
  Calls Tryz.prog 97 #[.string t] w fun e w'=>NY t u pv e/\Below w.heap.size w w':=by
 have cA:=Jh t w ht henv
 go_enter Tryz.func97,Tryz.ntmps97
 go_wp2_with (go_at_call 144;refine cA.mono ?_)
 rintro e w1 ⟨⟨v,hv,rfl⟩|⟨hno,n,T,p,rfl⟩,b1⟩
 ·have hbv:=Lib.atoiAll_bounds hv
  have hb0:=hbv.1
  have hb1:=hbv.2
  have e1:=henv.below b1
  have cI:=zK v w1 hb0 hb1 e1.tab
  obtain⟨D,hD⟩:∃D:ByteArray,(⟨(Lib.itoa v).toArray⟩:ByteArray)=D:=⟨_,rfl⟩
  have HDL:Hid (bl D=Lib.itoa v):=by rw[Hid,<- hD];rfl
  have HV:Hid (Lib.atoiAll (bl t)=.ok v):=hv
  rw[hD]at cI
  clear hD hv hbv
  go_wp2_with (go_at_call 101;refine cI.mono ?_)
  rintro e w2 ⟨rfl,b2⟩
  have B2:Below w.heap.size w w2:=b1.trans (b2.mono b1.size)
  have e2:=henv.below B2
  by_cases hd:D=t
  ·have hb':(D.toList==t.toList)=true:=fM.2 hd
   have HT:Hid (bl t=Lib.itoa v):=by rw[Hid,<- hd];exact HDL.out
   clear hd
   have cT:∀q,Calls Tryz.prog 145 #[.string t,.string ⟨#[45]⟩] q fun e w'=>e=.returned (.string ⟨(Lib.decDigits v.natAbs).toArray⟩)/\w'=q:=fun q=>by
    have:=JD t q
    rwa [HT.out,Hq]at this
   obtain⟨S0,hS0⟩:∃S0:ByteArray,(⟨(Lib.decDigits v.natAbs).toArray⟩:ByteArray)=S0:=⟨_,rfl⟩
   have hsz:S0.size=(Lib.decDigits v.natAbs).length:=by
    rw[<- hS0]
    show(Lib.decDigits v.natAbs).toArray.size=_
    simp
   rw[hS0]at cT
   by_cases h18:S0.size<=18
   ·have HY:Hid (iH (bl t) v):=⟨HT.out,I5 (by omega)⟩
    have h18':(S0.size:Int)<=18:=by omega
    clear hsz hS0
    go_wp2_with (first|(go_at_call 39;refine(oq _).mono ?_;rintro e w3 ⟨rfl,rfl⟩)|(go_at_call 145;refine(cT _).mono ?_;rintro e w3 ⟨rfl,rfl⟩))
    go_ret
    exact⟨.inl ⟨v,HY.out,rfl⟩,B2⟩
   ·have HN:Hid (∀n,¬iH (bl t) n):=JZ HT.out (by omega)
    have hdec:decide ((S0.size:Int)<=18)=false:=by simp;omega
    clear hsz hS0
    go_wp2_with (first|(go_at_call 39;refine(oq _).mono ?_;rintro e w3 ⟨rfl,rfl⟩)|(go_at_call 145;refine(cT _).mono ?_;rintro e w3 ⟨rfl,rfl⟩))
    go_wp2_with (go_at_call 39;refine(oD u pv _ e2.giv).mono ?_;rintro e w3 ⟨rfl,rfl⟩)
    exact⟨rfl,.inr ⟨HN.out,rfl⟩,B2⟩
  ·have hb':(D.toList==t.toList)=false:=bg.2 hd
   have HN:Hid (∀n,¬iH (bl t) n):=fun n hn=>hd (gW (by
    have:=hn.atoi
    rw[HV.out]at this
    have e:v=n:=by simpa using this
    show bl D=bl t
    rw[HDL.out,hn.1,e]))
   go_wp2_with (go_at_call 39;refine(oD u pv _ e2.giv).mono ?_;rintro e w3 ⟨rfl,rfl⟩)
   exact⟨rfl,.inr ⟨HN.out,rfl⟩,B2⟩
 ·have HN:Hid (∀n,¬iH (bl t) n):=fun n hn=>hno n hn.atoi
  have e1:=henv.below b1
  clear hno
  go_wp2_with (go_at_call 39;refine(oD u pv _ e1.giv).mono ?_;rintro e w3 ⟨rfl,rfl⟩)
  exact⟨rfl,.inr ⟨HN.out,rfl⟩,b1⟩
theorem xK {ws:List ByteArray}(h1:ws.length<=3001)(h2:∀x∈ws,x.size<=3000):(Lib.join (ws.map bl) [32]).length<=100000000:=by
 have:=FN (K:=3000) (xs:=ws.map bl) (fun x hx=>by obtain⟨y,hy,rfl⟩:=List.mem_map.1 hx;rw[ak];exact h2 y hy)
 rw[List.length_map]at this
 have h3:ws.length*3000<=3001*3000:=Nat.mul_le_mul_right _ h1
 omega
theorem zu (a:Option Addr)(cap:Nat)(ws:List ByteArray)(w:World)(hw:AP w a cap ws) :
  Calls Tryz.prog 147 #[.slice a ws.length cap,.string ⟨#[32]⟩] w fun e w'=>e=.returned (.string ⟨(Lib.join (ws.map bl) [32]).toArray⟩)/\Below w.heap.size w w':=by
 by_cases h0:ws=[]
 ·subst h0
  refine(Tryz.strings_Join_none a cap ⟨#[32]⟩ w).mono ?_
  rintro e w' ⟨rfl,rfl⟩
  exact⟨rfl,Below.refl _ _⟩
 ·have hp:0<ws.length:=List.length_pos_iff.2 h0
  obtain⟨b,o,rfl,hlt,_⟩:=hw.row 0 hp
  exact Tryz.strings_Join b o cap ws ⟨#[32]⟩ w (fun j x hx=>by
   obtain⟨hj,rfl⟩:=List.getElem?_eq_some_iff.1 hx
   obtain⟨b',o',e,_,c⟩:=hw.row j hj
   obtain⟨rfl,rfl⟩:b=b'/\o=o':=by simpa using e
   exact c) hlt (by have:=hw.few;omega) hw.room (by have:=xK hw.few hw.short;exact Nat.le_trans this (by decide))
theorem zG {w:World}{B:Nat}{v:Value}{l:List (ByteArray×Int)}(h:az w B v l):∃a cap,v=.slice a l.length cap/\Row w a l/\l.length<=cap:=by
 rcases id h with⟨hl,h1|⟨g,cap,cur,hv,hg,hh,hn,r⟩⟩
 ·obtain⟨a,c,e,hr⟩:=h.shape
  refine⟨a,c,e,hr, ?_⟩
  rw[h1.2];exact Nat.zero_le _
 ·obtain⟨a,c,e,hr⟩:=h.shape
  refine⟨a,c,e,hr, ?_⟩
  rw[hv]at e
  have:some ⟨g,0,none⟩=a/\cap=c:=by simpa using e
  omega
def NV (w w':World)(ws:List ByteArray)(u:TypeId)(pv:Value)(e:Ending):Prop:=
 (∃aa ca m,kF ws m/\e=.returned (.slice aa (List.length m) ca)/\Safe w' w.heap.size w'.heap.size aa m/\m.length<=ca)∨((∀m,¬kF ws m)/\e=Jg u pv)
theorem F9 {w:World}{B:Nat}{v:Value}{l:List (ByteArray×Int)}(h:az w B v l):∃a cap,v=.slice a l.length cap/\Safe w B w.heap.size a l/\l.length<=cap:=by
 obtain⟨a,c,e,_,hc⟩:=zG h
 refine⟨a,c,e, ?_,hc⟩
 rcases h.form with⟨_,rfl⟩|⟨g,cap,hv,hB,ho⟩
 ·exact .inl rfl
 ·rw[hv]at e
  have:(some ⟨g,0,Option.none⟩:Option Addr)=a/\cap=c:=by simpa using e
  exact .inr ⟨g,this.1.symm,hB,ho.lt,ho⟩
theorem Eb {w:World}{lo hi lo' hi':Nat}{a:Option Addr}{m:List (ByteArray×Int)}(h:Safe w lo hi a m)(h1:lo'<=lo)(h2:hi<=hi'):Safe w lo' hi' a m:=by
 rcases h with h|⟨g,e,g1,g2,ho⟩
 ·exact .inl h
 ·exact .inr ⟨g,e,by omega,by omega,ho⟩
set_option maxHeartbeats 800000 in
theorem wY (a:Option Addr)(cap:Nat)(ws:List ByteArray)(w:World)(hw:AP w a cap ws)(u:TypeId)(pv:Value)(henv:vU w u pv) :
  Calls Tryz.prog 98 #[.slice a ws.length cap] w fun e w'=>NV w w' ws u pv e/\Below w.heap.size w w':=by
 have cJ:=zu a cap ws w hw
 have hjl:=xK hw.few hw.short
 obtain⟨t,ht⟩:∃t:ByteArray,(⟨(Lib.join (ws.map bl) [32]).toArray⟩:ByteArray)=t:=⟨_,rfl⟩
 have HB:Hid (bl t=Lib.join (ws.map bl) [32]):=by rw[Hid,<- ht];rfl
 have hts:t.size<=1000000000:=by have h:=ak t;rw[HB.out]at h;omega
 have HA:Hid (∀m,Acc t m↔kF ws m):=zS hw.free HB.out
 rw[ht]at cJ
 clear ht hjl
 go_enter Tryz.func98,Tryz.ntmps98
 go_wp2_with (go_at_call 147;refine cJ.mono ?_;rintro e w1 ⟨rfl,b1⟩)
 refine(qW t _ hts).mono ?_
 rintro e w2 ⟨⟨v,m,ok,rfl,hg,hR⟩,b2⟩
 obtain⟨aa,ca,rfl,hrow,hca⟩:=F9 hg
 have B2:Below w.heap.size w w2:=b1.trans (b2.mono b1.size)
 have e2:=henv.below B2
 rcases hR with⟨rfl,hR⟩|⟨rfl,rfl,hR⟩
 ·have HY:Hid (kF ws m):=(HA.out m).1 hR
  clear hR
  go_wp2_with (go_at_call 39;refine(oq _).mono ?_;rintro e w3 ⟨rfl,rfl⟩)
  go_ret
  exact⟨.inl ⟨aa,ca,m,HY.out,rfl,Eb hrow b1.size (Nat.le_refl _),hca⟩,B2⟩
 ·have HN:Hid (∀m,¬kF ws m):=fun m h=>hR m ((HA.out m).2 h)
  clear hR
  go_wp2_with (go_at_call 39;refine(oD u pv _ e2.giv).mono ?_;rintro e w3 ⟨rfl,rfl⟩)
  exact⟨rfl,.inr ⟨HN.out,rfl⟩,B2⟩
theorem AP.drop {w:World}{b o cap k:Nat}{r:List ByteArray}{q:Option Addr}(h:AP w (some ⟨b,o,none⟩) cap r)(hq:q=some ⟨b,o+k,none⟩∨r.length<=k):AP w q (cap-k) (r.drop k):=by
 refine⟨?_,by have:=h.few;rw[List.length_drop];omega,fun u hu=>h.short u (List.mem_of_mem_drop hu),by have:=h.room;rw[List.length_drop];omega,by have:=h.room2;omega,fun u hu=>h.free u (List.mem_of_mem_drop hu)⟩
 rcases hq with rfl|hk
 ·exact h.row.drop k
 ·rw[List.drop_eq_nil_iff.2 hk];exact DD _ _
end Go.Proofs.YtpfhegengmlkmabGreatDoor
