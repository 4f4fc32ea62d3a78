/- Texts of this claim. -/
import Derived.Test.YtpfhegengmlkmabGreatDoorZu25
import Derived.Test.YtpfhegengmlkmabGreatDoorZu27
import Derived.Test.YtpfhegengmlkmabGreatDoorZu30
namespace Go.Proofs.YtpfhegengmlkmabGreatDoor
open Go.RowKit Go.BigFrame
set_option maxRecDepth 100000
structure YW (w:World) (lo hi t:Nat) (L:List aS):Prop where
 lt:t<w.heap.size
 cell:∀k,(h:k<L.length)->w.cell? ⟨t,k,none⟩=some L[k].v
 at_:∀p∈L,∃a c,p.v=.slice a p.l.length c/\p.l.length<=c/\jH w p.lo p.hi a p.l
 far:∀p∈L,t<p.lo∨p.hi<=t
 in_:∀p∈L,lo<=p.lo/\p.lo<=p.hi/\p.hi<=hi
 dis:L.Pairwise fun p q=>p.hi<=q.lo∨q.hi<=p.lo
theorem YW.below {w w':World}{lo hi t:Nat}{L:List aS}(h:YW w lo hi t L)(hb:Below w.heap.size w w'):YW w' lo hi t L:=
 ⟨Nat.lt_of_lt_of_le h.lt hb.size,fun k hk=>ae hb h.lt (h.cell k hk),fun p hp=>by obtain⟨a,c,h1,h2,h3⟩:=h.at_ p hp;exact⟨a,c,h1,h2,h3.below hb⟩,h.far,h.in_,h.dis⟩
theorem YW.row {w:World}{lo hi t:Nat}{L:List aS}(h:YW w lo hi t L):iF w (some ⟨t,0,none⟩) (L.map (·.l)):=fun k hk=>by
 have hk':k<L.length:=by simpa using hk
 obtain⟨a,c,h1,h2,h3⟩:=h.at_ L[k] (List.getElem_mem hk')
 exact⟨t,0,rfl,h.lt,a,c,by rw[Nat.zero_add,h.cell k hk',h1];simp,by simpa using h2,by simpa using h3.row⟩
theorem own_ne {w:World}{B e size n q:Nat}{v:Value}{xs:List Value}(h:w.ownsRow B e size v n xs)(hq:v.ownBlock≠some q)(i:Nat)(z:Value):(w.setCell ⟨q,i,none⟩ z).ownsRow B e size v n xs:=by
 obtain⟨hl,h|⟨g,cap,cur,hv,hgB,hh,r⟩⟩:=h
 ·exact⟨hl,.inl h⟩
 ·refine⟨hl,.inr ⟨g,cap,cur,hv,hgB,(Below.heap_setCell _ _ _ _ ?_).trans hh,r⟩⟩
  intro e
  exact hq (by rw[hv];simp only at e;rw[e];rfl)
theorem ed.lower {w:World}{B B':Nat}{v:Value}{L:List aS}(h:ed w B v L)(hB:B'<=B):ed w B' v L:=⟨Ia h.own hB,fun p hp=>⟨(h.at_ p hp).1,Nat.le_trans hB (h.at_ p hp).2.1,(h.at_ p hp).2.2⟩,h.far,h.dis⟩
theorem wV (n:Nat):List.replicate n ([]:List af)++[[]]=List.replicate (n+1) []:=by rw[List.replicate_succ']
set_option maxHeartbeats 3200000 in
theorem xI (a:Option Addr)(cap:Nat)(ins:List ByteArray)(w:World)(hl:ins.length<=1048576)(hr:dQ w a ins)(hs:∀j,(h:j<ins.length)->ins[j].size<=maxLen) :
  Calls Tryz.prog 5 #[.slice a ins.length cap] w fun e w'=>IC w w' ins e/\Below w.heap.size w w':=by
 have hb0:Below w.heap.size w (w.alloc (.cells #[.slice none 0 0,.slice none 0 0,.slice none 0 0] 30)):=(Below.refl _ _).alloc (Nat.le_refl _) _
 have tR:=aQ w (.slice none 0 0) (.slice none 0 0) (.slice none 0 0) 30
 go_enter Tryz.func5,Tryz.ntmps5
 go_wp2_with fail
 generalize w.alloc (.cells #[.slice none 0 0,.slice none 0 0,.slice none 0 0] 30)=W0 at *
 refine(zl a cap ins _ hl (hr.below hb0) hs).mono ?_
 rintro e w1 ⟨⟨r,rfl,hr1⟩,b1⟩
 have HR:Hid (r=true↔fG ins):=hr1
 clear hr1
 have B1:Below w.heap.size w w1:=hb0.trans (b1.mono hb0.size)
 replace tR:=tR.keep b1
 cases r with
 |false=>
  have HN:Hid (¬fG ins):=fun h=>by have:=HR.out.2 h;simp at this
  obtain⟨r0,r1,r2,f0,f1,f2⟩:=id tR
  go_wp2_with fail
  have e0:(((w1.setCell ⟨w.heap.size,0,none⟩ (.slice none 0 0)).setCell ⟨w.heap.size,1,none⟩ (.slice none 0 0)).setCell ⟨w.heap.size,2,none⟩ (.slice none 0 0)).cell? ⟨w.heap.size,0,none⟩=some (.slice none 0 0):=by simp[go_sem,r0]
  have e1:(((w1.setCell ⟨w.heap.size,0,none⟩ (.slice none 0 0)).setCell ⟨w.heap.size,1,none⟩ (.slice none 0 0)).setCell ⟨w.heap.size,2,none⟩ (.slice none 0 0)).cell? ⟨w.heap.size,1,none⟩=some (.slice none 0 0):=by simp[go_sem,r1]
  have e2:(((w1.setCell ⟨w.heap.size,0,none⟩ (.slice none 0 0)).setCell ⟨w.heap.size,1,none⟩ (.slice none 0 0)).setCell ⟨w.heap.size,2,none⟩ (.slice none 0 0)).cell? ⟨w.heap.size,2,none⟩=some (.slice none 0 0):=by simp[go_sem,r2]
  exact bodyPost_ret (v:=.tuple #[.agg #[.slice none 0 0,.slice none 0 0,.slice none 0 0],.bool false]) (by simp[results,Tryz.results5,go_sem,e0,e1,e2]) rfl ⟨.inr ⟨rfl,HN.out⟩,((B1.setCell (Nat.le_refl _) _).setCell (Nat.le_refl _) _).setCell (Nat.le_refl _) _⟩
 |true=>
  have HP:Hid (fG ins):=HR.out.1 rfl
  clear HR
  have h1:=HP.out.1
  have h6:=HP.out.2.1
  obtain⟨bn,on,rfl,hbn,_⟩:=hr 0 (by omega)
  obtain⟨i0,hi,hz0,hz1,hz2⟩:=info_parts Tryz.infoS
  have bE:Below w1.heap.size w1 (w1.alloc (.cells #[] 9)):=(Below.refl _ _).alloc (Nat.le_refl _) _
  have BE:Below w.heap.size w (w1.alloc (.cells #[] 9)):=B1.trans (bE.mono B1.size)
  have hnews:∀j u,(ins.map Value.string)[j]?=some u->(w1.alloc (.cells #[] 9)).cell? ((⟨bn,on,none⟩:Addr).add j)=some u:=fun j u hj=>by
   have hj':j<ins.length:=by
    rcases Nat.lt_or_ge j ins.length with h|h
    ·exact h
    ·rw[List.getElem?_eq_none (by simpa using h)]at hj;cases hj
   obtain⟨b,o,e,_,hc⟩:=hr.below BE j hj'
   cases e
   have ea:(⟨bn,on,none⟩:Addr).add j=⟨bn,on+j,none⟩:=by unfold Addr.add;split <;> simp_all
   rw[ea,hc]
   simpa[hj']using hj
  have hown0:(w1.alloc (.cells #[] 9)).ownsRow w1.heap.size 9 1 (.slice (some ⟨w1.heap.size,0,none⟩) 0 0) 0 []:=⟨rfl,.inr ⟨w1.heap.size,0,#[],rfl,Nat.le_refl _,heap_alloc_new w1 _,Nat.le_refl _,Nat.zero_le _,rfl,rfl⟩⟩
  go_wp2_with (first|(at_builtin;refine wpList_append_lies _ rfl _ _ 23 rfl w1.heap.size 9 i0 (.string .empty) 1 16 Tryz.underlying23 hi hz0 hz1 hz2 rfl (by decide) _ 0 [] rfl hown0 ⟨bn,on,none⟩ ins.length cap (ins.map Value.string) rfl (by simp) hnews (by simp[Value.oneCell']) (by omega) (by unfold maxLen;omega) (by omega) (by simp) _ rfl ?_;intro g3 c3 w3 hown3 hgr3 _ _))
  simp only[Nat.zero_add,List.nil_append]at hown3 ⊢
  have hgs3:aI w3 w1.heap.size (.slice (some ⟨g3,0,none⟩) ins.length c3) ins:=hown3
  have b3:Below w1.heap.size w1 w3:=bE.grown hgr3 (by simp) (fun q hq=>by cases hq;exact Nat.le_refl _)
  have hg3:g3<w3.heap.size:=by have:=World.ownsRow.lt hown3 g3 rfl;exact this.2
  have bT:Below w3.heap.size w3 (w3.alloc (.cells #[.slice (some ⟨g3,0,none⟩) ins.length c3,.slice none 0 0,.slice none 0 0] 30)):=(Below.refl _ _).alloc (Nat.le_refl _) _
  have tT:=aQ w3 (.slice (some ⟨g3,0,none⟩) ins.length c3) (.slice none 0 0) (.slice none 0 0) 30
  have tR3:=(tR.keep b3).keep bT
  have hgsT:=hgs3.keep bT
  have B3:Below w.heap.size w w3:=B1.trans (b3.mono B1.size)
  have BT:Below w.heap.size w (w3.alloc (.cells #[.slice (some ⟨g3,0,none⟩) ins.length c3,.slice none 0 0,.slice none 0 0] 30)):=B3.trans (bT.mono B3.size)
  have zR:w.heap.size<w1.heap.size:=block_lt_of_cell tR.c0
  have z13:=b3.size
  clear hown3 hgr3 hown0 hnews bE BE
  go_wp2_with fail
  generalize w3.alloc (.cells #[.slice (some ⟨g3,0,none⟩) ins.length c3,.slice none 0 0,.slice none 0 0] 30)=WT at *
  have zT:w3.heap.size<WT.heap.size:=block_lt_of_cell tT.c0
  go_loopw [5] (fun i wr=>∃(k:Nat) (vw:Value) (L:List aS),k<=ins.length/\i=.int .i64 k/\ed wr (w3.heap.size+1) vw L/\Hid (L.map (·.l)=List.replicate k [])/\aI wr w1.heap.size (.slice (some ⟨g3,0,none⟩) ins.length c3) ins/\iy wr w.heap.size (.slice none 0 0) (.slice none 0 0) (.slice none 0 0)/\iy wr w3.heap.size (.slice (some ⟨g3,0,none⟩) ins.length c3) vw (.slice none 0 0)/\w3.heap.size+1<=wr.heap.size/\Below w.heap.size w wr) (fun i _=>ins.length-(intOf i).toNat)
  case atStart=>exact⟨0,_,[],Nat.zero_le _,rfl,qg _ _,by simp[Hid],hgsT,tR3,tT,zT,BT⟩
  case round=>
   clear tT tR3 hgsT BT
   obtain⟨k,vw,L,hk,rfl,hgy,HL,hgs,tR',tT,hsz,hbl⟩:=hrel
   have zz:=hbl.size
   by_cases hlt:k<ins.length
   ·have k0:(0:Int)<=(k:Int):=by omega
    have k1:(k:Int)<(ins.length:Int):=by omega
    have q0:=tT.c1
    have hbx:Below wr.heap.size wr (wr.alloc (.cells #[.slice none 0 0] 129)):=(Below.refl _ _).alloc (Nat.le_refl _) _
    have hlL:L.length<=1048576:=by have:=congrArg List.length HL.out;rw[List.length_map,List.length_replicate]at this;omega
    have hin:(aS.mk [] (.slice none 0 0) wr.heap.size wr.heap.size).In (wr.alloc (.cells #[.slice none 0 0] 129)) (w3.heap.size+1):=⟨⟨none,0,rfl,Nat.le_refl _,.inl rfl⟩,hsz,Nat.le_refl _,hbx.size⟩
    have hfar:∀q,q<w3.heap.size+1->some q≠vw.ownBlock:=fun q hq e=>by have:=aT hgy.own q e.symm;omega
    go_wp2_with (first|(at_builtin;refine wpList_plain rfl (fun K hK=>?_);refine kX _ _ rfl (w3.heap.size+1) vw L rfl (hgy.keep hbx) (by have:=hbx.size;omega) wr.heap.size (aS.mk [] (.slice none 0 0) wr.heap.size wr.heap.size) (fun q hq=>(hgy.at_ q hq).2.2.2) hin (fun q hq=>.inl (World.ownsRow.lt hgy.own q hq).2) rfl (by simp[go_sem]) hlL ?_;intro vw' w5 hgy5 hgr5 hloc5;obtain⟨vwa,vwc,rfl,_,_⟩:=hgy5.row;have tT5:=(tT.keep hbx).grown hgr5 (hfar _ (by omega));have q5:=tT5.c1;have q6:=tT5.f1;refine hK _ _ ?_))
    have tR5:=(tR'.keep hbx).grown hgr5 (hfar _ (by omega))
    have hgs5:aI w5 w1.heap.size (.slice (some ⟨g3,0,none⟩) ins.length c3) ins:=World.ownsRow.kept (hgs.keep hbx) hgr5 (dm (show World.ownsRow _ _ _ _ _ _ _ from hgs) hgy.own jY)
    have B5:Below w.heap.size w w5:=(hbl.trans (hbx.mono hbl.size)).grown hgr5 (by have:=hbx.size;omega) (fun q hq=>by have:=aT hgy.own q hq;omega)
    have z5:=hgr5.size
    have z6:=hbx.size
    have HL5:Hid ((L++[aS.mk [] (.slice none 0 0) wr.heap.size wr.heap.size]).map (·.l)=List.replicate (k+1) []):=by
     unfold Hid
     rw[List.map_append,HL.out]
     exact wV k
    simp only[List.length_append,List.length_cons,List.length_nil,Nat.zero_add]at hgy5
    exact⟨⟨k+1,_,_,by omega,by go_num,hgy5.set (by omega) 1 _,HL5,own_ne hgs5 (by simp[Value.ownBlock];omega) 1 _,tR5.far (by omega) 1 _,tT5.set1 _,by simp only[World.size_setCell];omega,B5.setCell (by simp only;omega) _⟩,by simp[intOf];omega⟩
   ·obtain rfl:k=ins.length:=by omega
    obtain⟨d0,d1,d2,_,_,_⟩:=id tT
    obtain⟨r0,r1,r2,f0,f1,f2⟩:=id tR'
    obtain⟨swa,swc,rfl,_,_⟩:=hgy.row
    go_wp2_with fail
    have e0:(((wr.setCell ⟨w.heap.size,0,none⟩ (.slice (some ⟨g3,0,none⟩) ins.length c3)).setCell ⟨w.heap.size,1,none⟩ (.slice swa L.length swc)).setCell ⟨w.heap.size,2,none⟩ (.slice none 0 0)).cell? ⟨w.heap.size,0,none⟩=some (.slice (some ⟨g3,0,none⟩) ins.length c3):=by simp[go_sem,r0]
    have e1:(((wr.setCell ⟨w.heap.size,0,none⟩ (.slice (some ⟨g3,0,none⟩) ins.length c3)).setCell ⟨w.heap.size,1,none⟩ (.slice swa L.length swc)).setCell ⟨w.heap.size,2,none⟩ (.slice none 0 0)).cell? ⟨w.heap.size,1,none⟩=some (.slice swa L.length swc):=by simp[go_sem,r1]
    have e2:(((wr.setCell ⟨w.heap.size,0,none⟩ (.slice (some ⟨g3,0,none⟩) ins.length c3)).setCell ⟨w.heap.size,1,none⟩ (.slice swa L.length swc)).setCell ⟨w.heap.size,2,none⟩ (.slice none 0 0)).cell? ⟨w.heap.size,2,none⟩=some (.slice none 0 0):=by simp[go_sem,r2]
    have g1:aI (((wr.setCell ⟨w.heap.size,0,none⟩ (.slice (some ⟨g3,0,none⟩) ins.length c3)).setCell ⟨w.heap.size,1,none⟩ (.slice swa L.length swc)).setCell ⟨w.heap.size,2,none⟩ (.slice none 0 0)) w1.heap.size (.slice (some ⟨g3,0,none⟩) ins.length c3) ins:=df (df (df (show World.ownsRow _ _ _ _ _ _ _ from hgs) zR 0 _) zR 1 _) zR 2 _
    have g2:=(((hgy.lower (show w1.heap.size<=w3.heap.size+1 by omega)).set zR 0 (.slice (some ⟨g3,0,none⟩) ins.length c3)).set zR 1 (.slice swa L.length swc)).set zR 2 (.slice none 0 0)
    exact bodyPost_ret (v:=.tuple #[.agg #[.slice (some ⟨g3,0,none⟩) ins.length c3,.slice swa L.length swc,.slice none 0 0],.bool true]) (by simp[results,Tryz.results5,go_sem,e0,e1,e2]) rfl ⟨.inl ⟨w1.heap.size,_,_,L,_,by omega,rfl,HP.out,g1,g2,HL.out,⟨_,_,rfl⟩⟩,((hbl.setCell (Nat.le_refl _) _).setCell (Nat.le_refl _) _).setCell (Nat.le_refl _) _⟩
def Lj (w:World)(g n:Nat):Prop:=∃m f,w.rowIs g 129 m f/\n<=m/\∀j,j<n->∃s c,f j=.slice s 0 c
theorem Lj.lt {w:World}{g n:Nat}(h:Lj w g n):g<w.heap.size:=by
 obtain⟨m,f,h,_⟩:=h
 exact h.lt
theorem ed.block {w:World}{B n:Nat}{v:Value}{L:List aS}(h:ed w B v L)(hL:L.map (·.l)=List.replicate n [])(h0:0<n):∃g c,v=.slice (some ⟨g,0,none⟩) n c/\B<=g/\Lj w g n:=by
 have hn:L.length=n:=by have:=congrArg List.length hL;simpa using this
 rcases h.own.2 with⟨_,e⟩|⟨g,cap,cur,e,hB,hh,hnc,hc,hs,ht⟩
 ·omega
 ·refine⟨g,cap,by rw[<- hn];exact e,hB,cap*1,fun i=>(cur[i]?).getD undef,⟨cur,hh,hs,fun i hi=>?_⟩,by omega,fun k hk=>?_⟩
  ·have hi':i<cur.size:=by omega
   simp[Array.getElem?_eq_getElem hi']
  ·have hk':k<L.length:=by omega
   obtain⟨⟨a,c,e2,_⟩,_⟩:=h.at_ L[k] (List.getElem_mem hk')
   have e3:L[k].l=[]:=by
    have h4:(L.map (·.l))[k]?=some []:=by rw[hL];simp[hk]
    simpa[hk']using h4
   have h2:(L.map (·.v))[k]?=some L[k].v:=by simp[hk']
   rw[<- ht,List.getElem?_take_of_lt (by simp;omega)]at h2
   simp only[Array.getElem?_toList]at h2
   refine⟨a,c, ?_⟩
   simp only[h2,Option.getD_some]
   rw[e2,e3]
   rfl
def IY (w:World)(lo hi:Nat)(a0 a1:Option Addr)(nm:List ByteArray):Prop:=nm=[]∨∃g t,a0=some ⟨g,0,none⟩/\a1=some ⟨t,0,none⟩/\lo<=g/\g<hi/\lo<=t/\t<hi/\g≠t/\pq w g nm/\Lj w t nm.length
def MV (ins nm:List ByteArray)(ok:Bool):Prop:=(ok=true/\fG ins/\nm=ins)∨(ok=false/\¬fG ins/\nm=[])
theorem IC.safe {w w':World}{ins:List ByteArray}{e:Ending}(h:IC w w' ins e):∃nm ok a0 c0 a1 c1 a2 c2,e=.returned (.tuple #[.agg #[.slice a0 nm.length c0,.slice a1 nm.length c1,.slice a2 0 c2],.bool ok])/\MV ins nm ok/\IY w' w.heap.size w'.heap.size a0 a1 nm:=by
 rcases h with⟨B,v0,v1,L,v2,hB,rfl,hp,h1,h2,h3,⟨a2,c2,rfl⟩⟩|⟨rfl,hp⟩
 ·have hpos:0<ins.length:=hp.1
  obtain⟨g,c,rfl,hg,hs⟩:=h1.block hpos
  obtain⟨t,c',rfl,ht,hw⟩:=h2.block h3 hpos
  have hne:g≠t:=fun e=>by
   have hx:=dm (show World.ownsRow _ _ _ _ _ _ _ from h1) h2.own jY
   rcases hx with hx|hx
   ·simp[Value.ownBlock]at hx
   ·exact hx (by rw[e];rfl)
  exact⟨ins,true,_,c,_,c',a2,c2,rfl,.inl ⟨rfl,hp,rfl⟩,.inr ⟨g,t,rfl,rfl,by omega,hs.lt,by omega,hw.lt,hne,hs,hw⟩⟩
 ·exact⟨[],false,none,0,none,0,none,0,rfl,.inr ⟨rfl,hp,rfl⟩,.inl rfl⟩
theorem YW.span {w w':World}{lo hi t lo' hi':Nat}{L:List aS}(h:YW w lo hi t L)(hs:aJ lo' hi' w w')(ht:t<lo'∨hi'<=t)(hd:hi<=lo'∨hi'<=lo):YW w' lo hi t L:=
 ⟨Nat.lt_of_lt_of_le h.lt hs.size,fun k hk=>by rw[World.cell?_of_block (hs.block t h.lt ht)];exact h.cell k hk,fun p hp=>by
  obtain⟨a,c,h1,h2,h3⟩:=h.at_ p hp
  have:=h.in_ p hp
  exact⟨a,c,h1,h2,h3.span hs (by omega)⟩,h.far,h.in_,h.dis⟩
def NF (w:World)(lo hi b t:Nat)(a2:Option Addr)(L:List aS)(m:List (ByteArray×Int)):Prop:=m=[]∨∃s,a2=some ⟨s,0,none⟩/\lo<=s/\s<hi/\s≠b/\s≠t/\Own w s m/\∀p∈L,s<p.lo∨p.hi<=s
structure gz (w:World) (lo hi b t:Nat) (a2:Option Addr) (nm:List ByteArray) (L:List aS) (m:List (ByteArray×Int)):Prop where
 names:pq w b nm
 wins:YW w lo hi t L
 bt:b≠t
 bin:lo<=b/\b<hi
 tin:lo<=t/\t<hi
 bfar:∀p∈L,b<p.lo∨p.hi<=b
 stamp:NF w lo hi b t a2 L m
def iV (w:World)(lo hi:Nat)(a0 a1 a2:Option Addr)(nm:List ByteArray)(L:List aS)(m:List (ByteArray×Int)):Prop:=
 (nm=[]/\L=[]/\m=[])∨∃b t,a0=some ⟨b,0,none⟩/\a1=some ⟨t,0,none⟩/\gz w lo hi b t a2 nm L m
theorem NF.row {w:World}{lo hi b t:Nat}{a2:Option Addr}{L:List aS}{m:List (ByteArray×Int)}(h:NF w lo hi b t a2 L m):Row w a2 m:=by
 rcases h with rfl|⟨s,rfl,_,_,_,_,ho,_⟩
 ·exact fun k hk=>absurd hk (Nat.not_lt_zero k)
 ·exact ho.row
theorem iV.rows {w:World}{lo hi:Nat}{a0 a1 a2:Option Addr}{nm:List ByteArray}{L:List aS}{m:List (ByteArray×Int)}(h:iV w lo hi a0 a1 a2 nm L m):dQ w a0 nm/\iF w a1 (L.map (·.l))/\Row w a2 m:=by
 rcases h with⟨rfl,rfl,rfl⟩|⟨b,t,rfl,rfl,h⟩
 ·exact⟨fun k hk=>absurd hk (Nat.not_lt_zero k),fun k hk=>absurd hk (Nat.not_lt_zero k),fun k hk=>absurd hk (Nat.not_lt_zero k)⟩
 ·exact⟨h.names.row,h.wins.row,h.stamp.row⟩
theorem gz.below {w w':World}{lo hi b t:Nat}{a2:Option Addr}{nm:List ByteArray}{L:List aS}{m:List (ByteArray×Int)}(h:gz w lo hi b t a2 nm L m)(hb:Below w.heap.size w w'):gz w' lo hi b t a2 nm L m:=
 ⟨h.names.below hb,h.wins.below hb,h.bt,h.bin,h.tin,h.bfar,by
  rcases h.stamp with e|⟨s,e,h1,h2,h3,h4,h5,h6⟩
  ·exact .inl e
  ·exact .inr ⟨s,e,h1,h2,h3,h4,h5.below hb,h6⟩⟩
theorem gz.span {w w':World}{lo hi b t lo' hi':Nat}{a2:Option Addr}{nm:List ByteArray}{L:List aS}{m:List (ByteArray×Int)}(h:gz w lo hi b t a2 nm L m)(hs:aJ lo' hi' w w')(hd:hi<=lo'∨hi'<=lo):gz w' lo hi b t a2 nm L m:=
 ⟨h.names.span hs (by have:=h.bin;omega),h.wins.span hs (by have:=h.tin;omega) hd,h.bt,h.bin,h.tin,h.bfar,by
  rcases h.stamp with e|⟨s,e,h1,h2,h3,h4,h5,h6⟩
  ·exact .inl e
  ·obtain⟨mm,f,h7,hf⟩:=id h5
   exact .inr ⟨s,e,h1,h2,h3,h4,⟨mm,f,h7.of_block (hs.block s h5.lt (by omega)),hf⟩,h6⟩⟩
theorem iV.below {w w':World}{lo hi:Nat}{a0 a1 a2:Option Addr}{nm:List ByteArray}{L:List aS}{m:List (ByteArray×Int)}(h:iV w lo hi a0 a1 a2 nm L m)(hb:Below w.heap.size w w'):iV w' lo hi a0 a1 a2 nm L m:=by
 rcases h with h|⟨b,t,e1,e2,h⟩
 ·exact .inl h
 ·exact .inr ⟨b,t,e1,e2,h.below hb⟩
theorem iV.span {w w':World}{lo hi lo' hi':Nat}{a0 a1 a2:Option Addr}{nm:List ByteArray}{L:List aS}{m:List (ByteArray×Int)}(h:iV w lo hi a0 a1 a2 nm L m)(hs:aJ lo' hi' w w')(hd:hi<=lo'∨hi'<=lo):iV w' lo hi a0 a1 a2 nm L m:=by
 rcases h with h|⟨b,t,e1,e2,h⟩
 ·exact .inl h
 ·exact .inr ⟨b,t,e1,e2,h.span hs hd⟩
abbrev ry:=List Int×List (ByteArray×Int)
def NJ (l:List ry):Prop:=∀p∈l,p.1.length<=6/\p.2.length<=12
structure jO where
 vals:List Int
 st:List (ByteArray×Int)
 a1:Option Addr
 c1:Nat
 a2:Option Addr
 c2:Nat
 lo:Nat
 mid:Nat
 mi2:Nat
 hi:Nat
abbrev jO.sv (p:jO):ry:=(p.vals,p.st)
structure jO.In (w:World) (p:jO):Prop where
 z:kL w p.lo p.mid p.a1 p.vals
 s:Safe w p.mi2 p.hi p.a2 p.st
 o1:p.lo<=p.mid
 o2:p.mid<=p.hi
 o3:p.hi<=w.heap.size
 o4:p.lo<=p.mi2
 o5:p.mi2<=p.hi
theorem jO.In.below {w w':World}{p:jO}(h:p.In w)(hb:Below w.heap.size w w'):p.In w':=⟨h.z.below hb,h.s.below hb,h.o1,h.o2,Nat.le_trans h.o3 hb.size,h.o4,h.o5⟩
theorem jO.In.span {w w':World}{p:jO}{lo hi:Nat}(h:p.In w)(hs:aJ lo hi w w')(hd:p.hi<=lo∨hi<=p.lo):p.In w':=
 ⟨h.z.span hs (by have:=h.o1;have:=h.o2;omega),h.s.span hs (by have:=h.o4;have:=h.o5;omega),h.o1,h.o2,Nat.le_trans h.o3 hs.size,h.o4,h.o5⟩
structure HW (w:World) (lo hi t:Nat) (L:List jO):Prop where
 lt:t<w.heap.size
 cell:∀k,(h:k<L.length)->w.cell? ⟨t,k*2,none⟩=some (.slice L[k].a1 L[k].vals.length L[k].c1)/\w.cell? ⟨t,k*2+1,none⟩=some (.slice L[k].a2 L[k].st.length L[k].c2)
 at_:∀p∈L,p.In w
 far:∀p∈L,t<p.lo∨p.hi<=t
 in_:∀p∈L,lo<=p.lo/\p.hi<=hi
 dis:L.Pairwise fun p q=>p.hi<=q.lo∨q.hi<=p.lo
theorem ed.blockY {w:World}{B:Nat}{v:Value}{L:List aS}(h:ed w B v L)(h0:0<L.length):∃t c,v=.slice (some ⟨t,0,none⟩) L.length c/\L.length<=c/\B<=t/\t<w.heap.size/\(∀k,(h:k<L.length)->w.cell? ⟨t,k,none⟩=some L[k].v)/\(∀k,w.frozen? ⟨t,k,none⟩=false)/\∀p∈L,t<p.lo∨p.hi<=t:=by
 rcases h.own.2 with⟨_,e⟩|⟨g,cap,cur,rfl,hB,hh,hn,hc,hs,ht⟩
 ·omega
 ·have hlt:g<w.heap.size:=(Array.getElem?_eq_some_iff.1 hh).1
  refine⟨g,cap,rfl,hn,hB,hlt,fun k hk=>?_,fun k=>?_,fun p hp=>h.far p hp g rfl⟩
  ·have:=World.ownsRow.cellAt h.own k (by omega)
   rw[this]
   simp[hk]
  ·simp[World.frozen?,hh]
theorem MF.full {w w':World}{g:aB}{e:Ending}(h:MF w w' g e)(h1:1<=g.ins.length)(hlen:g.wins.length=g.ins.length):∃b t c0 c1 gm cm L,e=.returned (.agg #[.slice (some ⟨b,0,none⟩) g.ins.length c0,.slice (some ⟨t,0,none⟩) L.length c1,.slice (some ⟨gm,0,none⟩) g.shown.length cm]) /\
  gz w' w.heap.size w'.heap.size b t (some ⟨gm,0,none⟩) g.ins L g.shown/\L.map (·.l)=g.wins/\(g.ins.length<=c0/\c0<=maxLen)/\L.length<=c1/\g.shown.length<=cm/\(∀k,w'.frozen? ⟨t,k,none⟩=false)/\w.heap.size<=gm:=by
 obtain⟨B,v0,v1,L,gm,cm,hB,rfl,hg0,hg1,hLL,hfar,hgm,hgB,hcm,hom⟩:=h
 have hL:L.length=g.ins.length:=by have:=congrArg List.length hLL;simp only[List.length_map]at this;omega
 obtain⟨b,c0,rfl,hbB,hsb⟩:=hg0.block (by omega)
 obtain⟨t,c1,rfl,hc1,htB,htl,hcell,hfz,hft⟩:=hg1.blockY (by omega)
 have hne:b≠t:=fun e=>by
  have hx:=dm (show World.ownsRow _ _ _ _ _ _ _ from hg0) hg1.own jY
  rcases hx with hx|hx
  ·simp[Value.ownBlock]at hx
  ·exact hx (by rw[e];rfl)
 have hc0:g.ins.length<=c0/\c0<=maxLen:=by
  rcases hg0.2 with⟨_,e⟩|⟨g',cap,cur,e,_,_,hn,hmx,_⟩
  ·omega
  ·simp only[Value.slice.injEq]at e
   omega
 have hlow:∀p∈L,gm<p.lo:=fun p hp=>by have:=(hg1.at_ p hp).2.1;omega
 refine⟨b,t,c0,c1,gm,cm,L,rfl,⟨hsb,⟨htl,hcell,fun p hp=>(hg1.at_ p hp).1,hft,fun p hp=>?_,hg1.dis.imp fun h=>.inl h⟩,hne,⟨by omega,hsb.lt⟩,⟨by omega,htl⟩,fun p hp=>hfar p hp b rfl,.inr ⟨gm,rfl,hgm,hom.lt,by omega,by omega,hom,fun p hp=>.inl (hlow p hp)⟩⟩,hLL,hc0,hc1,hcm,hfz,hgm⟩
 have:=(hg1.at_ p hp).2
 omega
theorem gz.widen {w:World}{lo hi lo' hi' b t:Nat}{a2:Option Addr}{nm:List ByteArray}{L:List aS}{m:List (ByteArray×Int)}(h:gz w lo hi b t a2 nm L m)(h1:lo'<=lo)(h2:hi<=hi'):gz w lo' hi' b t a2 nm L m:=
 ⟨h.names,⟨h.wins.lt,h.wins.cell,h.wins.at_,h.wins.far,fun p hp=>by have:=h.wins.in_ p hp;omega,h.wins.dis⟩,h.bt,by have:=h.bin;omega,by have:=h.tin;omega,h.bfar,by
  rcases h.stamp with e|⟨s,e,h3,h4,h5⟩
  ·exact .inl e
  ·exact .inr ⟨s,e,by omega,by omega,h5⟩⟩
theorem gz.setWin {w:World}{lo hi b t:Nat}{a2:Option Addr}{nm:List ByteArray}{L:List aS}{m:List (ByteArray×Int)}(h:gz w lo hi b t a2 nm L m){k:Nat}(hk:k<L.length){q:aS}(hq:∃a c,q.v=.slice a q.l.length c/\q.l.length<=c/\jH w q.lo q.hi a q.l)(hin:lo<=q.lo/\q.lo<=q.hi/\q.hi<=hi)(hqb:b<q.lo∨q.hi<=b)(hqt:t<q.lo∨q.hi<=t)(hqs:∀s,a2=some ⟨s,0,none⟩->s<q.lo∨q.hi<=s)(hqL:∀p∈L,p.hi<=q.lo∨q.hi<=p.lo) :
  gz (w.setCell ⟨t,k,none⟩ q.v) lo hi b t a2 nm (L.set k q) m:=by
 have hbut:But t w (w.setCell ⟨t,k,none⟩ q.v):=(But.refl t w).setCell k q.v
 have hsp:aJ t (t+1) w (w.setCell ⟨t,k,none⟩ q.v):=hbut.span (Nat.le_refl _) (Nat.lt_succ_self _)
 have hmem:∀p∈L.set k q,p∈L∨p=q:=fun p hp=>List.mem_or_eq_of_mem_set hp
 refine⟨h.names.span hsp (by have:=h.bt;omega),⟨by simpa using h.wins.lt,fun j hj=>?_,fun p hp=>?_,fun p hp=>?_,fun p hp=>?_, ?_⟩,h.bt,h.bin,h.tin,fun p hp=>?_, ?_⟩
 ·have hj':j<L.length:=by simpa using hj
  rw[List.getElem_set]
  by_cases e:k=j
  ·subst e
   rw[if_pos rfl]
   exact World.cell?_setCell_same' _ _ _ (by rw[h.wins.cell k hk];rfl)
  ·rw[if_neg e]
   have:=h.wins.cell j hj'
   simp[go_sem,this]
 ·rcases hmem p hp with h1|rfl
  ·obtain⟨a,c,h2,h3,h4⟩:=h.wins.at_ p h1
   exact⟨a,c,h2,h3,h4.span hsp (by have:=h.wins.far p h1;omega)⟩
  ·obtain⟨a,c,h2,h3,h4⟩:=hq
   exact⟨a,c,h2,h3,h4.span hsp (by omega)⟩
 ·rcases hmem p hp with h1|rfl
  ·exact h.wins.far p h1
  ·exact hqt
 ·rcases hmem p hp with h1|rfl
  ·exact h.wins.in_ p h1
  ·exact hin
 ·rw[List.pairwise_iff_getElem]
  intro a c ha hc hac
  have ha':a<L.length:=by simpa using ha
  have hc':c<L.length:=by simpa using hc
  have hd:=List.pairwise_iff_getElem.1 h.wins.dis a c ha' hc' hac
  rw[List.getElem_set,List.getElem_set]
  split
  ·split
   ·omega
   ·exact(hqL _ (List.getElem_mem hc')).symm
  ·split
   ·exact hqL _ (List.getElem_mem ha')
   ·exact hd
 ·rcases hmem p hp with h1|rfl
  ·exact h.bfar p h1
  ·exact hqb
 ·rcases h.stamp with e|⟨s,e,h1,h2,h3,h4,h5,h6⟩
  ·exact .inl e
  ·refine .inr ⟨s,e,h1,h2,h3,h4,hbut.own h5 h4,fun p hp=>?_⟩
   rcases hmem p hp with h1|rfl
   ·exact h6 p h1
   ·exact hqs s e
theorem zf.code {l:List af}{x:Int}{m:List (ByteArray×Int)}{r:List af}{c:Int}(h:zf l x m r c):c=1∨c=2∨c=0:=by
 by_cases hw:aX l/\ah m/\m≠[]
 ·by_cases ht:kz l m
  ·exact .inr (.inr (h.2.2 hw ht).2)
  ·exact .inr (.inl (h.2.1 hw ht).2)
 ·exact .inl (h.1 hw).2
def Nb (w w':World)(g:aB)(i x:Int)(m:List (ByteArray×Int))(e:Ending):Prop:=
 (e=.returned (.tuple #[.agg #[.slice none 0 0,.slice none 0 0,.slice none 0 0],.iface 103 (.agg #[.int .i64 2])])/\(¬DR g i∨(DR g i/\∃r,zf (g.wins.getD i.toNat []) x m r 1))) ∨
 (DR g i/\∃r c b t c0 c1 gm cm L err,e=.returned (.tuple #[.agg #[.slice (some ⟨b,0,none⟩) g.ins.length c0,.slice (some ⟨t,0,none⟩) L.length c1,.slice (some ⟨gm,0,none⟩) g.shown.length cm],err])/\zf (g.wins.getD i.toNat []) x m r c /\
  gz w' w.heap.size w'.heap.size b t (some ⟨gm,0,none⟩) g.ins L g.shown/\(g.shown.length<=cm/\g.ins.length<=c0/\c0<=maxLen)/\((c=2/\L.map (·.l)=g.wins/\err=.iface 103 (.agg #[.int .i64 3]))∨(c=0/\L.map (·.l)=g.wins.set i.toNat r/\err=.nilIface)))
set_option maxHeartbeats 4000000 in
theorem EK (a0 a1 a2 am:Option Addr)(c0 c1 c2 cm:Nat)(g:aB)(i x:Int)(m:List (ByteArray×Int))(w:World)(hf:Ey g)(hi:g.ins.length<=1048576)(hc:g.ins.length<=c0)(hc2:c0<=maxLen)(r0:dQ w a0 g.ins)(r1:iF w a1 g.wins)(r2:Row w a2 g.shown)(hfm:uO m)(hcm:m.length<=cm)(hrm:Row w am m) :
  Calls Tryz.prog 48 #[.agg #[.slice a0 g.ins.length c0,.slice a1 g.wins.length c1,.slice a2 g.shown.length c2],.agg #[.int .i64 i,.int .i64 x,.slice am m.length cm]] w fun e w'=>Nb w w' g i x m e/\Below w.heap.size w w':=by
 have hb0:Below w.heap.size w (((w.alloc (.cells #[.slice a0 g.ins.length c0,.slice a1 g.wins.length c1,.slice a2 g.shown.length c2] 30)).alloc (.cells #[.int .i64 i,.int .i64 x,.slice am m.length cm] 36)).alloc (.cells #[.slice none 0 0,.slice none 0 0,.slice none 0 0] 30)):=(((Below.refl _ _).alloc (Nat.le_refl _) _).alloc (by simp) _).alloc (by simp;omega) _
 have tP:iy (((w.alloc (.cells #[.slice a0 g.ins.length c0,.slice a1 g.wins.length c1,.slice a2 g.shown.length c2] 30)).alloc (.cells #[.int .i64 i,.int .i64 x,.slice am m.length cm] 36)).alloc (.cells #[.slice none 0 0,.slice none 0 0,.slice none 0 0] 30)) w.heap.size (.slice a0 g.ins.length c0) (.slice a1 g.wins.length c1) (.slice a2 g.shown.length c2):=((aQ w _ _ _ _).keep ((Below.refl _ _).alloc (Nat.le_refl _) _)).keep ((Below.refl _ _).alloc (Nat.le_refl _) _)
 have tF:iy (((w.alloc (.cells #[.slice a0 g.ins.length c0,.slice a1 g.wins.length c1,.slice a2 g.shown.length c2] 30)).alloc (.cells #[.int .i64 i,.int .i64 x,.slice am m.length cm] 36)).alloc (.cells #[.slice none 0 0,.slice none 0 0,.slice none 0 0] 30)) (w.heap.size+1) (.int .i64 i) (.int .i64 x) (.slice am m.length cm):=by
  have h:=aQ (w.alloc (.cells #[.slice a0 g.ins.length c0,.slice a1 g.wins.length c1,.slice a2 g.shown.length c2] 30)) (.int .i64 i) (.int .i64 x) (.slice am m.length cm) 36
  rw[World.size_alloc]at h
  exact h.keep ((Below.refl _ _).alloc (Nat.le_refl _) _)
 have tR:iy (((w.alloc (.cells #[.slice a0 g.ins.length c0,.slice a1 g.wins.length c1,.slice a2 g.shown.length c2] 30)).alloc (.cells #[.int .i64 i,.int .i64 x,.slice am m.length cm] 36)).alloc (.cells #[.slice none 0 0,.slice none 0 0,.slice none 0 0] 30)) (w.heap.size+1+1) (.slice none 0 0) (.slice none 0 0) (.slice none 0 0):=by
  have h:=aQ ((w.alloc (.cells #[.slice a0 g.ins.length c0,.slice a1 g.wins.length c1,.slice a2 g.shown.length c2] 30)).alloc (.cells #[.int .i64 i,.int .i64 x,.slice am m.length cm] 36)) (.slice none 0 0) (.slice none 0 0) (.slice none 0 0) 30
  rw[World.size_alloc,World.size_alloc]at h
  exact h
 go_enter Tryz.func48,Tryz.ntmps48
 go_wp2_with fail
 generalize ((w.alloc (.cells #[.slice a0 g.ins.length c0,.slice a1 g.wins.length c1,.slice a2 g.shown.length c2] 30)).alloc (.cells #[.int .i64 i,.int .i64 x,.slice am m.length cm] 36)).alloc (.cells #[.slice none 0 0,.slice none 0 0,.slice none 0 0] 30)=W0 at *
 refine(CE a0 a1 a2 c0 c1 c2 g _ hf hi hc hc2 (r0.below hb0) (r1.below hb0) (r2.below hb0)).mono ?_
 rintro e w1 ⟨⟨r,rfl,hr1⟩,b1⟩
 have HR:Hid (r=true↔lS g):=hr1
 clear hr1
 have B1:Below w.heap.size w w1:=hb0.trans (b1.mono hb0.size)
 replace tP:=tP.keep b1
 replace tF:=tF.keep b1
 replace tR:=tR.keep b1
 have z0:w.heap.size+2<w1.heap.size:=block_lt_of_cell tR.c0
 clear b1 hb0
 have HBAD:Hid (∀X:World,Below w.heap.size w X->(¬DR g i∨(DR g i/\∃r,zf (g.wins.getD i.toNat []) x m r 1))->Nb w (((X.setCell ⟨w.heap.size+1+1,0,none⟩ (.slice none 0 0)).setCell ⟨w.heap.size+1+1,1,none⟩ (.slice none 0 0)).setCell ⟨w.heap.size+1+1,2,none⟩ (.slice none 0 0)) g i x m (.returned (.tuple #[.agg #[.slice none 0 0,.slice none 0 0,.slice none 0 0],.iface 103 (.agg #[.int .i64 2])]))/\Below w.heap.size w (((X.setCell ⟨w.heap.size+1+1,0,none⟩ (.slice none 0 0)).setCell ⟨w.heap.size+1+1,1,none⟩ (.slice none 0 0)).setCell ⟨w.heap.size+1+1,2,none⟩ (.slice none 0 0))):=
  fun X hX h=>⟨.inl ⟨rfl,h⟩,((hX.setCell (by simp only;omega) _).setCell (by simp only;omega) _).setCell (by simp only;omega) _⟩
 by_cases hin:r=true/\0<=i/\i<(g.ins.length:Int)
 ·obtain⟨rfl,hi0,hi1⟩:=hin
  have HG:Hid (lS g):=HR.out.1 rfl
  clear HR
  have HLEN:Hid (g.wins.length=g.ins.length):=HG.out.len
  have hiw:i<(g.wins.length:Int):=by have:=HLEN.out;omega
  obtain⟨k,rfl⟩:∃k:Nat,i=(k:Int):=⟨i.toNat,by omega⟩
  have hkw:k<g.wins.length:=by omega
  have HIN:Hid (DR g (k:Int)):=⟨HG.out,hi0,hi1⟩
  obtain⟨bw,ow,rfl,hbw,s1,t1,q1,ht1,hri⟩:=r1.below B1 k hkw
  obtain⟨p0,p1,p2,_,_,_⟩:=id tP
  obtain⟨f0,f1,f2,_,_,_⟩:=id tF
  have k1:(k:Int)<(g.wins.length:Int):=by omega
  go_wp2_with fail
  have hbd:Below w1.heap.size w1 w1.drew:=(Below.refl _ _).drew
  have HS:Hid (∀u:World,Below w1.heap.size w1 u->u.cell? ⟨w.heap.size,1,none⟩=some (.slice (some ⟨bw,ow,none⟩) g.wins.length c1)/\u.cell? ⟨w.heap.size+1,0,none⟩=some (.int .i64 k)/\u.cell? ⟨w.heap.size+1,1,none⟩=some (.int .i64 x)/\u.cell? ⟨w.heap.size+1,2,none⟩=some (.slice am m.length cm)/\u.cell? ⟨bw,ow+k,none⟩=some (.slice s1 g.wins[k].length t1)):=fun u hu=>⟨ae hu (by omega) p1,ae hu (by omega) f0,ae hu (by omega) f1,ae hu (by omega) f2,ae hu hbw q1⟩
  have SW:=HS.out _ hbd
  refine wp_region_held_drew (S:=fun u=>u.cell? ⟨w.heap.size,1,none⟩=some (.slice (some ⟨bw,ow,none⟩) g.wins.length c1)/\u.cell? ⟨w.heap.size+1,0,none⟩=some (.int .i64 k)/\u.cell? ⟨w.heap.size+1,1,none⟩=some (.int .i64 x)/\u.cell? ⟨w.heap.size+1,2,none⟩=some (.slice am m.length cm)/\u.cell? ⟨bw,ow+k,none⟩=some (.slice s1 g.wins[k].length t1)) (by kernel_rfl) SW (fun _=>?_)
  refine wpAnyH_take (i:=0) (v:=.pointer (some ⟨w.heap.size,1,none⟩)) rfl (by kernel_rfl) (by kernel_rfl) (by kernel_rfl) (fun _ _ _ h=>h) (Or.inl ⟨by rfl, ?_⟩) SW ?_
  ·rintro u ⟨x1,x2,x3,x4,x5⟩
   go_simp
  simp only[Act.put,List.setIfInBounds_toArray]
  refine wpAnyH_take (i:=1) (v:=.slice (some ⟨bw,ow,none⟩) g.wins.length c1) rfl (by kernel_rfl) (by kernel_rfl) (by kernel_rfl) (fun _ _ _ h=>h) (Or.inl ⟨by rfl, ?_⟩) SW ?_
  ·rintro u ⟨x1,x2,x3,x4,x5⟩
   go_simp
  simp only[Act.put]
  refine wpAnyH_take (i:=2) (v:=.pointer (some ⟨w.heap.size+1,0,none⟩)) rfl (by kernel_rfl) (by kernel_rfl) (by kernel_rfl) (fun _ _ _ h=>h) (Or.inl ⟨by rfl, ?_⟩) SW ?_
  ·rintro u ⟨x1,x2,x3,x4,x5⟩
   go_simp
  simp only[Act.put]
  refine wpAnyH_take (i:=3) (v:=.int .i64 k) rfl (by kernel_rfl) (by kernel_rfl) (by kernel_rfl) (fun _ _ _ h=>h) (Or.inl ⟨by rfl, ?_⟩) SW ?_
  ·rintro u ⟨x1,x2,x3,x4,x5⟩
   go_simp
  simp only[Act.put]
  refine wpAnyH_take (i:=4) (v:=.pointer (some ⟨bw,ow+k,none⟩)) rfl (by kernel_rfl) (by kernel_rfl) (by kernel_rfl) (fun _ _ _ h=>h) (Or.inl ⟨by rfl, ?_⟩) SW ?_
  ·rintro u ⟨x1,x2,x3,x4,x5⟩
   go_simp
  simp only[Act.put]
  refine wpAnyH_take (i:=5) (v:=.slice s1 g.wins[k].length t1) rfl (by kernel_rfl) (by kernel_rfl) (by kernel_rfl) (fun _ _ _ h=>h) (Or.inl ⟨by rfl, ?_⟩) SW ?_
  ·rintro u ⟨x1,x2,x3,x4,x5⟩
   go_simp
  simp only[Act.put]
  refine wpAnyH_take (i:=6) (v:=.pointer (some ⟨w.heap.size+1,1,none⟩)) rfl (by kernel_rfl) (by kernel_rfl) (by kernel_rfl) (fun _ _ _ h=>h) (Or.inl ⟨by rfl, ?_⟩) SW ?_
  ·rintro u ⟨x1,x2,x3,x4,x5⟩
   go_simp
  simp only[Act.put]
  refine wpAnyH_take (i:=7) (v:=.agg #[.int .i64 x,.slice am m.length cm]) rfl (by kernel_rfl) (by kernel_rfl) (by kernel_rfl) (fun _ _ _ h=>h) (Or.inl ⟨by rfl, ?_⟩) SW ?_
  ·rintro u ⟨x1,x2,x3,x4,x5⟩
   go_simp
  simp only[Act.put]
  refine wpAnyH_ready (rs:=[8]) (by kernel_rfl) (by simp) ?_
  refine AllReadyH.cons rfl (fun K hK=>?_) AllReadyH.nil
  rw[if_pos (by rfl)]
  go_simp
  refine(Dw s1 t1 g.wins[k] x am cm m _ (hf.wins.2 k hkw) (hri.below hbd) hfm hcm (hrm.below (B1.trans (hbd.mono B1.size)))).mono ?_
  rintro e w2 ⟨⟨v2,rr,cc,rfl,hP,hg2⟩,b2⟩
  obtain⟨va,vc,rfl,hvc,hsv⟩:=hg2.safe
  have hb2:Below w1.heap.size w1 w2:=hbd.trans (b2.mono hbd.size)
  have B2:Below w.heap.size w w2:=B1.trans (hb2.mono B1.size)
  have HP:Hid (zf (g.wins.getD ((k:Nat):Int).toNat []) x m rr cc):=by unfold Hid;rw[Int.toNat_natCast,ig _ _ hkw];exact hP
  clear hP
  have S2:=HS.out _ hb2
  refine hK.out _ _ S2 (fun _=>?_)
  clear hK K SW
  refine wpAnyH_take (i:=9) (v:=.tuple #[.slice va rr.length vc,.int .i64 cc]) rfl (by kernel_rfl) (by kernel_rfl) (by kernel_rfl) (fun _ _ _ h=>h) (Or.inl ⟨by rfl, ?_⟩) S2 ?_
  ·rintro u ⟨x1,x2,x3,x4,x5⟩
   go_simp
  simp only[Act.put,List.setIfInBounds_toArray]
  refine wpAnyH_take (i:=10) (v:=.slice va rr.length vc) rfl (by kernel_rfl) (by kernel_rfl) (by kernel_rfl) (fun _ _ _ h=>h) (Or.inl ⟨by rfl, ?_⟩) S2 ?_
  ·rintro u ⟨x1,x2,x3,x4,x5⟩
   go_simp
  simp only[Act.put]
  refine wpAnyH_take (i:=11) (v:=.int .i64 cc) rfl (by kernel_rfl) (by kernel_rfl) (by kernel_rfl) (fun _ _ _ h=>h) (Or.inl ⟨by rfl, ?_⟩) S2 ?_
  ·rintro u ⟨x1,x2,x3,x4,x5⟩
   go_simp
  simp only[Act.put]
  refine wpAnyH_ready (rs:=[12]) (by kernel_rfl) (by simp) ?_
  refine AllReadyH.cons rfl (fun K hK=>?_) AllReadyH.nil
  rw[if_pos (by rfl)]
  go_simp
  refine hK.out _ _ S2 (fun _=>?_)
  clear hK K
  refine wpAnyH_ready (rs:=[13]) (by kernel_rfl) (by simp) ?_
  refine AllReadyH.cons rfl (fun K hK=>?_) AllReadyH.nil
  rw[if_pos (by rfl)]
  go_simp
  refine hK.out _ _ S2 (fun _=>?_)
  clear hK K
  refine wpAnyH_done (by kernel_rfl) ?_ _
  clear S2
  have HI1:Hid (DR g (k:Int)):=HIN.out
  replace tP:=tP.keep hb2
  replace tF:=tF.keep hb2
  replace tR:=tR.keep hb2
  have z2:=hb2.size
  rcases HP.out.code with rfl|rfl|rfl
  ·obtain⟨d0,d1,d2,d3,d4,d5⟩:=id tR
   go_wp2_with fail
   exact bodyPost_ret (v:=.tuple #[.agg #[.slice none 0 0,.slice none 0 0,.slice none 0 0],.iface 103 (.agg #[.int .i64 2])]) (by simp[results,Tryz.results48,go_sem,d0,d1,d2]) rfl (HBAD.out _ B2 (.inr ⟨HI1.out,_,HP.out⟩))
  ·obtain⟨p0,p1,p2,_,_,_⟩:=id tP
   obtain⟨f0,f1,f2,_,_,_⟩:=id tF
   obtain⟨d0,d1,d2,d3,d4,d5⟩:=id tR
   go_wp2_with fail
   refine(qc a0 (some ⟨bw,ow,none⟩) a2 c0 c1 c2 g _ HG.out.ins.2.1 HLEN.out (r0.below B2) (r1.below B2) (r2.below B2) (fun j hj=>(HG.out.ins.2.2 j hj).1.2.1) (fun j hj=>HG.out.wins.2.2 j hj) HG.out.shown).mono ?_
   rintro e w3 ⟨hF,b3⟩
   obtain⟨b,t,e0,e1,gm,em,L,rfl,hfull,hLL,hce0,hce1,hcem,hfz,hgmz⟩:=hF.full HG.out.ins.1 HLEN.out
   have HLL:Hid (L.map (·.l)=g.wins):=hLL
   have HLL2:Hid (L.length=g.wins.length):=by have:=congrArg List.length hLL;unfold Hid;simpa using this
   have B3:Below w.heap.size w w3:=B2.trans (b3.mono B2.size)
   have bT:Below w3.heap.size w3 (w3.alloc (.cells #[.slice (some ⟨b,0,none⟩) g.ins.length e0,.slice (some ⟨t,0,none⟩) L.length e1,.slice (some ⟨gm,0,none⟩) g.shown.length em] 30)):=(Below.refl _ _).alloc (Nat.le_refl _) _
   have tT:=aQ w3 (.slice (some ⟨b,0,none⟩) g.ins.length e0) (.slice (some ⟨t,0,none⟩) L.length e1) (.slice (some ⟨gm,0,none⟩) g.shown.length em) 30
   have z3:=b3.size
   have hsv3:=(hsv.below b3).below bT
   have hfull3:=hfull.below bT
   have htl:=hfull.wins.lt
   have htz:=hfull.tin.1
   have hbz:=hfull.bin.1
   replace tP:=(tP.keep b3).keep bT
   replace tF:=(tF.keep b3).keep bT
   replace tR:=(tR.keep b3).keep bT
   have BT:Below w.heap.size w (w3.alloc (.cells #[.slice (some ⟨b,0,none⟩) g.ins.length e0,.slice (some ⟨t,0,none⟩) L.length e1,.slice (some ⟨gm,0,none⟩) g.shown.length em] 30)):=B3.trans (bT.mono B3.size)
   clear p0 p1 p2 f0 f1 f2 d0 d1 d2 d3 d4 d5 hLL
   obtain⟨p0,p1,p2,_,_,_⟩:=id tP
   obtain⟨f0,f1,f2,_,_,_⟩:=id tF
   obtain⟨d0,d1,d2,d3,d4,d5⟩:=id tR
   obtain⟨g0,g1,g2,_,_,_⟩:=id tT
   have hfzT:∀j,(w3.alloc (.cells #[.slice (some ⟨b,0,none⟩) g.ins.length e0,.slice (some ⟨t,0,none⟩) L.length e1,.slice (some ⟨gm,0,none⟩) g.shown.length em] 30)).frozen? ⟨t,j,none⟩=false:=fun j=>(bT.frozen (p:=⟨t,j,none⟩) htl).trans (hfz j)
   have htT:(w3.alloc (.cells #[.slice (some ⟨b,0,none⟩) g.ins.length e0,.slice (some ⟨t,0,none⟩) L.length e1,.slice (some ⟨gm,0,none⟩) g.shown.length em] 30)).heap.size=w3.heap.size+1:=by simp
   go_wp2_with fail
   generalize w3.alloc (.cells #[.slice (some ⟨b,0,none⟩) g.ins.length e0,.slice (some ⟨t,0,none⟩) L.length e1,.slice (some ⟨gm,0,none⟩) g.shown.length em] 30)=WT at *
   obtain⟨W9,h9⟩:∃W9,((WT.setCell ⟨w.heap.size+1+1,0,none⟩ (.slice (some ⟨b,0,none⟩) g.ins.length e0)).setCell ⟨w.heap.size+1+1,1,none⟩ (.slice (some ⟨t,0,none⟩) L.length e1)).setCell ⟨w.heap.size+1+1,2,none⟩ (.slice (some ⟨gm,0,none⟩) g.shown.length em)=W9:=⟨_,rfl⟩
   have hsR:aJ (w.heap.size+2) (w.heap.size+3) WT W9:=by rw[<- h9];exact(((aJ.refl _ _ _).setCell (by omega) (by omega) _ _).setCell (by omega) (by omega) _ _).setCell (by omega) (by omega) _ _
   have z9:W9.heap.size=w3.heap.size+1:=by rw[<- h9];simpa using htT
   have c9:W9.cell? ⟨w.heap.size+1+1,0,none⟩=some (.slice (some ⟨b,0,none⟩) g.ins.length e0)/\W9.cell? ⟨w.heap.size+1+1,1,none⟩=some (.slice (some ⟨t,0,none⟩) L.length e1)/\W9.cell? ⟨w.heap.size+1+1,2,none⟩=some (.slice (some ⟨gm,0,none⟩) g.shown.length em):=by rw[<- h9];refine⟨?_, ?_, ?_⟩ <;> simp[go_sem,d0,d1,d2]
   have hB9:Below w.heap.size w W9:=by rw[<- h9];exact((BT.setCell (by simp only;omega) _).setCell (by simp only;omega) _).setCell (by simp only;omega) _
   have hfu9:=(hfull3.span hsR (.inr (by omega))).widen (show w.heap.size<=w2.heap.size by omega) (show w3.heap.size<=W9.heap.size by omega)
   rw[h9]
   clear h9
   obtain⟨y0,y1,y2⟩:=c9
   exact bodyPost_ret (v:=.tuple #[.agg #[.slice (some ⟨b,0,none⟩) g.ins.length e0,.slice (some ⟨t,0,none⟩) L.length e1,.slice (some ⟨gm,0,none⟩) g.shown.length em],.iface 103 (.agg #[.int .i64 3])]) (by simp[results,Tryz.results48,go_sem,y0,y1,y2]) rfl ⟨.inr ⟨HI1.out,_,_,b,t,e0,e1,gm,em,L,_,rfl,HP.out,hfu9,⟨hcem,hce0⟩,.inl ⟨rfl,HLL.out,rfl⟩⟩,hB9⟩
  ·obtain⟨p0,p1,p2,_,_,_⟩:=id tP
   obtain⟨f0,f1,f2,_,_,_⟩:=id tF
   obtain⟨d0,d1,d2,d3,d4,d5⟩:=id tR
   go_wp2_with fail
   refine(qc a0 (some ⟨bw,ow,none⟩) a2 c0 c1 c2 g _ HG.out.ins.2.1 HLEN.out (r0.below B2) (r1.below B2) (r2.below B2) (fun j hj=>(HG.out.ins.2.2 j hj).1.2.1) (fun j hj=>HG.out.wins.2.2 j hj) HG.out.shown).mono ?_
   rintro e w3 ⟨hF,b3⟩
   obtain⟨b,t,e0,e1,gm,em,L,rfl,hfull,hLL,hce0,hce1,hcem,hfz,hgmz⟩:=hF.full HG.out.ins.1 HLEN.out
   have HLL:Hid (L.map (·.l)=g.wins):=hLL
   have HLL2:Hid (L.length=g.wins.length):=by have:=congrArg List.length hLL;unfold Hid;simpa using this
   have B3:Below w.heap.size w w3:=B2.trans (b3.mono B2.size)
   have bT:Below w3.heap.size w3 (w3.alloc (.cells #[.slice (some ⟨b,0,none⟩) g.ins.length e0,.slice (some ⟨t,0,none⟩) L.length e1,.slice (some ⟨gm,0,none⟩) g.shown.length em] 30)):=(Below.refl _ _).alloc (Nat.le_refl _) _
   have tT:=aQ w3 (.slice (some ⟨b,0,none⟩) g.ins.length e0) (.slice (some ⟨t,0,none⟩) L.length e1) (.slice (some ⟨gm,0,none⟩) g.shown.length em) 30
   have z3:=b3.size
   have hsv3:=(hsv.below b3).below bT
   have hfull3:=hfull.below bT
   have htl:=hfull.wins.lt
   have htz:=hfull.tin.1
   have hbz:=hfull.bin.1
   have hkL:k<L.length:=by rw[HLL2.out];exact hkw
   have kL1:(k:Int)<(L.length:Int):=by omega
   have q3:=hfull.wins.cell k hkL
   obtain⟨pa,pc,pv,_,_⟩:=hfull.wins.at_ _ (List.getElem_mem hkL)
   have hsw:=gz.setWin (hfull.widen (show w.heap.size+3<=w2.heap.size by omega) (Nat.le_refl _)) hkL (q:=aS.mk rr (.slice va rr.length vc) w1.drew.heap.size w2.heap.size) ⟨va,vc,rfl,hvc,hsv.below b3⟩ ⟨show w.heap.size+3<=w1.drew.heap.size by have:=hbd.size;omega,b2.size,z3⟩ (.inr hbz) (.inr htz) (fun s hs=>.inr (show w2.heap.size<=s by have h1:gm=s:=congrArg Addr.block (Option.some.inj hs);omega)) (fun p hp=>.inr (show w2.heap.size<=p.lo from(hfull.wins.in_ p hp).1))
   replace tP:=(tP.keep b3).keep bT
   replace tF:=(tF.keep b3).keep bT
   have tR3:=tR.keep b3
   have tRS:=(tR3.far (q:=t) (by omega) k (.slice va rr.length vc)).keep (show Below _ _ ((w3.setCell ⟨t,k,none⟩ (.slice va rr.length vc)).alloc (.cells #[.slice (some ⟨b,0,none⟩) g.ins.length e0,.slice (some ⟨t,0,none⟩) L.length e1,.slice (some ⟨gm,0,none⟩) g.shown.length em] 30))from(Below.refl _ _).alloc (Nat.le_refl _) _)
   clear p0 p1 p2 f0 f1 f2 d0 d1 d2 d3 d4 d5 hLL
   obtain⟨p0,p1,p2,_,_,_⟩:=id tP
   obtain⟨f0,f1,f2,_,_,_⟩:=id tF
   obtain⟨d0,d1,d2,d3,d4,d5⟩:=id tRS
   have hfzT:=hfz k
   rw[pv]at q3
   go_wp2_with fail
   have bS:Below (w3.setCell ⟨t,k,none⟩ (.slice va rr.length vc)).heap.size (w3.setCell ⟨t,k,none⟩ (.slice va rr.length vc)) ((w3.setCell ⟨t,k,none⟩ (.slice va rr.length vc)).alloc (.cells #[.slice (some ⟨b,0,none⟩) g.ins.length e0,.slice (some ⟨t,0,none⟩) L.length e1,.slice (some ⟨gm,0,none⟩) g.shown.length em] 30)):=(Below.refl _ _).alloc (Nat.le_refl _) _
   have hfS:=hsw.below bS
   have BS:Below w.heap.size w ((w3.setCell ⟨t,k,none⟩ (.slice va rr.length vc)).alloc (.cells #[.slice (some ⟨b,0,none⟩) g.ins.length e0,.slice (some ⟨t,0,none⟩) L.length e1,.slice (some ⟨gm,0,none⟩) g.shown.length em] 30)):=(B3.setCell (p:=⟨t,k,none⟩) (by simp only;omega) _).alloc (by simp;omega) _
   have hzS:((w3.setCell ⟨t,k,none⟩ (.slice va rr.length vc)).alloc (.cells #[.slice (some ⟨b,0,none⟩) g.ins.length e0,.slice (some ⟨t,0,none⟩) L.length e1,.slice (some ⟨gm,0,none⟩) g.shown.length em] 30)).heap.size=w3.heap.size+1:=by simp
   have hlS:(L.set k (aS.mk rr (.slice va rr.length vc) w1.drew.heap.size w2.heap.size)).length=L.length:=by simp
   have HLS:Hid ((L.set k (aS.mk rr (.slice va rr.length vc) w1.drew.heap.size w2.heap.size)).map (·.l)=g.wins.set ((k:Nat):Int).toNat rr):=by
    unfold Hid
    rw[List.map_set,HLL.out,Int.toNat_natCast]
   have hdlo:w.heap.size+3<=w1.drew.heap.size:=by have:=hbd.size;omega
   generalize L.set k (aS.mk rr (.slice va rr.length vc) w1.drew.heap.size w2.heap.size)=L' at *
   generalize (w3.setCell ⟨t,k,none⟩ (.slice va rr.length vc)).alloc (.cells #[.slice (some ⟨b,0,none⟩) g.ins.length e0,.slice (some ⟨t,0,none⟩) L.length e1,.slice (some ⟨gm,0,none⟩) g.shown.length em] 30)=WT at *
   obtain⟨W9,h9⟩:∃W9,((WT.setCell ⟨w.heap.size+1+1,0,none⟩ (.slice (some ⟨b,0,none⟩) g.ins.length e0)).setCell ⟨w.heap.size+1+1,1,none⟩ (.slice (some ⟨t,0,none⟩) L.length e1)).setCell ⟨w.heap.size+1+1,2,none⟩ (.slice (some ⟨gm,0,none⟩) g.shown.length em)=W9:=⟨_,rfl⟩
   have hsR:aJ (w.heap.size+2) (w.heap.size+3) WT W9:=by rw[<- h9];exact(((aJ.refl _ _ _).setCell (by omega) (by omega) _ _).setCell (by omega) (by omega) _ _).setCell (by omega) (by omega) _ _
   have z9:W9.heap.size=w3.heap.size+1:=by rw[<- h9];simpa using hzS
   have c9:W9.cell? ⟨w.heap.size+1+1,0,none⟩=some (.slice (some ⟨b,0,none⟩) g.ins.length e0)/\W9.cell? ⟨w.heap.size+1+1,1,none⟩=some (.slice (some ⟨t,0,none⟩) L.length e1)/\W9.cell? ⟨w.heap.size+1+1,2,none⟩=some (.slice (some ⟨gm,0,none⟩) g.shown.length em):=by rw[<- h9];refine⟨?_, ?_, ?_⟩ <;> simp[go_sem,d0,d1,d2]
   have hB9:Below w.heap.size w W9:=by rw[<- h9];exact((BS.setCell (by simp only;omega) _).setCell (by simp only;omega) _).setCell (by simp only;omega) _
   have hfu9:=hfS.span hsR (.inr (Nat.le_refl _))
   rw[h9]
   clear h9
   obtain⟨y0,y1,y2⟩:=c9
   exact bodyPost_ret (v:=.tuple #[.agg #[.slice (some ⟨b,0,none⟩) g.ins.length e0,.slice (some ⟨t,0,none⟩) L.length e1,.slice (some ⟨gm,0,none⟩) g.shown.length em],.nilIface]) (by simp[results,Tryz.results48,go_sem,y0,y1,y2]) rfl ⟨.inr ⟨HI1.out,_,_,b,t,e0,e1,gm,em,L',_,by rw[hlS],HP.out,hfu9.widen (by omega) (by omega),⟨hcem,hce0⟩,.inr ⟨rfl,HLS.out,rfl⟩⟩,hB9⟩
 ·have HNI:Hid (¬DR g i):=fun h=>hin ⟨HR.out.2 h.1,h.2⟩
  obtain⟨p0,p1,p2,_,_,_⟩:=id tP
  obtain⟨f0,f1,f2,_,_,_⟩:=id tF
  obtain⟨d0,d1,d2,d3,d4,d5⟩:=id tR
  cases r with
  |false=>
   go_wp2_with fail
   exact bodyPost_ret (v:=.tuple #[.agg #[.slice none 0 0,.slice none 0 0,.slice none 0 0],.iface 103 (.agg #[.int .i64 2])]) (by simp[results,Tryz.results48,go_sem,d0,d1,d2]) rfl (HBAD.out _ B1 (.inl HNI.out))
  |true=>
   by_cases hi0:i<0
   ·go_wp2_with fail
    exact bodyPost_ret (v:=.tuple #[.agg #[.slice none 0 0,.slice none 0 0,.slice none 0 0],.iface 103 (.agg #[.int .i64 2])]) (by simp[results,Tryz.results48,go_sem,d0,d1,d2]) rfl (HBAD.out _ B1 (.inl HNI.out))
   ·have hi1:¬i<(g.ins.length:Int):=fun h=>hin ⟨rfl,by omega,h⟩
    go_wp2_with fail
    exact bodyPost_ret (v:=.tuple #[.agg #[.slice none 0 0,.slice none 0 0,.slice none 0 0],.iface 103 (.agg #[.int .i64 2])]) (by simp[results,Tryz.results48,go_sem,d0,d1,d2]) rfl (HBAD.out _ B1 (.inl HNI.out))
end Go.Proofs.YtpfhegengmlkmabGreatDoor
