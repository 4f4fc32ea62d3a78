/- Texts of this claim. -/
import Derived.WalkMore
import Derived.Deep.LoopGhost
import Derived.Test.YtpfhegengmlkmabGreatDoorZu33
namespace Go.Proofs.YtpfhegengmlkmabGreatDoor
open Go.RowKit Go.BigFrame
set_option maxRecDepth 100000
def MX (ws:List (List af))(ps:List Int):Prop:=∀q,oQ ws q->∀i,(hq:i<q.length)->(ho:i<ps.length)->q[i]<=ps[i]
def qZ:List Int->Nat
 |[]=>0
 |x::r=>x.toNat+qZ r
theorem DL:∀(l:List Int) (i:Nat) (h:i<l.length),0<l[i]->qZ (l.set i (l[i]-1))<qZ l
 |x::r,0,_,h0=>by
  simp only[List.getElem_cons_zero]at h0
  simp only[List.set_cons_zero,qZ,List.getElem_cons_zero]
  omega
 |x::r,i+1,h,h0=>by
  have:=DL r i (by simpa using h) (by simpa using h0)
  simp only[List.getElem_cons_succ,List.set_cons_succ,qZ]
  omega
theorem JC {ws:List (List af)}:MX ws (eX ws):=fun q hc i hq ho=>by
 have h1:=hc.2.2.1.2 i hq
 have hw:i<ws.length:=by rw[<- hc.2.1];exact hq
 have e:ws.getD i []=ws[i]:=by simp[List.getD,hw]
 rw[e]at h1
 simp only[eX,List.getElem_map]
 omega
theorem La {ws:List (List af)}{ps:List Int}{sh:List (List aW)}(hok:OkW ws)(hl:ps.length=ws.length)(hin:kH ws ps)(hsh:lU ws sh)(hub:MX ws ps){src:List aW}(hs:src∈sh){p:aW}(hp:p∈src){x:Int}(hx:∃r∈src,x=dJ ws ps r)(hle:x<=dJ ws ps p)(hne:¬dJ ws ps p=x)(hw:p.1<ps.length) :
  (ps[p.1]=0->∀q,¬oQ ws q)/\(¬ps[p.1]=0->kH ws (ps.set p.1 (ps[p.1]-1))/\MX ws (ps.set p.1 (ps[p.1]-1))/\qZ (ps.set p.1 (ps[p.1]-1))<qZ ps):=by
 obtain⟨r,hr,e⟩:=hx
 have key:=G5 hok hl hin hsh hub hs hp hr (by omega)
 have h0:=hin.2 p.1 hw
 refine⟨fun hz q hq=>?_,fun hz=>⟨⟨by rw[List.length_set];exact hin.1,fun i hi=>?_⟩,fun q hq i hiq hio=>?_,DL ps p.1 hw (by omega)⟩⟩
 ·have h1:=key q hq (by rw[hq.2.1];omega) hw
  have h2:=hq.2.2.1.2 p.1 (by rw[hq.2.1];omega)
  omega
 ·have hi':i<ps.length:=by simpa using hi
  by_cases e2:i=p.1
  ·subst e2
   rw[List.getElem_set_self]
   omega
  ·rw[List.getElem_set_ne (fun h=>e2 h.symm)]
   exact hin.2 i hi'
 ·have hi':i<ps.length:=by simpa using hio
  by_cases e2:i=p.1
  ·subst e2
   rw[List.getElem_set_self]
   have:=key q hq hiq hw
   omega
  ·rw[List.getElem_set_ne (fun h=>e2 h.symm)]
   exact hub q hq i hiq hi'
def Nv (w w':World)(ws:List (List af))(e:Ending):Prop:=(∃g c out,e=.returned (.tuple #[.slice (some ⟨g,0,none⟩) out.length c,.bool true])/\fC ws out true/\w.heap.size<=g/\gZ w' g out)∨(e=.returned (.tuple #[.slice none 0 0,.bool false])/\fC ws [] false)
set_option maxHeartbeats 3200000 in
theorem AL (W0 w:World)(b:Nat)(ws:List (List af))(sh:List (List aW))(h:Ew W0 w b ws sh)(hW:Below W0.heap.size W0 w)(hok:OkW ws)(hsh:IL ws sh) :
  Calls Tryz.prog 135 #[.pointer (some ⟨b,0,none⟩)] w fun e w'=>Nv w w' ws e/\Below w.heap.size w w':=by
 have HOK:Hid (OkW ws):=hok
 have HSH:Hid (IL ws sh):=hsh
 have HC:Hid (Ew W0 w b ws sh):=h
 have h6:=hok.2.1
 have hshl:=hsh.2.2
 clear hok hsh
 go_enter Tryz.func135,Tryz.ntmps135
 go_wp2_with fail
 go_step3
 go_wp2_with fail
 refine(IK W0 w b ws sh HC.out HOK.out).mono ?_
 rintro e w1 ⟨⟨g,c,ok,rfl,hok2,hge,hnb⟩,b1⟩
 have HR:Hid (ok=true↔kH ws (eX ws)):=hok2
 clear hok2
 cases ok with
 |false=>
  have HN:Hid (fC ws [] false):=.inr ⟨rfl,rfl,fun q hq=>by
   have:kH ws (eX ws):=⟨by rw[gK];exact Nat.le_refl _,fun i hi=>by
    have hi':i<ws.length:=by simpa[gK]using hi
    have h1:=hq.2.2.1.2 i (by rw[hq.2.1];exact hi')
    have e:ws.getD i []=ws[i]:=by simp[List.getD,hi']
    rw[e]at h1 ⊢
    simp only[eX,List.getElem_map]
    omega⟩
   have:=HR.out.2 this
   simp at this⟩
  go_wp2_with fail
  try rw[Exit.noGoto_ret]
  exact bodyPost_ret (v:=.tuple #[.slice none 0 0,.bool false]) (by simp[results,Tryz.results135,go_sem]) rfl ⟨.inr ⟨rfl,HN.out⟩,b1⟩
 |true=>
  have HIN:Hid (kH ws (eX ws)):=HR.out.1 rfl
  clear HR
  go_wp2_with fail
  go_step3
  go_wp2_with fail
  go_loopg [23] (qZ (eX ws)) (fun gk u wr=>∃ps:List Int,qZ ps<=gk/\ps.length=ws.length/\Hid (kH ws ps)/\Hid (MX ws ps)/\gZ wr g ps/\Below w.heap.size w wr)
  case atStart=>exact⟨eX ws,Nat.le_refl _,gK ws,HIN,JC,hnb,b1⟩
  case round=>
   clear HIN hnb b1
   obtain⟨ps,hfar,hlen,HIN,HUP,hnb,hbl⟩:=hrel
   have HLEN:Hid (ps.length=ws.length):=hlen
   clear hlen
   have hcb:=HC.out.below hbl
   obtain⟨hbb,va,vc,va',vc',e0,_,e1,_,_,hg⟩:=id hcb
   have hWr:Below W0.heap.size W0 wr:=hW.trans (hbl.mono hW.size)
   go_wp2_with fail
   go_loopw [23] (fun i wr2=>∃k:Nat,k<=sh.length/\i=.int .i64 k/\Hid (∀j,(h:j<sh.length)->j<k->lu ws ps sh[j] sh[j].length)/\Below wr.heap.size wr wr2) (fun i _=>sh.length-(intOf i).toNat)
   case atStart=>exact⟨0,Nat.zero_le _,rfl,fun _ _ h=>absurd h (Nat.not_lt_zero _),Below.refl _ _⟩
   case round=>
    obtain⟨k,hk,rfl,HI,hbl2⟩:=hrel
    by_cases hlt:k<sh.length
    ·obtain⟨b1,o1,rfl,hb1,s1,t1,f1,ht1,hpr⟩:=hg.below hbl2 k hlt
     have k0:(0:Int)<=(k:Int):=by omega
     have k1:(k:Int)<(sh.length:Int):=by omega
     have hsrc:=HSH.out.2.1 sh[k] (List.getElem_mem hlt)
     have hs1:=hsrc.1
     have hs2:=hsrc.2
     have hmem:sh[k]∈sh:=List.getElem_mem hlt
     have hnb2:=hnb.below hbl2
     have hle:=GG W0 _ b ws sh (some ⟨g,0,none⟩) s1 c t1 ps sh[k] (hcb.below hbl2) (hWr.trans (hbl2.mono hWr.size)) HOK.out HLEN.out HIN.out hnb2.row HSH.out hmem hpr
     rw[HLEN.out]at hle
     clear hsrc
     go_wp2_with fail
     refine hle.mono ?_
     rintro e w3 ⟨⟨x,rfl,hx1,hx2⟩,b3⟩
     have HX:Hid ((∀p∈sh[k],x<=dJ ws ps p)/\∃p∈sh[k],x=dJ ws ps p):=⟨hx1,hx2⟩
     have B3:=hbl2.trans (b3.mono hbl2.size)
     clear hle hx1 hx2 hnb2
     go_wp2_with fail
     have hpr3:=hpr.below b3
     have hnb3:=hnb.below B3
     have hcb3:=hcb.below B3
     have BW3:=hbl.trans (B3.mono hbl.size)
     clear hnb hcb hpr b3 hbl2 f1 hg e0 e1
     go_loopw [33] (fun i3 wr3=>∃j:Nat,j<=sh[k].length/\i3=.int .i64 j/\Hid (∀i,(h:i<sh[k].length)->i<j->dJ ws ps sh[k][i]=x)/\Below w3.heap.size w3 wr3) (fun i3 _=>sh[k].length-(intOf i3).toNat)
     case atStart=>exact⟨0,Nat.zero_le _,rfl,fun _ _ h=>absurd h (Nat.not_lt_zero _),Below.refl _ _⟩
     case round=>
      obtain⟨j,hj,rfl,HJ,hbl3⟩:=hrel
      by_cases hjlt:j<sh[k].length
      ·obtain⟨b2,o2,rfl,hb2,f2,f3⟩:=hpr3.below hbl3 j hjlt
       have j0:(0:Int)<=(j:Int):=by omega
       have j1:(j:Int)<(sh[k].length:Int):=by omega
       obtain⟨sn,hall⟩:=HSH.out.1.1 sh[k] hmem
       have hspot:=hall sh[k][j] (List.getElem_mem hjlt)
       obtain⟨hpw,hpp,_⟩:=sV HOK.out HLEN.out HIN.out hspot
       have hback:=La HOK.out HLEN.out HIN.out HSH.out.1 HUP.out hmem (List.getElem_mem hjlt) HX.out.2 (HX.out.1 _ (List.getElem_mem hjlt))
       have HBK:Hid (∀hne:¬dJ ws ps sh[k][j]=x,(ps[sh[k][j].1]=0->∀q,¬oQ ws q)/\(¬ps[sh[k][j].1]=0->kH ws (ps.set sh[k][j].1 (ps[sh[k][j].1]-1))/\MX ws (ps.set sh[k][j].1 (ps[sh[k][j].1]-1))/\qZ (ps.set sh[k][j].1 (ps[sh[k][j].1]-1))<qZ ps)):=fun hne=>hback hne hpp
       clear hback
       have hb0:Below wr.heap.size wr (wr.alloc (.cells #[.int .i64 (sh[k][j].1:Int),.int .i64 (sh[k][j].2:Int)] 231)):=(Below.refl _ _).alloc (Nat.le_refl _) _
       have hlt0:=bP wr (.cells #[.int .i64 (sh[k][j].1:Int),.int .i64 (sh[k][j].2:Int)] 231)
       have d0:=box0 wr (.int .i64 (sh[k][j].1:Int)) (.int .i64 (sh[k][j].2:Int)) 231
       have hcb4:=(hcb3.below hbl3).below hb0
       have hnb4:=(hnb3.below hbl3).below hb0
       have BW:=(BW3.trans (hbl3.mono BW3.size))
       have BW4:=BW.trans (hb0.mono BW.size)
       have hver:=nO W0 _ b ws sh (some ⟨g,0,none⟩) c ps sh[k][j] sn hcb4 (hW.trans (BW4.mono hW.size)) HOK.out HLEN.out HIN.out hnb4.row hspot
       rw[HLEN.out]at hver
       clear hcb4
       go_wp2_with fail
       generalize wr.alloc (.cells #[.int .i64 (sh[k][j].1:Int),.int .i64 (sh[k][j].2:Int)] 231)=W at *
       refine hver.mono ?_
       rintro e w5 ⟨rfl,b5⟩
       have hnb5:=hnb4.below b5
       have d5:=ae b5 hlt0 d0
       have BW5:=BW4.trans (b5.mono BW4.size)
       have hbl5:=(hbl3.trans (hb0.mono hbl3.size)).trans (b5.mono (Nat.le_trans hbl3.size hb0.size))
       clear hver hnb4 d0
       by_cases he:dJ ws ps sh[k][j]=x
       ·have HJ2:Hid (∀i,(h:i<sh[k].length)->i<j+1->dJ ws ps sh[k][i]=x):=fun i hi hlt'=>by
         by_cases e:i=j
         ·subst e;exact he
         ·exact HJ.out i hi (by omega)
        have he':(dJ ws ps sh[k][j]==x)=true:=by rw[beq_iff_eq];exact he
        clear he HBK
        go_wp2_with fail
        exact⟨⟨j+1,by omega,by go_num,HJ2,hbl5⟩,by simp[intOf];omega⟩
       ·have hb2k:=HBK.out he
        have he':(dJ ws ps sh[k][j]==x)=false:=by rw[beq_eq_false_iff_ne];exact he
        have p0:=hnb5.cell hpp
        have p1:=hnb5.frozen sh[k][j].1
        have i0:(0:Int)<=(sh[k][j].1:Int):=by omega
        have i1:(sh[k][j].1:Int)<(ws.length:Int):=by omega
        clear HBK he
        by_cases hz:ps[sh[k][j].1]=0
        ·have HN:Hid (fC ws [] false):=.inr ⟨rfl,rfl,hb2k.1 hz⟩
         have hz':(ps[sh[k][j].1]==0)=true:=by rw[beq_iff_eq];exact hz
         clear hb2k hz
         go_wp2_with fail
         try rw[Exit.noGoto_ret]
         exact bodyPost_ret (v:=.tuple #[.slice none 0 0,.bool false]) (by simp[results,Tryz.results135,go_sem]) rfl ⟨.inr ⟨rfl,HN.out⟩,BW5⟩
        ·have HBB:Hid (kH ws (ps.set sh[k][j].1 (ps[sh[k][j].1]-1))/\MX ws (ps.set sh[k][j].1 (ps[sh[k][j].1]-1))/\qZ (ps.set sh[k][j].1 (ps[sh[k][j].1]-1))<qZ ps):=hb2k.2 hz
         have hz':(ps[sh[k][j].1]==0)=false:=by rw[beq_eq_false_iff_ne];exact hz
         have hpos:0<=ps[sh[k][j].1]/\ps[sh[k][j].1]<=4:=by
          have h3:=HIN.out.2 _ hpp
          have e3:ws.getD sh[k][j].1 []=ws[sh[k][j].1]:=by simp[List.getD,hpw]
          rw[e3]at h3
          have:=(HOK.out.2.2 _ hpw).1
          omega
         have q0:=hpos.1
         have q1:=hpos.2
         clear hb2k hz hpos
         go_wp2_with fail
         go_roundg (qZ (ps.set sh[k][j].1 (ps[sh[k][j].1]-1)))
         case measure=>have:=HBB.out.2.2;omega
         case rel=>exact⟨ps.set sh[k][j].1 (ps[sh[k][j].1]-1),Nat.le_refl _,by rw[List.length_set];exact HLEN.out,HBB.out.1,HBB.out.2.1,hnb5.set _ _,BW5.setCell hge _⟩
      ·have HI2:Hid (∀q,(h:q<sh.length)->q<k+1->lu ws ps sh[q] sh[q].length):=fun q hq hlt'=>by
        by_cases e:q=k
        ·subst e
         exact fun i hi _ h0=>by rw[HJ.out i hi (by omega),HJ.out 0 h0 (by omega)]
        ·exact HI.out q hq (by omega)
       go_wp2_with fail
       exact⟨⟨k+1,by omega,by go_num,HI2,B3.trans (hbl3.mono B3.size)⟩,by simp[intOf];omega⟩
    ·have HA:Hid (yt ws ps):=Dq HOK.out HLEN.out HIN.out HSH.out.1 (fun j hj=>HI.out j hj (by omega))
     have HB:Hid (fC ws ps true):=.inl ⟨rfl,⟨HOK.out,HLEN.out,HIN.out,HA.out⟩,HUP.out⟩
     go_wp2_with fail
     try rw[Exit.noGoto_ret]
     exact bodyPost_ret (v:=.tuple #[.slice (some ⟨g,0,none⟩) ps.length c,.bool true]) (by simp[results,Tryz.results135,go_sem,HLEN.out]) rfl ⟨.inl ⟨g,c,ps,rfl,HB.out,hge,hnb.below hbl2⟩,hbl.trans (hbl2.mono hbl.size)⟩
set_option maxHeartbeats 800000 in
theorem ER (a:Option Addr)(cap:Nat)(ws:List (List af))(w:World)(hf:wM ws)(hr:iF w a ws) :
  Calls Tryz.prog 87 #[.slice a ws.length cap] w fun e w'=>Nv w w' ws e/\Below w.heap.size w w':=by
 go_enter Tryz.func87,Tryz.ntmps87
 go_wp2_with fail
 refine(mJ a cap ws _ hf hr).mono ?_
 rintro e w1 ⟨hE,b1⟩
 rcases hE with⟨a1,c1,a2,c2,sh,rfl,hok,hc1,hc2,hrv,hrg,hsw⟩|⟨rfl,hno⟩
 ·have HOK:Hid (OkW ws):=hok
  have HSW:Hid (IL ws sh):=hsw
  clear hok hsw
  have hcb:=Fv hrv hrg hc1 hc2
  have hbx:Below w1.heap.size w1 (w1.alloc (.cells #[.slice a1 ws.length c1,.slice a2 sh.length c2] 204)):=(Below.refl _ _).alloc (Nat.le_refl _) _
  have BX:Below w.heap.size w (w1.alloc (.cells #[.slice a1 ws.length c1,.slice a2 sh.length c2] 204)):=b1.trans (hbx.mono b1.size)
  go_wp2_with fail
  generalize w1.alloc (.cells #[.slice a1 ws.length c1,.slice a2 sh.length c2] 204)=W at *
  refine(AL w W w1.heap.size ws sh hcb BX HOK.out HSW.out).mono ?_
  rintro e w2 ⟨hB,b2⟩
  have B2:Below w.heap.size w w2:=BX.trans (b2.mono BX.size)
  rcases hB with⟨g,c,out,rfl,hbest,hge,hnb⟩|⟨rfl,hbest⟩
  ·have HB:Hid (fC ws out true):=hbest
   clear hbest
   go_wp2_with fail
   exact bodyPost_ret (v:=.tuple #[.slice (some ⟨g,0,none⟩) out.length c,.bool true]) (by simp[results,Tryz.results87,go_sem]) rfl ⟨.inl ⟨g,c,out,rfl,HB.out,Nat.le_trans BX.size hge,hnb⟩,B2⟩
  ·have HB:Hid (fC ws [] false):=hbest
   clear hbest
   go_wp2_with fail
   exact bodyPost_ret (v:=.tuple #[.slice none 0 0,.bool false]) (by simp[results,Tryz.results87,go_sem]) rfl ⟨.inr ⟨rfl,HB.out⟩,B2⟩
 ·have HN:Hid (fC ws [] false):=rZ (.inl hno)
  clear hno
  go_wp2_with fail
  exact bodyPost_ret (v:=.tuple #[.slice none 0 0,.bool false]) (by simp[results,Tryz.results87,go_sem]) rfl ⟨.inr ⟨rfl,HN.out⟩,b1.alloc b1.size _⟩
end Go.Proofs.YtpfhegengmlkmabGreatDoor
namespace Go.Proofs.YtpfhegengmlkmabGreatDoor
open Go.RowKit Go.BigFrame
theorem fJ.ks {base lo hi:Nat}{w w':World}(h:fJ base w w')(hb:lo<=base):KS lo hi w w':=by
 rcases h with h|⟨g,hg,⟨u,hu⟩,h⟩
 ·exact⟨h.size,fun k o _ hk _=>(h.block k (Array.getElem?_eq_some_iff.1 hk).1 (by simp)).trans hk⟩
 ·refine⟨h.size,fun k o hn hk _=>(h.block k (Array.getElem?_eq_some_iff.1 hk).1 ?_).trans hk⟩
  intro e
  obtain rfl:k=g:=by simpa using e
  rcases hn with hn|⟨_,hn⟩
  ·omega
  ·rw[hu]at hn;cases hn
theorem fJ.keeps {base:Nat}{w w':World}(h:fJ base w w'):KeepsOthers w w':=by
 rcases h with h|⟨g,hg,⟨u,hu⟩,h⟩
 ·exact KeepsOthers.of_grownBy h (fun j o e=>by cases e)
 ·refine KeepsOthers.of_grownBy h (fun j o e hj=>?_)
  obtain rfl:g=j:=by simpa using e
  obtain⟨ob,h1,h2⟩:=BH hu
  rw[h1]at hj
  cases hj
  exact h2
end Go.Proofs.YtpfhegengmlkmabGreatDoor
namespace Go.Proofs.YtpfhegengmlkmabGreatDoor
open Go.RowKit Go.Shelf Go.BigFrame
attribute [local go_sem] Oper.semAt_some
structure mW (b:Nat) (w:World):Prop where
 c0:w.cell? ⟨b,0,none⟩=some (.slice none 0 0)
 f0:w.frozen? ⟨b,0,none⟩=false
 c1:w.cell? ⟨b+1,0,none⟩=some (.bool false)
 f1:w.frozen? ⟨b+1,0,none⟩=false
theorem mW.lt {b:Nat}{w:World}(h:mW b w):b+1<w.heap.size:=block_lt_of_cell h.c1
theorem mW.below {b:Nat}{w w':World}(h:mW b w)(hb:Below w.heap.size w w'):mW b w':=by
 have h1:=h.lt
 exact⟨ae hb (by omega) h.c0,(hb.frozen (p:=⟨b,0,none⟩) (by simp only;omega)).trans h.f0,ae hb h1 h.c1,(hb.frozen (p:=⟨b+1,0,none⟩) h1).trans h.f1⟩
theorem mW.kept {b:Nat}{w w':World}{row:Option Nat}(h:mW b w)(hg:w.grownBy w' row)(hr:∀r,row=some r->∃o:Obj,w.heap[r]?=some o/\o.isCells=false):mW b w':=
 ⟨cell_kept h.c0 hg hr,(frozen_kept h.c0 hg hr).trans h.f0,cell_kept h.c1 hg hr,(frozen_kept h.c1 hg hr).trans h.f1⟩
theorem mW.upto {b B:Nat}{w w':World}(h:mW b w)(hb:Below B w w')(hB:b+1<B):mW b w':=
 ⟨(hb.cell (p:=⟨b,0,none⟩) (by simp only;omega)).trans h.c0,(hb.frozen (p:=⟨b,0,none⟩) (by simp only;omega)).trans h.f0,(hb.cell (p:=⟨b+1,0,none⟩) hB).trans h.c1,(hb.frozen (p:=⟨b+1,0,none⟩) hB).trans h.f1⟩
theorem mW.set {b J:Nat}{w:World}(h:mW b w)(h0:b≠J)(h1:b+1≠J)(v:Value):mW b (w.setCell ⟨J,0,none⟩ v):=
 ⟨(aK _ _ h0).trans h.c0,(World.frozen?_of_block (Below.heap_setCell _ _ _ _ h0)).trans h.f0,(aK _ _ h1).trans h.c1,(World.frozen?_of_block (Below.heap_setCell _ _ _ _ h1)).trans h.f1⟩
theorem az.kept {w w':World}{B:Nat}{v:Value}{l:List (ByteArray×Int)}{row:Option Nat}(h:az w B v l)(hg:w.grownBy w' row)(hr:∀r,row=some r->∃o:Obj,w.heap[r]?=some o/\o.isCells=false):az w' B v l:=by
 obtain⟨hl,h|⟨g,cap,cur,hv,hgB,hh,r⟩⟩:=h
 ·exact⟨hl,.inl h⟩
 ·exact⟨hl,.inr ⟨g,cap,cur,hv,hgB,(grownBy_keeps_cells hg hr hh rfl).trans hh,r⟩⟩
theorem az.far {w w':World}{B:Nat}{v:Value}{l:List (ByteArray×Int)}(h:az w B v l)(hk:∀k,B<=k->k<w.heap.size->w'.heap[k]?=w.heap[k]?):az w' B v l:=by
 obtain⟨hl,h|⟨g,cap,cur,hv,hgB,hh,r⟩⟩:=h
 ·exact⟨hl,.inl h⟩
 ·exact⟨hl,.inr ⟨g,cap,cur,hv,hgB,(hk g hgB (Array.getElem?_eq_some_iff.1 hh).1).trans hh,r⟩⟩
def JInv (r J B:Nat)(pre:List PM)(W:World):Prop:=
 mW r W/\(∃jv,W.cell? ⟨J,0,none⟩=some jv/\W.frozen? ⟨J,0,none⟩=false/\az W B jv (gQ (pre.map PM.p))/\(pre=[]->jv=.slice none 0 0))/\pre.length<=12/\B<=W.heap.size
theorem JInv.kept {r J B:Nat}{pre:List PM}{w w':World}{row:Option Nat}(h:JInv r J B pre w)(hg:w.grownBy w' row)(hr:∀r,row=some r->∃o:Obj,w.heap[r]?=some o/\o.isCells=false):JInv r J B pre w':=by
 obtain⟨h1,⟨jv,c,f,g,e⟩,h3,h4⟩:=h
 exact⟨h1.kept hg hr,⟨jv,cell_kept c hg hr,(frozen_kept c hg hr).trans f,g.kept hg hr,e⟩,h3,Nat.le_trans h4 hg.size⟩
theorem JInv.below {r J B:Nat}{pre:List PM}{w w':World}(h:JInv r J B pre w)(hb:Below w.heap.size w w'):JInv r J B pre w':=by
 obtain⟨h1,⟨jv,c,f,g,e⟩,h3,h4⟩:=h
 have hl:=block_lt_of_cell c
 exact⟨h1.below hb,⟨jv,ae hb hl c,(hb.frozen (p:=⟨J,0,none⟩) hl).trans f,g.keep hb,e⟩,h3,Nat.le_trans h4 hb.size⟩
theorem yX {W W':World}{row:Option Nat}{b:Nat}{v:Value}(h:W.cell? ⟨b,0,none⟩=some v)(hn:W.cell? ⟨b,3,none⟩=none)(hg:W.grownBy W' row)(hrow:∀r,row=some r->∃o:Obj,W.heap[r]?=some o/\o.isCells=false):W'.cell? ⟨b,3,none⟩=none:=by
 obtain⟨o,ho,hc⟩:=cells_of_cell h
 rw[World.cell?_of_block (w:=W) (w':=W') (a:=⟨b,3,none⟩) (grownBy_keeps_cells hg hrow ho hc)];exact hn
theorem Bv (pre:List PM):(gQ (pre.map PM.p)).length=pre.length:=by simp[gQ]
theorem Hz (pre:List PM)(x:PM):gQ ((pre++[x]).map PM.p)=gQ (pre.map PM.p)++[aG x.p.1 x.p.2]:=by simp[gQ]
theorem qp (x:PM):(aG x.p.1 x.p.2).1.size<=1048576:=by
 unfold aG
 split
 ·exact x.h.2
 ·exact x.h.1
set_option maxRecDepth 100000 in
set_option maxHeartbeats 4000000 in
theorem AQ (aa ab:Option Addr)(ca cb:Nat)(la lb:List (ByteArray×Int))(w:World)(hla:la.length<=maxLen)(hlb:lb.length<=maxLen)(hca:la.length<=ca)(hcb:lb.length<=cb)(ha:Row w aa la)(hb:Row w ab lb)
  (hsa:∀j,(h:j<la.length)->la[j].1.size<=maxLen) (hsb:∀j,(h:j<lb.length)->lb[j].1.size<=maxLen) :
  Calls Tryz.prog 107 #[.slice aa la.length ca,.slice ab lb.length cb] w fun e w'=>(∃v m ok,e=.returned (.tuple #[v,.bool ok])/\az w' w.heap.size v m/\DT la lb m ok)/\Below w.heap.size w w':=by
 refine(callsIn_wide (n:=5)).1 ?_
 refine callsIn_of_wp_marks Tryz.func107 rfl trivial ?_ rfl
 simp only[Tryz.ntmps107,List.size_toArray,List.length_cons,List.length_nil,Nat.reduceAdd,Nat.reduceSub,Array.replicate_succ,Array.replicate_zero,List.push_toArray,List.append_toArray,List.nil_append,List.cons_append]
 gi_wp2_with fail
 have hba:Below w.heap.size w ((w.alloc (.cells #[.slice none 0 0] 28)).alloc (.cells #[.bool false] 4)):=((Below.refl _ _).alloc (Nat.le_refl _) _).alloc (by simp) _
 have R0:mW w.heap.size ((w.alloc (.cells #[.slice none 0 0] 28)).alloc (.cells #[.bool false] 4)):=⟨by simp[go_sem],by simp[go_sem],by simp[go_sem],by simp[go_sem]⟩
 generalize (w.alloc (.cells #[.slice none 0 0] 28)).alloc (.cells #[.bool false] 4)=w0 at *
 refine⟨trivial,(callsIn_wide.2 (bY aa ca la _ hla (ha.below hba) hsa)).mono ?_⟩
 rintro e w1 ⟨⟨r,rfl,hr1⟩,hb1⟩
 have B1:Below w.heap.size w w1:=hba.trans (hb1.mono hba.size)
 have R1:=R0.below hb1
 have z1:=R1.lt
 obtain⟨c0,f0,c1,f1⟩:=R1
 cases r
 ·have hn:¬ah la:=fun h=>by simpa using hr1.2 h
  clear hr1
  gi_wp2_with fail
  refine⟨trivial, ?_⟩
  gi_wp2_with fail
  refine⟨.tuple #[.slice none 0 0,.bool false], ?_,⟨_,[],false,rfl,az.none _ _,.inl ⟨fun h=>hn h.1,rfl,rfl⟩⟩,(B1.setCell (p:=⟨w.heap.size,0,none⟩) (Nat.le_refl _) _).setCell (p:=⟨w.heap.size+1,0,none⟩) (Nat.le_succ _) _⟩
  simp[results,Tryz.f107,go_sem,c0,c1]
 have hya:ah la:=hr1.1 rfl
 clear hr1
 gi_wp2_with fail
 refine⟨trivial,(callsIn_wide.2 (bY ab cb lb _ hlb (hb.below B1) hsb)).mono ?_⟩
 rintro e w2 ⟨⟨r,rfl,hr2⟩,hb2⟩
 have B2:Below w.heap.size w w2:=B1.trans (hb2.mono B1.size)
 have R2:=(R0.below hb1).below hb2
 have z2:=R2.lt
 clear hb2 z1 B1 c0 f0 c1 f1 hb1 R0
 cases r
 ·have hn:¬ah lb:=fun h=>by simpa using hr2.2 h
  clear hr2
  obtain⟨c0,f0,c1,f1⟩:=R2
  gi_wp2_with fail
  refine⟨.tuple #[.slice none 0 0,.bool false], ?_,⟨_,[],false,rfl,az.none _ _,.inl ⟨fun h=>hn h.2,rfl,rfl⟩⟩,(B2.setCell (p:=⟨w.heap.size,0,none⟩) (Nat.le_refl _) _).setCell (p:=⟨w.heap.size+1,0,none⟩) (Nat.le_succ _) _⟩
  simp[results,Tryz.f107,go_sem,c0,c1]
 have hyb:ah lb:=hr2.1 rfl
 clear hr2
 gi_wp2_with fail
 refine⟨trivial,(callsIn_wide.2 (jX aa ab _ _ ca cb _)).mono ?_⟩
 rintro e w3 ⟨rfl,rfl⟩
 simp only[World.size_alloc]
 obtain⟨W0,hW0⟩:∃W0,((w2.alloc (.cells #[.slice none 0 0] 28)).alloc (.cells #[.slice aa la.length ca] 28)).alloc (.cells #[.slice ab lb.length cb] 28)=W0:=⟨_,rfl⟩
 have cO:W0.cell? ⟨w2.heap.size,0,none⟩=some (.slice none 0 0):=by rw[<- hW0];simp[go_sem]
 have fO:W0.frozen? ⟨w2.heap.size,0,none⟩=false:=by rw[<- hW0];simp[go_sem]
 have cA:W0.cell? ⟨w2.heap.size+1,0,none⟩=some (.slice aa la.length ca):=by rw[<- hW0];simp[go_sem]
 have cB:W0.cell? ⟨w2.heap.size+1+1,0,none⟩=some (.slice ab lb.length cb):=by rw[<- hW0];simp[go_sem]
 have nA3:W0.cell? ⟨w2.heap.size+1,3,none⟩=none:=by rw[<- hW0];simp[go_sem]
 have nB3:W0.cell? ⟨w2.heap.size+1+1,3,none⟩=none:=by rw[<- hW0];simp[go_sem]
 have hsz:W0.heap.size=w2.heap.size+3:=by rw[<- hW0];simp
 have b20:Below w2.heap.size w2 W0:=by rw[<- hW0];exact(((Below.refl _ _).alloc (Nat.le_refl _) _).alloc (by simp) _).alloc (by simp;omega) _
 have B0:Below w.heap.size w W0:=B2.trans (b20.mono B2.size)
 have R0:=R2.below b20
 rw[hW0]
 clear hW0 b20 R2
 gi_wp2_with fail
 refine wpIn_rangeFunc_ownH (n:=5) rfl (by omega) (gf:=164) (lb:=#[.pointer (some ⟨w2.heap.size+1,0,none⟩),.pointer (some ⟨w2.heap.size+1+1,0,none⟩)]) rfl trivial (enters_of Tryz.func164 (by kernel_rfl) rfl)
  (pW 4 w.heap.size (w2.heap.size+1) (w2.heap.size+1) (w2.heap.size+1+1) aa ab ca cb la lb hca hcb hya hyb (Nat.le_refl _) (by omega) W0 (by omega) cA cB nA3 nB3 (ha.low.below B0) (hb.low.below B0)) KS.trans (fun W l o o' _ h1 h2 _=>KS.put W l o o' h1 h2) (Below.refl _ _) (fun _=>rfl)
  (fun pre W=>JInv w.heap.size w2.heap.size W0.heap.size pre W/\Below w.heap.size w W)
  (fun c pre W=>(c=.ret/\12<pre.length/\mW w.heap.size W)/\Below w.heap.size w W)
  (OwnFrom.and (Go.Own.from (I:=JInv w.heap.size w2.heap.size W0.heap.size) (fun s A B row hs hg hr=>JInv.kept hs hg hr) _) (ownFrom_below (Nat.le_refl _) (by omega)))
  (fun c=>OwnFrom.and (Go.Own.from (fun s A B row hs hg hr=>⟨hs.1,hs.2.1,hs.2.2.kept hg hr⟩) _) (ownFrom_below (Nat.le_refl _) (by omega)))
  ⟨⟨R0,⟨_,cO,fO,az.none _ _,fun _=>rfl⟩,by simp,Nat.le_refl _⟩,B0⟩
  (fun x a' W=>∃bx bz,W0.heap.size<=bx/\W0.heap.size<=bz/\(W.cell? ⟨bx,0,none⟩=some (.string x.p.1.1)/\W.cell? ⟨bx,1,none⟩=some (.int .i64 x.p.1.2)/\W.cell? ⟨bz,0,none⟩=some (.string x.p.2.1)/\W.cell? ⟨bz,1,none⟩=some (.int .i64 x.p.2.2)/\W.cell? ⟨bx,3,none⟩=none/\W.cell? ⟨bz,3,none⟩=none)/\a'={ tmps:=#[.slice aa la.length ca,.slice ab lb.length cb,undef,undef,.pointer (some ⟨w.heap.size,0,none⟩),.pointer (some ⟨w.heap.size+1,0,none⟩),.pointer (some ⟨w2.heap.size,0,none⟩),.pointer (some ⟨bx,0,none⟩),.pointer (some ⟨bz,0,none⟩),.slice aa la.length ca,.bool true,.bool false,.bool false,.slice ab lb.length cb,.bool true,.bool false,.bool false,.slice aa la.length ca,.slice ab lb.length cb,.func (.func 164) #[] #[.pointer (some ⟨w2.heap.size+1,0,none⟩),.pointer (some ⟨w2.heap.size+1+1,0,none⟩)],.agg #[.string x.p.1.1,.int .i64 x.p.1.2],.agg #[.string x.p.2.1,.int .i64 x.p.2.2],undef,undef,undef,undef,undef,undef,undef,undef,undef,undef,undef],defers:=[] })
  (fun x a' s A B row hs hg hr=>by
   obtain⟨bx,bz,h1,h2,h3,h4⟩:=hs
   exact⟨bx,bz,h1,h2,⟨cell_kept h3.1 hg (fun r e=>(hr r e).2),cell_kept h3.2.1 hg (fun r e=>(hr r e).2),cell_kept h3.2.2.1 hg (fun r e=>(hr r e).2),cell_kept h3.2.2.2.1 hg (fun r e=>(hr r e).2),yX h3.1 h3.2.2.2.2.1 hg (fun r e=>(hr r e).2),yX h3.2.2.1 h3.2.2.2.2.2 hg (fun r e=>(hr r e).2)⟩,h4⟩) ?assign ?body ?done ?stop
 case assign=>
  rintro l pre x W K ⟨hI,hB⟩ hK
  simp only[Iw]
  gi_wp2
  have hb2:Below W.heap.size W ((W.alloc (.cells #[.string x.p.1.1,.int .i64 x.p.1.2] 54)).alloc (.cells #[.string x.p.2.1,.int .i64 x.p.2.2] 54)):=((Below.refl _ _).alloc (Nat.le_refl _) _).alloc (by simp) _
  exact hK _ _ (cZ _ hb2) (KS.of_below hb2) ⟨hI.below hb2,hB.trans (hb2.mono hB.size)⟩ ⟨W.heap.size,W.heap.size+1,hI.2.2.2,Nat.le_succ_of_le hI.2.2.2,⟨by simp[go_sem],by simp[go_sem],by simp[go_sem],by simp[go_sem],by simp[go_sem],by simp[go_sem]⟩,rfl⟩
 case body=>
  rintro l pre x a' W hle ⟨r,hr⟩ ⟨⟨hR,⟨jv,hc,hf,hg,hnil⟩,hlen,hW0⟩,hB⟩ ⟨bx,bz,h1,h2,⟨x0,x1,z0,z1,x3,z3⟩,rfl⟩ hlt
  have HIL:=Bv pre
  obtain⟨ag,capg,rfl,hrow⟩:=hg.shape
  rw[HIL]at hc hnil hg
  by_cases h12:pre.length=12
  ·have h12':((pre.length:Int)==12)=true:=by simp[h12]
   obtain⟨c0,f0,c1,f1⟩:=id hR
   have HR:Hid (∀W',W'=(W.setCell ⟨w.heap.size,0,none⟩ (.slice none 0 0)).setCell ⟨w.heap.size+1,0,none⟩ (.bool false)->KeepsFrom W0.heap.size W W'/\(12<(pre++[x]).length/\mW w.heap.size W')/\Below w.heap.size w W'):=by
    rintro W' rfl
    refine⟨((KeepsOthers.setCell _ _ _).trans (KeepsOthers.setCell _ _ _)).from _,⟨by simp;omega,⟨by simp[go_sem,c0],by simp[go_sem,f0],by simp[go_sem,c1],by simp[go_sem,f1]⟩⟩,(hB.setCell (p:=⟨w.heap.size,0,none⟩) (Nat.le_refl _) _).setCell (p:=⟨w.heap.size+1,0,none⟩) (Nat.le_succ _) _⟩
   gi_wp2_with fail
   have q:=HR.out _ rfl
   exact⟨q.1,⟨rfl,q.2.1⟩,q.2.2⟩
  have h12':((pre.length:Int)==12)=false:=by simp;omega
  have HFIN:Hid (∀(w6 w7:World) (v7:Value),Below W.heap.size W w6->az w7 W0.heap.size v7 (gQ (pre.map PM.p)++[aG x.p.1 x.p.2])->fJ W0.heap.size w6 w7 ->
    KeepsFrom W0.heap.size W (w7.setCell ⟨w2.heap.size,0,none⟩ v7)/\KS w.heap.size (w2.heap.size+1) W (w7.setCell ⟨w2.heap.size,0,none⟩ v7)/\JInv w.heap.size w2.heap.size W0.heap.size (pre++[x]) (w7.setCell ⟨w2.heap.size,0,none⟩ v7)/\Below w.heap.size w (w7.setCell ⟨w2.heap.size,0,none⟩ v7)):=by
   intro w6 w7 v7 b6 hg7 ha7
   have hW6:W0.heap.size<=w6.heap.size:=Nat.le_trans hW0 b6.size
   have far7:=ha7.far hW6
   have cJ7:w7.cell? ⟨w2.heap.size,0,none⟩=some (.slice ag pre.length capg):=(far7.cell (p:=⟨w2.heap.size,0,none⟩) (by simp only;omega)).trans (ae b6 (block_lt_of_cell hc) hc)
   have fJ7:w7.frozen? ⟨w2.heap.size,0,none⟩=false:=(far7.frozen (p:=⟨w2.heap.size,0,none⟩) (by simp only;omega)).trans ((b6.frozen (p:=⟨w2.heap.size,0,none⟩) (by simp only;omega)).trans hf)
   have hz7:=(KeepsOthers.setCell w7 ⟨w2.heap.size,0,none⟩ v7).size
   refine⟨(cZ _ b6).trans ((ha7.keeps.trans (KeepsOthers.setCell _ _ _)).from _),((KS.of_below b6).trans (ha7.ks B0.size)).trans ⟨hz7,fun k o hk h _=>?_⟩,⟨((hR.below b6).upto far7 (by omega)).set (by omega) (by omega) v7,⟨v7,World.cell?_setCell_same' _ _ _ (by rw[cJ7];rfl),by simp[go_sem,fJ7], ?_,fun e=>by simp at e⟩,by simp;omega,by have:=ha7.size;omega⟩, ?_⟩
   ·rw[Below.heap_setCell _ _ _ _ (by simp only;omega)];exact h
   ·rw[Hz]
    exact hg7.far fun k h1 h2=>Below.heap_setCell _ _ _ _ (by simp only;omega)
   ·exact(ha7.below (hB.trans (b6.mono hB.size)) B0.size (Nat.le_trans B0.size hW6)).setCell (p:=⟨w2.heap.size,0,none⟩) (by simp only;omega) _
  clear h12
  gi_wp2_with fail
  have HLX:Hid (bx<W.heap.size):=block_lt_of_cell x0
  have HLZ:Hid (bz<W.heap.size):=block_lt_of_cell z0
  have hdr:Below W.heap.size W W.drew:=(Below.refl _ _).drew
  have hS4:∀u,Below W.heap.size W u->u.cell? ⟨bx,0,none⟩=some (.string x.p.1.1)/\u.cell? ⟨bx,1,none⟩=some (.int .i64 x.p.1.2)/\u.cell? ⟨bz,0,none⟩=some (.string x.p.2.1)/\u.cell? ⟨bz,1,none⟩=some (.int .i64 x.p.2.2):=fun u hu=>
   ⟨ae hu (block_lt_of_cell x0) x0,ae hu (block_lt_of_cell x1) x1,ae hu (block_lt_of_cell z0) z0,ae hu (block_lt_of_cell z1) z1⟩
  have HS4:Hid _:=hS4
  have hSJ:∀u,Below W.heap.size W u->u.cell? ⟨w2.heap.size,0,none⟩=some (.slice ag pre.length capg):=fun u hu=>ae hu (block_lt_of_cell hc) hc
  have HSJ:Hid _:=hSJ
  clear hS4 hSJ
  refine rM (S:=fun u=>u.cell? ⟨bx,0,none⟩=some (.string x.p.1.1)/\u.cell? ⟨bx,1,none⟩=some (.int .i64 x.p.1.2)/\u.cell? ⟨bz,0,none⟩=some (.string x.p.2.1)/\u.cell? ⟨bz,1,none⟩=some (.int .i64 x.p.2.2)) (by kernel_rfl) (by kernel_rfl) (fun⟨_,_,h⟩=>h) ?_
  refine wpAnyH_take (i:=1) (v:=.agg #[.string x.p.1.1,.int .i64 x.p.1.2]) rfl (by kernel_rfl) (by kernel_rfl) (by kernel_rfl) (fun _ _ _ h=>h) (Or.inl ⟨by rfl, ?_⟩) ⟨x0,x1,z0,z1⟩ ?_
  ·rintro u ⟨q1,q2,q3,q4⟩
   go_simp
  simp only[Act.put,List.setIfInBounds_toArray]
  refine wpAnyH_take (i:=2) (v:=.agg #[.string x.p.2.1,.int .i64 x.p.2.2]) rfl (by kernel_rfl) (by kernel_rfl) (by kernel_rfl) (fun _ _ _ h=>h) (Or.inl ⟨by rfl, ?_⟩) ⟨x0,x1,z0,z1⟩ ?_
  ·rintro u ⟨q1,q2,q3,q4⟩
   go_simp
  simp only[Act.put]
  refine wpAnyH_ready (rs:=[0,3]) (by kernel_rfl) (by simp) ?_
  refine AllReadyH.cons rfl (fun K hK=>?_) (AllReadyH.cons rfl (fun K hK=>?_) AllReadyH.nil)
  ·rw[if_pos (by rfl)]
   have hcJ:=HSJ.out _ hdr
   go_simp
   refine hK.out _ _ (HS4.out _ hdr) (fun _=>?_)
   clear hK K hcJ
   refine wpAnyH_ready (rs:=[3]) (by kernel_rfl) (by simp) ?_
   refine AllReadyH.cons rfl (fun K hK=>?_) AllReadyH.nil
   rw[if_pos (by rfl)]
   go_simp
   refine(oV _ _ _).mono ?_
   rintro e w4 ⟨rfl,hb4⟩
   have b4:=hdr.trans (hb4.mono hdr.size)
   refine hK.out _ _ (HS4.out _ b4) (fun _=>?_)
   clear hK K
   refine wpAnyH_ready (rs:=[4]) (by kernel_rfl) (by simp) ?_
   refine AllReadyH.cons rfl (fun K hK=>?_) AllReadyH.nil
   rw[if_pos (by rfl)]
   go_simp
   refine(oU _ _ _ (by have:=qp x;omega)).mono ?_
   rintro e w5 ⟨rfl,hb5⟩
   have b5:=b4.trans (hb5.mono b4.size)
   refine hK.out _ _ (HS4.out _ b5) (fun _=>?_)
   clear hK K
   refine wpAnyH_ready (rs:=[5]) (by kernel_rfl) (by simp) ?_
   refine AllReadyH.cons rfl (fun K hK=>?_) AllReadyH.nil
   rw[if_pos (by rfl)]
   go_simp
   have b6:=b5.alloc b5.size (.cells #[.string (aG x.p.1 x.p.2).1,.int .i64 (aG x.p.1 x.p.2).2] 54)
   refine hK.out _ _ (HS4.out _ b6) (fun _=>?_)
   clear hK K
   refine wpAnyH_ready (rs:=[6]) (by kernel_rfl) (by simp) ?_
   refine AllReadyH.cons rfl (fun K hK=>?_) AllReadyH.nil
   rw[if_pos (by rfl)]
   have m0:=box0 w5 (.string (aG x.p.1 x.p.2).1) (.int .i64 (aG x.p.1 x.p.2).2) 54
   have m1:=box1 w5 (.string (aG x.p.1 x.p.2).1) (.int .i64 (aG x.p.1 x.p.2).2) 54
   generalize hw6:w5.alloc (.cells #[.string (aG x.p.1 x.p.2).1,.int .i64 (aG x.p.1 x.p.2).2] 54)=w6 at *
   clear hw6
   refine dF _ _ rfl W0.heap.size _ (gQ (pre.map PM.p)) rfl (hg.keep b6) (fun h=>hnil (by simpa[gQ]using h)) ⟨w5.heap.size,0,none⟩ (aG x.p.1 x.p.2) rfl m0 (by simpa[Addr.add]using m1) (by omega) (Nat.le_trans hW0 b6.size) ?_
   intro v7 w7 hg7 ha7
   have hW6:W0.heap.size<=w6.heap.size:=Nat.le_trans hW0 b6.size
   have far7:=ha7.far hW6
   have cJ7:w7.cell? ⟨w2.heap.size,0,none⟩=some (.slice ag pre.length capg):=(far7.cell (p:=⟨w2.heap.size,0,none⟩) (by simp only;omega)).trans (HSJ.out _ b6)
   have fJ7:w7.frozen? ⟨w2.heap.size,0,none⟩=false:=(far7.frozen (p:=⟨w2.heap.size,0,none⟩) (by simp only;omega)).trans ((b6.frozen (p:=⟨w2.heap.size,0,none⟩) (by simp only;omega)).trans hf)
   have ks6:KS w.heap.size (w2.heap.size+1) W w7:=(KS.of_below b6).trans (ha7.ks B0.size)
   have nx:bx<W.heap.size:=HLX.out
   have nz:bz<W.heap.size:=HLZ.out
   refine hK.out _ _ ⟨ks6.cell (.inr ⟨by omega,x3⟩) x0,ks6.cell (.inr ⟨by omega,x3⟩) x1,ks6.cell (.inr ⟨by omega,z3⟩) z0,ks6.cell (.inr ⟨by omega,z3⟩) z1⟩ (fun hS7=>?_)
   clear hK K
   refine wpAnyH_ready (rs:=[7]) (by kernel_rfl) (by simp) ?_
   refine AllReadyH.cons rfl (fun K hK=>?_) AllReadyH.nil
   rw[if_pos (by rfl)]
   obtain⟨a7,n7,rfl,hrow7⟩:=hg7.shape
   go_simp
   refine hK.out _ _ ⟨(aK _ _ (by omega)).trans hS7.1,(aK _ _ (by omega)).trans hS7.2.1,(aK _ _ (by omega)).trans hS7.2.2.1,(aK _ _ (by omega)).trans hS7.2.2.2⟩ (fun _=>?_)
   refine wpAnyH_done (by kernel_rfl) ?_ _
   refine HFIN.out w6 w7 _ b6 ?_ ha7
   simp only[List.length_append,List.length_cons,List.length_nil,Nat.zero_add,HIL]at hg7
   exact hg7
  ·rw[if_pos (by rfl)]
   go_simp
   refine(oV _ _ _).mono ?_
   rintro e w4 ⟨rfl,hb4⟩
   have b4:=hdr.trans (hb4.mono hdr.size)
   refine hK.out _ _ (HS4.out _ b4) (fun _=>?_)
   clear hK K
   refine wpAnyH_ready (rs:=[0,4]) (by kernel_rfl) (by simp) ?_
   refine AllReadyH.cons rfl (fun K hK=>?_) (AllReadyH.cons rfl (fun K hK=>?_) AllReadyH.nil)
   ·rw[if_pos (by rfl)]
    have hcJ:=HSJ.out _ b4
    go_simp
    refine hK.out _ _ (HS4.out _ b4) (fun _=>?_)
    clear hK K hcJ
    refine wpAnyH_ready (rs:=[4]) (by kernel_rfl) (by simp) ?_
    refine AllReadyH.cons rfl (fun K hK=>?_) AllReadyH.nil
    rw[if_pos (by rfl)]
    go_simp
    refine(oU _ _ _ (by have:=qp x;omega)).mono ?_
    rintro e w5 ⟨rfl,hb5⟩
    have b5:=b4.trans (hb5.mono b4.size)
    refine hK.out _ _ (HS4.out _ b5) (fun _=>?_)
    clear hK K
    refine wpAnyH_ready (rs:=[5]) (by kernel_rfl) (by simp) ?_
    refine AllReadyH.cons rfl (fun K hK=>?_) AllReadyH.nil
    rw[if_pos (by rfl)]
    go_simp
    have b6:=b5.alloc b5.size (.cells #[.string (aG x.p.1 x.p.2).1,.int .i64 (aG x.p.1 x.p.2).2] 54)
    refine hK.out _ _ (HS4.out _ b6) (fun _=>?_)
    clear hK K
    refine wpAnyH_ready (rs:=[6]) (by kernel_rfl) (by simp) ?_
    refine AllReadyH.cons rfl (fun K hK=>?_) AllReadyH.nil
    rw[if_pos (by rfl)]
    have m0:=box0 w5 (.string (aG x.p.1 x.p.2).1) (.int .i64 (aG x.p.1 x.p.2).2) 54
    have m1:=box1 w5 (.string (aG x.p.1 x.p.2).1) (.int .i64 (aG x.p.1 x.p.2).2) 54
    generalize hw6:w5.alloc (.cells #[.string (aG x.p.1 x.p.2).1,.int .i64 (aG x.p.1 x.p.2).2] 54)=w6 at *
    clear hw6
    refine dF _ _ rfl W0.heap.size _ (gQ (pre.map PM.p)) rfl (hg.keep b6) (fun h=>hnil (by simpa[gQ]using h)) ⟨w5.heap.size,0,none⟩ (aG x.p.1 x.p.2) rfl m0 (by simpa[Addr.add]using m1) (by omega) (Nat.le_trans hW0 b6.size) ?_
    intro v7 w7 hg7 ha7
    have hW6:W0.heap.size<=w6.heap.size:=Nat.le_trans hW0 b6.size
    have far7:=ha7.far hW6
    have cJ7:w7.cell? ⟨w2.heap.size,0,none⟩=some (.slice ag pre.length capg):=(far7.cell (p:=⟨w2.heap.size,0,none⟩) (by simp only;omega)).trans (HSJ.out _ b6)
    have fJ7:w7.frozen? ⟨w2.heap.size,0,none⟩=false:=(far7.frozen (p:=⟨w2.heap.size,0,none⟩) (by simp only;omega)).trans ((b6.frozen (p:=⟨w2.heap.size,0,none⟩) (by simp only;omega)).trans hf)
    have ks6:KS w.heap.size (w2.heap.size+1) W w7:=(KS.of_below b6).trans (ha7.ks B0.size)
    have nx:bx<W.heap.size:=HLX.out
    have nz:bz<W.heap.size:=HLZ.out
    refine hK.out _ _ ⟨ks6.cell (.inr ⟨by omega,x3⟩) x0,ks6.cell (.inr ⟨by omega,x3⟩) x1,ks6.cell (.inr ⟨by omega,z3⟩) z0,ks6.cell (.inr ⟨by omega,z3⟩) z1⟩ (fun hS7=>?_)
    clear hK K
    refine wpAnyH_ready (rs:=[7]) (by kernel_rfl) (by simp) ?_
    refine AllReadyH.cons rfl (fun K hK=>?_) AllReadyH.nil
    rw[if_pos (by rfl)]
    obtain⟨a7,n7,rfl,hrow7⟩:=hg7.shape
    go_simp
    refine hK.out _ _ ⟨(aK _ _ (by omega)).trans hS7.1,(aK _ _ (by omega)).trans hS7.2.1,(aK _ _ (by omega)).trans hS7.2.2.1,(aK _ _ (by omega)).trans hS7.2.2.2⟩ (fun _=>?_)
    refine wpAnyH_done (by kernel_rfl) ?_ _
    refine HFIN.out w6 w7 _ b6 ?_ ha7
    simp only[List.length_append,List.length_cons,List.length_nil,Nat.zero_add,HIL]at hg7
    exact hg7
   ·rw[if_pos (by rfl)]
    go_simp
    refine(oU _ _ _ (by have:=qp x;omega)).mono ?_
    rintro e w5 ⟨rfl,hb5⟩
    have b5:=b4.trans (hb5.mono b4.size)
    refine hK.out _ _ (HS4.out _ b5) (fun _=>?_)
    clear hK K
    refine wpAnyH_ready (rs:=[0,5]) (by kernel_rfl) (by simp) ?_
    refine AllReadyH.cons rfl (fun K hK=>?_) (AllReadyH.cons rfl (fun K hK=>?_) AllReadyH.nil)
    ·rw[if_pos (by rfl)]
     have hcJ:=HSJ.out _ b5
     go_simp
     refine hK.out _ _ (HS4.out _ b5) (fun _=>?_)
     clear hK K hcJ
     refine wpAnyH_ready (rs:=[5]) (by kernel_rfl) (by simp) ?_
     refine AllReadyH.cons rfl (fun K hK=>?_) AllReadyH.nil
     rw[if_pos (by rfl)]
     go_simp
     have b6:=b5.alloc b5.size (.cells #[.string (aG x.p.1 x.p.2).1,.int .i64 (aG x.p.1 x.p.2).2] 54)
     refine hK.out _ _ (HS4.out _ b6) (fun _=>?_)
     clear hK K
     refine wpAnyH_ready (rs:=[6]) (by kernel_rfl) (by simp) ?_
     refine AllReadyH.cons rfl (fun K hK=>?_) AllReadyH.nil
     rw[if_pos (by rfl)]
     have m0:=box0 w5 (.string (aG x.p.1 x.p.2).1) (.int .i64 (aG x.p.1 x.p.2).2) 54
     have m1:=box1 w5 (.string (aG x.p.1 x.p.2).1) (.int .i64 (aG x.p.1 x.p.2).2) 54
     generalize hw6:w5.alloc (.cells #[.string (aG x.p.1 x.p.2).1,.int .i64 (aG x.p.1 x.p.2).2] 54)=w6 at *
     clear hw6
     refine dF _ _ rfl W0.heap.size _ (gQ (pre.map PM.p)) rfl (hg.keep b6) (fun h=>hnil (by simpa[gQ]using h)) ⟨w5.heap.size,0,none⟩ (aG x.p.1 x.p.2) rfl m0 (by simpa[Addr.add]using m1) (by omega) (Nat.le_trans hW0 b6.size) ?_
     intro v7 w7 hg7 ha7
     have hW6:W0.heap.size<=w6.heap.size:=Nat.le_trans hW0 b6.size
     have far7:=ha7.far hW6
     have cJ7:w7.cell? ⟨w2.heap.size,0,none⟩=some (.slice ag pre.length capg):=(far7.cell (p:=⟨w2.heap.size,0,none⟩) (by simp only;omega)).trans (HSJ.out _ b6)
     have fJ7:w7.frozen? ⟨w2.heap.size,0,none⟩=false:=(far7.frozen (p:=⟨w2.heap.size,0,none⟩) (by simp only;omega)).trans ((b6.frozen (p:=⟨w2.heap.size,0,none⟩) (by simp only;omega)).trans hf)
     have ks6:KS w.heap.size (w2.heap.size+1) W w7:=(KS.of_below b6).trans (ha7.ks B0.size)
     have nx:bx<W.heap.size:=HLX.out
     have nz:bz<W.heap.size:=HLZ.out
     refine hK.out _ _ ⟨ks6.cell (.inr ⟨by omega,x3⟩) x0,ks6.cell (.inr ⟨by omega,x3⟩) x1,ks6.cell (.inr ⟨by omega,z3⟩) z0,ks6.cell (.inr ⟨by omega,z3⟩) z1⟩ (fun hS7=>?_)
     clear hK K
     refine wpAnyH_ready (rs:=[7]) (by kernel_rfl) (by simp) ?_
     refine AllReadyH.cons rfl (fun K hK=>?_) AllReadyH.nil
     rw[if_pos (by rfl)]
     obtain⟨a7,n7,rfl,hrow7⟩:=hg7.shape
     go_simp
     refine hK.out _ _ ⟨(aK _ _ (by omega)).trans hS7.1,(aK _ _ (by omega)).trans hS7.2.1,(aK _ _ (by omega)).trans hS7.2.2.1,(aK _ _ (by omega)).trans hS7.2.2.2⟩ (fun _=>?_)
     refine wpAnyH_done (by kernel_rfl) ?_ _
     refine HFIN.out w6 w7 _ b6 ?_ ha7
     simp only[List.length_append,List.length_cons,List.length_nil,Nat.zero_add,HIL]at hg7
     exact hg7
    ·rw[if_pos (by rfl)]
     go_simp
     have b6:=b5.alloc b5.size (.cells #[.string (aG x.p.1 x.p.2).1,.int .i64 (aG x.p.1 x.p.2).2] 54)
     refine hK.out _ _ (HS4.out _ b6) (fun _=>?_)
     clear hK K
     refine wpAnyH_ready (rs:=[0]) (by kernel_rfl) (by simp) ?_
     refine AllReadyH.cons rfl (fun K hK=>?_) AllReadyH.nil
     rw[if_pos (by rfl)]
     have hcJ:=HSJ.out _ b6
     go_simp
     refine hK.out _ _ (HS4.out _ b6) (fun _=>?_)
     clear hK K hcJ
     refine wpAnyH_ready (rs:=[6]) (by kernel_rfl) (by simp) ?_
     refine AllReadyH.cons rfl (fun K hK=>?_) AllReadyH.nil
     rw[if_pos (by rfl)]
     have m0:=box0 w5 (.string (aG x.p.1 x.p.2).1) (.int .i64 (aG x.p.1 x.p.2).2) 54
     have m1:=box1 w5 (.string (aG x.p.1 x.p.2).1) (.int .i64 (aG x.p.1 x.p.2).2) 54
     generalize hw6:w5.alloc (.cells #[.string (aG x.p.1 x.p.2).1,.int .i64 (aG x.p.1 x.p.2).2] 54)=w6 at *
     clear hw6
     refine dF _ _ rfl W0.heap.size _ (gQ (pre.map PM.p)) rfl (hg.keep b6) (fun h=>hnil (by simpa[gQ]using h)) ⟨w5.heap.size,0,none⟩ (aG x.p.1 x.p.2) rfl m0 (by simpa[Addr.add]using m1) (by omega) (Nat.le_trans hW0 b6.size) ?_
     intro v7 w7 hg7 ha7
     have hW6:W0.heap.size<=w6.heap.size:=Nat.le_trans hW0 b6.size
     have far7:=ha7.far hW6
     have cJ7:w7.cell? ⟨w2.heap.size,0,none⟩=some (.slice ag pre.length capg):=(far7.cell (p:=⟨w2.heap.size,0,none⟩) (by simp only;omega)).trans (HSJ.out _ b6)
     have fJ7:w7.frozen? ⟨w2.heap.size,0,none⟩=false:=(far7.frozen (p:=⟨w2.heap.size,0,none⟩) (by simp only;omega)).trans ((b6.frozen (p:=⟨w2.heap.size,0,none⟩) (by simp only;omega)).trans hf)
     have ks6:KS w.heap.size (w2.heap.size+1) W w7:=(KS.of_below b6).trans (ha7.ks B0.size)
     have nx:bx<W.heap.size:=HLX.out
     have nz:bz<W.heap.size:=HLZ.out
     refine hK.out _ _ ⟨ks6.cell (.inr ⟨by omega,x3⟩) x0,ks6.cell (.inr ⟨by omega,x3⟩) x1,ks6.cell (.inr ⟨by omega,z3⟩) z0,ks6.cell (.inr ⟨by omega,z3⟩) z1⟩ (fun hS7=>?_)
     clear hK K
     refine wpAnyH_ready (rs:=[7]) (by kernel_rfl) (by simp) ?_
     refine AllReadyH.cons rfl (fun K hK=>?_) AllReadyH.nil
     rw[if_pos (by rfl)]
     obtain⟨a7,n7,rfl,hrow7⟩:=hg7.shape
     go_simp
     refine hK.out _ _ ⟨(aK _ _ (by omega)).trans hS7.1,(aK _ _ (by omega)).trans hS7.2.1,(aK _ _ (by omega)).trans hS7.2.2.1,(aK _ _ (by omega)).trans hS7.2.2.2⟩ (fun _=>?_)
     refine wpAnyH_done (by kernel_rfl) ?_ _
     refine HFIN.out w6 w7 _ b6 ?_ ha7
     simp only[List.length_append,List.length_cons,List.length_nil,Nat.zero_add,HIL]at hg7
     exact hg7
 case done=>
  rintro D ys W hD hS ⟨⟨hR,⟨jv,hc,hf,hg,hnil⟩,hlen,hW0⟩,hB⟩ hK
  have hJ:=BR (ay hya) (ay hyb) (dW _ la lb (ay hya) (ay hyb) (Nat.le_refl _))
  rw[<- hS]at hJ
  have HIL:=Bv ys
  obtain⟨ag,capg,rfl,hrow⟩:=hg.shape
  obtain⟨c0,f0,c1,f1⟩:=id hR
  have HJ:Hid (jk la lb (gQ (ys.map PM.p))):=hJ
  clear hJ
  generalize gQ (ys.map PM.p)=jl at *
  have hz:=hR.lt
  rw[HIL]at hc hg
  gi_wp2
  have hg':az ((W.setCell ⟨w.heap.size,0,none⟩ (.slice ag ys.length capg)).setCell ⟨w.heap.size+1,0,none⟩ (.bool true)) W0.heap.size (.slice ag ys.length capg) jl:=
   hg.far fun k h1 h2=>(Below.heap_setCell _ _ _ _ (by simp only;omega)).trans (Below.heap_setCell _ _ _ _ (by simp only;omega))
  have hK':=((KeepsOthers.setCell W ⟨w.heap.size,0,none⟩ (.slice ag ys.length capg)).trans (KeepsOthers.setCell _ ⟨w.heap.size+1,0,none⟩ (.bool true))).same D _ hK rfl
  refine⟨by simp,.inl ⟨_,_,rfl,run_takeDeferred hK', ?_⟩⟩
  have d0:((W.setCell ⟨w.heap.size,0,none⟩ (.slice ag ys.length capg)).setCell ⟨w.heap.size+1,0,none⟩ (.bool true)).cell? ⟨w.heap.size,0,none⟩=some (.slice ag ys.length capg):=by simp[go_sem,c0]
  have d1:((W.setCell ⟨w.heap.size,0,none⟩ (.slice ag ys.length capg)).setCell ⟨w.heap.size+1,0,none⟩ (.bool true)).cell? ⟨w.heap.size+1,0,none⟩=some (.bool true):=by simp[go_sem,c1]
  have hr':∀r,some D=some r->∃o:Obj,((W.setCell ⟨w.heap.size,0,none⟩ (.slice ag ys.length capg)).setCell ⟨w.heap.size+1,0,none⟩ (.bool true)).heap[r]?=some o/\o.isCells=false:=fun r e=>by cases e;exact⟨_,hK',rfl⟩
  have e0:=cell_kept d0 (grownBy_putObj' _ D (.deferred none)) hr'
  have e1:=cell_kept d1 (grownBy_putObj' _ D (.deferred none)) hr'
  have hg5:=hg'.kept (grownBy_putObj' _ D (.deferred none)) hr'
  have hB2:=((hB.setCell (p:=⟨w.heap.size,0,none⟩) (Nat.le_refl _) (.slice ag ys.length capg)).setCell (p:=⟨w.heap.size+1,0,none⟩) (Nat.le_succ _) (.bool true)).trans (belowK_b (w:=w) (Nat.le_refl _) _ D _ (.deferred none) (by omega) hK' rfl rfl)
  refine⟨.tuple #[.slice ag ys.length capg,.bool true], ?_,⟨_,jl,true,rfl,hg5.lower B0.size,.inr ⟨hya,hyb,jl,HJ.out,.inl ⟨by omega,rfl,rfl⟩⟩⟩,hB2⟩
  simp[results,Tryz.f107,go_sem,e0,e1]
 case stop=>
  rintro D c pre W hD hpre ⟨⟨rfl,h12,hR⟩,hB⟩ hK
  have hJ:=BR (ay hya) (ay hyb) (dW _ la lb (ay hya) (ay hyb) (Nat.le_refl _))
  have hlen:12<(gQ (aO (la.length+lb.length) la lb)).length:=by
   have:=hpre.length_le
   simp only[gQ,List.length_map]at this ⊢
   omega
  gi_wp2
  refine⟨by simp,.inl ⟨_,_,rfl,run_takeDeferred hK, ?_⟩⟩
  have hR5:=hR.kept (grownBy_putObj' _ D (.deferred none)) (fun r e=>by cases e;exact⟨_,hK,rfl⟩)
  refine⟨.tuple #[.slice none 0 0,.bool false], ?_,⟨_,[],false,rfl,az.none _ _,.inr ⟨hya,hyb,_,hJ,.inr ⟨hlen,rfl,rfl⟩⟩⟩,hB.trans (belowK_b (w:=w) (Nat.le_refl _) W D _ _ (by omega) hK rfl rfl)⟩
  simp[results,Tryz.f107,go_sem,hR5.c0,hR5.c1]
end Go.Proofs.YtpfhegengmlkmabGreatDoor
