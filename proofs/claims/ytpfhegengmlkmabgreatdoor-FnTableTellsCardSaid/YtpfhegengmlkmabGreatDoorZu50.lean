/- Texts of this claim. -/
import Derived.Deep.CutBlock
import Derived.Test.YtpfhegengmlkmabGreatDoorZu44
import Derived.Test.YtpfhegengmlkmabGreatDoorZu47
import Derived.Test.YtpfhegengmlkmabGreatDoorZu48
import Derived.Test.YtpfhegengmlkmabGreatDoorZu49
namespace Go.Proofs.YtpfhegengmlkmabGreatDoor
open Go.RowKit Go.BigFrame
set_option maxRecDepth 100000
theorem Kq:GI mF:=fun k hk bT glo ghi g a0 a1 a2 a d0 d1 d2 cap r w ht hw u pv henv w00 h00 b00 henv0=>by
 have e:k=58:=by
  unfold kZ at hk
  rw[if_pos rfl]at hk
  simpa using hk.symm
 subst e
 refine(Iz bT glo ghi g a0 a1 a2 a d0 d1 d2 cap r w ht hw u pv henv.env).mono fun e w' ⟨h,hb⟩=>⟨?_,hb⟩
 rcases h with⟨s,g',q1,q2,q3,q4,q5,q6,q7,q8,h1,h2,h3,h4⟩|⟨h1,h2⟩
 ·exact .inl ⟨s,g',q1,q2,q3,q4,q5,q6,q7,q8,h1,lF h2,h3,h4⟩
 ·exact .inr ⟨lF h1,h2⟩
theorem KD:GI mV:=fun k hk bT glo ghi g a0 a1 a2 a d0 d1 d2 cap r w ht hw u pv henv w00 h00 b00 henv0=>by
 have e:k=59:=by
  unfold kZ at hk
  rw[if_neg (by decide),if_pos rfl]at hk
  simpa using hk.symm
 subst e
 refine(Gf bT glo ghi g a0 a1 a2 a d0 d1 d2 cap r w ht hw u pv henv.env henv.err w00 h00 b00 henv0.env).mono fun e w' ⟨h,hb⟩=>⟨?_,hb⟩
 rcases h with⟨s,g',q1,q2,q3,q4,q5,q6,q7,q8,h1,h2,h3,h4⟩|⟨h1,h2⟩
 ·exact .inl ⟨s,g',q1,q2,q3,q4,q5,q6,q7,q8,h1,oN h2,h3,h4⟩
 ·exact .inr ⟨oN h1,h2⟩
theorem Lu {u0:ByteArray}{r:List ByteArray}(h:bl u0=mF)(hne:r≠[]):MS u0 r:=fun a0 a1 a2 a c0 c1 c2 cap g w _ _ _ _ hw=>Jk a0 a1 a2 a c0 c1 c2 cap g u0 r w hw h hne
theorem KH {u0:ByteArray}{r:List ByteArray}(h:bl u0=mV):MS u0 r:=fun a0 a1 a2 a c0 c1 c2 cap g w hg r0 r1 r2 hw=>JW a0 a1 a2 a c0 c1 c2 cap g u0 r w hg r0 r1 r2 hw h
theorem IJ {ins:List ByteArray}{fs:List fQ}{t:ByteArray}(hI:fG ins)(hf:∀f∈fs,pK ins f)(ht:bl t=textOf ins fs):∀l∈aZ 10 t,∀u0 r,aZ 32 l=u0::r->(bl u0=mF/\r≠[])∨bl u0=mV:=fun l hl u0 r hur=>by
 rw[AZ hI hf ht]at hl
 rcases List.mem_cons.1 hl with rfl|hl
 ·have hcut:aZ 32 (oK (lD ins))=(mF::ins.map bl).map oK:=rf (by simp) (sG hI) (iI _)
  rw[hcut,List.map_cons,List.cons.injEq]at hur
  refine .inl ⟨by rw[<- hur.1,iI],fun e=>?_⟩
  have h:=hur.2
  rw[e]at h
  have:ins=[]:=by simpa using h
  have h1:=hI.1
  rw[this]at h1
  simp at h1
 ·obtain⟨f,hf',rfl⟩:=List.mem_map.1 hl
  have hcut:aZ 32 (oK (jI ins f))=(Ac ins f).map oK:=rf (by simp[Ac]) (rY hI (hf f hf')) (iI _)
  rw[hcut,Ac,List.map_cons,List.cons.injEq]at hur
  exact .inr (by rw[<- hur.1,iI])
theorem Jo {ins:List ByteArray}{fs:List fQ}{sh:List ry}{cs:List Int}(hI:fG ins)(hl:fs.length<=60)(h:LX ins fs sh cs):∃g,gJ (bJ ins) fs g sh cs:=by
 obtain⟨nm,ok,hN,h⟩:=h
 rcases hN with⟨rfl,_,rfl⟩|⟨rfl,hn,_⟩
 ·rcases h with⟨_,_,g,h⟩|⟨h|h,_⟩
  ·exact⟨g,h⟩
  ·cases h
  ·omega
 ·exact absurd hI hn
def jc (l:List UInt8)(i:Nat):Bool:=i==0 || l.getD (i-1) 0==10
theorem JM {l:List UInt8}{i:Nat}(hi:i<l.length):ik (jc l i) (l.drop i)=(if jc l i && di.isPrefixOf (l.drop i)then 1 else 0)+ik (jc l (i+1)) (l.drop (i+1)):=by
 have e:jc l (i+1)=(l[i]==10):=by simp[jc,List.getD_eq_getElem?_getD,List.getElem?_eq_getElem hi]
 rw[e,List.drop_eq_getElem_cons hi,ik]
theorem J4 (l:List UInt8):di.isPrefixOf l=(l.take 6==di):=by
 have e:di.length=6:=rfl
 rw[Bool.eq_iff_iff,List.isPrefixOf_iff_prefix,beq_iff_eq,List.prefix_iff_eq_take,e]
 exact eq_comm
theorem cnt_end {l:List UInt8}{i k:Nat}(h:k+ik (jc l i) (l.drop i)=ik true l)(hi:l.length<i+6):k=ik true l:=by
 rw[xx (l.drop i) _ (by rw[List.length_drop];omega)]at h
 omega
def LK:Value->Nat
 |.string s=>s.size
 |_=>0
theorem tK {n j:Nat}{ds:ByteArray}(h:bl ds=(kJ n).drop j)(h0:0<ds.size):ds[0]=(kJ n).getD j 0:=by
 have h1:=iQ ds 0 h0
 rw[h,List.getElem?_drop,Nat.add_zero]at h1
 rw[List.getD_eq_getElem?_getD,h1,Option.getD_some]
theorem lT.size {t s:ByteArray}(h:lT t s):s.size<=100000:=by
 rcases h with⟨_,h⟩|⟨hn,g,h⟩
 ·have:=congrArg List.length h
  rw[ak]at this
  simp at this
  omega
 ·have:=h.facts.2
  rw[ak]at this
  have h8:(aZ 10 t).length<=80:=Nat.le_of_not_lt fun e=>hn (.inr e)
  have:=Nat.mul_le_mul_right 1001 h8
  omega
set_option maxHeartbeats 6400000 in
theorem Io (ab:Option Addr)(n c:Nat)(w:World)(hby:Bytes w ab n c)(u:TypeId)(pv:Value)(hall:yw w u pv) :
  Calls Tryz.prog 3 #[.slice ab n c] w fun e w'=>e=.returned (.bool true)/\Below w.heap.size w w':=by
 obtain⟨i0,hi,hz0,hz1,hz2⟩:=info_parts Tryz.infoF
 go_enter Tryz.func3,Tryz.ntmps3
 by_cases hn:1048576<n
 ·have hn':(1048576:Int)<(n:Int):=by omega
  go_wp2_with fail
  go_ret
  exact⟨rfl,Below.refl _ _⟩
 have hn':¬(1048576:Int)<(n:Int):=by omega
 have cD:=Ah ab n c w hby
 go_wp2_with (go_at_call 4;refine gG ?_)
 unfold Hid
 refine cD.mono ?_
 rintro e w1 ⟨⟨vi,li,vf,Lf,rfl,hgi,h1,h5,hs8,hgf,h61⟩,b1⟩
 obtain⟨ia,ic,rfl,hic,hic2,hri⟩:=hgi.rows
 obtain⟨fa,fc,rfl,hfc,_⟩:=hgf.rows
 rw[List.length_map]at hfc hgf ⊢
 have cN:=xI ia ic li w1 (by omega) hri (fun j hj=>by have:=hs8 _ (List.getElem_mem hj);unfold maxLen;omega)
 clear cD
 go_wp2_with (go_at_call 5;refine gG ?_)
 unfold Hid
 refine cN.mono ?_
 rintro e w2 ⟨hE,b2⟩
 have B2:Below w.heap.size w w2:=b1.trans (b2.mono b1.size)
 rcases hE.start with⟨e0,p0,e1,p1,e2,p2,L,rfl,hN,_,_,_,_⟩|⟨rfl,_⟩
 case inr=>
  clear hE
  go_wp2_with fail
  go_ret
  exact⟨rfl,B2.alloc B2.size _⟩
 have hI:fG li:=by
  rcases hN with⟨_,h,_⟩|⟨h,_⟩
  ·exact h
  ·cases h
 have HI:Hid (fG li):=hI
 clear hE hN hI cN
 have bx:Below w2.heap.size w2 (w2.alloc (.cells #[.slice e0 li.length p0,.slice e1 L.length p1,.slice e2 0 p2] 30)):=(Below.refl _ _).alloc (Nat.le_refl _) _
 have B3:=B2.trans (bx.mono B2.size)
 by_cases h40:40<Lf.length
 ·have h40':(40:Int)<(Lf.length:Int):=by omega
  go_wp2_with fail
  go_ret
  exact⟨rfl,B3⟩
 have h40':¬(40:Int)<(Lf.length:Int):=by omega
 have hri3:=(hri.below b2).below bx
 have hgf3:=(hgf.keep b2).keep bx
 clear hri hgf hgi
 go_wp2_with fail
 generalize w2.alloc (.cells #[.slice e0 li.length p0,.slice e1 L.length p1,.slice e2 0 p2] 30)=W3 at *
 clear bx
 go_loopw [7,8] (fun t iv wr=>∃(k:Nat) (s:ByteArray),k<=li.length/\iv=.int .i64 k/\t=.string s/\Hid (bl s=lD (li.take k))/\s.size<=3+9*k/\Below W3.heap.size W3 wr) (fun _ iv _=>li.length-(intOf iv).toNat)
 case atStart=>exact⟨0,_,Nat.zero_le _,rfl,rfl,by simp[Hid,lD,Lib.join_one,bl,mF],Nat.le_refl _,Below.refl _ _⟩
 case round=>
  obtain⟨k,s,hk,rfl,rfl,HS,hsz,bw⟩:=hrel
  by_cases hlt:k<li.length
  ·obtain⟨bI,oI,rfl,hbI,cI⟩:=hri3 k hlt
   have cI1:=ae bw hbI cI
   have k0:(0:Int)<=(k:Int):=by omega
   have k1:(k:Int)<(li.length:Int):=by omega
   have hs8k:li[k].size<=8:=hs8 _ (List.getElem_mem hlt)
   have HS2:Hid (bl (s++⟨#[32]⟩++li[k])=lD (li.take (k+1))):=by
    have h:=HS.out
    unfold bl at h ⊢
    unfold Hid
    rw[Et hlt,au,au,h,List.append_assoc]
    rfl
   have hsz2:(s++(⟨#[32]⟩:ByteArray)++li[k]).size<=3+9*(k+1):=by
    simp only[ByteArray.size_append]
    have e1:(⟨#[32]⟩:ByteArray).size=1:=rfl
    omega
   go_wp2_with fail
   exact⟨⟨k+1,_,by omega,by go_num,rfl,HS2,hsz2,bw⟩,by simp[intOf];omega⟩
  ·obtain rfl:k=li.length:=by omega
   have HT0:Hid (bl s=textOf li []):=by
    have h:=HS.out
    rw[List.take_length]at h
    simpa[Hid,textOf]using h
   obtain⟨W4,rfl⟩:∃W4,W4=wr:=⟨_,rfl⟩
   have hri4:=hri3.below bw
   have hgf4:=hgf3.keep bw
   have B4:Below w.heap.size w W4:=B3.trans (bw.mono B3.size)
   clear HS hri3 hgf3 bw
   go_upto_block 2 with fail
   go_cut [7,9] (fun tx pl wx=>∃(s:ByteArray) (Lp:List eY),tx=.string s/\Hid (bl s=textOf li (Lp.map AO))/\s.size<=3000/\xe wx W4.heap.size w.heap.size pl Lp/\Lp.length<=40/\Hid (∀f∈Lp.map AO,pK li f)/\Below W4.heap.size W4 wx)
   case first=>
    go_wp2_with fail
    go_loopw [7,9,10] (fun t pl iv wr=>∃(q:Nat) (s:ByteArray) (Lp:List eY),q<=Lf.length/\iv=.int .i64 q/\t=.string s/\Hid (bl s=textOf li (Lp.map AO))/\s.size<=3000/\xe wr W4.heap.size w.heap.size pl Lp/\Lp.length<=q/\Hid (∀f∈Lp.map AO,pK li f)/\Below W4.heap.size W4 wr) (fun _ _ iv _=>Lf.length-(intOf iv).toNat)
    case atStart=>exact⟨0,s,[],Nat.zero_le _,rfl,rfl,HT0,by omega,Gx _ _ _,Nat.le_refl _,fun f hf=>by simp at hf,Below.refl _ _⟩
    case round=>
     clear HT0 hsz
     obtain⟨q,s,Lp,hq,rfl,rfl,HT,hs3,hP,hpl,HG,bq⟩:=hrel
     obtain⟨W5,rfl⟩:∃W5,W5=wr:=⟨_,rfl⟩
     by_cases hqlt:q<Lf.length
     ·obtain⟨gF,cF,eF,hgB,hgl,f0,f1,f2⟩:=hgf4.at hqlt
      simp only[Value.slice.injEq,true_and]at eF
      obtain⟨rfl,rfl⟩:=eF
      have hsl:=(hgf4.2 _ (List.getElem_mem hqlt)).1.keep bq
      have hsl2:=(hgf4.2 _ (List.getElem_mem hqlt)).2
      have d0:=ae bq hgl f0
      have d1:=ae bq hgl f1
      have d2:=ae bq hgl f2
      obtain⟨p,hp⟩:∃p,Lf[q]=p:=⟨_,rfl⟩
      rw[hp]at hsl hsl2 d0 d1 d2
      obtain⟨In,⟨x,m⟩,am,cm⟩:=p
      simp only at hsl hsl2 d0 d1 d2
      have q0:(0:Int)<=(q:Int):=by omega
      have q1:(q:Int)<(Lf.length:Int):=by omega
      clear hp f0 f1 f2
      have bb:Below W5.heap.size W5 (W5.alloc (.cells #[.int .i64 In,.int .i64 x,.slice am m.length cm] 36)):=(Below.refl _ _).alloc (Nat.le_refl _) _
      have BQ:Below W4.heap.size W4 (W5.alloc (.cells #[.int .i64 In,.int .i64 x,.slice am m.length cm] 36)):=bq.trans (bb.mono bq.size)
      have hrm:=(hsl.keep bb).row
      have hPb:=hP.keep bb
      have tb:=aQ W5 (.int .i64 In) (.int .i64 x) (.slice am m.length cm) 36
      have zb:W5.heap.size<(W5.alloc (.cells #[.int .i64 In,.int .i64 x,.slice am m.length cm] 36)).heap.size:=by simp
      obtain⟨WB,hWB⟩:∃WB,W5.alloc (.cells #[.int .i64 In,.int .i64 x,.slice am m.length cm] 36)=WB:=⟨_,rfl⟩
      rw[hWB]at bb BQ hrm hPb tb zb
      have HWB:Hid (W5.alloc (.cells #[.int .i64 In,.int .i64 x,.slice am m.length cm] 36)=WB):=hWB
      clear hWB
      obtain⟨t0,t1,t2,_,_,_⟩:=id tb
      by_cases g1:In<0
      ·have hPZ:=hPb
       have BZ:=BQ
       go_wp2_with (first|rw[HWB.out]|fail)
       exact⟨⟨q+1,s,Lp,by omega,by go_num,rfl,HT,hs3,hPZ,by omega,HG,BZ⟩,by simp[intOf];omega⟩
      by_cases g2:(li.length:Int)<=In
      ·have hPZ:=hPb
       have BZ:=BQ
       go_wp2_with (first|rw[HWB.out]|fail)
       exact⟨⟨q+1,s,Lp,by omega,by go_num,rfl,HT,hs3,hPZ,by omega,HG,BZ⟩,by simp[intOf];omega⟩
      have cO:=fZ am cm m WB (by have:=hsl2.1;unfold maxLen;omega) hrm (fun j hj=>by have:=hsl2.2 _ (List.getElem_mem hj);unfold maxLen;omega)
      go_wp2_with (first|rw[HWB.out]|(go_at_call 6;refine gG ?_))
      unfold Hid
      refine cO.mono ?_
      rintro e WC ⟨⟨ok,rfl,hok⟩,bc⟩
      have BZ:=BQ.trans (bc.mono BQ.size)
      have hPZ:=hPb.keep bc
      have tc:=tb.keep bc
      have zc:=Nat.lt_of_lt_of_le zb bc.size
      have hslc:=(hsl.keep bb).keep bc
      clear cO t0 t1 t2 hPb hrm HWB hsl
      obtain⟨t0,t1,t2,_,_,_⟩:=id tc
      cases ok with
      |false=>
       clear hok
       go_wp2_with fail
       exact⟨⟨q+1,s,Lp,by omega,by go_num,rfl,HT,hs3,hPZ,by omega,HG,BZ⟩,by simp[intOf];omega⟩
      |true=>
       have hst:ah m:=hok.1 rfl
       clear hok
       by_cases g3:x<0
       ·go_wp2_with fail
        exact⟨⟨q+1,s,Lp,by omega,by go_num,rfl,HT,hs3,hPZ,by omega,HG,BZ⟩,by simp[intOf];omega⟩
       by_cases g4:999<x
       ·go_wp2_with fail
        exact⟨⟨q+1,s,Lp,by omega,by go_num,rfl,HT,hs3,hPZ,by omega,HG,BZ⟩,by simp[intOf];omega⟩
       obtain⟨nx,rfl⟩:∃nx:Nat,x=(nx:Int):=⟨x.toNat,by omega⟩
       obtain⟨i,rfl⟩:∃i:Nat,In=(i:Int):=⟨In.toNat,by omega⟩
       have hnx:nx<1000:=by omega
       have hil:i<li.length:=by omega
       have hcv:(convert 22 9 (.slice (some ⟨WC.heap.size,0,none⟩) 3 3)).run Tryz.prog (WC.alloc (.cells #[.int .u8 (48+(nx:Int) / 100),.int .u8 (48+(nx:Int) / 10 % 10),.int .u8 (48+(nx:Int) % 10)] 5))=.ok (.string (oK (kJ nx))) (WC.alloc (.cells #[.int .u8 (48+(nx:Int) / 100),.int .u8 (48+(nx:Int) / 10 % 10),.int .u8 (48+(nx:Int) % 10)] 5)):=by
        have h:=Nw WC (48+nx / 100) (48+nx / 10 % 10) (48+nx % 10) (by omega) (by omega) (by omega)
        have e1:((48+nx / 100:Nat):Int)=48+(nx:Int) / 100:=by omega
        have e2:((48+nx / 10 % 10:Nat):Int)=48+(nx:Int) / 10 % 10:=by omega
        have e3:((48+nx % 10:Nat):Int)=48+(nx:Int) % 10:=by omega
        rw[e1,e2,e3]at h
        exact h
       have bd:Below WC.heap.size WC (WC.alloc (.cells #[.int .u8 (48+(nx:Int) / 100),.int .u8 (48+(nx:Int) / 10 % 10),.int .u8 (48+(nx:Int) % 10)] 5)):=(Below.refl _ _).alloc (Nat.le_refl _) _
       have BD:=BZ.trans (bd.mono BZ.size)
       have hPD:=hPZ.keep bd
       have td:=tc.keep bd
       have zd:=Nat.lt_of_lt_of_le zc bd.size
       have hsld:=hslc.keep bd
       obtain⟨D3,hD3⟩:∃D3,oK (kJ nx)=D3:=⟨_,rfl⟩
       have HD3:Hid (bl D3=kJ nx):=by rw[<- hD3];exact iI _
       have hD3s:D3.size=3:=by rw[<- hD3];rfl
       rw[hD3]at hcv
       clear hD3
       go_wp2_with fail
       generalize WC.alloc (.cells #[.int .u8 (48+(nx:Int) / 100),.int .u8 (48+(nx:Int) / 10 % 10),.int .u8 (48+(nx:Int) % 10)] 5)=WD at *
       clear t0 t1 t2 hPZ tc hslc BZ hcv bd
       obtain⟨t0,t1,t2,_,_,_⟩:=id td
       have hfin:∀{j:Nat} {ds:ByteArray},bl ds=(kJ nx).drop j->Strip nx j->(j=2∨(kJ nx).getD j 0≠48)->bl ds=Lib.itoa (nx:Int):=fun h1 h2 h3=>by rw[h1,GY hnx h2 h3,nZ]
       have HFIN:Hid (∀{j:Nat} {ds:ByteArray},bl ds=(kJ nx).drop j->Strip nx j->(j=2∨(kJ nx).getD j 0≠48)->bl ds=Lib.itoa (nx:Int)):=hfin
       have HST0:Hid (Strip nx 0):=⟨by omega,fun h=>by omega,fun h=>by omega⟩
       clear hfin
       by_cases hx10:nx<10
       ·go_loopw [12] (fun d wv=>∃(j:Nat) (ds:ByteArray),d=.string ds/\Hid (bl ds=(kJ nx).drop j)/\Hid (Strip nx j)/\j<=2/\ds.size+j=3/\WD=wv) (fun d _=>LK d)
        case atStart=>exact⟨0,D3,rfl,HD3,HST0,by omega,by omega,rfl⟩
        case round=>
         obtain⟨j,ds,rfl,HB,HS,hj2,hdz,rfl⟩:=hrel
         by_cases hj:j=2
         ·have hlen:¬(1:Int)<(ds.size:Int):=by omega
          have HDG:Hid (bl ds=Lib.itoa (nx:Int)):=HFIN.out HB.out HS.out (.inl hj)
          have hd3:ds.size<=3:=by omega
          clear hdz hj HB HS
          obtain⟨bI,oI,rfl,hbI,cI⟩:=hri4 i hil
          have cI1:=ae BD hbI cI
          have i0':(0:Int)<=(i:Int):=by omega
          have i1':(i:Int)<(li.length:Int):=by omega
          have hs8k:li[i].size<=8:=hs8 _ (List.getElem_mem hil)
          have hssz:=jB hst
          have hrm:=hsld.row
          have cT:∀n:dA WD,Calls Tryz.prog 7 #[.slice am m.length cm] n.w fun e w'=>e=.returned (.string (dI m))/\Below n.w.heap.size n.w w':=fun n=>mD am cm m n.w hst (hrm.below n.h)
          have HLN:Hid (bl ((⟨#[10,112,117,116,32]⟩:ByteArray)++li[i]++⟨#[32]⟩++ds++⟨#[32]⟩++dI m)=10::jI li ((i:Int),(nx:Int),m)):=by
           have e:yj li (i:Int)=li[i]:=vH i0' i1'
           rw[Hid,Dv]
           unfold bl
           simp only[au]
           have h:=HDG.out
           unfold bl at h
           rw[h]
           simp only[e]
           simp[mV]
          have q0:∀n:dA WD,n.w.cell? ⟨W5.heap.size,0,none⟩=some (.int .i64 (i:Int)):=fun n=>n.cell zd t0
          have q2:∀n:dA WD,n.w.cell? ⟨W5.heap.size,2,none⟩=some (.slice am m.length cm):=fun n=>n.cell zd t2
          have hbD:bI<WD.heap.size:=Nat.lt_of_lt_of_le hbI BD.size
          have q3:∀n:dA WD,n.w.cell? ⟨bI,oI+i,none⟩=some (.string li[i]):=fun n=>n.cell hbD cI1
          have hne:=dA.some WD
          generalize dI m=Z at *
          go_wp2_with fail
          refine aF (by kernel_rfl) (by kernel_rfl) ?_
          repeat (go_big_quiet_step ((go_at_call 7;exact Calls.lat_of (cT _))))
          refine wpQuiet_nil ?_
          rintro _ ⟨nq,rfl⟩
          have be:=nq.h
          have BE:=BD.trans (be.mono BD.size)
          have hPE:=hPD.keep be
          have te:=td.keep be
          have hsle:=hsld.keep be
          have ze:=Nat.lt_of_lt_of_le zd be.size
          have hlns:((⟨#[10,112,117,116,32]⟩:ByteArray)++li[i]++⟨#[32]⟩++ds++⟨#[32]⟩++Z).size<=300:=by
           simp only[ByteArray.size_append]
           have e1:(⟨#[32]⟩:ByteArray).size=1:=rfl
           have e2:(⟨#[10,112,117,116,32]⟩:ByteArray).size=5:=rfl
           omega
          generalize nq.w=WE at *
          generalize (⟨#[10,112,117,116,32]⟩:ByteArray)++li[i]++⟨#[32]⟩++ds++⟨#[32]⟩++Z=ln at *
          clear q0 q2 q3 hne cT t0 t1 t2 hPD td hsld be hrm
          obtain⟨t0,t1,t2,_,_,_⟩:=id te
          by_cases hbig:3000<s.size+ln.size
          ·have hbig':(3000:Int)<(s.size:Int)+(ln.size:Int):=by omega
           go_wp2_with fail
           go_meet
           case rel=>exact⟨s,Lp,rfl,HT,hs3,hPE,by omega,HG,BE⟩
          have hbig':¬(3000:Int)<(s.size:Int)+(ln.size:Int):=by omega
          have HT2:Hid (bl (s++ln)=textOf li ((Lp++[((i:Int),((nx:Int),m),am,cm)]).map AO)):=by
           have h:=HT.out
           have h2:=HLN.out
           rw[Hid,List.map_append,List.map_singleton,uK]
           unfold bl at h h2 ⊢
           rw[au,h,h2]
           rfl
          have HG2:Hid (∀f∈(Lp++[((i:Int),((nx:Int),m),am,cm)]).map AO,pK li f):=fun f hf=>by
           rw[List.map_append,List.map_singleton]at hf
           rcases List.mem_append.1 hf with hf|hf
           ·exact HG.out f hf
           ·obtain rfl:f=((i:Int),(nx:Int),m):=by simpa[AO]using hf
            exact⟨i0',i1',hst,by simp only;omega,by simp only;omega⟩
          have hs3n:(s++ln).size<=3000:=by rw[ByteArray.size_append];omega
          have bf:Below WE.heap.size WE (WE.alloc (.cells #[.int .i64 (i:Int),.int .i64 (nx:Int),.slice am m.length cm] 36)):=(Below.refl _ _).alloc (Nat.le_refl _) _
          have hPF:=hPE.keep bf
          have hslf:=hsle.keep bf
          have BF:=BE.trans (bf.mono BE.size)
          have hnw:∀j u,([.int .i64 (i:Int),.int .i64 (nx:Int),.slice am m.length cm]:List Value)[j]?=some u->(WE.alloc (.cells #[.int .i64 (i:Int),.int .i64 (nx:Int),.slice am m.length cm] 36)).cell? ((⟨WE.heap.size,0,none⟩:Addr).add j)=some u:=by
           intro j u hj
           match j,hj with
           |0,hj=>simp at hj;subst hj;simp[Addr.add,go_sem]
           |1,hj=>simp at hj;subst hj;simp[Addr.add,go_sem]
           |2,hj=>simp at hj;subst hj;simp[Addr.add,go_sem]
          have hzz:=BF.size
          go_wp2_with (at_builtin;refine wpList_append_lies _ rfl _ _ 24 rfl W4.heap.size 36 i0 (.agg #[.int .i64 0,.int .i64 0,.slice none 0 0]) 3 40 Tryz.underlying24 hi hz0 hz1 hz2 rfl (by decide) _ _ _ rfl hPF.own ⟨WE.heap.size,0,none⟩ 1 1 [.int .i64 (i:Int),.int .i64 (nx:Int),.slice am m.length cm] rfl rfl hnw (by simp[Value.oneCell']) (by decide) (by unfold maxLen;omega) (by omega) hzz _ rfl ?_;intro g9 c9 w14 hown hgrow _ _)
          have hob:=aN hPF.own
          exact⟨⟨q+1,_,Lp++[((i:Int),((nx:Int),m),am,cm)],by omega,by go_num,rfl,HT2,hs3n,hPF.snoc ⟨hslf,hsl2⟩ hown hgrow,by simp;omega,HG2,BF.grown hgrow hzz hob⟩,by simp[intOf];omega⟩
         ·have hlen:(1:Int)<(ds.size:Int):=by omega
          have hl0:0<ds.size:=by omega
          have hz:(kJ nx).getD j 0=48:=by
           rcases(by omega:j=0∨j=1)with rfl|rfl
           ·have e:nx / 100=0:=by omega
            simp[kJ,e]
           ·have e:nx / 10 % 10=0:=by omega
            simp[kJ,e]
          have HS2:Hid (Strip nx (j+1)):=wH hnx HS.out (by omega) hz
          have hb0:((ds[0].toNat:Int)==48)=true:=by rw[tK HB.out hl0,hz];rfl
          have HB2:Hid (bl (ds.extract 1 ds.size)=(kJ nx).drop (j+1)):=by rw[Hid,iG,List.take_of_length_le (by rw[ak];omega),HB.out,List.drop_drop,Nat.add_comm]
          have hz2:(ds.extract 1 ds.size).size+(j+1)=3:=by rw[ByteArray.size_extract];omega
          clear hz HB HS
          go_wp2_with fail
          exact⟨⟨j+1,_,rfl,HB2,HS2,by omega,hz2,by trivial⟩,by simp only[LK];omega⟩
       ·go_loopw [12] (fun d wv=>∃(j:Nat) (ds:ByteArray),d=.string ds/\Hid (bl ds=(kJ nx).drop j)/\Hid (Strip nx j)/\j<=2/\ds.size+j=3/\WD=wv) (fun d _=>LK d)
        case atStart=>exact⟨0,D3,rfl,HD3,HST0,by omega,by omega,rfl⟩
        case round=>
         obtain⟨j,ds,rfl,HB,HS,hj2,hdz,rfl⟩:=hrel
         have hj:j<2:=by
          have:=HS.out.2.2
          omega
         have hlen:(1:Int)<(ds.size:Int):=by omega
         have hl0:0<ds.size:=by omega
         by_cases hz:(kJ nx).getD j 0=48
         ·have HS2:Hid (Strip nx (j+1)):=wH hnx HS.out (by omega) hz
          have hb0:((ds[0].toNat:Int)==48)=true:=by rw[tK HB.out hl0,hz];rfl
          have HB2:Hid (bl (ds.extract 1 ds.size)=(kJ nx).drop (j+1)):=by rw[Hid,iG,List.take_of_length_le (by rw[ak];omega),HB.out,List.drop_drop,Nat.add_comm]
          have hz2:(ds.extract 1 ds.size).size+(j+1)=3:=by rw[ByteArray.size_extract];omega
          clear hz HB HS
          go_wp2_with fail
          exact⟨⟨j+1,_,rfl,HB2,HS2,by omega,hz2,by trivial⟩,by simp only[LK];omega⟩
         ·have hb0:((ds[0].toNat:Int)==48)=false:=by
           rw[tK HB.out hl0,beq_eq_false_iff_ne]
           intro e
           exact hz (UInt8.toNat_inj.1 (by have e2:(48:UInt8).toNat=48:=rfl;omega))
          have HDG:Hid (bl ds=Lib.itoa (nx:Int)):=HFIN.out HB.out HS.out (.inr hz)
          have hd3:ds.size<=3:=by omega
          clear hdz hj HB HS hz
          obtain⟨bI,oI,rfl,hbI,cI⟩:=hri4 i hil
          have cI1:=ae BD hbI cI
          have i0':(0:Int)<=(i:Int):=by omega
          have i1':(i:Int)<(li.length:Int):=by omega
          have hs8k:li[i].size<=8:=hs8 _ (List.getElem_mem hil)
          have hssz:=jB hst
          have hrm:=hsld.row
          have cT:∀n:dA WD,Calls Tryz.prog 7 #[.slice am m.length cm] n.w fun e w'=>e=.returned (.string (dI m))/\Below n.w.heap.size n.w w':=fun n=>mD am cm m n.w hst (hrm.below n.h)
          have HLN:Hid (bl ((⟨#[10,112,117,116,32]⟩:ByteArray)++li[i]++⟨#[32]⟩++ds++⟨#[32]⟩++dI m)=10::jI li ((i:Int),(nx:Int),m)):=by
           have e:yj li (i:Int)=li[i]:=vH i0' i1'
           rw[Hid,Dv]
           unfold bl
           simp only[au]
           have h:=HDG.out
           unfold bl at h
           rw[h]
           simp only[e]
           simp[mV]
          have q0:∀n:dA WD,n.w.cell? ⟨W5.heap.size,0,none⟩=some (.int .i64 (i:Int)):=fun n=>n.cell zd t0
          have q2:∀n:dA WD,n.w.cell? ⟨W5.heap.size,2,none⟩=some (.slice am m.length cm):=fun n=>n.cell zd t2
          have hbD:bI<WD.heap.size:=Nat.lt_of_lt_of_le hbI BD.size
          have q3:∀n:dA WD,n.w.cell? ⟨bI,oI+i,none⟩=some (.string li[i]):=fun n=>n.cell hbD cI1
          have hne:=dA.some WD
          generalize dI m=Z at *
          go_wp2_with fail
          refine aF (by kernel_rfl) (by kernel_rfl) ?_
          repeat (go_big_quiet_step ((go_at_call 7;exact Calls.lat_of (cT _))))
          refine wpQuiet_nil ?_
          rintro _ ⟨nq,rfl⟩
          have be:=nq.h
          have BE:=BD.trans (be.mono BD.size)
          have hPE:=hPD.keep be
          have te:=td.keep be
          have hsle:=hsld.keep be
          have ze:=Nat.lt_of_lt_of_le zd be.size
          have hlns:((⟨#[10,112,117,116,32]⟩:ByteArray)++li[i]++⟨#[32]⟩++ds++⟨#[32]⟩++Z).size<=300:=by
           simp only[ByteArray.size_append]
           have e1:(⟨#[32]⟩:ByteArray).size=1:=rfl
           have e2:(⟨#[10,112,117,116,32]⟩:ByteArray).size=5:=rfl
           omega
          generalize nq.w=WE at *
          generalize (⟨#[10,112,117,116,32]⟩:ByteArray)++li[i]++⟨#[32]⟩++ds++⟨#[32]⟩++Z=ln at *
          clear q0 q2 q3 hne cT t0 t1 t2 hPD td hsld be hrm
          obtain⟨t0,t1,t2,_,_,_⟩:=id te
          by_cases hbig:3000<s.size+ln.size
          ·have hbig':(3000:Int)<(s.size:Int)+(ln.size:Int):=by omega
           go_wp2_with fail
           go_meet
           case rel=>exact⟨s,Lp,rfl,HT,hs3,hPE,by omega,HG,BE⟩
          have hbig':¬(3000:Int)<(s.size:Int)+(ln.size:Int):=by omega
          have HT2:Hid (bl (s++ln)=textOf li ((Lp++[((i:Int),((nx:Int),m),am,cm)]).map AO)):=by
           have h:=HT.out
           have h2:=HLN.out
           rw[Hid,List.map_append,List.map_singleton,uK]
           unfold bl at h h2 ⊢
           rw[au,h,h2]
           rfl
          have HG2:Hid (∀f∈(Lp++[((i:Int),((nx:Int),m),am,cm)]).map AO,pK li f):=fun f hf=>by
           rw[List.map_append,List.map_singleton]at hf
           rcases List.mem_append.1 hf with hf|hf
           ·exact HG.out f hf
           ·obtain rfl:f=((i:Int),(nx:Int),m):=by simpa[AO]using hf
            exact⟨i0',i1',hst,by simp only;omega,by simp only;omega⟩
          have hs3n:(s++ln).size<=3000:=by rw[ByteArray.size_append];omega
          have bf:Below WE.heap.size WE (WE.alloc (.cells #[.int .i64 (i:Int),.int .i64 (nx:Int),.slice am m.length cm] 36)):=(Below.refl _ _).alloc (Nat.le_refl _) _
          have hPF:=hPE.keep bf
          have hslf:=hsle.keep bf
          have BF:=BE.trans (bf.mono BE.size)
          have hnw:∀j u,([.int .i64 (i:Int),.int .i64 (nx:Int),.slice am m.length cm]:List Value)[j]?=some u->(WE.alloc (.cells #[.int .i64 (i:Int),.int .i64 (nx:Int),.slice am m.length cm] 36)).cell? ((⟨WE.heap.size,0,none⟩:Addr).add j)=some u:=by
           intro j u hj
           match j,hj with
           |0,hj=>simp at hj;subst hj;simp[Addr.add,go_sem]
           |1,hj=>simp at hj;subst hj;simp[Addr.add,go_sem]
           |2,hj=>simp at hj;subst hj;simp[Addr.add,go_sem]
          have hzz:=BF.size
          go_wp2_with (at_builtin;refine wpList_append_lies _ rfl _ _ 24 rfl W4.heap.size 36 i0 (.agg #[.int .i64 0,.int .i64 0,.slice none 0 0]) 3 40 Tryz.underlying24 hi hz0 hz1 hz2 rfl (by decide) _ _ _ rfl hPF.own ⟨WE.heap.size,0,none⟩ 1 1 [.int .i64 (i:Int),.int .i64 (nx:Int),.slice am m.length cm] rfl rfl hnw (by simp[Value.oneCell']) (by decide) (by unfold maxLen;omega) (by omega) hzz _ rfl ?_;intro g9 c9 w14 hown hgrow _ _)
          have hob:=aN hPF.own
          exact⟨⟨q+1,_,Lp++[((i:Int),((nx:Int),m),am,cm)],by omega,by go_num,rfl,HT2,hs3n,hPF.snoc ⟨hslf,hsl2⟩ hown hgrow,by simp;omega,HG2,BF.grown hgrow hzz hob⟩,by simp[intOf];omega⟩
     ·go_wp2_with fail
      go_meet
      case rel=>exact⟨s,Lp,rfl,HT,hs3,hP,by omega,HG,bq⟩
   case rest=>
    obtain⟨s,Lp,rfl,HT,hs3,hP,hpl,HG,bq⟩:=hcut
    have BX:Below w.heap.size w wc:=B4.trans (bq.mono B4.size)
    have HLC:Hid (∀l∈aZ 10 s,∀u0 r,aZ 32 l=u0::r->(bl u0=mF/\r≠[])∨bl u0=mV):=IJ HI.out HG.out HT.out
    have cI:=DF s wc u pv (hall.below BX) (fun l hl _ u0 r e=>by
     rcases HLC.out l hl u0 r e with⟨h,_⟩|h
     ·rw[h];exact Kq
     ·rw[h];exact KD)
    go_wp2_with (go_at_call 8;refine gG ?_)
    unfold Hid
    refine cI.mono ?_
    rintro e w5 ⟨⟨o1,rfl,ho1⟩,b5⟩
    have HO1:Hid (lT s o1):=ho1
    have cS:=Dp s w5 (by omega) (fun _ l hl _ u0 r e=>by
     rcases HLC.out l hl u0 r e with⟨h,hne⟩|h
     ·exact Lu h hne
     ·exact KH h)
    clear cI ho1
    go_wp2_with (go_at_call 9;refine gG ?_)
    unfold Hid
    refine cS.mono ?_
    rintro e w6 ⟨⟨o2,rfl,ho2⟩,b6⟩
    obtain rfl:=HO1.out.one ho2
    have hq:(o1.toList==o1.toList)=true:=by simp
    have b56:=b5.trans (b6.mono b5.size)
    have B6:=BX.trans (b56.mono BX.size)
    have hP6:=(hP.keep b56).gath B4.size
    have hri6:=(hri4.below bq).below b56
    have hfit:=hP6.fit (by omega)
    obtain⟨pa,pc,hpv,hpc,hrF⟩:=hP6.rows
    rw[List.length_map]at hpv
    subst hpv
    have cP:=Aj ia pa ic pc li (Lp.map AO) w6 (by omega) hic hic2 hri6 (fun j hj=>by have:=hs8 _ (List.getElem_mem hj);unfold maxLen;omega) hfit hrF (hall.below B6).err
    rw[List.length_map]at cP
    clear cS ho2 hP hP6 hfit hrF HLC
    go_wp2_with (go_at_call 10;refine gG ?_)
    unfold Hid
    refine cP.mono ?_
    rintro e w7 ⟨⟨L9,cs,sa,ca,sc,cc,rfl,hR,_,_,_,_⟩,b7⟩
    have B7:=B6.trans (b7.mono B6.size)
    have HCN:Hid (ik true (bl o1)=L9.length):=by
     obtain⟨g,hg⟩:=Jo HI.out (by rw[List.length_map];omega) hR
     have:=Gm HI.out HG.out HT.out HO1.out hs3 (by rw[List.length_map];omega) hg
     simpa[Hid]using this
    have hos:=HO1.out.size
    clear cP hR
    go_wp2_with fail
    go_loopw [17,18] (fun nv iv wv=>∃(i k:Nat),i<=o1.size/\iv=.int .i64 i/\nv=.int .i64 k/\k<=i/\Hid (k+ik (jc (bl o1) i) ((bl o1).drop i)=ik true (bl o1))/\w7=wv) (fun _ iv _=>o1.size-(intOf iv).toNat)
    case atStart=>exact⟨0,0,Nat.zero_le _,rfl,rfl,Nat.le_refl _,by simp[Hid,jc],by trivial⟩
    case round=>
     obtain⟨i,k,hi',rfl,rfl,hki,HK,rfl⟩:=hrel
     by_cases h6:i+6<=o1.size
     ·have h6':(i:Int)+6<=(o1.size:Int):=by omega
      have HSP:Hid (ik (jc (bl o1) i) ((bl o1).drop i)=(if jc (bl o1) i && di.isPrefixOf ((bl o1).drop i)then 1 else 0)+ik (jc (bl o1) (i+1)) ((bl o1).drop (i+1))):=JM (by rw[ak];omega)
      have HPT:Hid (di.isPrefixOf ((bl o1).drop i)=((o1.extract i (i+6)).toList==[115,104,111,119,115,32])):=by
       rw[Hid,J4,ByteArray.toList_eq]
       have e:=iG o1 i (i+6)
       unfold bl at e ⊢
       rw[e,List.drop_take,Nat.add_sub_cancel_left]
       rfl
      by_cases hp:((o1.extract i (i+6)).toList==[115,104,111,119,115,32])=true
      ·by_cases hi0:i=0
       ·subst hi0
        have HK2:Hid (k+1+ik (jc (bl o1) (0+1)) ((bl o1).drop (0+1))=ik true (bl o1)):=by
         have h:=HK.out
         rw[HSP.out,HPT.out,hp]at h
         simp only[jc]at h ⊢
         simp at h ⊢
         unfold Hid
         omega
        clear HK HSP HPT
        go_wp2_with fail
        exact⟨⟨0+1,k+1,by omega,by go_num,by go_num,by omega,HK2,by trivial⟩,by simp[intOf];omega⟩
       ·obtain⟨j,rfl⟩:∃j,i=j+1:=⟨i-1,by omega⟩
        have hjl:j<o1.size:=by omega
        have hz0':(((j:Int)+1)==0)=false:=by rw[beq_eq_false_iff_ne];omega
        have hpr:jc (bl o1) (j+1)=(o1[j]==10):=by simp[jc,List.getD_eq_getElem?_getD,iQ o1 j hjl]
        by_cases hb:o1[j]=10
        ·have hb':((o1[j].toNat:Int)==10)=true:=by rw[hb];rfl
         have HK2:Hid (k+1+ik (jc (bl o1) (j+1+1)) ((bl o1).drop (j+1+1))=ik true (bl o1)):=by
          have h:=HK.out
          rw[HSP.out,HPT.out,hp,hpr,hb]at h
          unfold Hid
          simp at h
          omega
         clear HK HSP HPT hpr hb hi0
         go_wp2_with fail
         exact⟨⟨j+1+1,k+1,by omega,by go_num,by go_num,by omega,HK2,by trivial⟩,by simp[intOf];omega⟩
        ·have hb':((o1[j].toNat:Int)==10)=false:=by
          rw[beq_eq_false_iff_ne]
          exact fun e=>hb (UInt8.toNat_inj.1 (by have e2:(10:UInt8).toNat=10:=rfl;omega))
         have HK2:Hid (k+ik (jc (bl o1) (j+1+1)) ((bl o1).drop (j+1+1))=ik true (bl o1)):=by
          have h:=HK.out
          have hbf:(o1[j]==10)=false:=by simpa using hb
          rw[HSP.out,HPT.out,hp,hpr,hbf]at h
          unfold Hid
          simp at h
          omega
         clear HK HSP HPT hpr hb hi0
         go_wp2_with fail
         exact⟨⟨j+1+1,k,by omega,by go_num,rfl,by omega,HK2,by trivial⟩,by simp[intOf];omega⟩
      ·have hp':((o1.extract i (i+6)).toList==[115,104,111,119,115,32])=false:=by simpa using hp
       have HK2:Hid (k+ik (jc (bl o1) (i+1)) ((bl o1).drop (i+1))=ik true (bl o1)):=by
        have h:=HK.out
        rw[HSP.out,HPT.out,hp']at h
        simpa[Hid]using h
       clear HK HSP HPT hp
       go_wp2_with fail
       exact⟨⟨i+1,k,by omega,by go_num,rfl,by omega,HK2,by trivial⟩,by simp[intOf];omega⟩
     ·have h6':¬(i:Int)+6<=(o1.size:Int):=by omega
      have hkL:k=L9.length:=by
       have:=cnt_end HK.out (by rw[ak];omega)
       rw[this]
       exact HCN.out
      subst hkL
      have hqq:((L9.length:Int)==(L9.length:Int))=true:=by simp
      clear HK HCN
      go_wp2_with fail
      go_ret
      exact⟨rfl,B7⟩
end Go.Proofs.YtpfhegengmlkmabGreatDoor
