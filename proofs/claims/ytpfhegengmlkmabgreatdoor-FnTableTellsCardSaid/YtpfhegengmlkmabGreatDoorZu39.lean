/- Texts of this claim. -/
import Derived.Test.YtpfhegengmlkmabGreatDoorZu37
import Derived.Test.YtpfhegengmlkmabGreatDoorZu38
namespace Go.Proofs.YtpfhegengmlkmabGreatDoor
open Go.RowKit Go.BigFrame
set_option maxRecDepth 100000
inductive gJ (g0:aB):List fQ->aB->List ry->List Int->Prop
 |nil:gJ g0 [] g0 [] []
 |snoc {fs:List fQ} {g g1:aB} {sh:List ry} {cs:List Int} {f:fQ} {sv:List Int} {ss:List (ByteArray×Int)} {c:Int} (h:gJ g0 fs g sh cs) (hp:mi g f.1 f.2.1 f.2.2 g1 sv ss c) :
   gJ g0 (fs++[f]) (if c=2 then g else g1) (if c=1 then sh++[(sv,ss)]else sh) (cs++[c])
theorem gJ.nice {g0:aB}{l:List fQ}{g:aB}{sh:List ry}{cs:List Int}(h0:nS g0)(h:gJ g0 l g sh cs):nS g/\NJ sh/\cs.length=l.length/\sh.length<=l.length:=by
 induction h with
 |nil=>exact⟨h0,fun p hp=>by simp at hp,rfl,Nat.le_refl _⟩
 |snoc h hp ih=>
  obtain⟨i1,i2,i3,i4⟩:=ih
  obtain⟨j1,j2,j3⟩:=hp.nice
  refine⟨?_, ?_,by simp[i3], ?_⟩
  ·split
   ·exact i1
   ·exact j1
  ·split
   ·intro p hp'
    rcases List.mem_append.1 hp' with h1|h1
    ·exact i2 p h1
    ·obtain rfl:p=_:=by simpa using h1
     exact⟨j2,j3.1⟩
   ·exact i2
  ·split
   ·simp;omega
   ·simp;omega
def LX (ins:List ByteArray)(fs:List fQ)(sh:List ry)(cs:List Int):Prop:=
 ∃nm ok,MV ins nm ok/\((ok=true/\fs.length<=60/\∃g,gJ (bJ nm) fs g sh cs)∨((ok=false∨60<fs.length)/\sh=[]/\cs=[]))
theorem yN {ins nm:List ByteArray}(h:MV ins nm true):nS (bJ nm):=by
 rcases h with⟨_,h1,rfl⟩|⟨e,_,_⟩
 ·refine⟨h1.2.1,fun j hj=>(h1.2.2 j hj).1.2.1,by simp[bJ];exact h1.2.1,fun l hl=>?_,bK⟩
  obtain rfl:l=[]:=by
   have:=List.eq_of_mem_replicate (show l∈List.replicate _ []from hl)
   exact this
  exact⟨by simp,fun j hj=>by simp at hj⟩
 ·cases e
structure Np (w:World) (lo hi:Nat) (sa ca:Option Addr) (L:List jO) (cs:List Int):Prop where
 sh:L=[]∨∃t,sa=some ⟨t,0,none⟩/\lo<=t/\t<hi/\HW w lo hi t L/\(∀c,ca=some ⟨c,0,none⟩->c≠t)
 co:cs=[]∨∃c,ca=some ⟨c,0,none⟩/\lo<=c/\c<hi/\gZ w c cs/\∀p∈L,c<p.lo∨p.hi<=c
structure Duo (w:World) (b:Nat) (x y:Value):Prop where
 c0:w.cell? ⟨b,0,none⟩=some x
 c1:w.cell? ⟨b,1,none⟩=some y
 f0:w.frozen? ⟨b,0,none⟩=false
 f1:w.frozen? ⟨b,1,none⟩=false
theorem Duo.keep {w w':World}{b:Nat}{x y:Value}(h:Duo w b x y)(hb:Below w.heap.size w w'):Duo w' b x y:=by
 have hl:b<w.heap.size:=block_lt_of_cell h.c0
 exact⟨ae hb hl h.c0,ae hb hl h.c1,(hb.frozen (p:=⟨b,0,none⟩) hl).trans h.f0,(hb.frozen (p:=⟨b,1,none⟩) hl).trans h.f1⟩
theorem Duo.span {w w':World}{b lo hi:Nat}{x y:Value}(h:Duo w b x y)(hs:aJ lo hi w w')(hd:b<lo∨hi<=b):Duo w' b x y:=by
 have e:=hs.block b (block_lt_of_cell h.c0) hd
 exact⟨(World.cell?_of_block (a:=⟨b,0,none⟩) e).trans h.c0,(World.cell?_of_block (a:=⟨b,1,none⟩) e).trans h.c1,(World.frozen?_of_block (a:=⟨b,0,none⟩) e).trans h.f0,(World.frozen?_of_block (a:=⟨b,1,none⟩) e).trans h.f1⟩
theorem Duo.set0 {w:World}{b:Nat}{x y:Value}(h:Duo w b x y)(v:Value):Duo (w.setCell ⟨b,0,none⟩ v) b v y:=⟨by simp[go_sem,h.c0],by simp[go_sem,h.c1],by simp[go_sem,h.f0],by simp[go_sem,h.f1]⟩
theorem Duo.set1 {w:World}{b:Nat}{x y:Value}(h:Duo w b x y)(v:Value):Duo (w.setCell ⟨b,1,none⟩ v) b x v:=⟨by simp[go_sem,h.c0],by simp[go_sem,h.c1],by simp[go_sem,h.f0],by simp[go_sem,h.f1]⟩
theorem Fh (w:World)(x y:Value)(t:TypeId):Duo (w.alloc (.cells #[x,y] t)) w.heap.size x y:=⟨by simp[go_sem],by simp[go_sem],by simp[go_sem],by simp[go_sem]⟩
structure lV where
 g:aB
 L:List aS
 sv:List Int
 ss:List (ByteArray×Int)
 code:Int
 s0:Option Addr
 s1:Option Addr
 s2:Option Addr
 s3:Option Addr
 s4:Option Addr
 d0:Nat
 d1:Nat
 d2:Nat
 d3:Nat
 d4:Nat
 tl:Nat
 h1:Nat
 h2:Nat
 th:Nat
abbrev lV.gv (R:lV):Value:=.agg #[.slice R.s0 R.g.ins.length R.d0,.slice R.s1 R.L.length R.d1,.slice R.s2 R.g.shown.length R.d2]
abbrev lV.wv (R:lV):Value:=.agg #[.slice R.s3 R.sv.length R.d3,.slice R.s4 R.ss.length R.d4]
abbrev lV.all (R:lV):Value:=.tuple #[R.gv,R.wv,.int .i64 R.code]
structure sU (g:aB) (i x:Int) (m:List (ByteArray×Int)) (R:lV) (u:World):Prop where
 put:mi g i x m R.g R.sv R.ss R.code
 map:R.L.map (·.l)=R.g.wins
 sg:iV u R.tl R.h1 R.s0 R.s1 R.s2 R.g.ins R.L R.g.shown
 sz:kL u R.h1 R.h2 R.s3 R.sv
 ss:Safe u R.h2 R.th R.s4 R.ss
 o1:R.tl<=R.h1
 o2:R.h1<=R.h2
 o3:R.h2<=R.th
 o4:R.th<=u.heap.size
 cap:R.g.ins.length<=R.d0/\R.d0<=maxLen
 cap2:R.g.shown.length<=R.d2/\R.ss.length<=R.d4
structure NQ (g:aB) (i x:Int) (m:List (ByteArray×Int)) (R:lV) (u:World):Prop where
 put:mi g i x m R.g R.sv R.ss R.code
 map:R.L.map (·.l)=R.g.wins
 sg:iV u R.tl R.th R.s0 R.s1 R.s2 R.g.ins R.L R.g.shown
 sz:kL u R.tl R.th R.s3 R.sv
 ss:Safe u R.tl R.th R.s4 R.ss
 o1:R.tl<=R.th
 o4:R.th<=u.heap.size
 cap:R.g.ins.length<=R.d0/\R.d0<=maxLen
 room:FV u R.tl R.th R.s0 R.s1 R.d0 R.d1 R.g.ins.length R.L.length
theorem sU.below {g:aB}{i x:Int}{m:List (ByteArray×Int)}{R:lV}{u u':World}(h:sU g i x m R u)(hb:Below u.heap.size u u'):sU g i x m R u':=⟨h.put,h.map,h.sg.below hb,h.sz.below hb,h.ss.below hb,h.o1,h.o2,h.o3,Nat.le_trans h.o4 hb.size,h.cap,h.cap2⟩
theorem sU.span {g:aB}{i x:Int}{m:List (ByteArray×Int)}{R:lV}{u u':World}{lo hi:Nat}(h:sU g i x m R u)(hs:aJ lo hi u u')(hd:R.th<=lo∨hi<=R.tl):sU g i x m R u':=by
 have h1:=h.o1
 have h2:=h.o2
 have h3:=h.o3
 exact⟨h.put,h.map,h.sg.span hs (by omega),h.sz.span hs (by omega),h.ss.span hs (by omega),h.o1,h.o2,h.o3,Nat.le_trans h.o4 hs.size,h.cap,h.cap2⟩
theorem MZ.cal {w w':World}{g:aB}{i x:Int}{m:List (ByteArray×Int)}{e:Ending}(h:MZ w w' g i x m e):∃R:lV,e=.returned R.all/\R.tl=w.heap.size/\R.th=w'.heap.size/\sU g i x m R w':=by
 obtain⟨g',L,sv,ss,code,a0,a1,a2,a3,a4,d0,d1,d2,d3,d4,h1,h2,rfl,hp,hm,o1,o2,o3,k1,k2,k3,k4,k5⟩:=h
 exact⟨⟨g',L,sv,ss,code,a0,a1,a2,a3,a4,d0,d1,d2,d3,d4,w.heap.size,h1,h2,w'.heap.size⟩,rfl,rfl,rfl,hp,hm,k1,k2,k3,o1,o2,o3,Nat.le_refl _,k4,k5⟩
theorem Ny.cal {w w':World}{g:aB}{i x:Int}{m:List (ByteArray×Int)}{e:Ending}(h:Ny w w' g i x m e)(hb:w.heap.size<=w'.heap.size):∃R:lV,e=.returned R.all/\R.tl=w.heap.size/\R.th=w'.heap.size/\NQ g i x m R w':=by
 obtain⟨g',L,sv,ss,code,a0,a1,a2,a3,a4,d0,d1,d2,d3,d4,rfl,hp,hm,k1,k2,k3,k4,k5⟩:=h
 exact⟨⟨g',L,sv,ss,code,a0,a1,a2,a3,a4,d0,d1,d2,d3,d4,w.heap.size,0,0,w'.heap.size⟩,rfl,rfl,rfl,hp,hm,k1,k2,k3,hb,Nat.le_refl _,k4,k5⟩
theorem nS.fit {g:aB}(h:nS g):Ey g:=
 ⟨⟨by have:=h.ins;unfold maxLen;omega,fun j hj=>by have:=h.names j hj;unfold maxLen;omega⟩,⟨by have:=h.wins;unfold maxLen;omega,fun j hj=>(h.items _ (List.getElem_mem hj)).fit⟩,dH h.shown⟩
theorem LQ {L:List aS}{ws:List (List af)}(h:L.map (·.l)=ws):L.length=ws.length:=by rw[<- h,List.length_map]
def hcells:List jO->List Value
 |[]=>[]
 |p::r=>.slice p.a1 p.vals.length p.c1::.slice p.a2 p.st.length p.c2::hcells r
theorem pI:∀L r,hcells (L++r)=hcells L++hcells r
 |[],_=>rfl
 |p::L,r=>by simp[hcells,pI L r]
theorem yF:∀(L:List jO) (k:Nat) (h:k<L.length),(hcells L)[k*2]?=some (.slice L[k].a1 L[k].vals.length L[k].c1)/\(hcells L)[k*2+1]?=some (.slice L[k].a2 L[k].st.length L[k].c2)
 |p::r,0,_=>by simp[hcells]
 |p::r,k+1,h=>by
  have:=yF r k (by simpa using h)
  have e0:(k+1)*2=k*2+1+1:=by omega
  rw[e0]
  simp only[hcells,List.getElem?_cons_succ,List.getElem_cons_succ]
  exact this
theorem oh:73≠3:=by decide
theorem kD {w w':World}{r:Option Nat}(hg:w.grownBy w' r):∃lo hi,aJ lo hi w w'/\(lo<hi->r=some lo/\hi=lo+1)/\(¬lo<hi->hi=0):=by
 cases r with
 |none=>exact⟨0,0,⟨hg.os,hg.tape,hg.output,hg.size,fun i hi _=>hg.block i hi (by simp)⟩,fun h=>absurd h (Nat.lt_irrefl _),fun _=>rfl⟩
 |some k=>exact⟨k,k+1,wW hg,fun _=>⟨rfl,rfl⟩,fun h=>absurd (Nat.lt_succ_self k) h⟩
structure mZ (B:Nat) (u:World) (bG glo ghi:Nat) (g:aB) (Lw:List aS) (a0 a1 a2:Option Addr) (d0 d1 d2:Nat) (vs vc:Value) (L:List jO) (cs:List Int):Prop where
 tG:iy u bG (.slice a0 g.ins.length d0) (.slice a1 Lw.length d1) (.slice a2 g.shown.length d2)
 map:Lw.map (·.l)=g.wins
 nice:nS g
 sg:iV u glo ghi a0 a1 a2 g.ins Lw g.shown
 glt:ghi<=u.heap.size
 gbox:bG<glo∨ghi<=bG
 bB:bG<B
 BU:B<=u.heap.size
 osh:u.ownsRow B 73 2 vs L.length (hcells L)
 oco:dZ u B vc cs
 at_:∀p∈L,p.In u/\B<=p.lo
 dis:L.Pairwise fun p q=>p.hi<=q.lo
 sfar:∀p∈L,∀k,vs.ownBlock=some k->k<p.lo∨p.hi<=k
 cfar:∀p∈L,∀k,vc.ownBlock=some k->k<p.lo∨p.hi<=k
 sgf:∀k,vs.ownBlock=some k->k<glo∨ghi<=k
 cgf:∀k,vc.ownBlock=some k->k<glo∨ghi<=k
theorem mZ.keep {B:Nat}{u u':World}{bG glo ghi:Nat}{g:aB}{Lw:List aS}{a0 a1 a2:Option Addr}{d0 d1 d2:Nat}{vs vc:Value}{L:List jO}{cs:List Int}(h:mZ B u bG glo ghi g Lw a0 a1 a2 d0 d1 d2 vs vc L cs)(hb:Below u.heap.size u u'):mZ B u' bG glo ghi g Lw a0 a1 a2 d0 d1 d2 vs vc L cs:=
 { h with tG:=h.tG.keep hb,sg:=h.sg.below hb,glt:=Nat.le_trans h.glt hb.size,BU:=Nat.le_trans h.BU hb.size,osh:=dh h.osh hb,oco:=dh (show World.ownsRow _ _ _ _ _ _ _ from h.oco) hb,at_:=fun p hp=>⟨(h.at_ p hp).1.below hb,(h.at_ p hp).2⟩ }
theorem mZ.rows {B:Nat}{u:World}{bG glo ghi:Nat}{g:aB}{Lw:List aS}{a0 a1 a2:Option Addr}{d0 d1 d2:Nat}{vs vc:Value}{L:List jO}{cs:List Int}(h:mZ B u bG glo ghi g Lw a0 a1 a2 d0 d1 d2 vs vc L cs):Lw.length=g.wins.length/\dQ u a0 g.ins/\iF u a1 g.wins/\Row u a2 g.shown:=by
 obtain⟨q0,q1,q2⟩:=h.sg.rows
 rw[h.map]at q1
 exact⟨LQ h.map,q0,q1,q2⟩
theorem mZ.code {B:Nat}{u u':World}{bG glo ghi g' cap:Nat}{g:aB}{Lw:List aS}{a0 a1 a2:Option Addr}{d0 d1 d2:Nat}{vs vc:Value}{L:List jO}{cs:List Int}{c:Int}(h:mZ B u bG glo ghi g Lw a0 a1 a2 d0 d1 d2 vs vc L cs)
  (ho:u'.ownsRow B 3 1 (.slice (some ⟨g',0,none⟩) (cs.length+1) cap) (cs.length+1) ((cs.map fun y=>.int .i64 y)++[.int .i64 c])) (hg:u.grownBy u' vc.ownBlock) (hloc:vc.ownBlock=some g'∨g'=u.heap.size):mZ B u' bG glo ghi g Lw a0 a1 a2 d0 d1 d2 vs (.slice (some ⟨g',0,none⟩) (cs.length+1) cap) L (cs++[c]):=by
 obtain⟨lo,hi,hs,k1,k2⟩:=kD hg
 have hfrom:=aT (show World.ownsRow _ _ _ _ _ _ _ from h.oco)
 have hbB:=h.bB
 have hnew:∀k,(Value.slice (some ⟨g',0,none⟩) (cs.length+1) cap).ownBlock=some k->k=g':=fun k e=>by simp[Value.ownBlock]at e;exact e.symm
 refine{ h with tG:=h.tG.span hs ?_,sg:=h.sg.span hs ?_,glt:=Nat.le_trans h.glt hs.size,BU:=Nat.le_trans h.BU hs.size,osh:=World.ownsRow.kept h.osh hg (dm h.osh h.oco oh),oco:=dZ.snoc ho,at_:=fun p hp=>⟨(h.at_ p hp).1.span hs ?_,(h.at_ p hp).2⟩,cfar:=fun p hp k e=>?_,cgf:=fun k e=>?_ }
 ·by_cases e:lo<hi
  ·have:=hfrom lo (k1 e).1;omega
  ·have:=k2 e;omega
 ·by_cases e:lo<hi
  ·have:=h.cgf lo (k1 e).1;have:=(k1 e).2;omega
  ·have:=k2 e;omega
 ·by_cases e:lo<hi
  ·have:=h.cfar p hp lo (k1 e).1;have:=(k1 e).2;omega
  ·have:=k2 e;omega
 ·obtain rfl:=hnew k e
  rcases hloc with e|rfl
  ·exact h.cfar p hp _ e
  ·exact .inr (h.at_ p hp).1.o3
 ·obtain rfl:=hnew k e
  rcases hloc with e|rfl
  ·exact h.cgf _ e
  ·exact .inr h.glt
theorem mZ.show_ {B:Nat}{u u':World}{bG glo ghi g' cap:Nat}{g:aB}{Lw:List aS}{a0 a1 a2:Option Addr}{d0 d1 d2:Nat}{vs vc:Value}{L:List jO}{cs:List Int}{p:jO}(h:mZ B u bG glo ghi g Lw a0 a1 a2 d0 d1 d2 vs vc L cs)
  (hp:p.In u) (hpB:B<=p.lo) (hpL:∀q∈L,q.hi<=p.lo) (hps:∀k,vs.ownBlock=some k->k<p.lo∨p.hi<=k) (hpc:∀k,vc.ownBlock=some k->k<p.lo∨p.hi<=k)
  (ho:u'.ownsRow B 73 2 (.slice (some ⟨g',0,none⟩) (L.length+1) cap) (L.length+1) (hcells L++[.slice p.a1 p.vals.length p.c1,.slice p.a2 p.st.length p.c2])) (hg:u.grownBy u' vs.ownBlock) (hloc:vs.ownBlock=some g'∨g'=u.heap.size):mZ B u' bG glo ghi g Lw a0 a1 a2 d0 d1 d2 (.slice (some ⟨g',0,none⟩) (L.length+1) cap) vc (L++[p]) cs:=by
 obtain⟨lo,hi,hs,k1,k2⟩:=kD hg
 have hfrom:=aT h.osh
 have hbB:=h.bB
 have hnew:∀k,(Value.slice (some ⟨g',0,none⟩) (L.length+1) cap).ownBlock=some k->k=g':=fun k e=>by simp[Value.ownBlock]at e;exact e.symm
 refine{ h with tG:=h.tG.span hs ?_,sg:=h.sg.span hs ?_,glt:=Nat.le_trans h.glt hs.size,BU:=Nat.le_trans h.BU hs.size,osh:=by rw[List.length_append,pI];exact ho,oco:=World.ownsRow.kept (show World.ownsRow _ _ _ _ _ _ _ from h.oco) hg (dm (show World.ownsRow _ _ _ _ _ _ _ from h.oco) h.osh (Ne.symm oh)),at_:=fun q hq=>?_,dis:=?_,sfar:=fun q hq k e=>?_,cfar:=fun q hq k e=>?_,sgf:=fun k e=>?_ }
 ·by_cases e:lo<hi
  ·have:=hfrom lo (k1 e).1;omega
  ·have:=k2 e;omega
 ·by_cases e:lo<hi
  ·have:=h.sgf lo (k1 e).1;have:=(k1 e).2;omega
  ·have:=k2 e;omega
 ·rcases List.mem_append.1 hq with hq|hq
  ·refine⟨(h.at_ q hq).1.span hs ?_,(h.at_ q hq).2⟩
   by_cases e:lo<hi
   ·have:=h.sfar q hq lo (k1 e).1;have:=(k1 e).2;omega
   ·have:=k2 e;omega
  ·obtain rfl:q=p:=by simpa using hq
   refine⟨hp.span hs ?_,hpB⟩
   by_cases e:lo<hi
   ·have:=hps lo (k1 e).1;have:=(k1 e).2;omega
   ·have:=k2 e;omega
 ·rw[List.pairwise_append]
  exact⟨h.dis,List.pairwise_singleton _ _,fun q hq r hr=>by
   obtain rfl:r=p:=by simpa using hr
   exact hpL q hq⟩
 ·obtain rfl:=hnew k e
  rcases List.mem_append.1 hq with hq|hq
  ·rcases hloc with e|rfl
   ·exact h.sfar q hq _ e
   ·exact .inr (h.at_ q hq).1.o3
  ·obtain rfl:q=p:=by simpa using hq
   rcases hloc with e|rfl
   ·exact hps _ e
   ·exact .inr hp.o3
 ·rcases List.mem_append.1 hq with hq|hq
  ·exact h.cfar q hq k e
  ·obtain rfl:q=p:=by simpa using hq
   exact hpc k e
 ·obtain rfl:=hnew k e
  rcases hloc with e|rfl
  ·exact h.sgf _ e
  ·exact .inr h.glt
theorem mZ.put {B:Nat}{u:World}{bG glo ghi glo' ghi':Nat}{g g':aB}{Lw Lw':List aS}{a0 a1 a2 a0' a1' a2':Option Addr}{d0 d1 d2 d0' d1' d2':Nat}{vs vc:Value}{L:List jO}{cs:List Int}(h:mZ B u bG glo ghi g Lw a0 a1 a2 d0 d1 d2 vs vc L cs)
  (hm:Lw'.map (·.l)=g'.wins) (hn:nS g') (hsg:iV u glo' ghi' a0' a1' a2' g'.ins Lw' g'.shown) (hgl:ghi'<=u.heap.size) (hbx:bG<glo'∨ghi'<=bG) (hs:∀k,vs.ownBlock=some k->k<glo'∨ghi'<=k) (hc:∀k,vc.ownBlock=some k->k<glo'∨ghi'<=k) :
  mZ B (((u.setCell ⟨bG,0,none⟩ (.slice a0' g'.ins.length d0')).setCell ⟨bG,1,none⟩ (.slice a1' Lw'.length d1')).setCell ⟨bG,2,none⟩ (.slice a2' g'.shown.length d2')) bG glo' ghi' g' Lw' a0' a1' a2' d0' d1' d2' vs vc L cs:=by
 have hsp:aJ bG (bG+1) u (((u.setCell ⟨bG,0,none⟩ (.slice a0' g'.ins.length d0')).setCell ⟨bG,1,none⟩ (.slice a1' Lw'.length d1')).setCell ⟨bG,2,none⟩ (.slice a2' g'.shown.length d2')):=(((aJ.refl _ _ _).setCell (Nat.le_refl _) (Nat.lt_succ_self _) _ _).setCell (Nat.le_refl _) (Nat.lt_succ_self _) _ _).setCell (Nat.le_refl _) (Nat.lt_succ_self _) _ _
 have hbB:=h.bB
 exact{ tG:=((h.tG.set0 _).set1 _).set2c _,map:=hm,nice:=hn,sg:=hsg.span hsp (by omega),glt:=Nat.le_trans hgl hsp.size,gbox:=hbx,bB:=h.bB,BU:=Nat.le_trans h.BU hsp.size,osh:=df (df (df h.osh hbB _ _) hbB _ _) hbB _ _,oco:=df (df (df (show World.ownsRow _ _ _ _ _ _ _ from h.oco) hbB _ _) hbB _ _) hbB _ _,at_:=fun p hp=>⟨(h.at_ p hp).1.span hsp (by have:=(h.at_ p hp).2;omega),(h.at_ p hp).2⟩,dis:=h.dis,sfar:=h.sfar,cfar:=h.cfar,sgf:=hs,cgf:=hc }
theorem mZ.ans {B lo:Nat}{u:World}{bG glo ghi:Nat}{g:aB}{Lw:List aS}{a0 a1 a2:Option Addr}{d0 d1 d2:Nat}{vs vc:Value}{L:List jO}{cs:List Int}(h:mZ B u bG glo ghi g Lw a0 a1 a2 d0 d1 d2 vs vc L cs)(hlo:lo<=B):∃sa sc ca cc,vs=.slice sa L.length sc/\vc=.slice ca cs.length cc/\Np u lo u.heap.size sa ca L cs/\L.length<=sc/\cs.length<=cc:=by
 have hut:=dm (show World.ownsRow _ _ _ _ _ _ _ from h.oco) h.osh (Ne.symm oh)
 have hco:=h.oco
 have hcf:=h.cfar
 have hsf:=h.sfar
 rcases h.osh.2 with⟨rfl,e1⟩|⟨t,sc,cur,rfl,htB,hh,hn,_⟩
 ·have hL:L=[]:=List.length_eq_zero_iff.1 e1
  subst hL
  rcases(show World.ownsRow _ _ _ _ _ _ _ from hco).2 with⟨rfl,e2⟩|⟨c,cc,cur,rfl,hcB,hh,hn,_⟩
  ·have hc:cs=[]:=List.length_eq_zero_iff.1 e2
   subst hc
   exact⟨none,0,none,0,rfl,rfl,⟨.inl rfl,.inl rfl⟩,Nat.le_refl _,Nat.le_refl _⟩
  ·refine⟨none,0,some ⟨c,0,none⟩,cc,rfl,rfl,⟨.inl rfl,.inr ⟨c,rfl,by omega,(Array.getElem?_eq_some_iff.1 hh).1,(dZ.block hco).2,fun p hp=>by simp at hp⟩⟩,Nat.le_refl _,hn⟩
 ·have htl:t<u.heap.size:=(Array.getElem?_eq_some_iff.1 hh).1
  have hW:HW u lo u.heap.size t L:=⟨htl,fun k hk=>by
   have hc:=yF L k hk
   have e0:=World.ownsRow.cellAt h.osh (k*2) (by omega)
   have e1:=World.ownsRow.cellAt h.osh (k*2+1) (by omega)
   rw[hc.1]at e0
   rw[hc.2]at e1
   exact⟨e0,e1⟩,fun p hp=>(h.at_ p hp).1,fun p hp=>hsf p hp t rfl,fun p hp=>⟨by have:=(h.at_ p hp).2;omega,(h.at_ p hp).1.o3⟩,h.dis.imp fun h=>.inl h⟩
  rcases(show World.ownsRow _ _ _ _ _ _ _ from hco).2 with⟨rfl,e2⟩|⟨c,cc,cur',rfl,hcB,hh',hn',_⟩
  ·have hc:cs=[]:=List.length_eq_zero_iff.1 e2
   subst hc
   exact⟨some ⟨t,0,none⟩,sc,none,0,rfl,rfl,⟨.inr ⟨t,rfl,by omega,htl,hW,fun c e=>by cases e⟩,.inl rfl⟩,hn,Nat.le_refl _⟩
  ·have hne:c≠t:=by
    rcases hut with e|e
    ·simp[Value.ownBlock]at e
    ·intro q;exact e (by rw[q];rfl)
   refine⟨some ⟨t,0,none⟩,sc,some ⟨c,0,none⟩,cc,rfl,rfl,⟨.inr ⟨t,rfl,by omega,htl,hW,fun c' e=>by cases e;exact hne⟩,.inr ⟨c,rfl,by omega,(Array.getElem?_eq_some_iff.1 hh').1,(dZ.block hco).2,fun p hp=>hcf p hp c rfl⟩⟩,hn,hn'⟩
theorem IY.full {w:World}{lo hi:Nat}{a0 a1 a2:Option Addr}{nm:List ByteArray}(h:IY w lo hi a0 a1 nm)(h0:nm≠[]):∃L:List aS,L.length=nm.length/\L.map (·.l)=(bJ nm).wins/\iV w lo hi a0 a1 a2 (bJ nm).ins L (bJ nm).shown:=by
 rcases h with e|⟨b,t,rfl,rfl,h1,h2,h3,h4,h5,h6,h7⟩
 ·exact absurd e h0
 ·obtain⟨m,f,hr,hnm,hf⟩:=h7
  have hl:((List.range nm.length).map fun j=>aS.mk [] (f j) lo lo).length=nm.length:=by simp
  refine⟨(List.range nm.length).map fun j=>aS.mk [] (f j) lo lo,hl, ?_,.inr ⟨b,t,rfl,rfl,h6,⟨hr.lt,fun k hk=>?_,fun p hp=>?_,fun p hp=>?_,fun p hp=>?_, ?_⟩,h5,⟨h1,h2⟩,⟨h3,h4⟩,fun p hp=>?_,.inl rfl⟩⟩
  ·simp only[List.map_map,bJ]
   apply List.ext_getElem
   ·simp
   ·intro i h8 h9
    simp
  ·rw[hl]at hk
   rw[hr.cell (by omega)]
   simp
  ·obtain⟨j,hj,rfl⟩:=List.mem_map.1 hp
   obtain⟨s,c,e⟩:=hf j (List.mem_range.1 hj)
   exact⟨s,c,e,Nat.zero_le _,.inl rfl⟩
  ·obtain⟨j,hj,rfl⟩:=List.mem_map.1 hp
   exact .inr h3
  ·obtain⟨j,hj,rfl⟩:=List.mem_map.1 hp
   exact⟨Nat.le_refl _,Nat.le_refl _,by show lo<=hi;omega⟩
  ·rw[List.pairwise_map]
   exact List.Pairwise.imp (fun _=>.inl (Nat.le_refl _)) (List.pairwise_lt_range)
  ·obtain⟨j,hj,rfl⟩:=List.mem_map.1 hp
   exact .inr h1
theorem IC.start {w w':World}{ins:List ByteArray}{e:Ending}(h:IC w w' ins e):(∃a0 c0 a1 c1 a2 c2 L,e=.returned (.tuple #[.agg #[.slice a0 ins.length c0,.slice a1 (List.length L) c1,.slice a2 0 c2],.bool true])/\MV ins ins true/\L.map (·.l)=(bJ ins).wins/\iV w' w.heap.size w'.heap.size a0 a1 a2 (bJ ins).ins L (bJ ins).shown/\ins.length<=c0/\c0<=maxLen)∨(e=.returned (.tuple #[.agg #[.slice none 0 0,.slice none 0 0,.slice none 0 0],.bool false])/\MV ins [] false):=by
 rcases id h with⟨B,v0,v1,L,v2,hB,rfl,hp,h1,h2,h3,⟨a2,c2,rfl⟩⟩|⟨rfl,hp⟩
 ·have hpos:0<ins.length:=hp.1
  obtain⟨nm,ok,b0,e0,b1,e1,b2,e2,he,hN,hS⟩:=h.safe
  simp only[Ending.returned.injEq,Value.tuple.injEq,Array.mk.injEq,List.cons.injEq,Value.agg.injEq,Value.bool.injEq,and_true]at he
  obtain⟨⟨rfl,rfl,he2⟩,hok⟩:=he
  subst hok
  obtain rfl:nm=ins:=by
   rcases hN with⟨_,_,e⟩|⟨e,_,_⟩
   ·exact e
   ·cases e
  obtain⟨L',hl',hm',hs'⟩:=hS.full (a2:=a2) (fun e=>by rw[e]at hpos;simp at hpos)
  have hcap:nm.length<=e0/\e0<=maxLen:=by
   rcases(show World.ownsRow _ _ _ _ _ _ _ from h1).2 with⟨_,e⟩|⟨g',cap,cur,e,_,_,hn,hmx,_⟩
   ·omega
   ·simp only[Value.slice.injEq]at e
    omega
  exact .inl ⟨b0,e0,b1,e1,a2,c2,L',by rw[hl'],hN,hm',hs',hcap⟩
 ·exact .inr ⟨rfl,.inr ⟨rfl,hp,rfl⟩⟩
theorem gG {P:Prop}(h:Hid P):P:=h.out
theorem sU.grown {g:aB}{i x:Int}{m:List (ByteArray×Int)}{R:lV}{u u':World}{r:Option Nat}(h:sU g i x m R u)(hg:u.grownBy u' r)(hd:∀k,r=some k->k<R.tl∨R.th<=k):sU g i x m R u':=by
 obtain⟨lo,hi,hs,k1,k2⟩:=kD hg
 refine h.span hs ?_
 by_cases e:lo<hi
 ·have:=hd lo (k1 e).1;have:=(k1 e).2;omega
 ·have:=k2 e;omega
theorem iy.grownO {w w':World}{b:Nat}{x y z:Value}{r:Option Nat}(h:iy w b x y z)(hg:w.grownBy w' r)(hd:∀k,r=some k->k≠b):iy w' b x y z:=by
 obtain⟨lo,hi,hs,k1,k2⟩:=kD hg
 refine h.span hs ?_
 by_cases e:lo<hi
 ·have:=hd lo (k1 e).1;have:=(k1 e).2;omega
 ·have:=k2 e;omega
theorem Duo.grown {w w':World}{b:Nat}{x y:Value}{r:Option Nat}(h:Duo w b x y)(hg:w.grownBy w' r)(hd:∀k,r=some k->k≠b):Duo w' b x y:=by
 obtain⟨lo,hi,hs,k1,k2⟩:=kD hg
 refine h.span hs ?_
 by_cases e:lo<hi
 ·have:=hd lo (k1 e).1;have:=(k1 e).2;omega
 ·have:=k2 e;omega
theorem zI {W w w':World}{B:Nat}{r:Option Nat}(hb:Below B W w)(hB:B<=w.heap.size)(hg:w.grownBy w' r)(hd:∀k,r=some k->B<=k):Below B W w':=hb.grown hg hB hd
def NG (imp:Bool)(w w':World)(ins:List ByteArray)(fs:List fQ)(e:Ending):Prop:=
 ∃(L:List jO) (cs:List Int) (sa ca:Option Addr) (sc cc:Nat),e=.returned (.tuple #[.slice sa L.length sc,.slice ca cs.length cc])/\LX ins fs (L.map (·.sv)) cs/\Np w' w.heap.size w'.heap.size sa ca L cs/\(imp=true->∀p∈L,p.mid<=p.mi2)/\L.length<=sc/\cs.length<=cc
end Go.Proofs.YtpfhegengmlkmabGreatDoor
