/- Texts of this claim. -/
import Derived.Laws.StructEq
import Derived.Test.YtpfhegengmlkmabGreatDoorZu39
import Derived.Test.YtpfhegengmlkmabGreatDoorZu40
import Derived.Test.YtpfhegengmlkmabGreatDoorZu41
namespace Go.Proofs.YtpfhegengmlkmabGreatDoor
open Go.RowKit Go.BigFrame
set_option maxRecDepth 100000
theorem eu.grownS {w w':World}{B B2:Nat}{v v2:Value}{L:List eY}{n:Nat}{xs:List Value}(h:eu w B v L)(ho:w.ownsRow B2 9 1 v2 n xs)(hg:w.grownBy w' v2.ownBlock):eu w' B v L:=by
 refine⟨wS h.1 hg (fun g e=>?_),fun p hp=>⟨(h.2 p hp).1.grown ho (by decide) hg,(h.2 p hp).2⟩⟩
 have hr:∃m f,w.rowIs g 36 m f:=by
  rcases h.1.2 with⟨rfl,_⟩|⟨g',cap,cur,rfl,_,hh,_⟩
  ·cases e
  ·obtain rfl:g'=g:=by simpa[Value.ownBlock]using e
   exact⟨cur.size,fun i=>(cur[i]?).getD undef,cur,hh,rfl,fun i hi=>by simp[Array.getElem?_eq_getElem hi]⟩
 obtain⟨m,f,hr⟩:=hr
 exact fE ho hr (by decide)
set_option maxHeartbeats 6400000 in
theorem Ah (ab:Option Addr)(n c:Nat)(w:World)(h:Bytes w ab n c) :
  Calls Tryz.prog 4 #[.slice ab n c] w fun e w'=>(∃vi li vf Lf,e=.returned (.tuple #[vi,vf])/\aI w' w.heap.size vi li/\1<=li.length/\li.length<=5/\(∀s∈li,s.size<=8)/\eu w' w.heap.size vf Lf/\Lf.length<=61)/\Below w.heap.size w w':=by
 obtain⟨i0,hi,hz0,hz1,hz2⟩:=info_parts Tryz.infoS
 go_enter Tryz.func4,Tryz.ntmps4
 go_wp2_with fail
 refine(Ea ab n c _ h).mono ?_
 rintro e w1 ⟨⟨m,rfl,hr1⟩,hb1⟩
 have hR:=hr1.lt
 go_wp2_with fail
 refine(Di _ m c 0 ab _ hr1 (by omega)).mono ?_
 rintro e w2 ⟨⟨wv,wl,p2,rfl,hw2,hwl0,hwl1,hr2,hp2⟩,hb2⟩
 obtain⟨gw,cw,rfl,hgw⟩:=hw2.some (by omega)
 have hz12:=hb2.size
 generalize hnw:wl.length=nw at *
 have hwh2:∀j,j<nw->∃x:Int,w2.cell? ⟨gw,j,none⟩=some (.int .i64 x):=fun j hj=>⟨_,hw2.cells hnw.symm (by omega)⟩
 clear h hr1 hw2 hnw
 go_wp2_with fail
 refine(Iy nw w2 (by omega)).mono ?_
 rintro e w3 ⟨⟨vi,li,rfl,hg3,hll,hs8⟩,b3⟩
 obtain⟨ia,ic,rfl,_⟩:=hg3.shape
 have hr3:=hr2.below b3
 have hB3:But w.heap.size w1 w3:=hb2.trans (But.of_below b3)
 have hwh3:∀j,j<nw->∃x:Int,w3.cell? ⟨gw,j,none⟩=some (.int .i64 x):=fun j hj=>by
  obtain⟨x,e⟩:=hwh2 j hj
  exact⟨x,ae b3 (block_lt_of_cell e) e⟩
 have hz3:=b3.size
 clear b3 hb2 hr2 hwh2
 go_wp2_with fail
 refine(pick_any _ m c p2 ab 30 _ hr3 (by omega) (by omega) (by omega)).mono ?_
 rintro e w4 ⟨⟨y,rfl,hy0,hy1⟩,hr4,hb4⟩
 obtain⟨y,rfl⟩:=Int.eq_ofNat_of_zero_le hy0
 have hB4:=hB3.trans hb4
 have hg4:=hg3.but hb4 (by omega)
 have hz4:=hb4.size
 have hwh4:∀j,j<nw->∃x:Int,w4.cell? ⟨gw,j,none⟩=some (.int .i64 x):=fun j hj=>by
  obtain⟨x,e⟩:=hwh3 j hj
  exact⟨x,(hb4.cell (b:=gw) j (block_lt_of_cell e) (by omega)).trans e⟩
 clear hr3 hg3 hb4 hB3 hwh3
 go_wp2_with fail
 have hcN:(3:Int)+(y:Int)=((3+y:Nat):Int):=by omega
 rw[hcN]
 clear hcN
 refine(ng _ m c (p2+1) ab gw cw nw (3+y) w4 hr4 (by omega) (by omega) (by omega) (by omega) (by omega) hwh4).mono ?_
 rintro e w5 ⟨⟨vf,Lf,p5,rfl,hg5,hfl,hr5,hp5⟩,hb5⟩
 have hB5:=hB4.trans hb5
 have hg5i:=hg4.but hb5 (by omega)
 have hz5:=hb5.size
 have hwh5:∀j,j<nw->∃x:Int,w5.cell? ⟨gw,j,none⟩=some (.int .i64 x):=fun j hj=>by
  obtain⟨x,e⟩:=hwh4 j hj
  exact⟨x,(hb5.cell (b:=gw) j (block_lt_of_cell e) (by omega)).trans e⟩
 obtain⟨fa,fc,rfl⟩:∃a cap,vf=.slice a Lf.length cap:=by
  rcases hg5.1.2 with⟨e,h0⟩|⟨g,cap,cur,e,_⟩
  ·exact⟨_,_,by rw[h0];exact e⟩
  ·exact⟨_,_,e⟩
 rw[hll]at hg5i
 rw[hfl]at hg5
 rw[hfl]
 clear hr4 hg4 hb5 hB4 hwh4
 go_wp2_with fail
 refine(pick_any _ m c p5 ab 30 w5 hr5 (by omega) (by omega) (by omega)).mono ?_
 rintro e w6 ⟨⟨z,rfl,hz0',hz1'⟩,hr6,hb6⟩
 have hB6:=hB5.trans hb6
 have hg6:=hg5.but hb6 (by omega)
 have hg6i:=hg5i.but hb6 (by omega)
 have hz6:=hb6.size
 have hwh6:∀j,j<nw->∃x:Int,w6.cell? ⟨gw,j,none⟩=some (.int .i64 x):=fun j hj=>by
  obtain⟨x,e⟩:=hwh5 j hj
  exact⟨x,(hb6.cell (b:=gw) j (block_lt_of_cell e) (by omega)).trans e⟩
 clear hr5 hg5 hg5i hb6 hB5 hwh5
 by_cases e0:z=0
 ·subst e0
  go_wp2_with fail
  refine(ng _ m c (p5+1) ab gw cw nw 60 w6 hr6 (by omega) (by omega) (by omega) (by omega) (by omega) hwh6).mono ?_
  rintro e w7 ⟨⟨v7,L7,p7,rfl,hg7,hl7,hr7,hp7⟩,hb7⟩
  have hgi7:=hg6i.but hb7 (by omega)
  have hz7:=hb7.size
  have hB7b:Below w.heap.size w w7:=hb1.trans ((hB6.trans hb7).below (Nat.le_refl _) hb1.size)
  obtain⟨fa7,fc7,rfl⟩:∃a cap,v7=.slice a L7.length cap:=by
   rcases hg7.1.2 with⟨e,h0⟩|⟨g,cap,cur,e,_⟩
   ·exact⟨_,_,by rw[h0];exact e⟩
   ·exact⟨_,_,e⟩
  rw[hl7]at hg7
  rw[hl7]
  have HX:Hid _:=And.intro hgi7 (And.intro hg7 hB7b)
  clear hgi7 hg7 hB7b hr7 hb7 hr6 hg6 hg6i hB6
  go_wp2_with fail
  exact bodyPost_ret (v:=.tuple #[.slice ia nw ic,.slice fa7 60 fc7]) (by simp[results,Tryz.results4,go_sem]) rfl ⟨⟨_,li,_,L7,rfl,HX.out.1.lower (by omega),by omega,by omega,hs8,HX.out.2.1.lower (by omega),by omega⟩,HX.out.2.2⟩
 by_cases e1:z=1
 ·subst e1
  go_wp2_with fail
  refine(ng _ m c (p5+1) ab gw cw nw 61 w6 hr6 (by omega) (by omega) (by omega) (by omega) (by omega) hwh6).mono ?_
  rintro e w7 ⟨⟨v7,L7,p7,rfl,hg7,hl7,hr7,hp7⟩,hb7⟩
  have hgi7:=hg6i.but hb7 (by omega)
  have hz7:=hb7.size
  have hB7b:Below w.heap.size w w7:=hb1.trans ((hB6.trans hb7).below (Nat.le_refl _) hb1.size)
  obtain⟨fa7,fc7,rfl⟩:∃a cap,v7=.slice a L7.length cap:=by
   rcases hg7.1.2 with⟨e,h0⟩|⟨g,cap,cur,e,_⟩
   ·exact⟨_,_,by rw[h0];exact e⟩
   ·exact⟨_,_,e⟩
  rw[hl7]at hg7
  rw[hl7]
  have HX:Hid _:=And.intro hgi7 (And.intro hg7 hB7b)
  clear hgi7 hg7 hB7b hr7 hb7 hr6 hg6 hg6i hB6
  go_wp2_with fail
  exact bodyPost_ret (v:=.tuple #[.slice ia nw ic,.slice fa7 61 fc7]) (by simp[results,Tryz.results4,go_sem]) rfl ⟨⟨_,li,_,L7,rfl,HX.out.1.lower (by omega),by omega,by omega,hs8,HX.out.2.1.lower (by omega),by omega⟩,HX.out.2.2⟩
 by_cases e2:z=2
 ·subst e2
  have hbx:Below w6.heap.size w6 (w6.alloc (.cells #[.string ⟨#[97]⟩] 9)):=(Below.refl _ _).alloc (Nat.le_refl _) _
  have hgi7:(w6.alloc (.cells #[.string ⟨#[97]⟩] 9)).ownsRow w2.heap.size 9 1 (.slice ia nw ic) li.length (li.map .string):=gV hg6i hbx
  have hg7:=hg6.keep hbx
  have hB7:But w.heap.size w1 (w6.alloc (.cells #[.string ⟨#[97]⟩] 9)):=hB6.trans (But.of_below hbx)
  have hz6':=hB6.size
  clear hr6 hg6 hg6i hB6 hbx
  go_wp2_with (at_builtin;refine wpList_append_lies _ rfl _ _ 23 rfl w2.heap.size 9 i0 (.string .empty) 1 16 Tryz.underlying23 hi hz0 hz1 hz2 rfl (by decide) _ _ _ rfl hgi7 ⟨w6.heap.size,0,none⟩ 1 1 [.string ⟨#[97]⟩] rfl rfl (fA w6 _ _) (by simp[Value.oneCell']) (by decide) (by unfold maxLen;omega) (by omega) (by simp;omega) _ rfl ?_;intro g8 c8 w8 hown hgrow _ _)
  have hB8:Below w.heap.size w w8:=hb1.trans ((hB7.grown hgrow (fun q e=>by have:=fH hgi7 q e;omega)).below (Nat.le_refl _) hb1.size)
  have hg8:=aI.snoc hown
  have hf8:eu w8 w4.heap.size (.slice fa (3+y) fc) Lf:=hg7.grownS hgi7 hgrow
  exact bodyPost_ret (v:=.tuple #[.slice (some ⟨g8,0,none⟩) (li.length+1) c8,.slice fa (3+y) fc]) (by simp[results,Tryz.results4,go_sem,hll]) rfl ⟨⟨_,li++[⟨#[97]⟩],_,Lf,rfl,hg8.lower (by omega),by simp,by simp;omega,fun s hs=>(List.mem_append.1 hs).elim (hs8 s) fun e=>by simp at e;subst e;decide,hf8.lower (by omega),by omega⟩,hB8⟩
 by_cases e3:z=3
 ·subst e3
  have hbx:Below w6.heap.size w6 (w6.alloc (.cells #[.string ⟨#[108,111,110,101]⟩] 9)):=(Below.refl _ _).alloc (Nat.le_refl _) _
  have hgi7:(w6.alloc (.cells #[.string ⟨#[108,111,110,101]⟩] 9)).ownsRow w2.heap.size 9 1 (.slice ia nw ic) li.length (li.map .string):=gV hg6i hbx
  have hg7:=hg6.keep hbx
  have hB7:But w.heap.size w1 (w6.alloc (.cells #[.string ⟨#[108,111,110,101]⟩] 9)):=hB6.trans (But.of_below hbx)
  have hz6':=hB6.size
  clear hr6 hg6 hg6i hB6 hbx
  go_wp2_with (at_builtin;refine wpList_append_lies _ rfl _ _ 23 rfl w2.heap.size 9 i0 (.string .empty) 1 16 Tryz.underlying23 hi hz0 hz1 hz2 rfl (by decide) _ _ _ rfl hgi7 ⟨w6.heap.size,0,none⟩ 1 1 [.string ⟨#[108,111,110,101]⟩] rfl rfl (fA w6 _ _) (by simp[Value.oneCell']) (by decide) (by unfold maxLen;omega) (by omega) (by simp;omega) _ rfl ?_;intro g8 c8 w8 hown hgrow _ _)
  have hB8:Below w.heap.size w w8:=hb1.trans ((hB7.grown hgrow (fun q e=>by have:=fH hgi7 q e;omega)).below (Nat.le_refl _) hb1.size)
  have hg8:=aI.snoc hown
  have hf8:eu w8 w4.heap.size (.slice fa (3+y) fc) Lf:=hg7.grownS hgi7 hgrow
  exact bodyPost_ret (v:=.tuple #[.slice (some ⟨g8,0,none⟩) (li.length+1) c8,.slice fa (3+y) fc]) (by simp[results,Tryz.results4,go_sem,hll]) rfl ⟨⟨_,li++[⟨#[108,111,110,101]⟩],_,Lf,rfl,hg8.lower (by omega),by simp,by simp;omega,fun s hs=>(List.mem_append.1 hs).elim (hs8 s) fun e=>by simp at e;subst e;decide,hf8.lower (by omega),by omega⟩,hB8⟩
 have x0:(z==0)=false:=by rw[beq_eq_false_iff_ne];exact e0
 have x1:(z==1)=false:=by rw[beq_eq_false_iff_ne];exact e1
 have x2:(z==2)=false:=by rw[beq_eq_false_iff_ne];exact e2
 have x3:(z==3)=false:=by rw[beq_eq_false_iff_ne];exact e3
 have HX:Hid (aI w6 w.heap.size (.slice ia nw ic) li/\eu w6 w.heap.size (.slice fa (3+y) fc) Lf/\Below w.heap.size w w6):=⟨hg6i.lower (by omega),hg6.lower (by omega),hb1.trans (hB6.below (Nat.le_refl _) hb1.size)⟩
 clear hr6 hg6 hg6i hB6 e0 e1 e2 e3 hwh6
 go_wp2_with fail
 exact bodyPost_ret (v:=.tuple #[.slice ia nw ic,.slice fa (3+y) fc]) (by simp[results,Tryz.results4,go_sem]) rfl ⟨⟨_,li,_,Lf,rfl,HX.out.1,by omega,by omega,hs8,HX.out.2.1,by omega⟩,HX.out.2.2⟩
def AO (p:eY):fQ:=(p.1,p.2.1)
theorem eu.rows {w:World}{B:Nat}{v:Value}{L:List eY}(h:eu w B v L):∃a cap,v=.slice a (L.map AO).length cap/\(L.map AO).length<=cap/\IX w a (L.map AO):=by
 rcases h.1.2 with⟨rfl,h0⟩|⟨g,cap,cur,rfl,_,hh,hn,_⟩
 ·have e:L=[]:=List.length_eq_zero_iff.1 h0
  subst e
  exact⟨none,0,rfl,Nat.le_refl _,fun k hk=>by simp at hk⟩
 ·refine⟨some ⟨g,0,none⟩,cap,by rw[List.length_map],by rw[List.length_map];exact hn,fun k hk=>?_⟩
  have hk':k<L.length:=by simpa using hk
  have h2:=tX L k hk'
  have c0:=(World.ownsRow.cellAt h.1 (k*3) (by omega)).trans h2.1
  have c1:=(World.ownsRow.cellAt h.1 (k*3+1) (by omega)).trans h2.2.1
  have c2:=(World.ownsRow.cellAt h.1 (k*3+2) (by omega)).trans h2.2.2
  have e:(L.map AO)[k]=(L[k].1,L[k].2.1):=by simp[AO]
  rw[e]
  refine⟨g,0,rfl,(Array.getElem?_eq_some_iff.1 hh).1,by rw[Nat.zero_add];exact c0,by rw[Nat.zero_add];exact c1,_,by rw[Nat.zero_add];exact c2,(h.2 _ (List.getElem_mem hk')).1.isSl⟩
theorem eu.fit {w:World}{B:Nat}{v:Value}{L:List eY}(h:eu w B v L)(hl:L.length<=1000):Nk (L.map AO):=by
 refine⟨by rw[List.length_map];unfold maxLen;omega,fun j hj=>?_⟩
 have hj':j<L.length:=by simpa using hj
 have e:(L.map AO)[j]=(L[j].1,L[j].2.1):=by simp[AO]
 rw[e]
 obtain⟨_,h1,h2⟩:=h.2 _ (List.getElem_mem hj')
 exact⟨by unfold maxLen;simp only;omega,fun i hi=>by have:=h2 _ (List.getElem_mem hi);unfold maxLen;omega⟩
theorem aI.rows {w:World}{B:Nat}{v:Value}{l:List ByteArray}(h:aI w B v l):∃a cap,v=.slice a l.length cap/\l.length<=cap/\cap<=maxLen/\dQ w a l:=by
 obtain⟨a,cap,e,hr⟩:=h.shape
 refine⟨a,cap,e, ?_⟩
 rcases(show World.ownsRow _ _ _ _ _ _ _ from h).2 with⟨e',h0⟩|⟨g,cap',cur,e',_,hh,hn,hm,_⟩
 ·rw[e]at e'
  simp only[Value.slice.injEq]at e'
  exact⟨by omega,by omega,hr⟩
 ·rw[e]at e'
  simp only[Value.slice.injEq]at e'
  exact⟨by omega,by omega,hr⟩
structure Agree (lo hi:Nat) (w u:World):Prop where
 size:w.heap.size<=u.heap.size
 block:∀k,lo<=k->k<hi->k<w.heap.size->u.heap[k]?=w.heap[k]?
theorem Agree.refl (lo hi:Nat)(w:World):Agree lo hi w w:=⟨Nat.le_refl _,fun _ _ _ _=>rfl⟩
theorem Agree.trans {lo hi:Nat}{x y z:World}(h:Agree lo hi x y)(k:Agree lo hi y z):Agree lo hi x z:=⟨Nat.le_trans h.size k.size,fun i h1 h2 h3=>(k.block i h1 h2 (Nat.lt_of_lt_of_le h3 h.size)).trans (h.block i h1 h2 h3)⟩
theorem Agree.sub {lo hi lo' hi':Nat}{x y:World}(h:Agree lo hi x y)(h1:lo<=lo')(h2:hi'<=hi):Agree lo' hi' x y:=⟨h.size,fun i q1 q2 q3=>h.block i (by omega) (by omega) q3⟩
theorem iK {lo hi:Nat}{w u:World}(h:Below w.heap.size w u):Agree lo hi w u:=⟨h.size,fun i _ _ q=>h.block i q⟩
theorem aJ.agree {lo hi q0 q1:Nat}{w u:World}(h:aJ q0 q1 w u)(hd:hi<=q0∨q1<=lo):Agree lo hi w u:=⟨h.size,fun i h1 h2 q=>h.block i q (by omega)⟩
theorem kU.agree {w w':World}{lo hi g k:Nat}{l:List af}(h:kU w lo hi g l k)(h1:lo<=g)(h2:g<hi)(hs:Agree lo hi w w'):kU w' lo hi g l k:=by
 have hlt:=h.lt
 obtain⟨G,C,m,f,h,hm,hf,hp⟩:=h
 refine⟨G,C,m,f,h.of_block (hs.block g h1 h2 hlt),hm,fun j hj hk=>?_,hp⟩
 obtain⟨e1,e2,e3,e4,e5,e6,e7⟩:=hf j hj hk
 have hl4:=e4.lt
 obtain⟨m',f',h',hf'⟩:=e4
 exact⟨e1,e2,e3,⟨m',f',h'.of_block (hs.block (G j) (by omega) (by omega) hl4),hf'⟩,e5,e6,e7⟩
def RowsIn (lo hi:Nat)(w:World)(g:aB)(a0 a1 a2:Option Addr):Prop:=∀u,Agree lo hi w u->dQ u a0 g.ins/\iF u a1 g.wins/\Row u a2 g.shown
theorem RowsIn.agree {lo hi:Nat}{w u:World}{g:aB}{a0 a1 a2:Option Addr}(h:RowsIn lo hi w g a0 a1 a2)(hA:Agree lo hi w u):RowsIn lo hi u g a0 a1 a2:=fun x hx=>h x (hA.trans hx)
theorem RowsIn.here {lo hi:Nat}{w:World}{g:aB}{a0 a1 a2:Option Addr}(h:RowsIn lo hi w g a0 a1 a2):dQ w a0 g.ins/\iF w a1 g.wins/\Row w a2 g.shown:=h w (Agree.refl _ _ _)
theorem qK (lo hi:Nat)(w:World)(a0 a1 a2:Option Addr):RowsIn lo hi w fF a0 a1 a2:=fun _ _=>⟨fun k hk=>absurd hk (Nat.not_lt_zero k),fun k hk=>absurd hk (Nat.not_lt_zero k),fun k hk=>absurd hk (Nat.not_lt_zero k)⟩
theorem iV.rowsIn {w:World}{lo hi:Nat}{a0 a1 a2:Option Addr}{g:aB}{L:List aS}(h:iV w lo hi a0 a1 a2 g.ins L g.shown)(hm:L.map (·.l)=g.wins):RowsIn lo hi w g a0 a1 a2:=fun u hu=>by
 have h2:iV u lo hi a0 a1 a2 g.ins L g.shown:=by
  rcases h with h|⟨b,t,rfl,rfl,hF⟩
  ·exact .inl h
  ·refine .inr ⟨b,t,rfl,rfl,⟨?_,⟨?_,fun k hk=>?_,fun p hp=>?_,hF.wins.far,hF.wins.in_,hF.wins.dis⟩,hF.bt,hF.bin,hF.tin,hF.bfar, ?_⟩⟩
   ·obtain⟨m,f,h1,h2⟩:=hF.names
    exact⟨m,f,h1.of_block (hu.block b hF.bin.1 hF.bin.2 h1.lt),h2⟩
   ·exact Nat.lt_of_lt_of_le hF.wins.lt hu.size
   ·rw[World.cell?_of_block (w:=w) (hu.block t hF.tin.1 hF.tin.2 hF.wins.lt)]
    exact hF.wins.cell k hk
   ·obtain⟨a,c,h1,h2,h3⟩:=hF.wins.at_ p hp
    obtain⟨q1,q2,q3⟩:=hF.wins.in_ p hp
    refine⟨a,c,h1,h2, ?_⟩
    rcases h3 with h3|⟨g,rfl,g1,g2,hp⟩
    ·exact .inl h3
    ·exact .inr ⟨g,rfl,g1,g2,hp.agree g1 g2 ⟨hu.size,fun k k1 k2 k3=>hu.block k (by omega) (by omega) k3⟩⟩
   ·rcases hF.stamp with hs|⟨s,rfl,s1,s2,s3,s4,ho,s5⟩
    ·exact .inl hs
    ·refine .inr ⟨s,rfl,s1,s2,s3,s4, ?_,s5⟩
     obtain⟨m,f,h1,h2⟩:=ho
     exact⟨m,f,h1.of_block (hu.block s s1 s2 h1.lt),h2⟩
 obtain⟨q0,q1,q2⟩:=h2.rows
 rw[hm]at q1
 exact⟨q0,q1,q2⟩
theorem dM.fit {g:aB}(h:dM g):Ey g:=⟨⟨by have:=h.nice.ins;unfold maxLen;omega,fun j hj=>by have:=h.nice.names j hj;unfold maxLen;omega⟩,nV h.nice.wins h.nice.items,dH h.nice.shown⟩
end Go.Proofs.YtpfhegengmlkmabGreatDoor
