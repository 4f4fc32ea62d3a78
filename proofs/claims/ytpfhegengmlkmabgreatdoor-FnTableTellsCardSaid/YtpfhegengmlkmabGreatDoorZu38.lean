/- Texts of this claim. -/
import Derived.Test.YtpfhegengmlkmabGreatDoorZu35
namespace Go.Proofs.YtpfhegengmlkmabGreatDoor
open Go.RowKit Go.BigFrame
set_option maxRecDepth 100000
def AB (w:World):Prop:=w.cell? ⟨2,0,none⟩=some (.iface 188 (.agg #[.pointer (some ⟨11,64,none⟩)]))
theorem AB.below {w w':World}(h:AB w)(hb:Below w.heap.size w w'):AB w':=ae hb (block_lt_of_cell h) h
theorem iy.set2 {w:World}{b:Nat}{x y z:Value}(h:iy w b x y z)(v:Value):iy (w.setCell ⟨b,2,none⟩ v) b x y v:=
 ⟨by simp[go_sem,h.c0],by simp[go_sem,h.c1],by simp[go_sem,h.c2],by simp[go_sem,h.f0],by simp[go_sem,h.f1],by simp[go_sem,h.f2]⟩
theorem Tryz.methKeeps (h:Value)(w:World):(Go.method 432 151 h "loop.example/bedstone/impl.code").run Tryz.prog w=.ok (251,h) w:=by kernel_rfl
theorem Tryz.methOverflows (h:Value)(w:World):(Go.method 432 153 h "loop.example/bedstone/impl.code").run Tryz.prog w=.ok (252,h) w:=by kernel_rfl
theorem Tryz.methShows (h:Value)(w:World):(Go.method 432 156 h "loop.example/bedstone/impl.code").run Tryz.prog w=.ok (253,h) w:=by kernel_rfl
def MZ (w w':World)(g:aB)(i x:Int)(m:List (ByteArray×Int))(e:Ending):Prop:=
 ∃(g':aB) (L:List aS) (sv:List Int) (ss:List (ByteArray×Int)) (code:Int) (a0 a1 a2 a3 a4:Option Addr) (d0 d1 d2 d3 d4 h1 h2:Nat),e=.returned (.tuple #[.agg #[.slice a0 g'.ins.length d0,.slice a1 L.length d1,.slice a2 g'.shown.length d2],.agg #[.slice a3 sv.length d3,.slice a4 ss.length d4],.int .i64 code])/\mi g i x m g' sv ss code/\L.map (·.l)=g'.wins /\
  w.heap.size<=h1/\h1<=h2/\h2<=w'.heap.size/\iV w' w.heap.size h1 a0 a1 a2 g'.ins L g'.shown/\kL w' h1 h2 a3 sv/\Safe w' h2 w'.heap.size a4 ss/\(g'.ins.length<=d0/\d0<=maxLen)/\g'.shown.length<=d2/\ss.length<=d4
set_option maxHeartbeats 20000000 in
theorem wo (a0 a1 a2 am:Option Addr)(c0 c1 c2 cm:Nat)(g:aB)(i x:Int)(m:List (ByteArray×Int))(w:World)(hf:Ey g)(hi:g.ins.length<=1048576)(hc:g.ins.length<=c0)(hc2:c0<=maxLen)(r0:dQ w a0 g.ins)(r1:iF w a1 g.wins)(r2:Row w a2 g.shown)(hfm:uO m)(hcm:m.length<=cm)(hrm:Row w am m)(het:AB w) :
  Calls Tryz.prog 28 #[.agg #[.slice a0 g.ins.length c0,.slice a1 g.wins.length c1,.slice a2 g.shown.length c2],.agg #[.int .i64 i,.int .i64 x,.slice am m.length cm]] w fun e w'=>MZ w w' g i x m e/\Below w.heap.size w w':=by
 obtain⟨W0,hW0⟩:∃W0,(((w.alloc (.cells #[.slice a0 g.ins.length c0,.slice a1 g.wins.length c1,.slice a2 g.shown.length c2] 30)).alloc (.cells #[.int .i64 i,.int .i64 x,.slice am m.length cm] 36)).alloc (.cells #[.slice none 0 0,.slice none 0 0,.slice none 0 0] 30)).alloc (.cells #[.slice none 0 0,.slice none 0 0] 73)=W0:=⟨_,rfl⟩
 have hz:W0.heap.size=w.heap.size+4:=by rw[<- hW0];simp
 have hb0:Below w.heap.size w W0:=by rw[<- hW0];exact((((Below.refl _ _).alloc (Nat.le_refl _) _).alloc (by simp) _).alloc (by simp;omega) _).alloc (by simp;omega) _
 have x0:W0.cell? ⟨w.heap.size+1+1,0,none⟩=some (.slice none 0 0):=by rw[<- hW0];simp[go_sem]
 have x1:W0.cell? ⟨w.heap.size+1+1,1,none⟩=some (.slice none 0 0):=by rw[<- hW0];simp[go_sem]
 have x2:W0.cell? ⟨w.heap.size+1+1,2,none⟩=some (.slice none 0 0):=by rw[<- hW0];simp[go_sem]
 have y0:W0.cell? ⟨w.heap.size+1+1+1,0,none⟩=some (.slice none 0 0):=by rw[<- hW0];simp[go_sem]
 have y1:W0.cell? ⟨w.heap.size+1+1+1,1,none⟩=some (.slice none 0 0):=by rw[<- hW0];simp[go_sem]
 have fx:∀q,W0.frozen? ⟨w.heap.size+1+1,q,none⟩=false:=fun q=>by rw[<- hW0];simp[go_sem]
 have fy:∀q,W0.frozen? ⟨w.heap.size+1+1+1,q,none⟩=false:=fun q=>by rw[<- hW0];simp[go_sem]
 have HW:Hid (((((w.alloc (.cells #[.slice a0 g.ins.length c0,.slice a1 g.wins.length c1,.slice a2 g.shown.length c2] 30)).alloc (.cells #[.int .i64 i,.int .i64 x,.slice am m.length cm] 36)).alloc (.cells #[.slice none 0 0,.slice none 0 0,.slice none 0 0] 30)).alloc (.cells #[.slice none 0 0,.slice none 0 0] 73))=W0):=hW0
 clear hW0
 go_enter Tryz.func28,Tryz.ntmps28
 go_wp2_with fail
 rw[HW.out]
 clear HW
 refine(EK a0 a1 a2 am c0 c1 c2 cm g i x m _ hf hi hc hc2 (r0.below hb0) (r1.below hb0) (r2.below hb0) hfm hcm (hrm.below hb0)).mono ?_
 rintro e w1 ⟨hT,b1⟩
 have z1:=b1.size
 have B1:Below w.heap.size w w1:=hb0.trans (b1.mono hb0.size)
 replace x0:=ae b1 (by omega) x0
 replace x1:=ae b1 (by omega) x1
 replace x2:=ae b1 (by omega) x2
 replace y0:=ae b1 (by omega) y0
 replace y1:=ae b1 (by omega) y1
 have gx:∀q,w1.frozen? ⟨w.heap.size+1+1,q,none⟩=false:=fun q=>(b1.frozen (p:=⟨w.heap.size+1+1,q,none⟩) (by simp only;omega)).trans (fx q)
 have gy:∀q,w1.frozen? ⟨w.heap.size+1+1+1,q,none⟩=false:=fun q=>(b1.frozen (p:=⟨w.heap.size+1+1+1,q,none⟩) (by simp only;omega)).trans (fy q)
 replace het:=het.below B1
 clear fx fy
 have hsplit:(∃(s0 s1 s2:Option Addr) (n0 n1 n2 e0 e1 e2:Nat) (c:Int),e=.returned (.tuple #[.agg #[.slice s0 n0 e0,.slice s1 n1 e1,.slice s2 n2 e2],.iface 103 (.agg #[.int .i64 c])])/\∀w9,aJ (w.heap.size+2) (w.heap.size+4) w1 w9->MZ w w9 g i x m (.returned (.tuple #[.agg #[.slice s0 n0 e0,.slice s1 n1 e1,.slice s2 n2 e2],.agg #[.slice none 0 0,.slice none 0 0],.int .i64 c]))) ∨
   (DR g i/\∃r b t e0 e1 gm em L,e=.returned (.tuple #[.agg #[.slice (some ⟨b,0,none⟩) g.ins.length e0,.slice (some ⟨t,0,none⟩) L.length e1,.slice (some ⟨gm,0,none⟩) g.shown.length em],.nilIface])/\zf (g.wins.getD i.toNat []) x m r 0/\gz w1 W0.heap.size w1.heap.size b t (some ⟨gm,0,none⟩) g.ins L g.shown/\(g.shown.length<=em/\g.ins.length<=e0/\e0<=maxLen)/\L.map (·.l)=g.wins.set i.toNat r):=by
  rcases hT with⟨rfl,hno⟩|⟨hI,r,c,b,t,e0,e1,gm,em,L,err,rfl,hP,hfull,hem,hcase⟩
  ·refine .inl ⟨none,none,none,0,0,0,0,0,0,2,rfl,fun w9 h9=>⟨fF,[],[],[],2,none,none,none,none,none,0,0,0,0,0,w9.heap.size,w9.heap.size,rfl, ?_,rfl,by have:=h9.size;omega,Nat.le_refl _,Nat.le_refl _,.inl ⟨rfl,rfl,rfl⟩,.inl rfl,.inl rfl,⟨by simp[fF],by unfold maxLen;omega⟩,by simp[fF],Nat.zero_le _⟩⟩
   rcases hno with h|⟨hI,r,hP⟩
   ·exact .inl ⟨h,rfl,rfl,rfl,rfl⟩
   ·exact .inr ⟨hI,r,1,hP,.inl ⟨rfl,rfl,rfl,rfl,rfl⟩⟩
  ·rcases hcase with⟨rfl,hLL,rfl⟩|⟨rfl,hLL,rfl⟩
   ·refine .inl ⟨_,_,_,_,_,_,_,_,_,_,rfl,fun w9 h9=>⟨g,L,[],[],3,_,_,_,none,none,_,_,_,0,0,w9.heap.size,w9.heap.size,rfl,.inr ⟨hI,r,2,hP,.inr (.inl ⟨rfl,rfl,rfl,rfl,rfl⟩)⟩,hLL,by have:=h9.size;omega,Nat.le_refl _,Nat.le_refl _,.inr ⟨b,t,rfl,rfl,(hfull.span h9 (.inr (by omega))).widen (by omega) h9.size⟩,.inl rfl,.inl rfl,hem.2,hem.1,Nat.zero_le _⟩⟩
   ·exact .inr ⟨hI,r,b,t,e0,e1,gm,em,L,rfl,hP,hfull,hem,hLL⟩
 clear hT
 rcases hsplit with⟨s0,s1,s2,n0,n1,n2,e0,e1,e2,c,rfl,hfin⟩|⟨hI,r,b,t,e0,e1,gm,em,L,rfl,hP,hfull,⟨hem,hcap⟩,hLL⟩
 ·have HF:Hid _:=hfin
  clear hfin
  have bV:Below w1.heap.size w1 ((w1.alloc (.cells #[.slice s0 n0 e0,.slice s1 n1 e1,.slice s2 n2 e2] 30)).alloc (.cells #[.int .i64 0] 103)):=((Below.refl _ _).alloc (Nat.le_refl _) _).alloc (by simp) _
  have tV:=(aQ w1 (.slice s0 n0 e0) (.slice s1 n1 e1) (.slice s2 n2 e2) 30).keep (show Below _ _ ((w1.alloc (.cells #[.slice s0 n0 e0,.slice s1 n1 e1,.slice s2 n2 e2] 30)).alloc (.cells #[.int .i64 0] 103))from(Below.refl _ _).alloc (Nat.le_refl _) _)
  have hvn:((w1.alloc (.cells #[.slice s0 n0 e0,.slice s1 n1 e1,.slice s2 n2 e2] 30)).alloc (.cells #[.int .i64 0] 103)).cell? ⟨w1.heap.size+1,0,none⟩=some (.int .i64 0):=by simp[go_sem]
  have hvf:((w1.alloc (.cells #[.slice s0 n0 e0,.slice s1 n1 e1,.slice s2 n2 e2] 30)).alloc (.cells #[.int .i64 0] 103)).frozen? ⟨w1.heap.size+1,0,none⟩=false:=by simp[go_sem]
  go_wp2_with fail
  generalize (w1.alloc (.cells #[.slice s0 n0 e0,.slice s1 n1 e1,.slice s2 n2 e2] 30)).alloc (.cells #[.int .i64 0] 103)=V at *
  refine(as_hit c ⟨w1.heap.size+1,0,none⟩ (.int .i64 0) _ (het.below bV) hvn hvf).mono ?_
  rintro e w2 ⟨rfl,W,bW,hw2⟩
  have hVl:w1.heap.size+1<V.heap.size:=block_lt_of_cell hvn
  have hnc:w2.cell? ⟨w1.heap.size+1,0,none⟩=some (.int .i64 c):=by rw[hw2];exact World.cell?_setCell_same' _ _ _ (by rw[ae bW hVl hvn];rfl)
  have t2:iy w2 w1.heap.size (.slice s0 n0 e0) (.slice s1 n1 e1) (.slice s2 n2 e2):=by rw[hw2];exact(tV.keep bW).far (by omega) _ _
  have b2:Below w1.heap.size w1 w2:=by rw[hw2];exact(bV.trans (bW.mono bV.size)).setCell (p:=⟨w1.heap.size+1,0,none⟩) (by simp only;omega) _
  have z2:=b2.size
  clear hw2 bW bV tV hvn hvf hVl
  replace x0:=ae b2 (by omega) x0
  replace x1:=ae b2 (by omega) x1
  replace x2:=ae b2 (by omega) x2
  replace y0:=ae b2 (by omega) y0
  replace y1:=ae b2 (by omega) y1
  have kx:∀q,w2.frozen? ⟨w.heap.size+1+1,q,none⟩=false:=fun q=>(b2.frozen (p:=⟨w.heap.size+1+1,q,none⟩) (by simp only;omega)).trans (gx q)
  have ky:∀q,w2.frozen? ⟨w.heap.size+1+1+1,q,none⟩=false:=fun q=>(b2.frozen (p:=⟨w.heap.size+1+1+1,q,none⟩) (by simp only;omega)).trans (gy q)
  clear gx gy
  obtain⟨u0,u1,u2,_,_,_⟩:=id t2
  go_wp2_with fail
  have hbd:Below w2.heap.size w2 w2.drew:=(Below.refl _ _).drew
  have n2l:w1.heap.size+1<w2.heap.size:=block_lt_of_cell hnc
  have hS0:(fun u:World=>u.cell? ⟨w1.heap.size,0,none⟩=some (.slice s0 n0 e0)/\u.cell? ⟨w1.heap.size,1,none⟩=some (.slice s1 n1 e1)/\u.cell? ⟨w1.heap.size,2,none⟩=some (.slice s2 n2 e2)/\u.cell? ⟨w1.heap.size+1,0,none⟩=some (.int .i64 c)) w2:=⟨u0,u1,u2,hnc⟩
  have HSB:Hid (∀u:World,(∀k,w1.heap.size<=k->k<w2.heap.size->u.heap[k]?=w2.heap[k]?)->u.cell? ⟨w1.heap.size,0,none⟩=some (.slice s0 n0 e0)/\u.cell? ⟨w1.heap.size,1,none⟩=some (.slice s1 n1 e1)/\u.cell? ⟨w1.heap.size,2,none⟩=some (.slice s2 n2 e2)/\u.cell? ⟨w1.heap.size+1,0,none⟩=some (.int .i64 c)):=fun u hu=>⟨(World.cell?_of_block (hu w1.heap.size (Nat.le_refl _) (by omega))).trans u0,(World.cell?_of_block (hu w1.heap.size (Nat.le_refl _) (by omega))).trans u1,(World.cell?_of_block (hu w1.heap.size (Nat.le_refl _) (by omega))).trans u2,(World.cell?_of_block (hu (w1.heap.size+1) (by omega) (by omega))).trans hnc⟩
  have SW:(fun u:World=>u.cell? ⟨w1.heap.size,0,none⟩=some (.slice s0 n0 e0)/\u.cell? ⟨w1.heap.size,1,none⟩=some (.slice s1 n1 e1)/\u.cell? ⟨w1.heap.size,2,none⟩=some (.slice s2 n2 e2)/\u.cell? ⟨w1.heap.size+1,0,none⟩=some (.int .i64 c)) w2.drew:=HSB.out _ (fun k _ hk=>hbd.block k hk)
  refine wp_region_held_drew (S:=fun u=>u.cell? ⟨w1.heap.size,0,none⟩=some (.slice s0 n0 e0)/\u.cell? ⟨w1.heap.size,1,none⟩=some (.slice s1 n1 e1)/\u.cell? ⟨w1.heap.size,2,none⟩=some (.slice s2 n2 e2)/\u.cell? ⟨w1.heap.size+1,0,none⟩=some (.int .i64 c)) (by kernel_rfl) SW (fun _=>?_)
  refine wpAnyH_take (i:=0) (v:=.agg #[.slice s0 n0 e0,.slice s1 n1 e1,.slice s2 n2 e2]) rfl (by kernel_rfl) (by kernel_rfl) (by kernel_rfl) (fun _ _ _ h=>h) (Or.inl ⟨by rfl, ?_⟩) SW ?_
  ·rintro u ⟨p1,p2,p3,p4⟩
   go_simp
  simp only[Act.put,List.setIfInBounds_toArray]
  refine wpAnyH_take (i:=1) (v:=.agg #[.slice none 0 0,.slice none 0 0]) rfl (by kernel_rfl) (by kernel_rfl) (by kernel_rfl) (fun _ _ _ h=>h) (Or.inl ⟨by rfl, ?_⟩) SW ?_
  ·rintro u ⟨p1,p2,p3,p4⟩
   go_simp
  simp only[Act.put]
  refine wpAnyH_take (i:=2) (v:=.pointer (some ⟨w1.heap.size+1,0,none⟩)) rfl (by kernel_rfl) (by kernel_rfl) (by kernel_rfl) (fun _ _ _ h=>h) (Or.inl ⟨by rfl, ?_⟩) SW ?_
  ·rintro u ⟨p1,p2,p3,p4⟩
   go_simp
  simp only[Act.put]
  refine wpAnyH_take (i:=3) (v:=.int .i64 c) rfl (by kernel_rfl) (by kernel_rfl) (by kernel_rfl) (fun _ _ _ h=>h) (Or.inl ⟨by rfl, ?_⟩) SW ?_
  ·rintro u ⟨p1,p2,p3,p4⟩
   go_simp
  simp only[Act.put]
  have x0d:w2.drew.cell? ⟨w.heap.size+1+1,0,none⟩=some (.slice none 0 0):=x0
  have x1d:w2.drew.cell? ⟨w.heap.size+1+1,1,none⟩=some (.slice none 0 0):=x1
  have x2d:w2.drew.cell? ⟨w.heap.size+1+1,2,none⟩=some (.slice none 0 0):=x2
  have y0d:w2.drew.cell? ⟨w.heap.size+1+1+1,0,none⟩=some (.slice none 0 0):=y0
  have y1d:w2.drew.cell? ⟨w.heap.size+1+1+1,1,none⟩=some (.slice none 0 0):=y1
  have kxd:∀q,w2.drew.frozen? ⟨w.heap.size+1+1,q,none⟩=false:=kx
  have kyd:∀q,w2.drew.frozen? ⟨w.heap.size+1+1+1,q,none⟩=false:=ky
  have b2d:Below w1.heap.size w1 w2.drew:=b2.drew
  have hdz:w2.heap.size<=w2.drew.heap.size:=hbd.size
  have hdb:∀k,k<w2.heap.size->w2.drew.heap[k]?=w2.heap[k]?:=hbd.block
  clear x0 x1 x2 y0 y1 kx ky SW hbd
  generalize w2.drew=V2 at *
  refine wpAnyH_ready (rs:=[4]) (by kernel_rfl) (by simp) ?_
  refine AllReadyH.cons rfl (fun K hK=>?_) AllReadyH.nil
  rw[if_pos (by rfl)]
  go_simp
  obtain⟨w3,h3⟩:∃w3,((V2.setCell ⟨w.heap.size+1+1,0,none⟩ (.slice s0 n0 e0)).setCell ⟨w.heap.size+1+1,1,none⟩ (.slice s1 n1 e1)).setCell ⟨w.heap.size+1+1,2,none⟩ (.slice s2 n2 e2)=w3:=⟨_,rfl⟩
  have sp3:aJ (w.heap.size+2) (w.heap.size+4) V2 w3:=by rw[<- h3];exact(((aJ.refl _ _ _).setCell (by omega) (by omega) _ _).setCell (by omega) (by omega) _ _).setCell (by omega) (by omega) _ _
  have v0:w3.cell? ⟨w.heap.size+1+1,0,none⟩=some (.slice s0 n0 e0):=by rw[<- h3];simp[go_sem,x0d]
  have v1:w3.cell? ⟨w.heap.size+1+1,1,none⟩=some (.slice s1 n1 e1):=by rw[<- h3];simp[go_sem,x1d]
  have v2:w3.cell? ⟨w.heap.size+1+1,2,none⟩=some (.slice s2 n2 e2):=by rw[<- h3];simp[go_sem,x2d]
  have y03:w3.cell? ⟨w.heap.size+1+1+1,0,none⟩=some (.slice none 0 0):=by rw[<- h3];simp[go_sem,y0d]
  have y13:w3.cell? ⟨w.heap.size+1+1+1,1,none⟩=some (.slice none 0 0):=by rw[<- h3];simp[go_sem,y1d]
  have ky3:∀q,w3.frozen? ⟨w.heap.size+1+1+1,q,none⟩=false:=fun q=>by rw[<- h3];simp[go_sem,kyd]
  have S3:(fun u:World=>u.cell? ⟨w1.heap.size,0,none⟩=some (.slice s0 n0 e0)/\u.cell? ⟨w1.heap.size,1,none⟩=some (.slice s1 n1 e1)/\u.cell? ⟨w1.heap.size,2,none⟩=some (.slice s2 n2 e2)/\u.cell? ⟨w1.heap.size+1,0,none⟩=some (.int .i64 c)) w3:=HSB.out _ (fun k hk hk2=>(sp3.block k (by omega) (by omega)).trans (hdb k hk2))
  rw[h3]
  clear h3
  refine hK.out _ _ S3 (fun _=>?_)
  clear hK K
  refine wpAnyH_ready (rs:=[5]) (by kernel_rfl) (by simp) ?_
  refine AllReadyH.cons rfl (fun K hK=>?_) AllReadyH.nil
  rw[if_pos (by rfl)]
  go_simp
  obtain⟨w4,h4⟩:∃w4,(w3.setCell ⟨w.heap.size+1+1+1,0,none⟩ (.slice none 0 0)).setCell ⟨w.heap.size+1+1+1,1,none⟩ (.slice none 0 0)=w4:=⟨_,rfl⟩
  have sp4:aJ (w.heap.size+2) (w.heap.size+4) V2 w4:=by rw[<- h4];exact(sp3.setCell (by omega) (by omega) _ _).setCell (by omega) (by omega) _ _
  have v0':w4.cell? ⟨w.heap.size+1+1,0,none⟩=some (.slice s0 n0 e0):=by rw[<- h4];simp[go_sem,v0]
  have v1':w4.cell? ⟨w.heap.size+1+1,1,none⟩=some (.slice s1 n1 e1):=by rw[<- h4];simp[go_sem,v1]
  have v2':w4.cell? ⟨w.heap.size+1+1,2,none⟩=some (.slice s2 n2 e2):=by rw[<- h4];simp[go_sem,v2]
  have y0':w4.cell? ⟨w.heap.size+1+1+1,0,none⟩=some (.slice none 0 0):=by rw[<- h4];simp[go_sem,y03]
  have y1':w4.cell? ⟨w.heap.size+1+1+1,1,none⟩=some (.slice none 0 0):=by rw[<- h4];simp[go_sem,y13]
  have S4:(fun u:World=>u.cell? ⟨w1.heap.size,0,none⟩=some (.slice s0 n0 e0)/\u.cell? ⟨w1.heap.size,1,none⟩=some (.slice s1 n1 e1)/\u.cell? ⟨w1.heap.size,2,none⟩=some (.slice s2 n2 e2)/\u.cell? ⟨w1.heap.size+1,0,none⟩=some (.int .i64 c)) w4:=HSB.out _ (fun k hk hk2=>(sp4.block k (by omega) (by omega)).trans (hdb k hk2))
  rw[h4]
  clear h4 sp3 v0 v1 v2 y03 y13 ky3
  refine hK.out _ _ S4 (fun _=>?_)
  clear hK K S3
  refine wpAnyH_ready (rs:=[6]) (by kernel_rfl) (by simp) ?_
  refine AllReadyH.cons rfl (fun K hK=>?_) AllReadyH.nil
  rw[if_pos (by rfl)]
  go_simp
  refine hK.out _ _ S4 (fun _=>?_)
  clear hK K
  refine wpAnyH_done (by kernel_rfl) ?_ _
  have hspan:aJ (w.heap.size+2) (w.heap.size+4) w1 w4:=⟨sp4.os.trans b2d.os,sp4.tape.trans b2d.tape,sp4.output.trans b2d.output,Nat.le_trans b2d.size sp4.size,fun k hk hn=>(sp4.block k (Nat.lt_of_lt_of_le hk b2d.size) hn).trans (b2d.block k hk)⟩
  have hB4:Below w.heap.size w w4:=B1.trans (hspan.below (by omega) B1.size)
  clear S4
  go_wp2_with fail
  exact bodyPost_ret (v:=.tuple #[.agg #[.slice s0 n0 e0,.slice s1 n1 e1,.slice s2 n2 e2],.agg #[.slice none 0 0,.slice none 0 0],.int .i64 c]) (by simp[results,Tryz.results28,go_sem,v0',v1',v2',y0',y1']) rfl ⟨HF.out w4 hspan,hB4⟩
 ·have HI:Hid (DR g i):=hI
  have HP:Hid (zf (g.wins.getD i.toNat []) x m r 0):=hP
  have HLL:Hid (L.map (·.l)=g.wins.set i.toNat r):=hLL
  clear hI hP hLL
  have bV:Below w1.heap.size w1 ((w1.alloc (.cells #[.slice (some ⟨b,0,none⟩) g.ins.length e0,.slice (some ⟨t,0,none⟩) L.length e1,.slice (some ⟨gm,0,none⟩) g.shown.length em] 30)).alloc (.cells #[.int .i64 0] 103)):=((Below.refl _ _).alloc (Nat.le_refl _) _).alloc (by simp) _
  have tV:=(aQ w1 (.slice (some ⟨b,0,none⟩) g.ins.length e0) (.slice (some ⟨t,0,none⟩) L.length e1) (.slice (some ⟨gm,0,none⟩) g.shown.length em) 30).keep (show Below _ _ ((w1.alloc (.cells #[.slice (some ⟨b,0,none⟩) g.ins.length e0,.slice (some ⟨t,0,none⟩) L.length e1,.slice (some ⟨gm,0,none⟩) g.shown.length em] 30)).alloc (.cells #[.int .i64 0] 103))from(Below.refl _ _).alloc (Nat.le_refl _) _)
  go_wp2_with fail
  generalize (w1.alloc (.cells #[.slice (some ⟨b,0,none⟩) g.ins.length e0,.slice (some ⟨t,0,none⟩) L.length e1,.slice (some ⟨gm,0,none⟩) g.shown.length em] 30)).alloc (.cells #[.int .i64 0] 103)=V at *
  refine(as_nil _ _).mono ?_
  rintro e w2 ⟨rfl,rfl⟩
  obtain⟨u0,u1,u2,_,_,_⟩:=id tV
  have hn:=HI.out.1.nice
  have hst:∀l∈L.map (·.l),gu l:=by rw[HLL.out];exact qy hn.items (qm HP.out)
  have hl6:(L.map (·.l)).length<=6:=by rw[HLL.out,List.length_set];exact hn.wins
  have hfV:=hfull.below bV
  have HC:=Ic (some ⟨b,0,none⟩) (some ⟨t,0,none⟩) (some ⟨gm,0,none⟩) e0 e1 em g.ins.length (L.map (·.l)) g.shown w2 hl6 hst hfV.wins.row hn.shown hem hfV.stamp.row
  simp only[List.length_map]at HC
  go_wp2_with fail
  refine HC.mono ?_
  rintro e w3 ⟨hE,b3⟩
  clear HC
  have b13:Below w1.heap.size w1 w3:=bV.trans (b3.mono bV.size)
  have t3:=tV.keep b3
  have hf3:=hfull.below b13
  have z3:=b13.size
  have z3':=b3.size
  have hVz:w1.heap.size<w2.heap.size:=block_lt_of_cell u0
  replace x0:=ae b13 (by omega) x0
  replace x1:=ae b13 (by omega) x1
  replace x2:=ae b13 (by omega) x2
  replace y0:=ae b13 (by omega) y0
  replace y1:=ae b13 (by omega) y1
  have kx:∀q,w3.frozen? ⟨w.heap.size+1+1,q,none⟩=false:=fun q=>(b13.frozen (p:=⟨w.heap.size+1+1,q,none⟩) (by simp only;omega)).trans (gx q)
  have ky:∀q,w3.frozen? ⟨w.heap.size+1+1+1,q,none⟩=false:=fun q=>(b13.frozen (p:=⟨w.heap.size+1+1+1,q,none⟩) (by simp only;omega)).trans (gy q)
  clear gx gy u0 u1 u2 tV bV hfV
  have hsplit:(∃(tt:TypeId) (code:Int),(tt=151/\code=0∨tt=153/\code=4)/\e=.returned (.iface tt (.agg #[]))/\jJ (L.map (·.l)) g.shown g.shown [] [] code)∨(∃out j gv cv ja cj mid,e=.returned (.iface 156 (.agg #[.slice (some ⟨gv,0,none⟩) (bZ (L.map (·.l)) out).length cv,.slice ja j.length cj]))/\jJ (L.map (·.l)) g.shown j (bZ (L.map (·.l)) out) j 1/\ah j/\w2.heap.size<=mid/\mid<=w3.heap.size/\j.length<=cj/\Safe w3 w2.heap.size mid ja j/\mid<=gv/\gZ w3 gv (bZ (L.map (·.l)) out)):=by
   obtain⟨out,ok,hB,h⟩:=hE
   rcases h with⟨rfl,rfl⟩|⟨rfl,j,okj,hJ,h⟩
   ·exact .inl ⟨_,0,.inl ⟨rfl,rfl⟩,rfl,out,false,hB,.inl ⟨rfl,rfl,rfl,rfl,rfl⟩⟩
   ·rcases h with⟨rfl,rfl⟩|⟨rfl,o,hO,h⟩
    ·exact .inl ⟨_,4,.inr ⟨rfl,rfl⟩,rfl,out,true,hB,.inr ⟨rfl,j,false,hJ,.inl ⟨rfl,rfl,rfl,rfl,rfl⟩⟩⟩
    ·rcases h with⟨ho,rfl⟩|⟨rfl,gv,cv,ja,cj,mid,rfl,h1,h2,h3,h4,h5,h6⟩
     ·exact .inl ⟨_,0,.inl ⟨rfl,rfl⟩,rfl,out,true,hB,.inr ⟨rfl,j,true,hJ,.inr ⟨rfl,o,hO,.inl ⟨ho,rfl,rfl,rfl,rfl⟩⟩⟩⟩
     ·exact .inr ⟨out,j,gv,cv,ja,cj,mid,rfl,⟨out,true,hB,.inr ⟨rfl,j,true,hJ,.inr ⟨rfl,1,hO,.inr ⟨rfl,rfl,rfl,rfl,rfl⟩⟩⟩⟩,hJ.stamp,h1,h2,h3,h4,h5,h6⟩
  clear hE
  rcases hsplit with⟨tt,code,htt,rfl,hcome⟩|⟨out,j,gv,cv,ja,cj,mid,rfl,hcome,hjs,h1,h2,h3,h4,h5,h6⟩
  ·have HCO:Hid (jJ (L.map (·.l)) g.shown g.shown [] [] code):=hcome
   clear hcome
   rcases htt with⟨rfl,rfl⟩|⟨rfl,rfl⟩
   ·obtain⟨u0,u1,u2,v0,v1,v2⟩:=id t3
    have HC:=qJ (some ⟨b,0,none⟩) (some ⟨t,0,none⟩) (some ⟨gm,0,none⟩) g.ins.length L.length g.shown.length e0 e1 em 151 (.inl rfl) w3
    go_wp2_with fail
    refine HC.mono ?_
    rintro e w4 ⟨rfl,b4⟩
    have t4:=t3.keep b4
    have hlt4:w1.heap.size<w4.heap.size:=block_lt_of_cell t4.c0
    have ne4:w1.heap.size≠w4.heap.size:=by omega
    clear u0 u1 u2 v0 v1 v2 HC
    obtain⟨u0,u1,u2,v0,v1,v2⟩:=id t4
    obtain⟨V5,h5'⟩:∃V5,(((w4.setCell ⟨w1.heap.size,0,none⟩ (.slice (some ⟨b,0,none⟩) g.ins.length e0)).setCell ⟨w1.heap.size,1,none⟩ (.slice (some ⟨t,0,none⟩) L.length e1)).setCell ⟨w1.heap.size,2,none⟩ (.slice (some ⟨gm,0,none⟩) g.shown.length em)).alloc (.cells #[.slice none 0 0,.slice none 0 0] 73)=V5:=⟨_,rfl⟩
    have sp5a:aJ w1.heap.size (w1.heap.size+1) w4 (((w4.setCell ⟨w1.heap.size,0,none⟩ (.slice (some ⟨b,0,none⟩) g.ins.length e0)).setCell ⟨w1.heap.size,1,none⟩ (.slice (some ⟨t,0,none⟩) L.length e1)).setCell ⟨w1.heap.size,2,none⟩ (.slice (some ⟨gm,0,none⟩) g.shown.length em)):=(((aJ.refl _ _ _).setCell (Nat.le_refl _) (Nat.lt_succ_self _) _ _).setCell (Nat.le_refl _) (Nat.lt_succ_self _) _ _).setCell (Nat.le_refl _) (Nat.lt_succ_self _) _ _
    have sp5:aJ w1.heap.size (w1.heap.size+1) w4 V5:=by
     rw[<- h5']
     have hb:Below _ (((w4.setCell ⟨w1.heap.size,0,none⟩ (.slice (some ⟨b,0,none⟩) g.ins.length e0)).setCell ⟨w1.heap.size,1,none⟩ (.slice (some ⟨t,0,none⟩) L.length e1)).setCell ⟨w1.heap.size,2,none⟩ (.slice (some ⟨gm,0,none⟩) g.shown.length em)) _:=(Below.refl _ _).alloc (Nat.le_refl _) (.cells #[.slice none 0 0,.slice none 0 0] 73)
     exact⟨hb.os.trans sp5a.os,hb.tape.trans sp5a.tape,hb.output.trans sp5a.output,Nat.le_trans sp5a.size hb.size,fun k hk hn=>(hb.block k (Nat.lt_of_lt_of_le hk sp5a.size)).trans (sp5a.block k hk hn)⟩
    have z5:V5.heap.size=w4.heap.size+1:=by rw[<- h5'];simp
    have z4:=b4.size
    have tS:=(((t4.set0 (.slice (some ⟨b,0,none⟩) g.ins.length e0)).set1 (.slice (some ⟨t,0,none⟩) L.length e1)).set2 (.slice (some ⟨gm,0,none⟩) g.shown.length em)).keep ((Below.refl _ _).alloc (Nat.le_refl _) (.cells #[.slice none 0 0,.slice none 0 0] 73))
    have SV:(fun u:World=>u.cell? ⟨w1.heap.size,0,none⟩=some (.slice (some ⟨b,0,none⟩) g.ins.length e0)/\u.cell? ⟨w1.heap.size,1,none⟩=some (.slice (some ⟨t,0,none⟩) L.length e1)/\u.cell? ⟨w1.heap.size,2,none⟩=some (.slice (some ⟨gm,0,none⟩) g.shown.length em)/\u.cell? ⟨w4.heap.size,0,none⟩=some (.slice none 0 0)/\u.cell? ⟨w4.heap.size,1,none⟩=some (.slice none 0 0)) V5:=by
     rw[h5']at tS
     refine⟨tS.c0,tS.c1,tS.c2, ?_, ?_⟩
     ·rw[<- h5'];simp[go_sem]
     ·rw[<- h5'];simp[go_sem]
    have HV5:Hid (((((w4.setCell ⟨w1.heap.size,0,none⟩ (.slice (some ⟨b,0,none⟩) g.ins.length e0)).setCell ⟨w1.heap.size,1,none⟩ (.slice (some ⟨t,0,none⟩) L.length e1)).setCell ⟨w1.heap.size,2,none⟩ (.slice (some ⟨gm,0,none⟩) g.shown.length em)).alloc (.cells #[.slice none 0 0,.slice none 0 0] 73))=V5):=h5'
    clear h5' sp5a
    replace x0:=ae b4 (by omega) x0
    replace x1:=ae b4 (by omega) x1
    replace x2:=ae b4 (by omega) x2
    replace y0:=ae b4 (by omega) y0
    replace y1:=ae b4 (by omega) y1
    have kx4:∀q,w4.frozen? ⟨w.heap.size+1+1,q,none⟩=false:=fun q=>(b4.frozen (p:=⟨w.heap.size+1+1,q,none⟩) (by simp only;omega)).trans (kx q)
    have ky4:∀q,w4.frozen? ⟨w.heap.size+1+1+1,q,none⟩=false:=fun q=>(b4.frozen (p:=⟨w.heap.size+1+1+1,q,none⟩) (by simp only;omega)).trans (ky q)
    have hw24:w.heap.size+4<=w4.heap.size:=by omega
    have hc5:∀bb q v,w4.cell? ⟨bb,q,none⟩=some v->bb<w.heap.size+4->V5.cell? ⟨bb,q,none⟩=some v:=fun bb q v hv hb=>by rw[World.cell?_of_block (sp5.block bb (block_lt_of_cell hv) (by omega))];exact hv
    have hq5:∀bb q,w4.frozen? ⟨bb,q,none⟩=false->bb<w.heap.size+4->V5.frozen? ⟨bb,q,none⟩=false:=fun bb q hv hb=>by rw[World.frozen?_of_block (sp5.block bb (by omega) (by omega))];exact hv
    go_wp2_with fail
    rw[HV5.out]
    clear HV5 u0 u1 u2 v0 v1 v2
    have hbd:Below V5.heap.size V5 V5.drew:=(Below.refl _ _).drew
    have HSB:Hid (∀u:World,(∀k,w1.heap.size<=k->k<V5.heap.size->u.heap[k]?=V5.heap[k]?)->u.cell? ⟨w1.heap.size,0,none⟩=some (.slice (some ⟨b,0,none⟩) g.ins.length e0)/\u.cell? ⟨w1.heap.size,1,none⟩=some (.slice (some ⟨t,0,none⟩) L.length e1)/\u.cell? ⟨w1.heap.size,2,none⟩=some (.slice (some ⟨gm,0,none⟩) g.shown.length em)/\u.cell? ⟨w4.heap.size,0,none⟩=some (.slice none 0 0)/\u.cell? ⟨w4.heap.size,1,none⟩=some (.slice none 0 0)):=fun u hu=>⟨(World.cell?_of_block (hu w1.heap.size (Nat.le_refl _) (by omega))).trans SV.1,(World.cell?_of_block (hu w1.heap.size (Nat.le_refl _) (by omega))).trans SV.2.1,(World.cell?_of_block (hu w1.heap.size (Nat.le_refl _) (by omega))).trans SV.2.2.1,(World.cell?_of_block (hu w4.heap.size (by omega) (by omega))).trans SV.2.2.2.1,(World.cell?_of_block (hu w4.heap.size (by omega) (by omega))).trans SV.2.2.2.2⟩
    have SW:(fun u:World=>u.cell? ⟨w1.heap.size,0,none⟩=some (.slice (some ⟨b,0,none⟩) g.ins.length e0)/\u.cell? ⟨w1.heap.size,1,none⟩=some (.slice (some ⟨t,0,none⟩) L.length e1)/\u.cell? ⟨w1.heap.size,2,none⟩=some (.slice (some ⟨gm,0,none⟩) g.shown.length em)/\u.cell? ⟨w4.heap.size,0,none⟩=some (.slice none 0 0)/\u.cell? ⟨w4.heap.size,1,none⟩=some (.slice none 0 0)) V5.drew:=HSB.out _ (fun k _ hk=>hbd.block k hk)
    have km:=Tryz.methKeeps (.agg #[])
    refine wp_region_held_drew (S:=fun u=>u.cell? ⟨w1.heap.size,0,none⟩=some (.slice (some ⟨b,0,none⟩) g.ins.length e0)/\u.cell? ⟨w1.heap.size,1,none⟩=some (.slice (some ⟨t,0,none⟩) L.length e1)/\u.cell? ⟨w1.heap.size,2,none⟩=some (.slice (some ⟨gm,0,none⟩) g.shown.length em)/\u.cell? ⟨w4.heap.size,0,none⟩=some (.slice none 0 0)/\u.cell? ⟨w4.heap.size,1,none⟩=some (.slice none 0 0)) (by kernel_rfl) SW (fun _=>?_)
    refine wpAnyH_take (i:=0) (v:=.agg #[.slice (some ⟨b,0,none⟩) g.ins.length e0,.slice (some ⟨t,0,none⟩) L.length e1,.slice (some ⟨gm,0,none⟩) g.shown.length em]) rfl (by kernel_rfl) (by kernel_rfl) (by kernel_rfl) (fun _ _ _ h=>h) (Or.inl ⟨by rfl, ?_⟩) SW ?_
    ·rintro u ⟨p1,p2,p3,p4,p5⟩
     go_simp
    simp only[Act.put,List.setIfInBounds_toArray]
    refine wpAnyH_take (i:=1) (v:=.agg #[.slice none 0 0,.slice none 0 0]) rfl (by kernel_rfl) (by kernel_rfl) (by kernel_rfl) (fun _ _ _ h=>h) (Or.inl ⟨by rfl, ?_⟩) SW ?_
    ·rintro u ⟨p1,p2,p3,p4,p5⟩
     go_simp
    simp only[Act.put]
    refine wpAnyH_take (i:=2) (v:=.iface 151 (.agg #[])) rfl (by kernel_rfl) (by kernel_rfl) (by kernel_rfl) (fun _ _ _ h=>h) (Or.inl ⟨by rfl, ?_⟩) SW ?_
    ·rintro u ⟨p1,p2,p3,p4,p5⟩
     go_simp
    simp only[Act.put]
    refine wpAnyH_ready (rs:=[3]) (by kernel_rfl) (by simp) ?_
    refine AllReadyH.cons rfl (fun K hK=>?_) AllReadyH.nil
    rw[if_pos (by rfl)]
    go_simp
    refine(DV _).mono ?_
    rintro e w6 ⟨rfl,b6⟩
    have b56:Below V5.heap.size V5 w6:=hbd.trans (b6.mono hbd.size)
    have z6:=b56.size
    have S6:(fun u:World=>u.cell? ⟨w1.heap.size,0,none⟩=some (.slice (some ⟨b,0,none⟩) g.ins.length e0)/\u.cell? ⟨w1.heap.size,1,none⟩=some (.slice (some ⟨t,0,none⟩) L.length e1)/\u.cell? ⟨w1.heap.size,2,none⟩=some (.slice (some ⟨gm,0,none⟩) g.shown.length em)/\u.cell? ⟨w4.heap.size,0,none⟩=some (.slice none 0 0)/\u.cell? ⟨w4.heap.size,1,none⟩=some (.slice none 0 0)) w6:=HSB.out _ (fun k _ hk=>b56.block k hk)
    refine hK.out _ _ S6 (fun _=>?_)
    clear hK K SW
    have x06:=ae b56 (by omega) (hc5 _ _ _ x0 (by omega))
    have x16:=ae b56 (by omega) (hc5 _ _ _ x1 (by omega))
    have x26:=ae b56 (by omega) (hc5 _ _ _ x2 (by omega))
    have y06:=ae b56 (by omega) (hc5 _ _ _ y0 (by omega))
    have y16:=ae b56 (by omega) (hc5 _ _ _ y1 (by omega))
    have kx6:∀q,w6.frozen? ⟨w.heap.size+1+1,q,none⟩=false:=fun q=>(b56.frozen (p:=⟨w.heap.size+1+1,q,none⟩) (by simp only;omega)).trans (hq5 _ q (kx4 q) (by omega))
    have ky6:∀q,w6.frozen? ⟨w.heap.size+1+1+1,q,none⟩=false:=fun q=>(b56.frozen (p:=⟨w.heap.size+1+1+1,q,none⟩) (by simp only;omega)).trans (hq5 _ q (ky4 q) (by omega))
    clear x0 x1 x2 y0 y1 kx ky kx4 ky4 hc5 hq5 km
    refine wpAnyH_ready (rs:=[4]) (by kernel_rfl) (by simp) ?_
    refine AllReadyH.cons rfl (fun K hK=>?_) AllReadyH.nil
    rw[if_pos (by rfl)]
    go_simp
    obtain⟨w7,h7⟩:∃w7,((w6.setCell ⟨w.heap.size+1+1,0,none⟩ (.slice (some ⟨b,0,none⟩) g.ins.length e0)).setCell ⟨w.heap.size+1+1,1,none⟩ (.slice (some ⟨t,0,none⟩) L.length e1)).setCell ⟨w.heap.size+1+1,2,none⟩ (.slice (some ⟨gm,0,none⟩) g.shown.length em)=w7:=⟨_,rfl⟩
    have sp7:aJ (w.heap.size+2) (w.heap.size+4) w6 w7:=by rw[<- h7];exact(((aJ.refl _ _ _).setCell (by omega) (by omega) _ _).setCell (by omega) (by omega) _ _).setCell (by omega) (by omega) _ _
    have q0:w7.cell? ⟨w.heap.size+1+1,0,none⟩=some (.slice (some ⟨b,0,none⟩) g.ins.length e0):=by rw[<- h7];simp[go_sem,x06]
    have q1:w7.cell? ⟨w.heap.size+1+1,1,none⟩=some (.slice (some ⟨t,0,none⟩) L.length e1):=by rw[<- h7];simp[go_sem,x16]
    have q2:w7.cell? ⟨w.heap.size+1+1,2,none⟩=some (.slice (some ⟨gm,0,none⟩) g.shown.length em):=by rw[<- h7];simp[go_sem,x26]
    have y07:w7.cell? ⟨w.heap.size+1+1+1,0,none⟩=some (.slice none 0 0):=by rw[<- h7];simp[go_sem,y06]
    have y17:w7.cell? ⟨w.heap.size+1+1+1,1,none⟩=some (.slice none 0 0):=by rw[<- h7];simp[go_sem,y16]
    have ky7:∀q,w7.frozen? ⟨w.heap.size+1+1+1,q,none⟩=false:=fun q=>by rw[<- h7];simp[go_sem,ky6]
    have S7:(fun u:World=>u.cell? ⟨w1.heap.size,0,none⟩=some (.slice (some ⟨b,0,none⟩) g.ins.length e0)/\u.cell? ⟨w1.heap.size,1,none⟩=some (.slice (some ⟨t,0,none⟩) L.length e1)/\u.cell? ⟨w1.heap.size,2,none⟩=some (.slice (some ⟨gm,0,none⟩) g.shown.length em)/\u.cell? ⟨w4.heap.size,0,none⟩=some (.slice none 0 0)/\u.cell? ⟨w4.heap.size,1,none⟩=some (.slice none 0 0)) w7:=HSB.out _ (fun k hk hk2=>(sp7.block k (by omega) (by omega)).trans (b56.block k hk2))
    rw[h7]
    clear h7
    refine hK.out _ _ S7 (fun _=>?_)
    clear hK K S6
    refine wpAnyH_ready (rs:=[5]) (by kernel_rfl) (by simp) ?_
    refine AllReadyH.cons rfl (fun K hK=>?_) AllReadyH.nil
    rw[if_pos (by rfl)]
    go_simp
    obtain⟨w8,h8⟩:∃w8,(w7.setCell ⟨w.heap.size+1+1+1,0,none⟩ (.slice none 0 0)).setCell ⟨w.heap.size+1+1+1,1,none⟩ (.slice none 0 0)=w8:=⟨_,rfl⟩
    have sp8:aJ (w.heap.size+2) (w.heap.size+4) w6 w8:=by rw[<- h8];exact(sp7.setCell (by omega) (by omega) _ _).setCell (by omega) (by omega) _ _
    have q0':w8.cell? ⟨w.heap.size+1+1,0,none⟩=some (.slice (some ⟨b,0,none⟩) g.ins.length e0):=by rw[<- h8];simp[go_sem,q0]
    have q1':w8.cell? ⟨w.heap.size+1+1,1,none⟩=some (.slice (some ⟨t,0,none⟩) L.length e1):=by rw[<- h8];simp[go_sem,q1]
    have q2':w8.cell? ⟨w.heap.size+1+1,2,none⟩=some (.slice (some ⟨gm,0,none⟩) g.shown.length em):=by rw[<- h8];simp[go_sem,q2]
    have y0':w8.cell? ⟨w.heap.size+1+1+1,0,none⟩=some (.slice none 0 0):=by rw[<- h8];simp[go_sem,y07]
    have y1':w8.cell? ⟨w.heap.size+1+1+1,1,none⟩=some (.slice none 0 0):=by rw[<- h8];simp[go_sem,y17]
    have S8:(fun u:World=>u.cell? ⟨w1.heap.size,0,none⟩=some (.slice (some ⟨b,0,none⟩) g.ins.length e0)/\u.cell? ⟨w1.heap.size,1,none⟩=some (.slice (some ⟨t,0,none⟩) L.length e1)/\u.cell? ⟨w1.heap.size,2,none⟩=some (.slice (some ⟨gm,0,none⟩) g.shown.length em)/\u.cell? ⟨w4.heap.size,0,none⟩=some (.slice none 0 0)/\u.cell? ⟨w4.heap.size,1,none⟩=some (.slice none 0 0)) w8:=HSB.out _ (fun k hk hk2=>(sp8.block k (by omega) (by omega)).trans (b56.block k hk2))
    rw[h8]
    clear h8 sp7 q0 q1 q2 y07 y17 ky7
    refine hK.out _ _ S8 (fun _=>?_)
    clear hK K S7
    refine wpAnyH_ready (rs:=[6]) (by kernel_rfl) (by simp) ?_
    refine AllReadyH.cons rfl (fun K hK=>?_) AllReadyH.nil
    rw[if_pos (by rfl)]
    go_simp
    refine hK.out _ _ S8 (fun _=>?_)
    clear hK K
    refine wpAnyH_done (by kernel_rfl) ?_ _
    clear S8 HSB
    have z8:=sp8.size
    have B4:Below w.heap.size w w4:=B1.trans ((b13.trans (b4.mono b13.size)).mono B1.size)
    have B8:Below w.heap.size w w8:=(B4.trans (sp5.below (by omega) B4.size)).trans ((b56.mono (by omega)).trans (sp8.below (by omega) (by omega)))
    have hf8:=(((hf3.below b4).span sp5 (.inl (Nat.le_refl _))).below b56).span sp8 (.inr (by omega))
    go_wp2_with fail
    exact bodyPost_ret (v:=.tuple #[.agg #[.slice (some ⟨b,0,none⟩) g.ins.length e0,.slice (some ⟨t,0,none⟩) L.length e1,.slice (some ⟨gm,0,none⟩) g.shown.length em],.agg #[.slice none 0 0,.slice none 0 0],.int .i64 0]) (by simp[results,Tryz.results28,go_sem,q0',q1',q2',y0',y1']) rfl ⟨⟨⟨g.ins,g.wins.set i.toNat r,g.shown⟩,L,[],[],_,_,_,_,none,none,_,_,_,0,0,w8.heap.size,w8.heap.size,rfl,.inr ⟨HI.out,r,0,HP.out,.inr (.inr ⟨rfl,g.shown,by rw[<- HLL.out];exact HCO.out,rfl⟩)⟩,HLL.out,by omega,Nat.le_refl _,Nat.le_refl _,.inr ⟨b,t,rfl,rfl,hf8.widen (by omega) (by omega)⟩,.inl rfl,.inl rfl,hcap,hem,Nat.zero_le _⟩,B8⟩
   ·obtain⟨u0,u1,u2,v0,v1,v2⟩:=id t3
    have HC:=qJ (some ⟨b,0,none⟩) (some ⟨t,0,none⟩) (some ⟨gm,0,none⟩) g.ins.length L.length g.shown.length e0 e1 em 153 (.inr rfl) w3
    go_wp2_with fail
    refine HC.mono ?_
    rintro e w4 ⟨rfl,b4⟩
    have t4:=t3.keep b4
    have hlt4:w1.heap.size<w4.heap.size:=block_lt_of_cell t4.c0
    have ne4:w1.heap.size≠w4.heap.size:=by omega
    clear u0 u1 u2 v0 v1 v2 HC
    obtain⟨u0,u1,u2,v0,v1,v2⟩:=id t4
    obtain⟨V5,h5'⟩:∃V5,(((w4.setCell ⟨w1.heap.size,0,none⟩ (.slice (some ⟨b,0,none⟩) g.ins.length e0)).setCell ⟨w1.heap.size,1,none⟩ (.slice (some ⟨t,0,none⟩) L.length e1)).setCell ⟨w1.heap.size,2,none⟩ (.slice (some ⟨gm,0,none⟩) g.shown.length em)).alloc (.cells #[.slice none 0 0,.slice none 0 0] 73)=V5:=⟨_,rfl⟩
    have sp5a:aJ w1.heap.size (w1.heap.size+1) w4 (((w4.setCell ⟨w1.heap.size,0,none⟩ (.slice (some ⟨b,0,none⟩) g.ins.length e0)).setCell ⟨w1.heap.size,1,none⟩ (.slice (some ⟨t,0,none⟩) L.length e1)).setCell ⟨w1.heap.size,2,none⟩ (.slice (some ⟨gm,0,none⟩) g.shown.length em)):=(((aJ.refl _ _ _).setCell (Nat.le_refl _) (Nat.lt_succ_self _) _ _).setCell (Nat.le_refl _) (Nat.lt_succ_self _) _ _).setCell (Nat.le_refl _) (Nat.lt_succ_self _) _ _
    have sp5:aJ w1.heap.size (w1.heap.size+1) w4 V5:=by
     rw[<- h5']
     have hb:Below _ (((w4.setCell ⟨w1.heap.size,0,none⟩ (.slice (some ⟨b,0,none⟩) g.ins.length e0)).setCell ⟨w1.heap.size,1,none⟩ (.slice (some ⟨t,0,none⟩) L.length e1)).setCell ⟨w1.heap.size,2,none⟩ (.slice (some ⟨gm,0,none⟩) g.shown.length em)) _:=(Below.refl _ _).alloc (Nat.le_refl _) (.cells #[.slice none 0 0,.slice none 0 0] 73)
     exact⟨hb.os.trans sp5a.os,hb.tape.trans sp5a.tape,hb.output.trans sp5a.output,Nat.le_trans sp5a.size hb.size,fun k hk hn=>(hb.block k (Nat.lt_of_lt_of_le hk sp5a.size)).trans (sp5a.block k hk hn)⟩
    have z5:V5.heap.size=w4.heap.size+1:=by rw[<- h5'];simp
    have z4:=b4.size
    have tS:=(((t4.set0 (.slice (some ⟨b,0,none⟩) g.ins.length e0)).set1 (.slice (some ⟨t,0,none⟩) L.length e1)).set2 (.slice (some ⟨gm,0,none⟩) g.shown.length em)).keep ((Below.refl _ _).alloc (Nat.le_refl _) (.cells #[.slice none 0 0,.slice none 0 0] 73))
    have SV:(fun u:World=>u.cell? ⟨w1.heap.size,0,none⟩=some (.slice (some ⟨b,0,none⟩) g.ins.length e0)/\u.cell? ⟨w1.heap.size,1,none⟩=some (.slice (some ⟨t,0,none⟩) L.length e1)/\u.cell? ⟨w1.heap.size,2,none⟩=some (.slice (some ⟨gm,0,none⟩) g.shown.length em)/\u.cell? ⟨w4.heap.size,0,none⟩=some (.slice none 0 0)/\u.cell? ⟨w4.heap.size,1,none⟩=some (.slice none 0 0)) V5:=by
     rw[h5']at tS
     refine⟨tS.c0,tS.c1,tS.c2, ?_, ?_⟩
     ·rw[<- h5'];simp[go_sem]
     ·rw[<- h5'];simp[go_sem]
    have HV5:Hid (((((w4.setCell ⟨w1.heap.size,0,none⟩ (.slice (some ⟨b,0,none⟩) g.ins.length e0)).setCell ⟨w1.heap.size,1,none⟩ (.slice (some ⟨t,0,none⟩) L.length e1)).setCell ⟨w1.heap.size,2,none⟩ (.slice (some ⟨gm,0,none⟩) g.shown.length em)).alloc (.cells #[.slice none 0 0,.slice none 0 0] 73))=V5):=h5'
    clear h5' sp5a
    replace x0:=ae b4 (by omega) x0
    replace x1:=ae b4 (by omega) x1
    replace x2:=ae b4 (by omega) x2
    replace y0:=ae b4 (by omega) y0
    replace y1:=ae b4 (by omega) y1
    have kx4:∀q,w4.frozen? ⟨w.heap.size+1+1,q,none⟩=false:=fun q=>(b4.frozen (p:=⟨w.heap.size+1+1,q,none⟩) (by simp only;omega)).trans (kx q)
    have ky4:∀q,w4.frozen? ⟨w.heap.size+1+1+1,q,none⟩=false:=fun q=>(b4.frozen (p:=⟨w.heap.size+1+1+1,q,none⟩) (by simp only;omega)).trans (ky q)
    have hw24:w.heap.size+4<=w4.heap.size:=by omega
    have hc5:∀bb q v,w4.cell? ⟨bb,q,none⟩=some v->bb<w.heap.size+4->V5.cell? ⟨bb,q,none⟩=some v:=fun bb q v hv hb=>by rw[World.cell?_of_block (sp5.block bb (block_lt_of_cell hv) (by omega))];exact hv
    have hq5:∀bb q,w4.frozen? ⟨bb,q,none⟩=false->bb<w.heap.size+4->V5.frozen? ⟨bb,q,none⟩=false:=fun bb q hv hb=>by rw[World.frozen?_of_block (sp5.block bb (by omega) (by omega))];exact hv
    go_wp2_with fail
    rw[HV5.out]
    clear HV5 u0 u1 u2 v0 v1 v2
    have hbd:Below V5.heap.size V5 V5.drew:=(Below.refl _ _).drew
    have HSB:Hid (∀u:World,(∀k,w1.heap.size<=k->k<V5.heap.size->u.heap[k]?=V5.heap[k]?)->u.cell? ⟨w1.heap.size,0,none⟩=some (.slice (some ⟨b,0,none⟩) g.ins.length e0)/\u.cell? ⟨w1.heap.size,1,none⟩=some (.slice (some ⟨t,0,none⟩) L.length e1)/\u.cell? ⟨w1.heap.size,2,none⟩=some (.slice (some ⟨gm,0,none⟩) g.shown.length em)/\u.cell? ⟨w4.heap.size,0,none⟩=some (.slice none 0 0)/\u.cell? ⟨w4.heap.size,1,none⟩=some (.slice none 0 0)):=fun u hu=>⟨(World.cell?_of_block (hu w1.heap.size (Nat.le_refl _) (by omega))).trans SV.1,(World.cell?_of_block (hu w1.heap.size (Nat.le_refl _) (by omega))).trans SV.2.1,(World.cell?_of_block (hu w1.heap.size (Nat.le_refl _) (by omega))).trans SV.2.2.1,(World.cell?_of_block (hu w4.heap.size (by omega) (by omega))).trans SV.2.2.2.1,(World.cell?_of_block (hu w4.heap.size (by omega) (by omega))).trans SV.2.2.2.2⟩
    have SW:(fun u:World=>u.cell? ⟨w1.heap.size,0,none⟩=some (.slice (some ⟨b,0,none⟩) g.ins.length e0)/\u.cell? ⟨w1.heap.size,1,none⟩=some (.slice (some ⟨t,0,none⟩) L.length e1)/\u.cell? ⟨w1.heap.size,2,none⟩=some (.slice (some ⟨gm,0,none⟩) g.shown.length em)/\u.cell? ⟨w4.heap.size,0,none⟩=some (.slice none 0 0)/\u.cell? ⟨w4.heap.size,1,none⟩=some (.slice none 0 0)) V5.drew:=HSB.out _ (fun k _ hk=>hbd.block k hk)
    have km:=Tryz.methOverflows (.agg #[])
    refine wp_region_held_drew (S:=fun u=>u.cell? ⟨w1.heap.size,0,none⟩=some (.slice (some ⟨b,0,none⟩) g.ins.length e0)/\u.cell? ⟨w1.heap.size,1,none⟩=some (.slice (some ⟨t,0,none⟩) L.length e1)/\u.cell? ⟨w1.heap.size,2,none⟩=some (.slice (some ⟨gm,0,none⟩) g.shown.length em)/\u.cell? ⟨w4.heap.size,0,none⟩=some (.slice none 0 0)/\u.cell? ⟨w4.heap.size,1,none⟩=some (.slice none 0 0)) (by kernel_rfl) SW (fun _=>?_)
    refine wpAnyH_take (i:=0) (v:=.agg #[.slice (some ⟨b,0,none⟩) g.ins.length e0,.slice (some ⟨t,0,none⟩) L.length e1,.slice (some ⟨gm,0,none⟩) g.shown.length em]) rfl (by kernel_rfl) (by kernel_rfl) (by kernel_rfl) (fun _ _ _ h=>h) (Or.inl ⟨by rfl, ?_⟩) SW ?_
    ·rintro u ⟨p1,p2,p3,p4,p5⟩
     go_simp
    simp only[Act.put,List.setIfInBounds_toArray]
    refine wpAnyH_take (i:=1) (v:=.agg #[.slice none 0 0,.slice none 0 0]) rfl (by kernel_rfl) (by kernel_rfl) (by kernel_rfl) (fun _ _ _ h=>h) (Or.inl ⟨by rfl, ?_⟩) SW ?_
    ·rintro u ⟨p1,p2,p3,p4,p5⟩
     go_simp
    simp only[Act.put]
    refine wpAnyH_take (i:=2) (v:=.iface 153 (.agg #[])) rfl (by kernel_rfl) (by kernel_rfl) (by kernel_rfl) (fun _ _ _ h=>h) (Or.inl ⟨by rfl, ?_⟩) SW ?_
    ·rintro u ⟨p1,p2,p3,p4,p5⟩
     go_simp
    simp only[Act.put]
    refine wpAnyH_ready (rs:=[3]) (by kernel_rfl) (by simp) ?_
    refine AllReadyH.cons rfl (fun K hK=>?_) AllReadyH.nil
    rw[if_pos (by rfl)]
    go_simp
    refine(vO _).mono ?_
    rintro e w6 ⟨rfl,b6⟩
    have b56:Below V5.heap.size V5 w6:=hbd.trans (b6.mono hbd.size)
    have z6:=b56.size
    have S6:(fun u:World=>u.cell? ⟨w1.heap.size,0,none⟩=some (.slice (some ⟨b,0,none⟩) g.ins.length e0)/\u.cell? ⟨w1.heap.size,1,none⟩=some (.slice (some ⟨t,0,none⟩) L.length e1)/\u.cell? ⟨w1.heap.size,2,none⟩=some (.slice (some ⟨gm,0,none⟩) g.shown.length em)/\u.cell? ⟨w4.heap.size,0,none⟩=some (.slice none 0 0)/\u.cell? ⟨w4.heap.size,1,none⟩=some (.slice none 0 0)) w6:=HSB.out _ (fun k _ hk=>b56.block k hk)
    refine hK.out _ _ S6 (fun _=>?_)
    clear hK K SW
    have x06:=ae b56 (by omega) (hc5 _ _ _ x0 (by omega))
    have x16:=ae b56 (by omega) (hc5 _ _ _ x1 (by omega))
    have x26:=ae b56 (by omega) (hc5 _ _ _ x2 (by omega))
    have y06:=ae b56 (by omega) (hc5 _ _ _ y0 (by omega))
    have y16:=ae b56 (by omega) (hc5 _ _ _ y1 (by omega))
    have kx6:∀q,w6.frozen? ⟨w.heap.size+1+1,q,none⟩=false:=fun q=>(b56.frozen (p:=⟨w.heap.size+1+1,q,none⟩) (by simp only;omega)).trans (hq5 _ q (kx4 q) (by omega))
    have ky6:∀q,w6.frozen? ⟨w.heap.size+1+1+1,q,none⟩=false:=fun q=>(b56.frozen (p:=⟨w.heap.size+1+1+1,q,none⟩) (by simp only;omega)).trans (hq5 _ q (ky4 q) (by omega))
    clear x0 x1 x2 y0 y1 kx ky kx4 ky4 hc5 hq5 km
    refine wpAnyH_ready (rs:=[4]) (by kernel_rfl) (by simp) ?_
    refine AllReadyH.cons rfl (fun K hK=>?_) AllReadyH.nil
    rw[if_pos (by rfl)]
    go_simp
    obtain⟨w7,h7⟩:∃w7,((w6.setCell ⟨w.heap.size+1+1,0,none⟩ (.slice (some ⟨b,0,none⟩) g.ins.length e0)).setCell ⟨w.heap.size+1+1,1,none⟩ (.slice (some ⟨t,0,none⟩) L.length e1)).setCell ⟨w.heap.size+1+1,2,none⟩ (.slice (some ⟨gm,0,none⟩) g.shown.length em)=w7:=⟨_,rfl⟩
    have sp7:aJ (w.heap.size+2) (w.heap.size+4) w6 w7:=by rw[<- h7];exact(((aJ.refl _ _ _).setCell (by omega) (by omega) _ _).setCell (by omega) (by omega) _ _).setCell (by omega) (by omega) _ _
    have q0:w7.cell? ⟨w.heap.size+1+1,0,none⟩=some (.slice (some ⟨b,0,none⟩) g.ins.length e0):=by rw[<- h7];simp[go_sem,x06]
    have q1:w7.cell? ⟨w.heap.size+1+1,1,none⟩=some (.slice (some ⟨t,0,none⟩) L.length e1):=by rw[<- h7];simp[go_sem,x16]
    have q2:w7.cell? ⟨w.heap.size+1+1,2,none⟩=some (.slice (some ⟨gm,0,none⟩) g.shown.length em):=by rw[<- h7];simp[go_sem,x26]
    have y07:w7.cell? ⟨w.heap.size+1+1+1,0,none⟩=some (.slice none 0 0):=by rw[<- h7];simp[go_sem,y06]
    have y17:w7.cell? ⟨w.heap.size+1+1+1,1,none⟩=some (.slice none 0 0):=by rw[<- h7];simp[go_sem,y16]
    have ky7:∀q,w7.frozen? ⟨w.heap.size+1+1+1,q,none⟩=false:=fun q=>by rw[<- h7];simp[go_sem,ky6]
    have S7:(fun u:World=>u.cell? ⟨w1.heap.size,0,none⟩=some (.slice (some ⟨b,0,none⟩) g.ins.length e0)/\u.cell? ⟨w1.heap.size,1,none⟩=some (.slice (some ⟨t,0,none⟩) L.length e1)/\u.cell? ⟨w1.heap.size,2,none⟩=some (.slice (some ⟨gm,0,none⟩) g.shown.length em)/\u.cell? ⟨w4.heap.size,0,none⟩=some (.slice none 0 0)/\u.cell? ⟨w4.heap.size,1,none⟩=some (.slice none 0 0)) w7:=HSB.out _ (fun k hk hk2=>(sp7.block k (by omega) (by omega)).trans (b56.block k hk2))
    rw[h7]
    clear h7
    refine hK.out _ _ S7 (fun _=>?_)
    clear hK K S6
    refine wpAnyH_ready (rs:=[5]) (by kernel_rfl) (by simp) ?_
    refine AllReadyH.cons rfl (fun K hK=>?_) AllReadyH.nil
    rw[if_pos (by rfl)]
    go_simp
    obtain⟨w8,h8⟩:∃w8,(w7.setCell ⟨w.heap.size+1+1+1,0,none⟩ (.slice none 0 0)).setCell ⟨w.heap.size+1+1+1,1,none⟩ (.slice none 0 0)=w8:=⟨_,rfl⟩
    have sp8:aJ (w.heap.size+2) (w.heap.size+4) w6 w8:=by rw[<- h8];exact(sp7.setCell (by omega) (by omega) _ _).setCell (by omega) (by omega) _ _
    have q0':w8.cell? ⟨w.heap.size+1+1,0,none⟩=some (.slice (some ⟨b,0,none⟩) g.ins.length e0):=by rw[<- h8];simp[go_sem,q0]
    have q1':w8.cell? ⟨w.heap.size+1+1,1,none⟩=some (.slice (some ⟨t,0,none⟩) L.length e1):=by rw[<- h8];simp[go_sem,q1]
    have q2':w8.cell? ⟨w.heap.size+1+1,2,none⟩=some (.slice (some ⟨gm,0,none⟩) g.shown.length em):=by rw[<- h8];simp[go_sem,q2]
    have y0':w8.cell? ⟨w.heap.size+1+1+1,0,none⟩=some (.slice none 0 0):=by rw[<- h8];simp[go_sem,y07]
    have y1':w8.cell? ⟨w.heap.size+1+1+1,1,none⟩=some (.slice none 0 0):=by rw[<- h8];simp[go_sem,y17]
    have S8:(fun u:World=>u.cell? ⟨w1.heap.size,0,none⟩=some (.slice (some ⟨b,0,none⟩) g.ins.length e0)/\u.cell? ⟨w1.heap.size,1,none⟩=some (.slice (some ⟨t,0,none⟩) L.length e1)/\u.cell? ⟨w1.heap.size,2,none⟩=some (.slice (some ⟨gm,0,none⟩) g.shown.length em)/\u.cell? ⟨w4.heap.size,0,none⟩=some (.slice none 0 0)/\u.cell? ⟨w4.heap.size,1,none⟩=some (.slice none 0 0)) w8:=HSB.out _ (fun k hk hk2=>(sp8.block k (by omega) (by omega)).trans (b56.block k hk2))
    rw[h8]
    clear h8 sp7 q0 q1 q2 y07 y17 ky7
    refine hK.out _ _ S8 (fun _=>?_)
    clear hK K S7
    refine wpAnyH_ready (rs:=[6]) (by kernel_rfl) (by simp) ?_
    refine AllReadyH.cons rfl (fun K hK=>?_) AllReadyH.nil
    rw[if_pos (by rfl)]
    go_simp
    refine hK.out _ _ S8 (fun _=>?_)
    clear hK K
    refine wpAnyH_done (by kernel_rfl) ?_ _
    clear S8 HSB
    have z8:=sp8.size
    have B4:Below w.heap.size w w4:=B1.trans ((b13.trans (b4.mono b13.size)).mono B1.size)
    have B8:Below w.heap.size w w8:=(B4.trans (sp5.below (by omega) B4.size)).trans ((b56.mono (by omega)).trans (sp8.below (by omega) (by omega)))
    have hf8:=(((hf3.below b4).span sp5 (.inl (Nat.le_refl _))).below b56).span sp8 (.inr (by omega))
    go_wp2_with fail
    exact bodyPost_ret (v:=.tuple #[.agg #[.slice (some ⟨b,0,none⟩) g.ins.length e0,.slice (some ⟨t,0,none⟩) L.length e1,.slice (some ⟨gm,0,none⟩) g.shown.length em],.agg #[.slice none 0 0,.slice none 0 0],.int .i64 4]) (by simp[results,Tryz.results28,go_sem,q0',q1',q2',y0',y1']) rfl ⟨⟨⟨g.ins,g.wins.set i.toNat r,g.shown⟩,L,[],[],_,_,_,_,none,none,_,_,_,0,0,w8.heap.size,w8.heap.size,rfl,.inr ⟨HI.out,r,0,HP.out,.inr (.inr ⟨rfl,g.shown,by rw[<- HLL.out];exact HCO.out,rfl⟩)⟩,HLL.out,by omega,Nat.le_refl _,Nat.le_refl _,.inr ⟨b,t,rfl,rfl,hf8.widen (by omega) (by omega)⟩,.inl rfl,.inl rfl,hcap,hem,Nat.zero_le _⟩,B8⟩
  ·have HCO:Hid (jJ (L.map (·.l)) g.shown j (bZ (L.map (·.l)) out) j 1):=hcome
   clear hcome
   obtain⟨u0,u1,u2,v0,v1,v2⟩:=id t3
   generalize bZ (L.map (·.l)) out=sv at *
   have HC:=yl (some ⟨b,0,none⟩) (some ⟨t,0,none⟩) (some ⟨gm,0,none⟩) ja g.ins.length L.length g.shown.length e0 e1 em gv sv.length cv cj j w3 hjs h4.row
   go_wp2_with fail
   refine HC.mono ?_
   rintro e w4 ⟨⟨gs,cs,rfl,hgs,hcs,hos⟩,b4⟩
   have t4:=t3.keep b4
   have hlt4:w1.heap.size<w4.heap.size:=block_lt_of_cell t4.c0
   have ne4:w1.heap.size≠w4.heap.size:=by omega
   clear u0 u1 u2 v0 v1 v2 HC
   obtain⟨u0,u1,u2,v0,v1,v2⟩:=id t4
   obtain⟨V5,h5'⟩:∃V5,(((w4.setCell ⟨w1.heap.size,0,none⟩ (.slice (some ⟨b,0,none⟩) g.ins.length e0)).setCell ⟨w1.heap.size,1,none⟩ (.slice (some ⟨t,0,none⟩) L.length e1)).setCell ⟨w1.heap.size,2,none⟩ (.slice ja j.length cj)).alloc (.cells #[.slice (some ⟨gv,0,none⟩) sv.length cv,.slice (some ⟨gs,0,none⟩) j.length cs] 73)=V5:=⟨_,rfl⟩
   have sp5a:aJ w1.heap.size (w1.heap.size+1) w4 (((w4.setCell ⟨w1.heap.size,0,none⟩ (.slice (some ⟨b,0,none⟩) g.ins.length e0)).setCell ⟨w1.heap.size,1,none⟩ (.slice (some ⟨t,0,none⟩) L.length e1)).setCell ⟨w1.heap.size,2,none⟩ (.slice ja j.length cj)):=(((aJ.refl _ _ _).setCell (Nat.le_refl _) (Nat.lt_succ_self _) _ _).setCell (Nat.le_refl _) (Nat.lt_succ_self _) _ _).setCell (Nat.le_refl _) (Nat.lt_succ_self _) _ _
   have sp5:aJ w1.heap.size (w1.heap.size+1) w4 V5:=by
    rw[<- h5']
    have hb:Below _ (((w4.setCell ⟨w1.heap.size,0,none⟩ (.slice (some ⟨b,0,none⟩) g.ins.length e0)).setCell ⟨w1.heap.size,1,none⟩ (.slice (some ⟨t,0,none⟩) L.length e1)).setCell ⟨w1.heap.size,2,none⟩ (.slice ja j.length cj)) _:=(Below.refl _ _).alloc (Nat.le_refl _) (.cells #[.slice (some ⟨gv,0,none⟩) sv.length cv,.slice (some ⟨gs,0,none⟩) j.length cs] 73)
    exact⟨hb.os.trans sp5a.os,hb.tape.trans sp5a.tape,hb.output.trans sp5a.output,Nat.le_trans sp5a.size hb.size,fun k hk hn=>(hb.block k (Nat.lt_of_lt_of_le hk sp5a.size)).trans (sp5a.block k hk hn)⟩
   have z5:V5.heap.size=w4.heap.size+1:=by rw[<- h5'];simp
   have z4:=b4.size
   have tS:=(((t4.set0 (.slice (some ⟨b,0,none⟩) g.ins.length e0)).set1 (.slice (some ⟨t,0,none⟩) L.length e1)).set2 (.slice ja j.length cj)).keep ((Below.refl _ _).alloc (Nat.le_refl _) (.cells #[.slice (some ⟨gv,0,none⟩) sv.length cv,.slice (some ⟨gs,0,none⟩) j.length cs] 73))
   have SV:(fun u:World=>u.cell? ⟨w1.heap.size,0,none⟩=some (.slice (some ⟨b,0,none⟩) g.ins.length e0)/\u.cell? ⟨w1.heap.size,1,none⟩=some (.slice (some ⟨t,0,none⟩) L.length e1)/\u.cell? ⟨w1.heap.size,2,none⟩=some (.slice ja j.length cj)/\u.cell? ⟨w4.heap.size,0,none⟩=some (.slice (some ⟨gv,0,none⟩) sv.length cv)/\u.cell? ⟨w4.heap.size,1,none⟩=some (.slice (some ⟨gs,0,none⟩) j.length cs)) V5:=by
    rw[h5']at tS
    refine⟨tS.c0,tS.c1,tS.c2, ?_, ?_⟩
    ·rw[<- h5'];simp[go_sem]
    ·rw[<- h5'];simp[go_sem]
   have HV5:Hid (((((w4.setCell ⟨w1.heap.size,0,none⟩ (.slice (some ⟨b,0,none⟩) g.ins.length e0)).setCell ⟨w1.heap.size,1,none⟩ (.slice (some ⟨t,0,none⟩) L.length e1)).setCell ⟨w1.heap.size,2,none⟩ (.slice ja j.length cj)).alloc (.cells #[.slice (some ⟨gv,0,none⟩) sv.length cv,.slice (some ⟨gs,0,none⟩) j.length cs] 73))=V5):=h5'
   clear h5' sp5a
   replace x0:=ae b4 (by omega) x0
   replace x1:=ae b4 (by omega) x1
   replace x2:=ae b4 (by omega) x2
   replace y0:=ae b4 (by omega) y0
   replace y1:=ae b4 (by omega) y1
   have kx4:∀q,w4.frozen? ⟨w.heap.size+1+1,q,none⟩=false:=fun q=>(b4.frozen (p:=⟨w.heap.size+1+1,q,none⟩) (by simp only;omega)).trans (kx q)
   have ky4:∀q,w4.frozen? ⟨w.heap.size+1+1+1,q,none⟩=false:=fun q=>(b4.frozen (p:=⟨w.heap.size+1+1+1,q,none⟩) (by simp only;omega)).trans (ky q)
   have hw24:w.heap.size+4<=w4.heap.size:=by omega
   have hc5:∀bb q v,w4.cell? ⟨bb,q,none⟩=some v->bb<w.heap.size+4->V5.cell? ⟨bb,q,none⟩=some v:=fun bb q v hv hb=>by rw[World.cell?_of_block (sp5.block bb (block_lt_of_cell hv) (by omega))];exact hv
   have hq5:∀bb q,w4.frozen? ⟨bb,q,none⟩=false->bb<w.heap.size+4->V5.frozen? ⟨bb,q,none⟩=false:=fun bb q hv hb=>by rw[World.frozen?_of_block (sp5.block bb (by omega) (by omega))];exact hv
   go_wp2_with fail
   rw[HV5.out]
   clear HV5 u0 u1 u2 v0 v1 v2
   have hbd:Below V5.heap.size V5 V5.drew:=(Below.refl _ _).drew
   have HSB:Hid (∀u:World,(∀k,w1.heap.size<=k->k<V5.heap.size->u.heap[k]?=V5.heap[k]?)->u.cell? ⟨w1.heap.size,0,none⟩=some (.slice (some ⟨b,0,none⟩) g.ins.length e0)/\u.cell? ⟨w1.heap.size,1,none⟩=some (.slice (some ⟨t,0,none⟩) L.length e1)/\u.cell? ⟨w1.heap.size,2,none⟩=some (.slice ja j.length cj)/\u.cell? ⟨w4.heap.size,0,none⟩=some (.slice (some ⟨gv,0,none⟩) sv.length cv)/\u.cell? ⟨w4.heap.size,1,none⟩=some (.slice (some ⟨gs,0,none⟩) j.length cs)):=fun u hu=>⟨(World.cell?_of_block (hu w1.heap.size (Nat.le_refl _) (by omega))).trans SV.1,(World.cell?_of_block (hu w1.heap.size (Nat.le_refl _) (by omega))).trans SV.2.1,(World.cell?_of_block (hu w1.heap.size (Nat.le_refl _) (by omega))).trans SV.2.2.1,(World.cell?_of_block (hu w4.heap.size (by omega) (by omega))).trans SV.2.2.2.1,(World.cell?_of_block (hu w4.heap.size (by omega) (by omega))).trans SV.2.2.2.2⟩
   have SW:(fun u:World=>u.cell? ⟨w1.heap.size,0,none⟩=some (.slice (some ⟨b,0,none⟩) g.ins.length e0)/\u.cell? ⟨w1.heap.size,1,none⟩=some (.slice (some ⟨t,0,none⟩) L.length e1)/\u.cell? ⟨w1.heap.size,2,none⟩=some (.slice ja j.length cj)/\u.cell? ⟨w4.heap.size,0,none⟩=some (.slice (some ⟨gv,0,none⟩) sv.length cv)/\u.cell? ⟨w4.heap.size,1,none⟩=some (.slice (some ⟨gs,0,none⟩) j.length cs)) V5.drew:=HSB.out _ (fun k _ hk=>hbd.block k hk)
   have km:=Tryz.methShows (.agg #[.slice (some ⟨gv,0,none⟩) sv.length cv,.slice ja j.length cj])
   refine wp_region_held_drew (S:=fun u=>u.cell? ⟨w1.heap.size,0,none⟩=some (.slice (some ⟨b,0,none⟩) g.ins.length e0)/\u.cell? ⟨w1.heap.size,1,none⟩=some (.slice (some ⟨t,0,none⟩) L.length e1)/\u.cell? ⟨w1.heap.size,2,none⟩=some (.slice ja j.length cj)/\u.cell? ⟨w4.heap.size,0,none⟩=some (.slice (some ⟨gv,0,none⟩) sv.length cv)/\u.cell? ⟨w4.heap.size,1,none⟩=some (.slice (some ⟨gs,0,none⟩) j.length cs)) (by kernel_rfl) SW (fun _=>?_)
   refine wpAnyH_take (i:=0) (v:=.agg #[.slice (some ⟨b,0,none⟩) g.ins.length e0,.slice (some ⟨t,0,none⟩) L.length e1,.slice ja j.length cj]) rfl (by kernel_rfl) (by kernel_rfl) (by kernel_rfl) (fun _ _ _ h=>h) (Or.inl ⟨by rfl, ?_⟩) SW ?_
   ·rintro u ⟨p1,p2,p3,p4,p5⟩
    go_simp
   simp only[Act.put,List.setIfInBounds_toArray]
   refine wpAnyH_take (i:=1) (v:=.agg #[.slice (some ⟨gv,0,none⟩) sv.length cv,.slice (some ⟨gs,0,none⟩) j.length cs]) rfl (by kernel_rfl) (by kernel_rfl) (by kernel_rfl) (fun _ _ _ h=>h) (Or.inl ⟨by rfl, ?_⟩) SW ?_
   ·rintro u ⟨p1,p2,p3,p4,p5⟩
    go_simp
   simp only[Act.put]
   refine wpAnyH_take (i:=2) (v:=.iface 156 (.agg #[.slice (some ⟨gv,0,none⟩) sv.length cv,.slice ja j.length cj])) rfl (by kernel_rfl) (by kernel_rfl) (by kernel_rfl) (fun _ _ _ h=>h) (Or.inl ⟨by rfl, ?_⟩) SW ?_
   ·rintro u ⟨p1,p2,p3,p4,p5⟩
    go_simp
   simp only[Act.put]
   refine wpAnyH_ready (rs:=[3]) (by kernel_rfl) (by simp) ?_
   refine AllReadyH.cons rfl (fun K hK=>?_) AllReadyH.nil
   rw[if_pos (by rfl)]
   go_simp
   refine(EO _ _ _).mono ?_
   rintro e w6 ⟨rfl,b6⟩
   have b56:Below V5.heap.size V5 w6:=hbd.trans (b6.mono hbd.size)
   have z6:=b56.size
   have S6:(fun u:World=>u.cell? ⟨w1.heap.size,0,none⟩=some (.slice (some ⟨b,0,none⟩) g.ins.length e0)/\u.cell? ⟨w1.heap.size,1,none⟩=some (.slice (some ⟨t,0,none⟩) L.length e1)/\u.cell? ⟨w1.heap.size,2,none⟩=some (.slice ja j.length cj)/\u.cell? ⟨w4.heap.size,0,none⟩=some (.slice (some ⟨gv,0,none⟩) sv.length cv)/\u.cell? ⟨w4.heap.size,1,none⟩=some (.slice (some ⟨gs,0,none⟩) j.length cs)) w6:=HSB.out _ (fun k _ hk=>b56.block k hk)
   refine hK.out _ _ S6 (fun _=>?_)
   clear hK K SW
   have x06:=ae b56 (by omega) (hc5 _ _ _ x0 (by omega))
   have x16:=ae b56 (by omega) (hc5 _ _ _ x1 (by omega))
   have x26:=ae b56 (by omega) (hc5 _ _ _ x2 (by omega))
   have y06:=ae b56 (by omega) (hc5 _ _ _ y0 (by omega))
   have y16:=ae b56 (by omega) (hc5 _ _ _ y1 (by omega))
   have kx6:∀q,w6.frozen? ⟨w.heap.size+1+1,q,none⟩=false:=fun q=>(b56.frozen (p:=⟨w.heap.size+1+1,q,none⟩) (by simp only;omega)).trans (hq5 _ q (kx4 q) (by omega))
   have ky6:∀q,w6.frozen? ⟨w.heap.size+1+1+1,q,none⟩=false:=fun q=>(b56.frozen (p:=⟨w.heap.size+1+1+1,q,none⟩) (by simp only;omega)).trans (hq5 _ q (ky4 q) (by omega))
   clear x0 x1 x2 y0 y1 kx ky kx4 ky4 hc5 hq5 km
   refine wpAnyH_ready (rs:=[4]) (by kernel_rfl) (by simp) ?_
   refine AllReadyH.cons rfl (fun K hK=>?_) AllReadyH.nil
   rw[if_pos (by rfl)]
   go_simp
   obtain⟨w7,h7⟩:∃w7,((w6.setCell ⟨w.heap.size+1+1,0,none⟩ (.slice (some ⟨b,0,none⟩) g.ins.length e0)).setCell ⟨w.heap.size+1+1,1,none⟩ (.slice (some ⟨t,0,none⟩) L.length e1)).setCell ⟨w.heap.size+1+1,2,none⟩ (.slice ja j.length cj)=w7:=⟨_,rfl⟩
   have sp7:aJ (w.heap.size+2) (w.heap.size+4) w6 w7:=by rw[<- h7];exact(((aJ.refl _ _ _).setCell (by omega) (by omega) _ _).setCell (by omega) (by omega) _ _).setCell (by omega) (by omega) _ _
   have q0:w7.cell? ⟨w.heap.size+1+1,0,none⟩=some (.slice (some ⟨b,0,none⟩) g.ins.length e0):=by rw[<- h7];simp[go_sem,x06]
   have q1:w7.cell? ⟨w.heap.size+1+1,1,none⟩=some (.slice (some ⟨t,0,none⟩) L.length e1):=by rw[<- h7];simp[go_sem,x16]
   have q2:w7.cell? ⟨w.heap.size+1+1,2,none⟩=some (.slice ja j.length cj):=by rw[<- h7];simp[go_sem,x26]
   have y07:w7.cell? ⟨w.heap.size+1+1+1,0,none⟩=some (.slice none 0 0):=by rw[<- h7];simp[go_sem,y06]
   have y17:w7.cell? ⟨w.heap.size+1+1+1,1,none⟩=some (.slice none 0 0):=by rw[<- h7];simp[go_sem,y16]
   have ky7:∀q,w7.frozen? ⟨w.heap.size+1+1+1,q,none⟩=false:=fun q=>by rw[<- h7];simp[go_sem,ky6]
   have S7:(fun u:World=>u.cell? ⟨w1.heap.size,0,none⟩=some (.slice (some ⟨b,0,none⟩) g.ins.length e0)/\u.cell? ⟨w1.heap.size,1,none⟩=some (.slice (some ⟨t,0,none⟩) L.length e1)/\u.cell? ⟨w1.heap.size,2,none⟩=some (.slice ja j.length cj)/\u.cell? ⟨w4.heap.size,0,none⟩=some (.slice (some ⟨gv,0,none⟩) sv.length cv)/\u.cell? ⟨w4.heap.size,1,none⟩=some (.slice (some ⟨gs,0,none⟩) j.length cs)) w7:=HSB.out _ (fun k hk hk2=>(sp7.block k (by omega) (by omega)).trans (b56.block k hk2))
   rw[h7]
   clear h7
   refine hK.out _ _ S7 (fun _=>?_)
   clear hK K S6
   refine wpAnyH_ready (rs:=[5]) (by kernel_rfl) (by simp) ?_
   refine AllReadyH.cons rfl (fun K hK=>?_) AllReadyH.nil
   rw[if_pos (by rfl)]
   go_simp
   obtain⟨w8,h8⟩:∃w8,(w7.setCell ⟨w.heap.size+1+1+1,0,none⟩ (.slice (some ⟨gv,0,none⟩) sv.length cv)).setCell ⟨w.heap.size+1+1+1,1,none⟩ (.slice (some ⟨gs,0,none⟩) j.length cs)=w8:=⟨_,rfl⟩
   have sp8:aJ (w.heap.size+2) (w.heap.size+4) w6 w8:=by rw[<- h8];exact(sp7.setCell (by omega) (by omega) _ _).setCell (by omega) (by omega) _ _
   have q0':w8.cell? ⟨w.heap.size+1+1,0,none⟩=some (.slice (some ⟨b,0,none⟩) g.ins.length e0):=by rw[<- h8];simp[go_sem,q0]
   have q1':w8.cell? ⟨w.heap.size+1+1,1,none⟩=some (.slice (some ⟨t,0,none⟩) L.length e1):=by rw[<- h8];simp[go_sem,q1]
   have q2':w8.cell? ⟨w.heap.size+1+1,2,none⟩=some (.slice ja j.length cj):=by rw[<- h8];simp[go_sem,q2]
   have y0':w8.cell? ⟨w.heap.size+1+1+1,0,none⟩=some (.slice (some ⟨gv,0,none⟩) sv.length cv):=by rw[<- h8];simp[go_sem,y07]
   have y1':w8.cell? ⟨w.heap.size+1+1+1,1,none⟩=some (.slice (some ⟨gs,0,none⟩) j.length cs):=by rw[<- h8];simp[go_sem,y17]
   have S8:(fun u:World=>u.cell? ⟨w1.heap.size,0,none⟩=some (.slice (some ⟨b,0,none⟩) g.ins.length e0)/\u.cell? ⟨w1.heap.size,1,none⟩=some (.slice (some ⟨t,0,none⟩) L.length e1)/\u.cell? ⟨w1.heap.size,2,none⟩=some (.slice ja j.length cj)/\u.cell? ⟨w4.heap.size,0,none⟩=some (.slice (some ⟨gv,0,none⟩) sv.length cv)/\u.cell? ⟨w4.heap.size,1,none⟩=some (.slice (some ⟨gs,0,none⟩) j.length cs)) w8:=HSB.out _ (fun k hk hk2=>(sp8.block k (by omega) (by omega)).trans (b56.block k hk2))
   rw[h8]
   clear h8 sp7 q0 q1 q2 y07 y17 ky7
   refine hK.out _ _ S8 (fun _=>?_)
   clear hK K S7
   refine wpAnyH_ready (rs:=[6]) (by kernel_rfl) (by simp) ?_
   refine AllReadyH.cons rfl (fun K hK=>?_) AllReadyH.nil
   rw[if_pos (by rfl)]
   go_simp
   refine hK.out _ _ S8 (fun _=>?_)
   clear hK K
   refine wpAnyH_done (by kernel_rfl) ?_ _
   clear S8 HSB
   have z8:=sp8.size
   have B4:Below w.heap.size w w4:=B1.trans ((b13.trans (b4.mono b13.size)).mono B1.size)
   have B8:Below w.heap.size w w8:=(B4.trans (sp5.below (by omega) B4.size)).trans ((b56.mono (by omega)).trans (sp8.below (by omega) (by omega)))
   have hf8:=(((hf3.below b4).span sp5 (.inl (Nat.le_refl _))).below b56).span sp8 (.inr (by omega))
   have hj8:=(((h4.below b4).span sp5 (.inr (by omega))).below b56).span sp8 (.inr (by omega))
   have hz3:kL w3 mid w3.heap.size (some ⟨gv,0,none⟩) sv:=.inr ⟨gv,rfl,h5,h6.lt,h6⟩
   have hv8:=(((hz3.below b4).span sp5 (.inr (by omega))).below b56).span sp8 (.inr (by omega))
   have hs4:Safe w4 w3.heap.size w4.heap.size (some ⟨gs,0,none⟩) j:=.inr ⟨gs,rfl,hgs,hos.lt,hos⟩
   have hs8:=((hs4.span sp5 (.inr (by omega))).below b56).span sp8 (.inr (by omega))
   have hnew:gz w8 W0.heap.size mid b t ja g.ins L j:=by
    have hw:=hf8.widen (Nat.le_refl W0.heap.size) (show w1.heap.size<=mid by omega)
    refine⟨hw.names,hw.wins,hw.bt,hw.bin,hw.tin,hw.bfar, ?_⟩
    rcases hj8 with e|⟨s,e,q1,q2,q3⟩
    ·exact .inl e
    ·have hbin:=hf8.bin
     have htin:=hf8.tin
     exact .inr ⟨s,e,by omega,q2,by omega,by omega,q3,fun p hp=>.inr (by have:=(hf8.wins.in_ p hp).2.2;omega)⟩
   clear hf8 hj8 hz3 hs4
   go_wp2_with fail
   exact bodyPost_ret (v:=.tuple #[.agg #[.slice (some ⟨b,0,none⟩) g.ins.length e0,.slice (some ⟨t,0,none⟩) L.length e1,.slice ja j.length cj],.agg #[.slice (some ⟨gv,0,none⟩) sv.length cv,.slice (some ⟨gs,0,none⟩) j.length cs],.int .i64 1]) (by simp[results,Tryz.results28,go_sem,q0',q1',q2',y0',y1']) rfl ⟨⟨⟨g.ins,g.wins.set i.toNat r,j⟩,L,sv,j,1,_,_,_,_,_,_,_,_,_,_,mid,w3.heap.size,rfl,.inr ⟨HI.out,r,0,HP.out,.inr (.inr ⟨rfl,j,by rw[<- HLL.out];exact HCO.out,rfl⟩)⟩,HLL.out,by omega,h2,by omega,.inr ⟨b,t,rfl,rfl,hnew.widen (by omega) (Nat.le_refl _)⟩,hv8,hs8.widenS (Nat.le_refl _) (by omega),hcap,h3,hcs⟩,B8⟩
end Go.Proofs.YtpfhegengmlkmabGreatDoor
