/- Texts of this claim. -/
import Derived.Sort.LoopGhostIn
import Derived.Test.YtpfhegengmlkmabGreatDoorZu42
import Derived.Test.YtpfhegengmlkmabGreatDoorZu45
namespace Go.Proofs.YtpfhegengmlkmabGreatDoor
open Go.RowKit Go.BigFrame
set_option maxRecDepth 100000
structure jb (w:World) (bT glo ghi:Nat) (g:aB) (a0 a1 a2:Option Addr) (d0 d1 d2:Nat):Prop where
 tri:iy w bT (.slice a0 g.ins.length d0) (.slice a1 g.wins.length d1) (.slice a2 g.shown.length d2)
 rows:RowsIn glo ghi w g a0 a1 a2
 nice:dM g
 glt:ghi<=w.heap.size
 box:bT<glo∨ghi<=bT
 cap:g.ins.length<=d0/\d0<=maxLen
 lt:bT<w.heap.size
theorem jb.below {w w':World}{bT glo ghi:Nat}{g:aB}{a0 a1 a2:Option Addr}{d0 d1 d2:Nat}(h:jb w bT glo ghi g a0 a1 a2 d0 d1 d2)(hb:Below w.heap.size w w'):jb w' bT glo ghi g a0 a1 a2 d0 d1 d2:=
 ⟨h.tri.keep hb,h.rows.agree (iK hb),h.nice,Nat.le_trans h.glt hb.size,h.box,h.cap,Nat.lt_of_lt_of_le h.lt hb.size⟩
theorem L6 (l:List UInt8):bl ⟨l.toArray⟩=l:=by simp[bl]
structure Lh (w:World):Prop where
 c0:w.cell? ⟨3,0,none⟩=some (.string ⟨#[115,97,109,101]⟩)
 c1:w.cell? ⟨3,1,none⟩=some (.string ⟨#[108,101,115,115]⟩)
 c2:w.cell? ⟨3,2,none⟩=some (.string ⟨#[109,111,114,101]⟩)
 c3:w.cell? ⟨3,3,none⟩=some (.string ⟨#[97,112,97,114,116]⟩)
theorem Lh.below {w w':World}(h:Lh w)(hb:Below w.heap.size w w'):Lh w':=
 ⟨ae hb (World.block_lt_of_cell? _ _ h.c0) h.c0,ae hb (World.block_lt_of_cell? _ _ h.c1) h.c1,ae hb (World.block_lt_of_cell? _ _ h.c2) h.c2,ae hb (World.block_lt_of_cell? _ _ h.c3) h.c3⟩
theorem o7 (w:World):Calls Tryz.prog 39 #[.bool true] w fun e w'=>e=.returned (.tuple #[])/\w=w':=(oq w).mono fun _ _ h=>⟨h.1,h.2.symm⟩
theorem wK (u:TypeId)(pv:Value)(w:World)(h:Ef w u pv):Calls Tryz.prog 39 #[.bool false] w fun e w'=>e=.panicked [{ v:=.iface u pv,recovered:=false }]/\w=w':=(oD u pv w h).mono fun _ _ h=>⟨h.1,h.2.symm⟩
def MK (T:aB->List UInt8->Prop)(u:TypeId)(pv:Value)(w w':World)(bT glo ghi:Nat)(g:aB)(e:Ending):Prop:=
 (∃s g' glo' ghi' b0 b1 b2 d0 d1 d2,e=.returned (.string s)/\T g' (bl s)/\jb w' bT glo' ghi' g' b0 b1 b2 d0 d1 d2/\((glo'=glo/\ghi'=ghi)∨w.heap.size<=glo'))∨(T g tQ/\e=Jg u pv/\Below w.heap.size w w')
theorem jb.set {w:World}{bT glo ghi:Nat}{g:aB}{a0 a1 a2:Option Addr}{d0 d1 d2:Nat}(h:jb w bT glo ghi g a0 a1 a2 d0 d1 d2){glo' ghi':Nat}{g':aB}{b0 b1 b2:Option Addr}(e0 e1 e2:Nat)
  (hr:RowsIn glo' ghi' w g' b0 b1 b2) (hn:dM g') (hgl:ghi'<=w.heap.size) (hbx:bT<glo'∨ghi'<=bT) (hc:g'.ins.length<=e0/\e0<=maxLen) :
  jb (((w.setCell ⟨bT,0,none⟩ (.slice b0 g'.ins.length e0)).setCell ⟨bT,1,none⟩ (.slice b1 g'.wins.length e1)).setCell ⟨bT,2,none⟩ (.slice b2 g'.shown.length e2)) bT glo' ghi' g' b0 b1 b2 e0 e1 e2:=by
 have hsp:aJ bT (bT+1) w (((w.setCell ⟨bT,0,none⟩ (.slice b0 g'.ins.length e0)).setCell ⟨bT,1,none⟩ (.slice b1 g'.wins.length e1)).setCell ⟨bT,2,none⟩ (.slice b2 g'.shown.length e2)):=(((aJ.refl _ _ _).setCell (Nat.le_refl _) (Nat.lt_succ_self _) _ _).setCell (Nat.le_refl _) (Nat.lt_succ_self _) _ _).setCell (Nat.le_refl _) (Nat.lt_succ_self _) _ _
 exact⟨((h.tri.set0 _).set1 _).set2c _,hr.agree (hsp.agree (by omega)),hn,Nat.le_trans hgl hsp.size,hbx,hc,Nat.lt_of_lt_of_le h.lt hsp.size⟩
set_option maxHeartbeats 1600000 in
theorem Iz (bT glo ghi:Nat)(g:aB)(a0 a1 a2 a:Option Addr)(d0 d1 d2 cap:Nat)(r:List ByteArray)(w:World)(ht:jb w bT glo ghi g a0 a1 a2 d0 d1 d2)(hw:AP w a cap r)(u:TypeId)(pv:Value)(henv:vU w u pv) :
  Calls Tryz.prog 58 #[.pointer (some ⟨bT,0,none⟩),.slice a r.length cap] w fun e w'=>MK (xA g r) u pv w w' bT glo ghi g e/\But bT w w':=by
 have hf:=hw.few
 have hgv:=henv.giv
 have hlt:=ht.lt
 go_enter Tryz.func58,Tryz.ntmps58
 by_cases h1:r=[]
 ·subst h1
  have HQ:Hid (xA g [] g tQ):=.inl ⟨rfl,rfl,rfl⟩
  go_wp2_with (go_at_call 39;refine(wK u pv _ hgv).mono ?_;rintro e w3 ⟨rfl,rfl⟩)
  exact⟨rfl,.inr ⟨HQ.out,rfl,Below.refl _ _⟩,But.refl _ _⟩
 have h1':(1:Int)<=(r.length:Int):=by have:=List.length_pos_iff.2 h1;omega
 have h1n:1<=r.length:=by omega
 have HR:Hid (r≠[]):=h1
 have cN:=xU a cap r w (by omega) hw.room hw.room2 hw.row (fun j hj=>by have:=hw.short _ (List.getElem_mem hj);unfold maxLen;omega)
 clear h1
 go_wp2_with (first|(go_at_call 39;refine(o7 _).mono ?_;rintro e w3 ⟨rfl,rfl⟩)|(go_at_call 27;refine cN.mono ?_))
 rintro e w1 ⟨hE,b1⟩
 have ht1:=ht.below b1
 rcases hE.start with⟨e0,c0,e1,c1,e2,c2,L,rfl,hN,hm,hS,hc0,hc1⟩|⟨rfl,hN⟩
 ·have hP:fG r:=by
   rcases hN with⟨_,h,_⟩|⟨h,_⟩
   ·exact h
   ·cases h
  have hLl:L.length=(bJ r).wins.length:=by rw[<- hm];simp
  have hrows:=hS.rowsIn (g:=bJ r) hm
  rw[hLl]
  have hv:=Ez hP
  have HV:Hid (xA g r (bJ r) MQ):=.inr (.inl ⟨HR.out,hP,rfl,rfl⟩)
  have hz:=b1.size
  have hst:=ht1.set c0 c1 c2 hrows hv (Nat.le_refl _) (.inl hlt) ⟨hc0,hc1⟩
  have HT:Hid (jb _ bT w.heap.size w1.heap.size (bJ r) e0 e1 e2 c0 c1 c2):=hst.below ((Below.refl _ _).alloc (Nat.le_refl _) (.cells #[.slice e0 r.length c0,.slice e1 (bJ r).wins.length c1,.slice e2 0 c2] 30))
  have HB:Hid (But bT w _):=((((But.of_below b1).setCell 0 (.slice e0 r.length c0)).setCell 1 (.slice e1 (bJ r).wins.length c1)).setCell 2 (.slice e2 0 c2)).trans (But.of_below ((Below.refl _ _).alloc (Nat.le_refl _) (.cells #[.slice e0 r.length c0,.slice e1 (bJ r).wins.length c1,.slice e2 0 c2] 30)))
  have tx:=aQ w1 (.slice e0 r.length c0) (.slice e1 (bJ r).wins.length c1) (.slice e2 0 c2) 30
  have p0:=ht1.tri.c0
  have p1:=ht1.tri.c1
  have p2:=ht1.tri.c2
  have o0:=ht1.tri.f0
  have o1:=ht1.tri.f1
  have o2:=ht1.tri.f2
  have hl1:=ht1.lt
  clear hE hN hm hS hLl hrows hv hP hst
  go_wp2_with fail
  go_ret
  exact⟨.inl ⟨_,bJ r,w.heap.size,w1.heap.size,e0,e1,e2,c0,c1,c2,rfl,HV.out,HT.out,.inr (Nat.le_refl _)⟩,HB.out⟩
 ·have hP:¬fG r:=by
   rcases hN with⟨h,_⟩|⟨_,h,_⟩
   ·cases h
   ·exact h
  have HV:Hid (xA g r g Md):=.inr (.inr ⟨HR.out,hP,rfl,rfl⟩)
  have bx:Below w1.heap.size w1 (w1.alloc (.cells #[.slice none 0 0,.slice none 0 0,.slice none 0 0] 30)):=(Below.refl _ _).alloc (Nat.le_refl _) _
  have ht2:=ht1.below bx
  have hB:=b1.trans (bx.mono b1.size)
  clear hE hN hP
  go_wp2_with fail
  go_ret
  exact⟨.inl ⟨_,g,glo,ghi,a0,a1,a2,d0,d1,d2,rfl,HV.out,ht2,.inl ⟨rfl,rfl⟩⟩,But.of_below hB⟩
structure Fp (W:World) (V0 V1 V5:Value) (x1:ByteArray) (q:List ByteArray) (f:Nat->Bool) (n:Int) (am:Option Addr) (cm:Nat) (m:List (ByteArray×Int)) (b8 lo hi:Nat) (v5 v14 v15 v16 v17 v18 v19 v20 v21:Value) (u:World):Prop where
 bel:Below W.heap.size W u
 k0:f 0=true->v14=V0
 k1:f 1=true->v15=V1
 k2:f 2=true->v16=.string x1
 k3:f 3=true->v17=.int .i64 n/\iH (bl x1) n
 k4:f 4=true->v18=V0
 k5:f 5=true->v19=V5
 k6:f 6=true->v20=.slice am m.length cm/\kF q m/\Safe u lo hi am m/\m.length<=cm/\hi<=u.heap.size/\(f 8=true->b8<lo∨hi<=b8)
 k7:f 7=true->v21=.agg #[.int .i64 n,.slice am m.length cm]
 k8:f 8=true->v5=.pointer (some ⟨b8,0,none⟩)/\W.heap.size<=b8/\b8<u.heap.size/\(f 9=false->Duo u b8 (.int .i64 0) (.slice none 0 0))/\(f 9=true->Duo u b8 (.int .i64 n) (.slice am m.length cm))
 c6:f 6=true->f 3=true
 c7:f 7=true->f 6=true
 c9:f 9=true->f 7=true/\f 8=true
theorem Fp.below {W u u':World}{V0 V1 V5:Value}{x1:ByteArray}{q:List ByteArray}{f:Nat->Bool}{n:Int}{am:Option Addr}{cm:Nat}{m:List (ByteArray×Int)}{b8 lo hi:Nat}{v5 v14 v15 v16 v17 v18 v19 v20 v21:Value}(h:Fp W V0 V1 V5 x1 q f n am cm m b8 lo hi v5 v14 v15 v16 v17 v18 v19 v20 v21 u)(hb:Below u.heap.size u u') :
  Fp W V0 V1 V5 x1 q f n am cm m b8 lo hi v5 v14 v15 v16 v17 v18 v19 v20 v21 u':=
 { h with
  bel:=h.bel.trans (hb.mono h.bel.size)
  k6:=fun e=>let ⟨q0,q1,q2,q3,q4,q5⟩:=h.k6 e;⟨q0,q1,q2.below hb,q3,Nat.le_trans q4 hb.size,q5⟩
  k8:=fun e=>let ⟨q0,q1,q2,q3,q4⟩:=h.k8 e;⟨q0,q1,Nat.lt_of_lt_of_le q2 hb.size,fun e'=>(q3 e').keep hb,fun e'=>(q4 e').keep hb⟩ }
structure Fq (Cal:lV->World->Prop) (W:World) (Q0 Q1 Q2 Q3 Q4 Q5 Q6:Value) (f:Nat->Bool) (R:lV) (b10 b11:Nat) (v7 v8 v9 v33 v34 v35 v36 v37 v38 v39 v40 v41 v42 v43 v44:Value) (u:World):Prop where
 bel:Below W.heap.size W u
 k0:f 0=true->v34=Q0
 k1:f 1=true->v35=Q1
 k2:f 2=true->v36=Q2
 k3:f 3=true->v37=Q3
 k4:f 4=true->v38=Q4
 k5:f 5=true->v39=Q5
 k6:f 6=true->v40=Q6
 k7:f 7=true->v41=R.all/\Cal R u/\W.heap.size<=R.tl
 k8:f 8=true->v33=R.all
 k9:f 9=true->v42=R.gv
 k10:f 10=true->v43=R.wv
 k11:f 11=true->v44=.int .i64 R.code
 k12:f 12=true->v7=.pointer (some ⟨b10,0,none⟩)/\W.heap.size<=b10/\b10<u.heap.size/\(f 7=true->b10<R.tl∨R.th<=b10)/\(f 14=false->iy u b10 (.slice none 0 0) (.slice none 0 0) (.slice none 0 0))/\(f 14=true->iy u b10 (.slice R.s0 R.g.ins.length R.d0) (.slice R.s1 R.L.length R.d1) (.slice R.s2 R.g.shown.length R.d2))
 k13:f 13=true->v8=.pointer (some ⟨b11,0,none⟩)/\W.heap.size<=b11/\b11<u.heap.size/\(f 7=true->b11<R.tl∨R.th<=b11)/\(f 15=false->Duo u b11 (.slice none 0 0) (.slice none 0 0))/\(f 15=true->Duo u b11 (.slice R.s3 R.sv.length R.d3) (.slice R.s4 R.ss.length R.d4))
 k16:f 16=true->v9=.int .i64 R.code
 ne:f 12=true->f 13=true->b10≠b11
 c8:f 8=true->f 7=true
 c9:f 9=true->f 7=true
 c10:f 10=true->f 7=true
 c11:f 11=true->f 7=true
 c14:f 14=true->f 7=true/\f 12=true
 c15:f 15=true->f 7=true/\f 13=true
 c16:f 16=true->f 7=true
theorem Fq.below {Cal:lV->World->Prop}(hC:∀R u u',Cal R u->Below u.heap.size u u'->Cal R u'){W u u':World}{Q0 Q1 Q2 Q3 Q4 Q5 Q6:Value}{f:Nat->Bool}{R:lV}{b10 b11:Nat}{v7 v8 v9 v33 v34 v35 v36 v37 v38 v39 v40 v41 v42 v43 v44:Value}(h:Fq Cal W Q0 Q1 Q2 Q3 Q4 Q5 Q6 f R b10 b11 v7 v8 v9 v33 v34 v35 v36 v37 v38 v39 v40 v41 v42 v43 v44 u)(hb:Below u.heap.size u u') :
  Fq Cal W Q0 Q1 Q2 Q3 Q4 Q5 Q6 f R b10 b11 v7 v8 v9 v33 v34 v35 v36 v37 v38 v39 v40 v41 v42 v43 v44 u':=
 { h with
  bel:=h.bel.trans (hb.mono h.bel.size)
  k7:=fun e=>let ⟨q0,q1,q2⟩:=h.k7 e;⟨q0,hC _ _ _ q1 hb,q2⟩
  k12:=fun e=>let ⟨q0,q1,q2,q3,q4,q5⟩:=h.k12 e;⟨q0,q1,Nat.lt_of_lt_of_le q2 hb.size,q3,fun e'=>(q4 e').keep hb,fun e'=>(q5 e').keep hb⟩
  k13:=fun e=>let ⟨q0,q1,q2,q3,q4,q5⟩:=h.k13 e;⟨q0,q1,Nat.lt_of_lt_of_le q2 hb.size,q3,fun e'=>(q4 e').keep hb,fun e'=>(q5 e').keep hb⟩ }
set_option maxHeartbeats 3200000 in
theorem Gf (bT glo ghi:Nat)(g:aB)(a0 a1 a2 a:Option Addr)(d0 d1 d2 cap:Nat)(r:List ByteArray)(w:World)(ht:jb w bT glo ghi g a0 a1 a2 d0 d1 d2)(hw:AP w a cap r)(u:TypeId)(pv:Value)(henv:vU w u pv)(het:AB w)(w00:World)(h00:w00.heap.size<=bT)(b00:Below w00.heap.size w00 w)(henv0:vU w00 u pv) :
  Calls Tryz.prog 59 #[.pointer (some ⟨bT,0,none⟩),.slice a r.length cap] w fun e w'=>MK (jM g r) u pv w w' bT glo ghi g e/\But bT w w':=by
 have hf:=hw.few
 have hgv:=henv.giv
 have hlt:=ht.lt
 go_enter Tryz.func59,Tryz.ntmps59
 by_cases h1:r.length<3
 ·have HQ:Hid (jM g r g tQ):=.inr ⟨fun x n m ⟨b,q,e,_,hq⟩=>by
   subst e
   have:=List.length_pos_iff.2 hq.1
   simp at h1
   omega,rfl,rfl⟩
  have hdec:decide ((3:Int)<=(r.length:Int))=false:=by simp;omega
  go_wp2_with (go_at_call 39;refine(wK u pv _ hgv).mono ?_;rintro e w3 ⟨rfl,rfl⟩)
  exact⟨rfl,.inr ⟨HQ.out,rfl,Below.refl _ _⟩,But.refl _ _⟩
 obtain⟨x0,x1,q,hr,hq0⟩:∃x0 x1 q,r=x0::x1::q/\q≠[]:=by
  match r,h1 with
  |[],h=>simp at h
  |[_],h=>simp at h
  |[_,_],h=>simp at h
  |x::y::z::s,_=>exact⟨x,y,z::s,rfl,by simp⟩
 have h3:(3:Int)<=(r.length:Int):=by omega
 have h3n:3<=r.length:=by omega
 clear h1
 have HR:Hid (r=x0::x1::q):=hr
 obtain⟨b,o,rfl,hblt,cw0⟩:=hw.row 0 (by omega)
 have cw0:w.cell? ⟨b,o,none⟩=some (.string x0):=by simpa[hr]using cw0
 obtain⟨b',o',eq,_,cw1⟩:=hw.row 1 (by omega)
 obtain⟨rfl,rfl⟩:b=b'/\o=o':=by simpa using eq
 have cw1:w.cell? ⟨b,o+1,none⟩=some (.string x1):=by simpa[hr]using cw1
 have hql:q.length=r.length-2:=by rw[hr];simp
 have hx1:x1.size<=3000:=hw.short x1 (by rw[hr];simp)
 have hcp:=hw.room
 have hwq:AP w (some ⟨b,o+2,none⟩) (cap-2) (r.drop 2):=hw.drop (.inl rfl)
 have hd2:r.drop 2=q:=by rw[hr];rfl
 rw[hd2]at hwq
 clear eq hr hd2
 go_wp2_with (go_at_call 39;refine(o7 _).mono ?_;rintro e w3 ⟨rfl,rfl⟩)
 have HQL:Hid (q.length=r.length-2):=hql
 have HQ1:Hid ((∀n,¬iH (bl x1) n)->jM g r g tQ):=fun hno=>.inr ⟨fun y n m ⟨b,q',e,hn,_⟩=>by
  rw[HR.out]at e
  simp only[List.cons.injEq]at e
  obtain⟨_,rfl,_⟩:=e
  exact hno n hn,rfl,rfl⟩
 have HQ2:Hid ((∀m,¬kF q m)->jM g r g tQ):=fun hno=>.inr ⟨fun y n m ⟨b,q',e,_,hq⟩=>by
  rw[HR.out]at e
  simp only[List.cons.injEq]at e
  obtain⟨_,_,rfl⟩:=e
  exact hno m hq,rfl,rfl⟩
 have hcc:¬cap=2:=by omega
 have hc2:(2:Int)<=(r.length:Int):=by omega
 have hc1:(1:Int)<(r.length:Int):=by omega
 clear hql
 refine lm (by kernel_rfl) (by kernel_rfl) (fun f act x=>∃(n:Int) (am:Option Addr) (cm:Nat) (m:List (ByteArray×Int)) (b8 lo hi:Nat) (v5 v14 v15 v16 v17 v18 v19 v20 v21:Value),act={ tmps:=#[Value.pointer (some { block:=bT,off:=0 }),Value.slice (some { block:=b,off:=o }) r.length cap,undef,undef,Value.string { data:=#[] },v5,undef,undef,undef,undef,Value.slice (some { block:=b,off:=o }) r.length cap,Value.int IntKind.i64 (r.length:Int),Value.bool true,Value.tuple #[],v14,v15,v16,v17,v18,v19,v20,v21,undef,undef,undef,undef,undef,undef,undef,undef,undef,undef,undef,undef,undef,undef,undef,undef,undef,undef,undef,undef,undef,undef,undef,undef,undef,undef,undef,undef,undef,undef,undef,undef],defers:=[] }/\Fp w (.slice (some ⟨b,o,none⟩) r.length cap) (.pointer (some ⟨b,o+1,none⟩)) (.slice (some ⟨b,o+2,none⟩) q.length (cap-2)) x1 q f n am cm m b8 lo hi v5 v14 v15 v16 v17 v18 v19 v20 v21 x) ?start ?step ?fin
 case start=>
  refine⟨0,none,0,[],0,0,0,_,_,_,_,_,_,_,_,_,rfl, ?_⟩
  exact{ bel:=(Below.refl _ _).drew,k0:=(fun h=>by cases h),k1:=(fun h=>by cases h),k2:=(fun h=>by cases h),k3:=(fun h=>by cases h),k4:=(fun h=>by cases h),k5:=(fun h=>by cases h),k6:=(fun h=>by cases h),k7:=(fun h=>by cases h),k8:=(fun h=>by cases h),c6:=(fun h=>by cases h),c7:=(fun h=>by cases h),c9:=(fun h=>by cases h) }
 case step=>
  rintro f act x j ⟨n,am,cm,m,b8,lo,hi,v5,v14,v15,v16,v17,v18,v19,v20,v21,rfl,hF⟩ hj hfj hwt
  have hj':j<10:=hj
  have z1:=ae hF.bel hblt cw1
  have zW:=hF.bel.size
  rcases(by omega:j=0∨j=1∨j=2∨j=3∨j=4∨j=5∨j=6∨j=7∨j=8∨j=9)with rfl|rfl|rfl|rfl|rfl|rfl|rfl|rfl|rfl|rfl
  ·refine ax rfl (by kernel_rfl) ?_
   go_simp
   exact⟨n,am,cm,m,b8,lo,hi,_,_,_,_,_,_,_,_,_,⟨rfl,rfl,rfl,rfl,rfl,rfl,rfl,rfl,rfl⟩,{ hF with k0:=fun _=>rfl }⟩
  ·have h0:f 0=true:=hwt 0 (of_decide_eq_true (by kernel_rfl))
   obtain rfl:=hF.k0 h0
   refine ax rfl (by kernel_rfl) ?_
   go_simp
   exact⟨n,am,cm,m,b8,lo,hi,_,_,_,_,_,_,_,_,_,⟨rfl,rfl,rfl,rfl,rfl,rfl,rfl,rfl,rfl⟩,{ hF with k1:=fun _=>rfl }⟩
  ·have h1:f 1=true:=hwt 1 (of_decide_eq_true (by kernel_rfl))
   obtain rfl:=hF.k1 h1
   refine ax rfl (by kernel_rfl) ?_
   go_simp
   exact⟨n,am,cm,m,b8,lo,hi,_,_,_,_,_,_,_,_,_,⟨rfl,rfl,rfl,rfl,rfl,rfl,rfl,rfl,rfl⟩,{ hF with k2:=fun _=>rfl }⟩
  ·have h2:f 2=true:=hwt 2 (of_decide_eq_true (by kernel_rfl))
   obtain rfl:=hF.k2 h2
   have hcall:=wQ x1 x (by omega) u pv (henv.below hF.bel)
   have no6:f 6=true->False:=fun h=>by have:=hF.c6 h;rw[hfj]at this;cases this
   have no7:f 7=true->False:=fun h=>no6 (hF.c7 h)
   have no9:f 9=true->False:=fun h=>no7 (hF.c9 h).1
   refine ax rfl (by kernel_rfl) ?_
   go_simp
   refine Calls.mono hcall ?_
   rintro e x' ⟨⟨n',hn',rfl⟩|⟨hno,rfl⟩,bx⟩
   ·have hF':=hF.below bx
    exact⟨n',am,cm,m,b8,lo,hi,_,_,_,_,_,_,_,_,_,⟨rfl,rfl,rfl,rfl,rfl,rfl,rfl,rfl,rfl⟩,{ bel:=hF'.bel,k0:=hF'.k0,k1:=hF'.k1,k2:=hF'.k2,k3:=fun _=>⟨rfl,hn'⟩,k4:=hF'.k4,k5:=hF'.k5,k6:=fun h=>(no6 h).elim,k7:=fun h=>(no7 h).elim,k8:=fun h=>let ⟨q0,q1,q2,q3,q4⟩:=hF'.k8 h;⟨q0,q1,q2,q3,fun h'=>(no9 h').elim⟩,c6:=fun _=>rfl,c7:=fun h=>(no7 h).elim,c9:=fun h=>(no9 h).elim }⟩
   ·exact⟨rfl,.inr ⟨HQ1.out hno,rfl,hF.bel.trans (bx.mono zW)⟩,But.of_below (hF.bel.trans (bx.mono zW))⟩
  ·refine ax rfl (by kernel_rfl) ?_
   go_simp
   exact⟨n,am,cm,m,b8,lo,hi,_,_,_,_,_,_,_,_,_,⟨rfl,rfl,rfl,rfl,rfl,rfl,rfl,rfl,rfl⟩,{ hF with k4:=fun _=>rfl }⟩
  ·have h4:f 4=true:=hwt 4 (of_decide_eq_true (by kernel_rfl))
   obtain rfl:=hF.k4 h4
   refine ax rfl (by kernel_rfl) ?_
   go_simp
   exact⟨n,am,cm,m,b8,lo,hi,_,_,_,_,_,_,_,_,_,⟨rfl,rfl,rfl,rfl,rfl,rfl,rfl,rfl,rfl⟩,{ hF with k5:=fun _=>by rw[HQL.out] }⟩
  ·have h5:f 5=true:=hwt 5 (of_decide_eq_true (by kernel_rfl))
   have h3:f 3=true:=hwt 3 (of_decide_eq_true (by kernel_rfl))
   obtain rfl:=hF.k5 h5
   have hcall:=wY (some ⟨b,o+2,none⟩) (cap-2) q x (hwq.below hF.bel) u pv (henv.below hF.bel)
   have no7:f 7=true->False:=fun h=>by have:=hF.c7 h;rw[hfj]at this;cases this
   have no9:f 9=true->False:=fun h=>no7 (hF.c9 h).1
   refine ax rfl (by kernel_rfl) ?_
   go_simp
   refine Calls.mono hcall ?_
   rintro e x' ⟨⟨aa,ca,m',hm',rfl,hsf,hca⟩|⟨hno,rfl⟩,bx⟩
   ·have hF':=hF.below bx
    have hz:=bx.size
    exact⟨n,aa,ca,m',b8,x.heap.size,x'.heap.size,_,_,_,_,_,_,_,_,_,⟨rfl,rfl,rfl,rfl,rfl,rfl,rfl,rfl,rfl⟩,{ bel:=hF'.bel,k0:=hF'.k0,k1:=hF'.k1,k2:=hF'.k2,k3:=hF'.k3,k4:=hF'.k4,k5:=hF'.k5,k6:=fun _=>⟨rfl,hm',hsf,hca,Nat.le_refl _,fun h=>.inl (hF.k8 h).2.2.1⟩,k7:=fun h=>(no7 h).elim,k8:=fun h=>let ⟨q0,q1,q2,q3,q4⟩:=hF'.k8 h;⟨q0,q1,q2,q3,fun h'=>(no9 h').elim⟩,c6:=fun _=>h3,c7:=fun _=>rfl,c9:=fun h=>(no9 h).elim }⟩
   ·exact⟨rfl,.inr ⟨HQ2.out hno,rfl,hF.bel.trans (bx.mono zW)⟩,But.of_below (hF.bel.trans (bx.mono zW))⟩
  ·have h3:f 3=true:=hwt 3 (of_decide_eq_true (by kernel_rfl))
   have h6:f 6=true:=hwt 6 (of_decide_eq_true (by kernel_rfl))
   obtain⟨rfl,_⟩:=hF.k3 h3
   obtain⟨rfl,_⟩:=hF.k6 h6
   refine ax rfl (by kernel_rfl) ?_
   go_simp
   exact⟨n,am,cm,m,b8,lo,hi,_,_,_,_,_,_,_,_,_,⟨rfl,rfl,rfl,rfl,rfl,rfl,rfl,rfl,rfl⟩,{ hF with k7:=fun _=>rfl,c7:=fun _=>h6,c9:=fun h=>⟨rfl,(hF.c9 h).2⟩ }⟩
  ·have no9:f 9=true->False:=fun h=>by have:=(hF.c9 h).2;rw[hfj]at this;cases this
   refine ax rfl (by kernel_rfl) ?_
   go_simp
   have bx:Below x.heap.size x (x.alloc (.cells #[.int .i64 0,.slice none 0 0] 34)):=(Below.refl _ _).alloc (Nat.le_refl _) _
   have hF':=hF.below bx
   have hnew:=Fh x (.int .i64 0) (.slice none 0 0) 34
   exact⟨n,am,cm,m,x.heap.size,lo,hi,_,_,_,_,_,_,_,_,_,⟨rfl,rfl,rfl,rfl,rfl,rfl,rfl,rfl,rfl⟩,{ hF' with k6:=fun h=>let ⟨q0,q1,q2,q3,q4,_⟩:=hF'.k6 h;⟨q0,q1,q2,q3,q4,fun _=>.inr (hF.k6 h).2.2.2.2.1⟩,k8:=fun _=>⟨rfl,zW,by simp,fun _=>hnew,fun h=>(no9 h).elim⟩,c9:=fun h=>(no9 h).elim }⟩
  ·have h8:f 8=true:=hwt 8 (of_decide_eq_true (by kernel_rfl))
   have h7:f 7=true:=hwt 7 (of_decide_eq_true (by kernel_rfl))
   have h6:=hF.c7 h7
   obtain rfl:=hF.k7 h7
   obtain⟨rfl,q1,q2,q3,_⟩:=hF.k8 h8
   have tt:=q3 hfj
   obtain⟨i0,i1,o0,o1⟩:=id tt
   have far:=(hF.k6 h6).2.2.2.2.2 h8
   refine ax rfl (by kernel_rfl) ?_
   go_simp
   have sx:aJ b8 (b8+1) x ((x.setCell ⟨b8,0,none⟩ (.int .i64 n)).setCell ⟨b8,1,none⟩ (.slice am m.length cm)):=((aJ.refl _ _ _).setCell (Nat.le_refl _) (Nat.lt_succ_self _) _ _).setCell (Nat.le_refl _) (Nat.lt_succ_self _) _ _
   have tn:=(tt.set0 (.int .i64 n)).set1 (.slice am m.length cm)
   have zx:((x.setCell ⟨b8,0,none⟩ (.int .i64 n)).setCell ⟨b8,1,none⟩ (.slice am m.length cm)).heap.size=x.heap.size:=by simp
   have hb':=hF.bel.trans (sx.below q1 hF.bel.size)
   generalize (x.setCell ⟨b8,0,none⟩ (.int .i64 n)).setCell ⟨b8,1,none⟩ (.slice am m.length cm)=y at *
   exact⟨n,am,cm,m,b8,lo,hi,_,_,_,_,_,_,_,_,_,⟨rfl,rfl,rfl,rfl,rfl,rfl,rfl,rfl,rfl⟩,{ bel:=hb',k0:=hF.k0,k1:=hF.k1,k2:=hF.k2,k3:=hF.k3,k4:=hF.k4,k5:=hF.k5,k6:=fun h=>let ⟨q0,q1,q2,q3,q4,q5⟩:=hF.k6 h;⟨q0,q1,q2.span sx (by omega),q3,by omega,q5⟩,k7:=hF.k7,k8:=fun _=>⟨rfl,q1,by omega,(fun e=>by cases e),fun _=>tn⟩,c6:=hF.c6,c7:=hF.c7,c9:=fun _=>⟨h7,h8⟩ }⟩
 case fin=>
  rintro f act x ⟨n,am,cm,m,b8,lo,hi,v5,v14,v15,v16,v17,v18,v19,v20,v21,rfl,hF⟩ hall
  have hm0:=hF.k0 (hall 0 (of_decide_eq_true (by kernel_rfl)))
  have hm1:=hF.k1 (hall 1 (of_decide_eq_true (by kernel_rfl)))
  have hm2:=hF.k2 (hall 2 (of_decide_eq_true (by kernel_rfl)))
  have hm4:=hF.k4 (hall 4 (of_decide_eq_true (by kernel_rfl)))
  have hm5:=hF.k5 (hall 5 (of_decide_eq_true (by kernel_rfl)))
  have hm7:=hF.k7 (hall 7 (of_decide_eq_true (by kernel_rfl)))
  subst hm0 hm1 hm2 hm4 hm5 hm7
  obtain⟨rfl,hNum⟩:=hF.k3 (hall 3 (of_decide_eq_true (by kernel_rfl)))
  obtain⟨rfl,hAcc,hSaf,hCap,hHi,hFar⟩:=hF.k6 (hall 6 (of_decide_eq_true (by kernel_rfl)))
  obtain⟨rfl,w8,l8,_,dB⟩:=hF.k8 (hall 8 (of_decide_eq_true (by kernel_rfl)))
  replace dB:=dB (hall 9 (of_decide_eq_true (by kernel_rfl)))
  have b2:=hF.bel
  clear hF hall
  go_wp2_with fail
  have ht2:=ht.below b2
  have e2:=henv.below b2
  have et2:=het.below b2
  have cw0x:=ae b2 hblt cw0
  have hblx:=Nat.lt_of_lt_of_le hblt b2.size
  have h6:=ht.nice.nice.ins
  obtain⟨r0,r1,r2⟩:=ht2.rows.here
  have hltx:=ht2.lt
  have c0:=ht2.tri.c0
  obtain⟨i,hi0⟩:∃i,Lib.idxOfS g.ins x0=i:=⟨_,rfl⟩
  have HI:Hid (Lib.idxOfS g.ins x0=i):=hi0
  have hilt:i<(g.ins.length:Int)∨i=-1:=by rw[<- hi0];exact Jz _ _
  have cA:∀n:dA x,Calls Tryz.prog 99 #[.slice a0 g.ins.length d0,.string x0] n.w fun e w'=>e=.returned (.int .i64 i)/\Below n.w.heap.size n.w w':=fun n=>by
   rw[<- hi0];exact Ad a0 d0 g.ins x0 n.w (by omega) (r0.below n.h)
  have q0:∀n:dA x,n.w.cell? ⟨bT,0,none⟩=some (.slice a0 g.ins.length d0):=fun n=>n.cell hltx c0
  have q1:∀n:dA x,n.w.cell? ⟨b,o,none⟩=some (.string x0):=fun n=>n.cell hblx cw0x
  have hne:=dA.some x
  have hGP:jL r x0 n m:=⟨x1,q,HR.out,hNum,hAcc⟩
  have HGP:Hid (jL r x0 n m):=hGP
  clear hi0 hGP
  refine aF (by kernel_rfl) (by kernel_rfl) ?_
  repeat (go_big_quiet_step ((go_at_call 99;exact Calls.lat_of (cA _))))
  refine wpQuiet_nil ?_
  rintro _ ⟨nq,rfl⟩
  have b3:=nq.h
  have B3:Below w.heap.size w nq.w:=b2.trans (b3.mono b2.size)
  have ht3:=ht2.below b3
  have e3:=e2.below b3
  have et3:=et2.below b3
  have hSaf3:=hSaf.below b3
  have dB3:=dB.keep b3
  have hHi3:=Nat.le_trans hHi b3.size
  have l83:=Nat.lt_of_lt_of_le l8 b3.size
  generalize nq.w=w1 at *
  clear q0 q1 cA hne c0 r0 r1 r2 hSaf dB hHi l8 ht2 e2 et2 cw0x hblx hltx
  by_cases hneg:i<0
  ·have HV:Hid (jM g r g Md):=.inl ⟨x0,n,m,HGP.out,.inl ⟨by rw[HI.out];exact hneg,rfl,rfl⟩⟩
   go_wp2_with fail
   go_ret
   exact⟨.inl ⟨_,g,glo,ghi,a0,a1,a2,d0,d1,d2,rfl,HV.out,ht3,.inl ⟨rfl,rfl⟩⟩,But.of_below B3⟩
  obtain⟨k,rfl⟩:∃k:Nat,i=(k:Int):=⟨i.toNat,by omega⟩
  go_wp2_with fail
  have HSS:Hid (∀u,Below w1.heap.size w1 u->u.cell? ⟨bT,0,none⟩=some (.slice a0 g.ins.length d0)/\u.cell? ⟨bT,1,none⟩=some (.slice a1 g.wins.length d1)/\u.cell? ⟨bT,2,none⟩=some (.slice a2 g.shown.length d2)/\u.cell? ⟨b8,0,none⟩=some (.int .i64 n)/\u.cell? ⟨b8,1,none⟩=some (.slice am m.length cm)):=fun u hu=>⟨(ht3.tri.keep hu).c0,(ht3.tri.keep hu).c1,(ht3.tri.keep hu).c2,(dB3.keep hu).c0,(dB3.keep hu).c1⟩
  have HCL:Hid (∀u,Below w1.heap.size w1 u->Calls Tryz.prog 28 #[.agg #[.slice a0 g.ins.length d0,.slice a1 g.wins.length d1,.slice a2 g.shown.length d2],.agg #[.int .i64 (k:Int),.int .i64 n,.slice am m.length cm]] u fun e w'=>MZ u w' g k n m e/\Below u.heap.size u w'):=fun u hu=>by
   obtain⟨r0,r1,r2⟩:=(ht3.below hu).rows.here
   have hst:=hAcc.stamp
   exact wo a0 a1 a2 am d0 d1 d2 cm g k n m u ht.nice.fit (by omega) ht.cap.1 ht.cap.2 r0 r1 r2 (dH hst) hCap ((hSaf3.below hu).row) (et3.below hu)
  refine lm (by kernel_rfl) (by kernel_rfl) (fun f a u=>∃(R:lV) (b10 b11:Nat) (v7 v8 v9 v33 v34 v35 v36 v37 v38 v39 v40 v41 v42 v43 v44:Value),a={ tmps:=#[Value.pointer (some { block:=bT,off:=0 }),Value.slice (some { block:=b,off:=o }) r.length cap,undef,undef,Value.string { data:=#[] },Value.pointer (some { block:=b8,off:=0 }),Value.int IntKind.i64 (k:Int),v7,v8,v9,Value.slice (some { block:=b,off:=o }) r.length cap,Value.int IntKind.i64 (r.length:Int),Value.bool true,Value.tuple #[],Value.slice (some { block:=b,off:=o }) r.length cap,Value.pointer (some { block:=b,off:=o+1 }),Value.string x1,Value.int IntKind.i64 n,Value.slice (some { block:=b,off:=o }) r.length cap,Value.slice (some { block:=b,off:=o+2 }) q.length (cap-2),Value.slice am m.length cm,Value.agg #[Value.int IntKind.i64 n,Value.slice am m.length cm],Value.pointer (some { block:=bT,off:=0 }),Value.pointer (some { block:=bT,off:=0 }),Value.pointer (some { block:=bT,off:=0 }),Value.pointer (some { block:=bT,off:=0 }),Value.slice a0 g.ins.length d0,Value.slice (some { block:=b,off:=o }) r.length cap,Value.pointer (some { block:=b,off:=o }),Value.string x0,Value.int IntKind.i64 (k:Int),Value.int IntKind.i64 (k:Int),Value.bool false,v33,v34,v35,v36,v37,v38,v39,v40,v41,v42,v43,v44,undef,undef,undef,undef,undef,undef,undef,undef,undef],defers:=[] }/\Fq (sU g k n m) w1 (.pointer (some ⟨bT,0,none⟩)) (.pointer (some ⟨bT,0,none⟩)) (.pointer (some ⟨bT,0,none⟩)) (.agg #[.slice a0 g.ins.length d0,.slice a1 g.wins.length d1,.slice a2 g.shown.length d2]) (.int .i64 (k:Int)) (.agg #[.int .i64 n,.slice am m.length cm]) (.agg #[.int .i64 (k:Int),.int .i64 n,.slice am m.length cm]) f R b10 b11 v7 v8 v9 v33 v34 v35 v36 v37 v38 v39 v40 v41 v42 v43 v44 u) ?start ?step ?fin
  case start=>
   refine⟨⟨⟨[],[],[]⟩,[],[],[],0,none,none,none,none,none,0,0,0,0,0,0,0,0,0⟩,0,0,_,_,_,_,_,_,_,_,_,_,_,_,_,_,_,rfl, ?_⟩
   exact{ bel:=(Below.refl _ _).drew,k0:=(fun h=>by cases h),k1:=(fun h=>by cases h),k2:=(fun h=>by cases h),k3:=(fun h=>by cases h),k4:=(fun h=>by cases h),k5:=(fun h=>by cases h),k6:=(fun h=>by cases h),k7:=(fun h=>by cases h),k8:=(fun h=>by cases h),k9:=(fun h=>by cases h),k10:=(fun h=>by cases h),k11:=(fun h=>by cases h),k12:=(fun h=>by cases h),k13:=(fun h=>by cases h),k16:=(fun h=>by cases h),ne:=(fun h=>by cases h),c8:=(fun h=>by cases h),c9:=(fun h=>by cases h),c10:=(fun h=>by cases h),c11:=(fun h=>by cases h),c14:=(fun h=>by cases h),c15:=(fun h=>by cases h),c16:=(fun h=>by cases h) }
  case step=>
   rintro f a u j ⟨R,b10,b11,v7,v8,v9,v33,v34,v35,v36,v37,v38,v39,v40,v41,v42,v43,v44,rfl,hF⟩ hj hfj hw
   obtain⟨z0,z1,z2,z3,z4⟩:=HSS.out _ hF.bel
   have hj':j<17:=hj
   have hC:∀R u u',sU g k n m R u->Below u.heap.size u u'->sU g k n m R u':=fun R u u' h hb=>h.below hb
   rcases(by omega:j=0∨j=1∨j=2∨j=3∨j=4∨j=5∨j=6∨j=7∨j=8∨j=9∨j=10∨j=11∨j=12∨j=13∨j=14∨j=15∨j=16)with rfl|rfl|rfl|rfl|rfl|rfl|rfl|rfl|rfl|rfl|rfl|rfl|rfl|rfl|rfl|rfl|rfl
   ·refine ax rfl (by kernel_rfl) ?_
    go_simp
    exact⟨R,b10,b11,_,_,_,_,_,_,_,_,_,_,_,_,_,_,_,⟨rfl,rfl,rfl,rfl,rfl,rfl,rfl,rfl,rfl,rfl,rfl,rfl,rfl,rfl,rfl⟩,{ hF with k0:=fun _=>rfl }⟩
   ·have h0:f 0=true:=hw 0 (of_decide_eq_true (by kernel_rfl))
    obtain rfl:=hF.k0 h0
    refine ax rfl (by kernel_rfl) ?_
    go_simp
    exact⟨R,b10,b11,_,_,_,_,_,_,_,_,_,_,_,_,_,_,_,⟨rfl,rfl,rfl,rfl,rfl,rfl,rfl,rfl,rfl,rfl,rfl,rfl,rfl,rfl,rfl⟩,{ hF with k1:=fun _=>rfl }⟩
   ·have h1:f 1=true:=hw 1 (of_decide_eq_true (by kernel_rfl))
    obtain rfl:=hF.k1 h1
    refine ax rfl (by kernel_rfl) ?_
    go_simp
    exact⟨R,b10,b11,_,_,_,_,_,_,_,_,_,_,_,_,_,_,_,⟨rfl,rfl,rfl,rfl,rfl,rfl,rfl,rfl,rfl,rfl,rfl,rfl,rfl,rfl,rfl⟩,{ hF with k2:=fun _=>rfl }⟩
   ·have h2:f 2=true:=hw 2 (of_decide_eq_true (by kernel_rfl))
    obtain rfl:=hF.k2 h2
    refine ax rfl (by kernel_rfl) ?_
    go_simp
    exact⟨R,b10,b11,_,_,_,_,_,_,_,_,_,_,_,_,_,_,_,⟨rfl,rfl,rfl,rfl,rfl,rfl,rfl,rfl,rfl,rfl,rfl,rfl,rfl,rfl,rfl⟩,{ hF with k3:=fun _=>rfl }⟩
   ·refine ax rfl (by kernel_rfl) ?_
    go_simp
    exact⟨R,b10,b11,_,_,_,_,_,_,_,_,_,_,_,_,_,_,_,⟨rfl,rfl,rfl,rfl,rfl,rfl,rfl,rfl,rfl,rfl,rfl,rfl,rfl,rfl,rfl⟩,{ hF with k4:=fun _=>rfl }⟩
   ·refine ax rfl (by kernel_rfl) ?_
    go_simp
    exact⟨R,b10,b11,_,_,_,_,_,_,_,_,_,_,_,_,_,_,_,⟨rfl,rfl,rfl,rfl,rfl,rfl,rfl,rfl,rfl,rfl,rfl,rfl,rfl,rfl,rfl⟩,{ hF with k5:=fun _=>rfl }⟩
   ·have h4:f 4=true:=hw 4 (of_decide_eq_true (by kernel_rfl))
    have h5:f 5=true:=hw 5 (of_decide_eq_true (by kernel_rfl))
    obtain rfl:=hF.k4 h4
    obtain rfl:=hF.k5 h5
    refine ax rfl (by kernel_rfl) ?_
    go_simp
    exact⟨R,b10,b11,_,_,_,_,_,_,_,_,_,_,_,_,_,_,_,⟨rfl,rfl,rfl,rfl,rfl,rfl,rfl,rfl,rfl,rfl,rfl,rfl,rfl,rfl,rfl⟩,{ hF with k6:=fun _=>rfl }⟩
   ·have h3:f 3=true:=hw 3 (of_decide_eq_true (by kernel_rfl))
    have h6:f 6=true:=hw 6 (of_decide_eq_true (by kernel_rfl))
    obtain rfl:=hF.k3 h3
    obtain rfl:=hF.k6 h6
    have hcall:=HCL.out _ hF.bel
    refine ax rfl (by kernel_rfl) ?_
    go_simp
    refine Calls.mono hcall ?_
    rintro e n ⟨hE,bx⟩
    obtain⟨R',rfl,e1,e2,hcal⟩:=hE.cal
    have hF':=hF.below hC bx
    have no8:f 8=true->False:=fun h=>by have:=hF.c8 h;rw[hfj]at this;cases this
    have no9:f 9=true->False:=fun h=>by have:=hF.c9 h;rw[hfj]at this;cases this
    have no10:f 10=true->False:=fun h=>by have:=hF.c10 h;rw[hfj]at this;cases this
    have no11:f 11=true->False:=fun h=>by have:=hF.c11 h;rw[hfj]at this;cases this
    have no14:f 14=true->False:=fun h=>by have:=(hF.c14 h).1;rw[hfj]at this;cases this
    have no15:f 15=true->False:=fun h=>by have:=(hF.c15 h).1;rw[hfj]at this;cases this
    have no16:f 16=true->False:=fun h=>by have:=hF.c16 h;rw[hfj]at this;cases this
    have zW:=hF.bel.size
    exact⟨R',b10,b11,_,_,_,_,_,_,_,_,_,_,_,_,_,_,_,⟨rfl,rfl,rfl,rfl,rfl,rfl,rfl,rfl,rfl,rfl,rfl,rfl,rfl,rfl,rfl⟩,{ bel:=hF'.bel,k0:=hF'.k0,k1:=hF'.k1,k2:=hF'.k2,k3:=hF'.k3,k4:=hF'.k4,k5:=hF'.k5,k6:=hF'.k6,k7:=fun _=>⟨rfl,hcal,by rw[e1];exact zW⟩,k8:=fun e=>(no8 e).elim,k9:=fun e=>(no9 e).elim,k10:=fun e=>(no10 e).elim,k11:=fun e=>(no11 e).elim,k12:=fun e=>let ⟨q0,q1,q2,q3,q4,q5⟩:=hF'.k12 e;⟨q0,q1,q2,fun _=>.inl (by rw[e1];exact(hF.k12 e).2.2.1),q4,fun e'=>(no14 e').elim⟩,k13:=fun e=>let ⟨q0,q1,q2,q3,q4,q5⟩:=hF'.k13 e;⟨q0,q1,q2,fun _=>.inl (by rw[e1];exact(hF.k13 e).2.2.1),q4,fun e'=>(no15 e').elim⟩,k16:=fun e=>(no16 e).elim,ne:=hF'.ne,c8:=fun _=>rfl,c9:=fun _=>rfl,c10:=fun _=>rfl,c11:=fun _=>rfl,c14:=fun e=>(no14 e).elim,c15:=fun e=>(no15 e).elim,c16:=fun e=>(no16 e).elim }⟩
   ·have h7:f 7=true:=hw 7 (of_decide_eq_true (by kernel_rfl))
    obtain⟨rfl,_,_⟩:=hF.k7 h7
    refine ax rfl (by kernel_rfl) ?_
    go_simp
    exact⟨R,b10,b11,_,_,_,_,_,_,_,_,_,_,_,_,_,_,_,⟨rfl,rfl,rfl,rfl,rfl,rfl,rfl,rfl,rfl,rfl,rfl,rfl,rfl,rfl,rfl⟩,{ hF with k8:=fun _=>rfl,c8:=fun _=>h7 }⟩
   ·have h8:f 8=true:=hw 8 (of_decide_eq_true (by kernel_rfl))
    have h7:=hF.c8 h8
    obtain rfl:=hF.k8 h8
    refine ax rfl (by kernel_rfl) ?_
    go_simp
    exact⟨R,b10,b11,_,_,_,_,_,_,_,_,_,_,_,_,_,_,_,⟨rfl,rfl,rfl,rfl,rfl,rfl,rfl,rfl,rfl,rfl,rfl,rfl,rfl,rfl,rfl⟩,{ hF with k9:=fun _=>rfl,c9:=fun _=>h7 }⟩
   ·have h8:f 8=true:=hw 8 (of_decide_eq_true (by kernel_rfl))
    have h7:=hF.c8 h8
    obtain rfl:=hF.k8 h8
    refine ax rfl (by kernel_rfl) ?_
    go_simp
    exact⟨R,b10,b11,_,_,_,_,_,_,_,_,_,_,_,_,_,_,_,⟨rfl,rfl,rfl,rfl,rfl,rfl,rfl,rfl,rfl,rfl,rfl,rfl,rfl,rfl,rfl⟩,{ hF with k10:=fun _=>rfl,c10:=fun _=>h7 }⟩
   ·have h8:f 8=true:=hw 8 (of_decide_eq_true (by kernel_rfl))
    have h7:=hF.c8 h8
    obtain rfl:=hF.k8 h8
    refine ax rfl (by kernel_rfl) ?_
    go_simp
    exact⟨R,b10,b11,_,_,_,_,_,_,_,_,_,_,_,_,_,_,_,⟨rfl,rfl,rfl,rfl,rfl,rfl,rfl,rfl,rfl,rfl,rfl,rfl,rfl,rfl,rfl⟩,{ hF with k11:=fun _=>rfl,c11:=fun _=>h7 }⟩
   ·refine ax rfl (by kernel_rfl) ?_
    go_simp
    have bx:Below u.heap.size u (u.alloc (.cells #[.slice none 0 0,.slice none 0 0,.slice none 0 0] 30)):=(Below.refl _ _).alloc (Nat.le_refl _) _
    have hF':=hF.below hC bx
    have no14:f 14=true->False:=fun h=>by have:=(hF.c14 h).2;rw[hfj]at this;cases this
    have hnew:=aQ u (.slice none 0 0) (.slice none 0 0) (.slice none 0 0) 30
    have zW:=hF.bel.size
    exact⟨R,u.heap.size,b11,_,_,_,_,_,_,_,_,_,_,_,_,_,_,_,⟨rfl,rfl,rfl,rfl,rfl,rfl,rfl,rfl,rfl,rfl,rfl,rfl,rfl,rfl,rfl⟩,{ hF' with k12:=fun _=>⟨rfl,zW,by simp,fun e=>.inr (hF.k7 e).2.1.o4,fun _=>hnew,fun e=>(no14 e).elim⟩,ne:=fun _ e=>Nat.ne_of_gt (hF.k13 e).2.2.1,c14:=fun e=>(no14 e).elim }⟩
   ·refine ax rfl (by kernel_rfl) ?_
    go_simp
    have bx:Below u.heap.size u (u.alloc (.cells #[.slice none 0 0,.slice none 0 0] 73)):=(Below.refl _ _).alloc (Nat.le_refl _) _
    have hF':=hF.below hC bx
    have no15:f 15=true->False:=fun h=>by have:=(hF.c15 h).2;rw[hfj]at this;cases this
    have hnew:=Fh u (.slice none 0 0) (.slice none 0 0) 73
    have zW:=hF.bel.size
    exact⟨R,b10,u.heap.size,_,_,_,_,_,_,_,_,_,_,_,_,_,_,_,⟨rfl,rfl,rfl,rfl,rfl,rfl,rfl,rfl,rfl,rfl,rfl,rfl,rfl,rfl,rfl⟩,{ hF' with k13:=fun _=>⟨rfl,zW,by simp,fun e=>.inr (hF.k7 e).2.1.o4,fun _=>hnew,fun e=>(no15 e).elim⟩,ne:=fun e _=>Nat.ne_of_lt (hF.k12 e).2.2.1,c15:=fun e=>(no15 e).elim }⟩
   ·have h12:f 12=true:=hw 12 (of_decide_eq_true (by kernel_rfl))
    have h9:f 9=true:=hw 9 (of_decide_eq_true (by kernel_rfl))
    have h13:f 13=true:=hw 13 (of_decide_eq_true (by kernel_rfl))
    have h7:=hF.c9 h9
    obtain rfl:=hF.k9 h9
    obtain⟨rfl,q1,q2,q3,q4,_⟩:=hF.k12 h12
    have tt:=q4 hfj
    obtain⟨i0,i1,i2,o0,o1,o2⟩:=id tt
    refine ax rfl (by kernel_rfl) ?_
    go_simp
    have sx:aJ b10 (b10+1) u (((u.setCell ⟨b10,0,none⟩ (.slice R.s0 R.g.ins.length R.d0)).setCell ⟨b10,1,none⟩ (.slice R.s1 R.L.length R.d1)).setCell ⟨b10,2,none⟩ (.slice R.s2 R.g.shown.length R.d2)):=(((aJ.refl _ _ _).setCell (Nat.le_refl _) (Nat.lt_succ_self _) _ _).setCell (Nat.le_refl _) (Nat.lt_succ_self _) _ _).setCell (Nat.le_refl _) (Nat.lt_succ_self _) _ _
    have tn:=((tt.set0 (.slice R.s0 R.g.ins.length R.d0)).set1 (.slice R.s1 R.L.length R.d1)).set2c (.slice R.s2 R.g.shown.length R.d2)
    have zx:(((u.setCell ⟨b10,0,none⟩ (.slice R.s0 R.g.ins.length R.d0)).setCell ⟨b10,1,none⟩ (.slice R.s1 R.L.length R.d1)).setCell ⟨b10,2,none⟩ (.slice R.s2 R.g.shown.length R.d2)).heap.size=u.heap.size:=by simp
    have far:=q3 h7
    have ne:=hF.ne h12 h13
    have hb':=hF.bel.trans (sx.below q1 hF.bel.size)
    generalize (((u.setCell ⟨b10,0,none⟩ (.slice R.s0 R.g.ins.length R.d0)).setCell ⟨b10,1,none⟩ (.slice R.s1 R.L.length R.d1)).setCell ⟨b10,2,none⟩ (.slice R.s2 R.g.shown.length R.d2))=n at *
    exact⟨R,b10,b11,_,_,_,_,_,_,_,_,_,_,_,_,_,_,_,⟨rfl,rfl,rfl,rfl,rfl,rfl,rfl,rfl,rfl,rfl,rfl,rfl,rfl,rfl,rfl⟩,{ bel:=hb',k0:=hF.k0,k1:=hF.k1,k2:=hF.k2,k3:=hF.k3,k4:=hF.k4,k5:=hF.k5,k6:=hF.k6,k7:=fun e=>let ⟨r0,r1,r2⟩:=hF.k7 e;⟨r0,r1.span sx (by omega),r2⟩,k8:=hF.k8,k9:=hF.k9,k10:=hF.k10,k11:=hF.k11,k12:=fun _=>⟨rfl,q1,by omega,fun _=>far,(fun e=>by cases e),fun _=>tn⟩,k13:=fun e=>let ⟨r0,r1,r2,r3,r4,r5⟩:=hF.k13 e;⟨r0,r1,by omega,r3,fun e'=>(r4 e').span sx (by omega),fun e'=>(r5 e').span sx (by omega)⟩,k16:=hF.k16,ne:=hF.ne,c8:=hF.c8,c9:=hF.c9,c10:=hF.c10,c11:=hF.c11,c14:=fun _=>⟨h7,h12⟩,c15:=hF.c15,c16:=hF.c16 }⟩
   ·have h13:f 13=true:=hw 13 (of_decide_eq_true (by kernel_rfl))
    have h10:f 10=true:=hw 10 (of_decide_eq_true (by kernel_rfl))
    have h12:f 12=true:=hw 12 (of_decide_eq_true (by kernel_rfl))
    have h7:=hF.c10 h10
    obtain rfl:=hF.k10 h10
    obtain⟨rfl,q1,q2,q3,q4,_⟩:=hF.k13 h13
    have tt:=q4 hfj
    obtain⟨i0,i1,o0,o1⟩:=id tt
    refine ax rfl (by kernel_rfl) ?_
    go_simp
    have sx:aJ b11 (b11+1) u ((u.setCell ⟨b11,0,none⟩ (.slice R.s3 R.sv.length R.d3)).setCell ⟨b11,1,none⟩ (.slice R.s4 R.ss.length R.d4)):=((aJ.refl _ _ _).setCell (Nat.le_refl _) (Nat.lt_succ_self _) _ _).setCell (Nat.le_refl _) (Nat.lt_succ_self _) _ _
    have tn:=(tt.set0 (.slice R.s3 R.sv.length R.d3)).set1 (.slice R.s4 R.ss.length R.d4)
    have zx:((u.setCell ⟨b11,0,none⟩ (.slice R.s3 R.sv.length R.d3)).setCell ⟨b11,1,none⟩ (.slice R.s4 R.ss.length R.d4)).heap.size=u.heap.size:=by simp
    have far:=q3 h7
    have ne:=hF.ne h12 h13
    have hb':=hF.bel.trans (sx.below q1 hF.bel.size)
    generalize ((u.setCell ⟨b11,0,none⟩ (.slice R.s3 R.sv.length R.d3)).setCell ⟨b11,1,none⟩ (.slice R.s4 R.ss.length R.d4))=n at *
    exact⟨R,b10,b11,_,_,_,_,_,_,_,_,_,_,_,_,_,_,_,⟨rfl,rfl,rfl,rfl,rfl,rfl,rfl,rfl,rfl,rfl,rfl,rfl,rfl,rfl,rfl⟩,{ bel:=hb',k0:=hF.k0,k1:=hF.k1,k2:=hF.k2,k3:=hF.k3,k4:=hF.k4,k5:=hF.k5,k6:=hF.k6,k7:=fun e=>let ⟨r0,r1,r2⟩:=hF.k7 e;⟨r0,r1.span sx (by omega),r2⟩,k8:=hF.k8,k9:=hF.k9,k10:=hF.k10,k11:=hF.k11,k13:=fun _=>⟨rfl,q1,by omega,fun _=>far,(fun e=>by cases e),fun _=>tn⟩,k12:=fun e=>let ⟨r0,r1,r2,r3,r4,r5⟩:=hF.k12 e;⟨r0,r1,by omega,r3,fun e'=>(r4 e').span sx (by omega),fun e'=>(r5 e').span sx (by omega)⟩,k16:=hF.k16,ne:=hF.ne,c8:=hF.c8,c9:=hF.c9,c10:=hF.c10,c11:=hF.c11,c14:=hF.c14,c15:=fun _=>⟨h7,h13⟩,c16:=hF.c16 }⟩
   ·have h11:f 11=true:=hw 11 (of_decide_eq_true (by kernel_rfl))
    have h7:=hF.c11 h11
    obtain rfl:=hF.k11 h11
    refine ax rfl (by kernel_rfl) ?_
    go_simp
    exact⟨R,b10,b11,_,_,_,_,_,_,_,_,_,_,_,_,_,_,_,⟨rfl,rfl,rfl,rfl,rfl,rfl,rfl,rfl,rfl,rfl,rfl,rfl,rfl,rfl,rfl⟩,{ hF with k16:=fun _=>rfl,c16:=fun _=>h7 }⟩
  case fin=>
   rintro f a u ⟨R,b10,b11,v7,v8,v9,v33,v34,v35,v36,v37,v38,v39,v40,v41,v42,v43,v44,rfl,hF⟩ hall
   have hm8:=hF.k8 (hall 8 (of_decide_eq_true (by kernel_rfl)))
   have hm9:=hF.k9 (hall 9 (of_decide_eq_true (by kernel_rfl)))
   have hm10:=hF.k10 (hall 10 (of_decide_eq_true (by kernel_rfl)))
   have hm11:=hF.k11 (hall 11 (of_decide_eq_true (by kernel_rfl)))
   have hm0:=hF.k0 (hall 0 (of_decide_eq_true (by kernel_rfl)))
   have hm1:=hF.k1 (hall 1 (of_decide_eq_true (by kernel_rfl)))
   have hm2:=hF.k2 (hall 2 (of_decide_eq_true (by kernel_rfl)))
   have hm3:=hF.k3 (hall 3 (of_decide_eq_true (by kernel_rfl)))
   have hm4:=hF.k4 (hall 4 (of_decide_eq_true (by kernel_rfl)))
   have hm5:=hF.k5 (hall 5 (of_decide_eq_true (by kernel_rfl)))
   have hm6:=hF.k6 (hall 6 (of_decide_eq_true (by kernel_rfl)))
   subst hm0 hm1 hm2 hm3 hm4 hm5 hm6 hm8 hm9 hm10 hm11
   obtain⟨rfl,hI,wtl⟩:=hF.k7 (hall 7 (of_decide_eq_true (by kernel_rfl)))
   obtain⟨rfl,w10,l10,far10,_,tT⟩:=hF.k12 (hall 12 (of_decide_eq_true (by kernel_rfl)))
   obtain⟨rfl,w11,l11,far11,_,dS⟩:=hF.k13 (hall 13 (of_decide_eq_true (by kernel_rfl)))
   obtain rfl:=hF.k16 (hall 16 (of_decide_eq_true (by kernel_rfl)))
   have ne:=hF.ne (hall 12 (of_decide_eq_true (by kernel_rfl))) (hall 13 (of_decide_eq_true (by kernel_rfl)))
   replace tT:=tT (hall 14 (of_decide_eq_true (by kernel_rfl)))
   replace dS:=dS (hall 15 (of_decide_eq_true (by kernel_rfl)))
   replace far10:=far10 (hall 7 (of_decide_eq_true (by kernel_rfl)))
   replace far11:=far11 (hall 7 (of_decide_eq_true (by kernel_rfl)))
   have hfa:=hI.put.facts ht.nice ⟨hNum.2.1,hNum.2.2⟩
   have hni:=hI.put.nice
   have HPU:Hid (mi g k n m R.g R.sv R.ss R.code):=hI.put
   have hLl:R.L.length=R.g.wins.length:=by rw[<- hI.map];simp
   have B4:Below w1.heap.size w1 u:=hF.bel
   have BW:Below w.heap.size w u:=B3.trans (B4.mono B3.size)
   have ht4:=ht3.below B4
   have e4:=e3.below B4
   have hro:=hI.sg.rowsIn (g:=R.g) hI.map
   have hsz:=hI.sz
   have hss:=hI.ss
   have ho1:=hI.o1
   have ho2:=hI.o2
   have ho3:=hI.o3
   have ho4:=hI.o4
   have hcp0:=hI.cap
   have HI2:Hid (Lib.idxOfS g.ins x0=(k:Int)):=HI.out
   rw[hLl]at tT
   have HLl:Hid (R.L.length=R.g.wins.length):=hLl
   have hzw:=B3.size
   have hz4:=B4.size
   have hn10:¬b10=bT:=by omega
   have hn11:¬b11=bT:=by omega
   obtain⟨t0,t1,t2,s0,s1,s2⟩:=tT
   obtain⟨y0,y1,z0,z1⟩:=dS
   obtain⟨p0,p1,p2,o0,o1,o2⟩:=id ht4.tri
   have HF:Hid (dM R.g/\(∀v∈R.sv,iw v)/\(R.code=0∨R.code=1∨R.code=2∨R.code=3∨R.code=4)):=hfa
   clear hF hI hLl hfa
   by_cases hc2':R.code=2
   ·have hcb:(R.code != 2)=false:=by rw[hc2'];rfl
    have cP:=uh R.s3 R.s4 R.d3 R.d4 R.sv R.ss R.code u HF.out.2.2 hni.2.1 HF.out.2.1 hsz.row hni.2.2 hss.row e4.tab
    have HV:Hid (jM g r g DW):=.inl ⟨x0,n,m,HGP.out,.inr ⟨by rw[HI2.out];omega,R.g,R.sv,R.ss,R.code,by rw[HI2.out];exact HPU.out,.inl ⟨hc2',rfl,rfl⟩⟩⟩
    obtain⟨D,hD⟩:∃D:ByteArray,(⟨(BI R.sv R.ss R.code).toArray⟩:ByteArray)=D:=⟨_,rfl⟩
    have HDL:Hid (bl D=DW):=by rw[Hid,<- hD,hc2'];exact L6 _
    rw[hD]at cP
    clear hD hc2'
    go_wp2_with (go_at_call 100;refine cP.mono ?_;rintro e w6 ⟨rfl,b6⟩)
    go_ret
    exact⟨.inl ⟨_,g,glo,ghi,a0,a1,a2,d0,d1,d2,rfl,by show jM g r g (bl D);rw[HDL.out];exact HV.out,ht4.below b6,.inl ⟨rfl,rfl⟩⟩,But.of_below (BW.trans (b6.mono BW.size))⟩
   ·have hcb:(R.code != 2)=true:=by rw[bne_iff_ne];exact hc2'
    have htS:=ht4.set R.d0 R.d1 R.d2 hro HF.out.1 (by omega) (.inl (by omega)) hcp0
    have spX:aJ bT (bT+1) u (((u.setCell ⟨bT,0,none⟩ (.slice R.s0 R.g.ins.length R.d0)).setCell ⟨bT,1,none⟩ (.slice R.s1 R.g.wins.length R.d1)).setCell ⟨bT,2,none⟩ (.slice R.s2 R.g.shown.length R.d2)):=(((aJ.refl _ _ _).setCell (Nat.le_refl _) (Nat.lt_succ_self _) _ _).setCell (Nat.le_refl _) (Nat.lt_succ_self _) _ _).setCell (Nat.le_refl _) (Nat.lt_succ_self _) _ _
    have bX:Below w00.heap.size w00 (((u.setCell ⟨bT,0,none⟩ (.slice R.s0 R.g.ins.length R.d0)).setCell ⟨bT,1,none⟩ (.slice R.s1 R.g.wins.length R.d1)).setCell ⟨bT,2,none⟩ (.slice R.s2 R.g.shown.length R.d2)):=(((b00.trans (BW.mono b00.size)).setCell h00 _).setCell h00 _).setCell h00 _
    have btX:But bT w (((u.setCell ⟨bT,0,none⟩ (.slice R.s0 R.g.ins.length R.d0)).setCell ⟨bT,1,none⟩ (.slice R.s1 R.g.wins.length R.d1)).setCell ⟨bT,2,none⟩ (.slice R.s2 R.g.shown.length R.d2)):=(((But.of_below BW).setCell 0 _).setCell 1 _).setCell 2 _
    have cP:=uh R.s3 R.s4 R.d3 R.d4 R.sv R.ss R.code _ HF.out.2.2 hni.2.1 HF.out.2.1 (hsz.span spX (by omega)).row hni.2.2 (hss.span spX (by omega)).row (henv0.below bX).tab
    have HV:Hid (jM g r R.g (BI R.sv R.ss R.code)):=.inl ⟨x0,n,m,HGP.out,.inr ⟨by rw[HI2.out];omega,R.g,R.sv,R.ss,R.code,by rw[HI2.out];exact HPU.out,by
     by_cases hc1':R.code=1
     ·exact .inr (.inl ⟨hc1',rfl,_,oO hni.2.2,by simp[BI,hc1',kw]⟩)
     ·exact .inr (.inr ⟨hc2',hc1',rfl,by simp[BI,hc1',hc2']⟩)⟩⟩
    obtain⟨D,hD⟩:∃D:ByteArray,(⟨(BI R.sv R.ss R.code).toArray⟩:ByteArray)=D:=⟨_,rfl⟩
    have HDL:Hid (bl D=BI R.sv R.ss R.code):=by rw[Hid,<- hD];exact L6 _
    rw[hD]at cP
    clear hD hc2'
    go_wp2_with fail
    generalize ((u.setCell ⟨bT,0,none⟩ (.slice R.s0 R.g.ins.length R.d0)).setCell ⟨bT,1,none⟩ (.slice R.s1 R.g.wins.length R.d1)).setCell ⟨bT,2,none⟩ (.slice R.s2 R.g.shown.length R.d2)=X at *
    refine cP.mono ?_
    rintro e w6 ⟨rfl,b6⟩
    go_wp2_with fail
    go_ret
    exact⟨.inl ⟨_,R.g,R.tl,R.h1,R.s0,R.s1,R.s2,R.d0,R.d1,R.d2,rfl,by show jM g r R.g (bl D);rw[HDL.out];exact HV.out,htS.below b6,.inr (by omega)⟩,btX.trans (But.of_below b6)⟩
end Go.Proofs.YtpfhegengmlkmabGreatDoor
