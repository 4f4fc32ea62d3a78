/- Texts of this claim. -/
import Derived.Laws.BitsLemmas
import Derived.Deep.DeepCutAuto
import Derived.Laws.StructEq
import Derived.Test.YtpfhegengmlkmacGreatDoorZt36
import Derived.Test.YtpfhegengmlkmacGreatDoorZt38
namespace Go.Proofs.YtpfhegengmlkmacGreatDoor
open Go.RowKit Go.BigFrame
set_option maxRecDepth 100000
structure Duo (w:World) (b:Nat) (x y:Value):Prop where
 c0:w.cell? ⟨b,0,none⟩=some x
 c1:w.cell? ⟨b,1,none⟩=some y
 f0:w.frozen? ⟨b,0,none⟩=false
 f1:w.frozen? ⟨b,1,none⟩=false
theorem Duo.keep {w w':World} {b:Nat} {x y:Value} (h:Duo w b x y) (hb:Below w.heap.size w w'):Duo w' b x y:=by
 have hl:b < w.heap.size:=block_lt_of_cell h.c0
 exact ⟨cell_on hb hl h.c0,cell_on hb hl h.c1,(hb.frozen (p:=⟨b,0,none⟩) hl).trans h.f0,(hb.frozen (p:=⟨b,1,none⟩) hl).trans h.f1⟩
theorem Duo.span {w w':World} {b lo hi:Nat} {x y:Value} (h:Duo w b x y) (hs:Span lo hi w w') (hd:b < lo∨hi<=b):Duo w' b x y:=by
 have e:=hs.block b (block_lt_of_cell h.c0) hd
 exact ⟨(World.cell?_of_block (a:=⟨b,0,none⟩) e).trans h.c0,(World.cell?_of_block (a:=⟨b,1,none⟩) e).trans h.c1,(World.frozen?_of_block (a:=⟨b,0,none⟩) e).trans h.f0,(World.frozen?_of_block (a:=⟨b,1,none⟩) e).trans h.f1⟩
theorem Duo.set0 {w:World} {b:Nat} {x y:Value} (h:Duo w b x y) (v:Value):Duo (w.setCell ⟨b,0,none⟩ v) b v y:=⟨by simp [go_sem,h.c0],by simp [go_sem,h.c1],by simp [go_sem,h.f0],by simp [go_sem,h.f1]⟩
theorem Duo.set1 {w:World} {b:Nat} {x y:Value} (h:Duo w b x y) (v:Value):Duo (w.setCell ⟨b,1,none⟩ v) b x v:=⟨by simp [go_sem,h.c0],by simp [go_sem,h.c1],by simp [go_sem,h.f0],by simp [go_sem,h.f1]⟩
theorem duo_new (w:World) (x y:Value) (t:TypeId):Duo (w.alloc (.cells #[x,y] t)) w.heap.size x y:=⟨by simp [go_sem],by simp [go_sem],by simp [go_sem],by simp [go_sem]⟩
structure ResG where
 g:GatL
 L:List WinY
 sv:List Int
 ss:List (ByteArray×Int)
 code:Int
 s0:Option Addr
 s1:Option Addr
 s2:Option Addr
 s3:Option Addr
 s4:Option Addr
 d0:Nat
 d1:Nat
 d2:Nat
 d3:Nat
 d4:Nat
 tl:Nat
 h1:Nat
 h2:Nat
 th:Nat
abbrev ResG.gv (R:ResG):Value:=.agg #[.slice R.s0 R.g.ins.length R.d0,.slice R.s1 R.L.length R.d1,.slice R.s2 R.g.shown.length R.d2]
abbrev ResG.wv (R:ResG):Value:=.agg #[.slice R.s3 R.sv.length R.d3,.slice R.s4 R.ss.length R.d4]
abbrev ResG.all (R:ResG):Value:=.tuple #[R.gv,R.wv,.int .i64 R.code]
structure CalI (g:GatL) (i x:Int) (m:List (ByteArray×Int)) (R:ResG) (u:World):Prop where
 put:PutG g i x m R.g R.sv R.ss R.code
 map:R.L.map (·.l)=R.g.wins
 sg:SafeG u R.tl R.h1 R.s0 R.s1 R.s2 R.g.ins R.L R.g.shown
 sz:SafeZ u R.h1 R.h2 R.s3 R.sv
 ss:Safe u R.h2 R.th R.s4 R.ss
 o1:R.tl<=R.h1
 o2:R.h1<=R.h2
 o3:R.h2<=R.th
 o4:R.th<=u.heap.size
 cap:R.g.ins.length<=R.d0∧R.d0<=maxLen
 cap2:R.g.shown.length<=R.d2∧R.ss.length<=R.d4
structure CalS (g:GatL) (i x:Int) (m:List (ByteArray×Int)) (R:ResG) (u:World):Prop where
 put:PutG g i x m R.g R.sv R.ss R.code
 map:R.L.map (·.l)=R.g.wins
 sg:SafeG u R.tl R.th R.s0 R.s1 R.s2 R.g.ins R.L R.g.shown
 sz:SafeZ u R.tl R.th R.s3 R.sv
 ss:Safe u R.tl R.th R.s4 R.ss
 o1:R.tl<=R.th
 o4:R.th<=u.heap.size
 cap:R.g.ins.length<=R.d0∧R.d0<=maxLen
 room:RoomS u R.tl R.th R.s0 R.s1 R.d0 R.d1 R.g.ins.length R.L.length
theorem CalI.below {g:GatL} {i x:Int} {m:List (ByteArray×Int)} {R:ResG} {u u':World} (h:CalI g i x m R u) (hb:Below u.heap.size u u'):CalI g i x m R u':=⟨h.put,h.map,h.sg.below hb,h.sz.below hb,h.ss.below hb,h.o1,h.o2,h.o3,Nat.le_trans h.o4 hb.size,h.cap,h.cap2⟩
theorem CalI.span {g:GatL} {i x:Int} {m:List (ByteArray×Int)} {R:ResG} {u u':World} {lo hi:Nat} (h:CalI g i x m R u) (hs:Span lo hi u u') (hd:R.th<=lo∨hi<=R.tl):CalI g i x m R u':=by
 have h1:=h.o1
 have h2:=h.o2
 have h3:=h.o3
 exact ⟨h.put,h.map,h.sg.span hs (by omega),h.sz.span hs (by omega),h.ss.span hs (by omega),h.o1,h.o2,h.o3,Nat.le_trans h.o4 hs.size,h.cap,h.cap2⟩
theorem GPE.cal {w w':World} {g:GatL} {i x:Int} {m:List (ByteArray×Int)} {e:Ending} (h:GPE w w' g i x m e):∃ R:ResG,e=.returned R.all∧R.tl=w.heap.size∧R.th=w'.heap.size∧CalI g i x m R w':=by
 obtain ⟨g',L,sv,ss,code,a0,a1,a2,a3,a4,d0,d1,d2,d3,d4,h1,h2,rfl,hp,hm,o1,o2,o3,k1,k2,k3,k4,k5⟩:=h
 exact ⟨⟨g',L,sv,ss,code,a0,a1,a2,a3,a4,d0,d1,d2,d3,d4,w.heap.size,h1,h2,w'.heap.size⟩,rfl,rfl,rfl,hp,hm,k1,k2,k3,o1,o2,o3,Nat.le_refl _,k4,k5⟩
theorem GPS.cal {w w':World} {g:GatL} {i x:Int} {m:List (ByteArray×Int)} {e:Ending} (h:GPS w w' g i x m e) (hb:w.heap.size<=w'.heap.size):∃ R:ResG,e=.returned R.all∧R.tl=w.heap.size∧R.th=w'.heap.size∧CalS g i x m R w':=by
 obtain ⟨g',L,sv,ss,code,a0,a1,a2,a3,a4,d0,d1,d2,d3,d4,rfl,hp,hm,k1,k2,k3,k4,k5⟩:=h
 exact ⟨⟨g',L,sv,ss,code,a0,a1,a2,a3,a4,d0,d1,d2,d3,d4,w.heap.size,0,0,w'.heap.size⟩,rfl,rfl,rfl,hp,hm,k1,k2,k3,hb,Nat.le_refl _,k4,k5⟩
def hcells:List ShoY->List Value
 | []=>[]
 | p :: r=>.slice p.a1 p.vals.length p.c1 :: .slice p.a2 p.st.length p.c2 :: hcells r
theorem SafeN.full {w:World} {lo hi:Nat} {a0 a1 a2:Option Addr} {nm:List ByteArray} (h:SafeN w lo hi a0 a1 nm) (h0:nm≠[]):∃ L:List WinY,L.length=nm.length∧L.map (·.l)=(newG nm).wins∧SafeG w lo hi a0 a1 a2 (newG nm).ins L (newG nm).shown:=by
 rcases h with e | ⟨b,t,rfl,rfl,h1,h2,h3,h4,h5,h6,h7⟩
 ·exact absurd e h0
 ·obtain ⟨m,f,hr,hnm,hf⟩:=h7
  have hl:((List.range nm.length).map fun j=>WinY.mk [] (f j) lo lo).length=nm.length:=by simp
  refine ⟨(List.range nm.length).map fun j=>WinY.mk [] (f j) lo lo,hl, ?_,.inr ⟨b,t,rfl,rfl,h6,⟨hr.lt,fun k hk=>?_,fun p hp=>?_,fun p hp=>?_,fun p hp=>?_, ?_⟩,h5,⟨h1,h2⟩,⟨h3,h4⟩,fun p hp=>?_,.inl rfl⟩⟩
  ·simp only [List.map_map,newG]
   apply List.ext_getElem
   ·simp
   ·intro i h8 h9
    simp
  ·rw [hl] at hk
   rw [hr.cell (by omega)]
   simp
  ·obtain ⟨j,hj,rfl⟩:=List.mem_map.1 hp
   obtain ⟨s,c,e⟩:=hf j (List.mem_range.1 hj)
   exact ⟨s,c,e,Nat.zero_le _,.inl rfl⟩
  ·obtain ⟨j,hj,rfl⟩:=List.mem_map.1 hp
   exact .inr h3
  ·obtain ⟨j,hj,rfl⟩:=List.mem_map.1 hp
   exact ⟨Nat.le_refl _,Nat.le_refl _,by show lo<=hi;omega⟩
  ·rw [List.pairwise_map]
   exact List.Pairwise.imp (fun _=>.inl (Nat.le_refl _)) (List.pairwise_lt_range)
  ·obtain ⟨j,hj,rfl⟩:=List.mem_map.1 hp
   exact .inr h1
theorem NewE.start {w w':World} {ins:List ByteArray} {e:Ending} (h:NewE w w' ins e):(∃ a0 c0 a1 c1 a2 c2 L,e=.returned (.tuple #[.agg #[.slice a0 ins.length c0,.slice a1 (List.length L) c1,.slice a2 0 c2],.bool true])∧IsN ins ins true∧L.map (·.l)=(newG ins).wins∧SafeG w' w.heap.size w'.heap.size a0 a1 a2 (newG ins).ins L (newG ins).shown∧ins.length<=c0∧c0<=maxLen)∨(e=.returned (.tuple #[.agg #[.slice none 0 0,.slice none 0 0,.slice none 0 0],.bool false])∧IsN ins [] false):=by
 rcases id h with ⟨B,v0,v1,L,v2,hB,rfl,hp,h1,h2,h3,⟨a2,c2,rfl⟩⟩ | ⟨rfl,hp⟩
 ·have hpos:0 < ins.length:=hp.1
  obtain ⟨nm,ok,b0,e0,b1,e1,b2,e2,he,hN,hS⟩:=h.safe
  simp only [Ending.returned.injEq,Value.tuple.injEq,Array.mk.injEq,List.cons.injEq,Value.agg.injEq,Value.bool.injEq,and_true] at he
  obtain ⟨⟨rfl,rfl,he2⟩,hok⟩:=he
  subst hok
  obtain rfl:nm=ins:=by
   rcases hN with ⟨_,_,e⟩ | ⟨e,_,_⟩
   ·exact e
   ·cases e
  obtain ⟨L',hl',hm',hs'⟩:=hS.full (a2:=a2) (fun e=>by rw [e] at hpos;simp at hpos)
  have hcap:nm.length<=e0∧e0<=maxLen:=by
   rcases (show World.ownsRow _ _ _ _ _ _ _ from h1).2 with ⟨_,e⟩ | ⟨g',cap,cur,e,_,_,hn,hmx,_⟩
   ·omega
   ·simp only [Value.slice.injEq] at e
    omega
  exact .inl ⟨b0,e0,b1,e1,a2,c2,L',by rw [hl'],hN,hm',hs',hcap⟩
 ·exact .inr ⟨rfl,.inr ⟨rfl,hp,rfl⟩⟩
theorem hid_hold {P:Prop} (h:Hid P):P:=h.out
theorem But.cell {R:Nat} {w w':World} (h:But R w w') {b:Nat} (o:Nat) (hb:b < w.heap.size) (hne:b≠R):w'.cell? ⟨b,o,none⟩=w.cell? ⟨b,o,none⟩:=World.cell?_of_block (h.block b hb hne)
structure Bytes (w:World) (ab:Option Addr) (n c:Nat):Prop where
 cap:n<=c
 byte:∀ k,k < n->∃ b o,∃ v:Int,ab=some ⟨b,o,none⟩∧b < w.heap.size∧0<=v∧v<=255∧w.cell? ⟨b,o + k,none⟩=some (.int .u8 v)
theorem But.trans' {g R:Nat} {x y z:World} (h:But R x y) (k:But g y z) (hg:x.heap.size<=g):But R x z:=
 ⟨k.os.trans h.os,k.tape.trans h.tape,k.output.trans h.output,Nat.le_trans h.size k.size,fun i hi hn=>(k.block i (Nat.lt_of_lt_of_le hi h.size) (by omega)).trans (h.block i hi hn)⟩
theorem But.setOut {g R:Nat} {x w:World} (h:But R x w) (hg:x.heap.size<=g) (i:Nat) (v:Value):But R x (w.setCell ⟨g,i,none⟩ v):=
 h.trans' ((But.refl g w).setCell i v) hg
theorem GathS.rows {w:World} {B:Nat} {v:Value} {l:List ByteArray} (h:GathS w B v l):∃ a cap,v=.slice a l.length cap∧l.length<=cap∧cap<=maxLen∧RowS w a l:=by
 obtain ⟨a,cap,e,hr⟩:=h.shape
 refine ⟨a,cap,e, ?_⟩
 rcases (show World.ownsRow _ _ _ _ _ _ _ from h).2 with ⟨e',h0⟩ | ⟨g,cap',cur,e',_,hh,hn,hm,_⟩
 ·rw [e] at e'
  simp only [Value.slice.injEq] at e'
  exact ⟨by omega,by omega,hr⟩
 ·rw [e] at e'
  simp only [Value.slice.injEq] at e'
  exact ⟨by omega,by omega,hr⟩
structure Agree (lo hi:Nat) (w u:World):Prop where
 size:w.heap.size<=u.heap.size
 block:∀ k,lo<=k->k < hi->k < w.heap.size->u.heap[k]?=w.heap[k]?
theorem Agree.refl (lo hi:Nat) (w:World):Agree lo hi w w:=⟨Nat.le_refl _,fun _ _ _ _=>rfl⟩
theorem Agree.trans {lo hi:Nat} {x y z:World} (h:Agree lo hi x y) (k:Agree lo hi y z):Agree lo hi x z:=⟨Nat.le_trans h.size k.size,fun i h1 h2 h3=>(k.block i h1 h2 (Nat.lt_of_lt_of_le h3 h.size)).trans (h.block i h1 h2 h3)⟩
theorem Agree.sub {lo hi lo' hi':Nat} {x y:World} (h:Agree lo hi x y) (h1:lo<=lo') (h2:hi'<=hi):Agree lo' hi' x y:=⟨h.size,fun i q1 q2 q3=>h.block i (by omega) (by omega) q3⟩
theorem below_agree {lo hi:Nat} {w u:World} (h:Below w.heap.size w u):Agree lo hi w u:=⟨h.size,fun i _ _ q=>h.block i q⟩
theorem Span.agree {lo hi q0 q1:Nat} {w u:World} (h:Span q0 q1 w u) (hd:hi<=q0∨q1<=lo):Agree lo hi w u:=⟨h.size,fun i h1 h2 q=>h.block i q (by omega)⟩
theorem PartI.agree {w w':World} {lo hi g k:Nat} {l:List ItemL} (h:PartI w lo hi g l k) (h1:lo<=g) (h2:g < hi) (hs:Agree lo hi w w'):PartI w' lo hi g l k:=by
 have hlt:=h.lt
 obtain ⟨G,C,m,f,h,hm,hf,hp⟩:=h
 refine ⟨G,C,m,f,h.of_block (hs.block g h1 h2 hlt),hm,fun j hj hk=>?_,hp⟩
 obtain ⟨e1,e2,e3,e4,e5,e6,e7⟩:=hf j hj hk
 have hl4:=e4.lt
 obtain ⟨m',f',h',hf'⟩:=e4
 exact ⟨e1,e2,e3,⟨m',f',h'.of_block (hs.block (G j) (by omega) (by omega) hl4),hf'⟩,e5,e6,e7⟩
def RowsIn (lo hi:Nat) (w:World) (g:GatL) (a0 a1 a2:Option Addr):Prop:=∀ u,Agree lo hi w u->RowS u a0 g.ins∧RowW u a1 g.wins∧Row u a2 g.shown
theorem RowsIn.agree {lo hi:Nat} {w u:World} {g:GatL} {a0 a1 a2:Option Addr} (h:RowsIn lo hi w g a0 a1 a2) (hA:Agree lo hi w u):RowsIn lo hi u g a0 a1 a2:=fun x hx=>h x (hA.trans hx)
theorem RowsIn.here {lo hi:Nat} {w:World} {g:GatL} {a0 a1 a2:Option Addr} (h:RowsIn lo hi w g a0 a1 a2):RowS w a0 g.ins∧RowW w a1 g.wins∧Row w a2 g.shown:=h w (Agree.refl _ _ _)
theorem rowsIn_empty (lo hi:Nat) (w:World) (a0 a1 a2:Option Addr):RowsIn lo hi w emptyG a0 a1 a2:=fun _ _=>⟨fun k hk=>absurd hk (Nat.not_lt_zero k),fun k hk=>absurd hk (Nat.not_lt_zero k),fun k hk=>absurd hk (Nat.not_lt_zero k)⟩
theorem SafeG.rowsIn {w:World} {lo hi:Nat} {a0 a1 a2:Option Addr} {g:GatL} {L:List WinY} (h:SafeG w lo hi a0 a1 a2 g.ins L g.shown) (hm:L.map (·.l)=g.wins):RowsIn lo hi w g a0 a1 a2:=fun u hu=>by
 have h2:SafeG u lo hi a0 a1 a2 g.ins L g.shown:=by
  rcases h with h | ⟨b,t,rfl,rfl,hF⟩
  ·exact .inl h
  ·refine .inr ⟨b,t,rfl,rfl,⟨?_,⟨?_,fun k hk=>?_,fun p hp=>?_,hF.wins.far,hF.wins.in_,hF.wins.dis⟩,hF.bt,hF.bin,hF.tin,hF.bfar, ?_⟩⟩
   ·obtain ⟨m,f,h1,h2⟩:=hF.names
    exact ⟨m,f,h1.of_block (hu.block b hF.bin.1 hF.bin.2 h1.lt),h2⟩
   ·exact Nat.lt_of_lt_of_le hF.wins.lt hu.size
   ·rw [World.cell?_of_block (w:=w) (hu.block t hF.tin.1 hF.tin.2 hF.wins.lt)]
    exact hF.wins.cell k hk
   ·obtain ⟨a,c,h1,h2,h3⟩:=hF.wins.at_ p hp
    obtain ⟨q1,q2,q3⟩:=hF.wins.in_ p hp
    refine ⟨a,c,h1,h2, ?_⟩
    rcases h3 with h3 | ⟨g,rfl,g1,g2,hp⟩
    ·exact .inl h3
    ·exact .inr ⟨g,rfl,g1,g2,hp.agree g1 g2 ⟨hu.size,fun k k1 k2 k3=>hu.block k (by omega) (by omega) k3⟩⟩
   ·rcases hF.stamp with hs | ⟨s,rfl,s1,s2,s3,s4,ho,s5⟩
    ·exact .inl hs
    ·refine .inr ⟨s,rfl,s1,s2,s3,s4, ?_,s5⟩
     obtain ⟨m,f,h1,h2⟩:=ho
     exact ⟨m,f,h1.of_block (hu.block s s1 s2 h1.lt),h2⟩
 obtain ⟨q0,q1,q2⟩:=h2.rows
 rw [hm] at q1
 exact ⟨q0,q1,q2⟩
theorem isL_stamp {l:List ItemL} {x:Int} {m:List (ByteArray×Int)} {ok:Bool} (h:IsL l x m ok):StampP m:=by
 by_cases hp:WinP l∧0 < l.length
 ·have e:=congrArg Prod.snd (h.1 hp).2
  simp only at e
  rw [e]
  exact (hp.1.2.1 _ _).1
 ·rw [(h.2 hp).2.2];exact stampP_nil
theorem NiceV.fit {g:GatL} (h:NiceV g):FitG g:=⟨⟨by have:=h.nice.ins;unfold maxLen;omega,fun j hj=>by have:=h.nice.names j hj;unfold maxLen;omega⟩,stamps_fitW h.nice.wins h.nice.items,stamp_fit h.nice.shown⟩
def LasN (g:GatL) (e:Ending) (nm:ByteArray):Prop:=∃ s,e=.returned (.string s)∧LasT g [nm] (bl s)
set_option maxHeartbeats 1600000 in
theorem l5Last_any (a0 a1 a2:Option Addr) (c0 c1 c2:Nat) (g:GatL) (nm:ByteArray) (w:World) (hg:NiceV g) (r0:RowS w a0 g.ins) (r1:RowW w a1 g.wins) :
  Calls Tryz.prog 108 #[.agg #[.slice a0 g.ins.length c0,.slice a1 g.wins.length c1,.slice a2 g.shown.length c2],.string nm] w fun e w'=>LasN g e nm∧Below w.heap.size w w':=by
 have h6:=hg.nice.ins
 go_enter Tryz.func108,Tryz.ntmps108
 have tr:=tri_new w (.slice a0 g.ins.length c0) (.slice a1 g.wins.length c1) (.slice a2 g.shown.length c2) 36
 have bel:Below w.heap.size w (w.alloc (.cells #[.slice a0 g.ins.length c0,.slice a1 g.wins.length c1,.slice a2 g.shown.length c2] 36)):=(Below.refl _ _).alloc (Nat.le_refl _) _
 have hlt:=box_lt w (.cells #[.slice a0 g.ins.length c0,.slice a1 g.wins.length c1,.slice a2 g.shown.length c2] 36)
 go_wp2_with fail
 have r0':=r0.below bel
 have r1':=r1.below bel
 generalize w.alloc (.cells #[.slice a0 g.ins.length c0,.slice a1 g.wins.length c1,.slice a2 g.shown.length c2] 36)=W0 at *
 have cA:=l5At_any a0 c0 g.ins nm W0 (by omega) r0'
 have d1:=tr.c1
 refine cA.mono ?_
 rintro e w1 ⟨rfl,b1⟩
 have B1:Below w.heap.size w w1:=bel.trans (b1.mono bel.size)
 obtain ⟨i,hi⟩:∃ i,Lib.idxOfS g.ins nm=i:=⟨_,rfl⟩
 have HI:Hid (Lib.idxOfS g.ins nm=i):=hi
 have hilt:i < (g.ins.length:Int)∨i=-1:=by rw [<- hi];exact idx_lt _ _
 rw [hi]
 clear hi cA
 by_cases h0:i < 0
 ·have HV:Hid (LasT g [nm] tNo):=.inl ⟨nm,rfl,.inl ⟨by rw [HI.out];exact h0,rfl⟩⟩
  go_wp2_with fail
  go_ret
  exact ⟨⟨_,rfl,HV.out⟩,B1⟩
 obtain ⟨k,rfl⟩:∃ k:Nat,i=(k:Int):=⟨i.toNat,by omega⟩
 have hkw:k < g.wins.length:=by have:=hg.len;omega
 obtain ⟨b,o,rfl,hlt1,s,c,cw,hwc,hrI⟩:=(r1'.below b1) k hkw
 have d1':=cell_on b1 hlt d1
 have HG:Hid (g.wins.getD k []=g.wins[k]):=by rw [Hid,List.getD_eq_getElem?_getD,List.getElem?_eq_getElem hkw,Option.getD_some]
 have hfI:FitI g.wins[k]:=(hg.nice.items _ (List.getElem_mem hkw)).fit
 have cL:=specLast_any s c g.wins[k] w1 hfI hwc hrI
 have hvals:=hg.vals _ (List.getElem_mem hkw)
 have k0:(0:Int)<=(k:Int):=by omega
 have k1:(k:Int) < (g.wins.length:Int):=by omega
 go_wp2_with (go_at_call 154;refine cL.mono ?_)
 rintro e w2 ⟨⟨x,a3,c3,m,ok,rfl,hL,hmc,hsafe⟩,b2⟩
 have B2:Below w.heap.size w w2:=B1.trans (b2.mono B1.size)
 have HLL:Hid (IsL (g.wins.getD (Lib.idxOfS g.ins nm).toNat []) x m ok):=by rw [Hid,HI.out,Int.toNat_natCast,HG.out];exact hL
 have hnx:NumV x:=isL_vals hL hvals
 have hsm:=isL_stamp hL
 have hrow:=hsafe.row
 clear hL cL hsafe hvals HG
 have bx:Below w2.heap.size w2 (w2.alloc (.cells #[.int .i64 x,.slice a3 m.length c3] 44)):=(Below.refl _ _).alloc (Nat.le_refl _) _
 have x0:=box0 w2 (.int .i64 x) (.slice a3 m.length c3) 44
 have x1:=box1 w2 (.int .i64 x) (.slice a3 m.length c3) 44
 have hxl:=box_lt w2 (.cells #[.int .i64 x,.slice a3 m.length c3] 44)
 cases ok
 ·have HV:Hid (LasT g [nm] tNone):=.inl ⟨nm,rfl,.inr ⟨by rw [HI.out];omega,x,m,false,HLL.out,.inl ⟨rfl,rfl⟩⟩⟩
  go_wp2_with fail
  go_ret
  exact ⟨⟨_,rfl,HV.out⟩,B2.trans (bx.mono B2.size)⟩
 ·have HV:Hid (LasT g [nm] (Lib.itoa x ++ (tAt ++ bl (stampS m)))):=.inl ⟨nm,rfl,.inr ⟨by rw [HI.out];omega,x,m,true,HLL.out,.inr ⟨rfl,_,stampS_tx hsm,rfl⟩⟩⟩
  go_wp2_with fail
  have B3:=B2.trans (bx.mono B2.size)
  have hrow3:=hrow.below bx
  generalize w2.alloc (.cells #[.int .i64 x,.slice a3 m.length c3] 44)=W3 at *
  have cd:∀ n:Lat W3,Calls Tryz.prog 109 #[.int .i64 x] n.w fun e w'=>e=.returned (.string ⟨(Lib.itoa x).toArray⟩)∧Below n.w.heap.size n.w w':=fun n=>l1Dec_full x n.w hnx
  have cs:∀ n:Lat W3,Calls Tryz.prog 151 #[.slice a3 m.length c3] n.w fun e w'=>e=.returned (.string (stampS m))∧Below n.w.heap.size n.w w':=fun n=>specText_det a3 c3 m n.w hsm (hrow3.below n.h)
  have hdl:=hnx.len
  have hsl:=stampS_size hsm
  obtain ⟨D,hD⟩:∃ D:ByteArray,(⟨(Lib.itoa x).toArray⟩:ByteArray)=D:=⟨_,rfl⟩
  have hDs:D.size<=21:=by
   rw [<- hD]
   show (Lib.itoa x).toArray.size<=_
   simp
   omega
  have HE:Hid (bl (D ++ (⟨#[32,64,32]⟩:ByteArray) ++ stampS m)=Lib.itoa x ++ (tAt ++ bl (stampS m))):=by
   unfold bl Hid
   rw [toList_append2,toList_append2,<- hD,List.append_assoc];rfl
  rw [hD] at cd
  generalize stampS m=S at *
  have q0:∀ n:Lat W3,n.w.cell? ⟨w2.heap.size,0,none⟩=some (.int .i64 x):=fun n=>n.cell hxl x0
  have q1:∀ n:Lat W3,n.w.cell? ⟨w2.heap.size,1,none⟩=some (.slice a3 m.length c3):=fun n=>n.cell hxl x1
  have hne:=Lat.some W3
  clear hD hdl
  refine wp_region_lat (by kernel_rfl) (by kernel_rfl) ?_
  repeat (go_big_quiet_step (first | (go_at_call 109;exact Calls.lat_of (cd _)) | (go_at_call 151;exact Calls.lat_of (cs _))))
  refine wpQuiet_nil ?_
  rintro _ ⟨nq,rfl⟩
  go_wp2_with fail
  go_ret
  exact ⟨⟨_,rfl,by show LasT g [nm] (bl (D ++ (⟨#[32,64,32]⟩:ByteArray) ++ S));rw [HE.out];exact HV.out⟩,B3.trans (nq.h.mono B3.size)⟩
def stepM (ws:List (List ItemL)):Nat->List Int->List Int
 | 0,ps=>ps.set 0 (ps.getD 0 0 + 1)
 | i + 1,ps=>if ps.getD (i + 1) 0 + 1 < ((ws.getD (i + 1) []).length:Int) then ps.set (i + 1) (ps.getD (i + 1) 0 + 1) else stepM ws i (ps.set (i + 1) 0)
theorem stepM_pos (ws:List (List ItemL)) {k:Nat} (h:k≠0) (ps:List Int):stepM ws k ps=if ps.getD k 0 + 1 < ((ws.getD k []).length:Int) then ps.set k (ps.getD k 0 + 1) else stepM ws (k - 1) (ps.set k 0):=by
 cases k with
 | zero=>exact absurd rfl h
 | succ i=>rfl
set_option maxHeartbeats 1600000 in
theorem step_any (W0 w0 w:World) (b g c:Nat) (ws:List (List ItemL)) (sh:List (List Spot)) (ps:List Int) (h:ChB W0 w0 b ws sh) (hw0:w0.heap.size<=g) (hb0:Below w0.heap.size w0 w) (h6:ws.length<=6) (h4:∀ k,(h:k < ws.length)->ws[k].length<=4) (hl:ps.length=ws.length) (h0:0 < ps.length) (hin:InW ws ps) (hn:NumB w g ps) :
  Calls Tryz.prog 221 #[.pointer (some ⟨b,0,none⟩),.slice (some ⟨g,0,none⟩) ps.length c] w fun e w'=>(∃ v,e=.returned v)∧NumB w' g (stepM ws (ps.length - 1) ps)∧But g w w':=by
 have HL:Hid (ps.length=ws.length):=hl
 have HIN:Hid (InW ws ps):=hin
 have hp6:ps.length<=6:=by omega
 clear hl hin
 go_enter Tryz.func221,Tryz.ntmps221
 go_wp2_with fail
 go_loopw [4] (fun i wr=>∃ (k:Nat) (qs:List Int),k < ps.length∧i=.int .i64 k∧qs.length=ps.length∧Hid (stepM ws k qs=stepM ws (ps.length - 1) ps)∧Hid (∀ j,(h:j < qs.length)->-4<=qs[j]∧qs[j]<=4)∧NumB wr g qs∧But g w wr) (fun i _=>(intOf i).toNat)
 case atStart=>exact ⟨ps.length - 1,ps,by omega,by congr 1;omega,rfl,rfl,fun j hj=>by
  have h1:=HIN.out.2 j hj
  have hw:j < ws.length:=by rw [<- HL.out];exact hj
  have e:ws.getD j []=ws[j]:=by simp [List.getD,hw]
  rw [e] at h1
  have:=h4 j hw
  omega,hn,But.refl _ _⟩
 case round=>
  obtain ⟨k,qs,hk,rfl,hql,HS,HB,hnb,hbut⟩:=hrel
  have HQL:Hid (qs.length=ps.length):=hql
  have hkq:k < qs.length:=by omega
  have hkw:k < ws.length:=by rw [<- HL.out];exact hk
  have p0:=hnb.cell hkq
  have p1:=hnb.frozen k
  have k0:(0:Int)<=(k:Int):=by omega
  have k1:(k:Int) < (ps.length:Int):=by omega
  have hbd:=HB.out k hkq
  have q0:=hbd.1
  have q1:=hbd.2
  have hset:=hnb.set k (qs[k] + 1)
  have hB':Below w0.heap.size w0 wr:=hb0.trans (hbut.below hw0 hb0.size)
  clear hql hbd
  go_wp2_with fail
  have hbw:Below wr.heap.size wr wr:=Below.refl _ _
  have hset0:Below w0.heap.size w0 (wr.setCell ⟨g,k,none⟩ (.int .i64 (qs[k] + 1))):=hB'.setCell hw0 _
  have hbut2:=hbut.setCell k (.int .i64 (qs[k] + 1))
  generalize wr.setCell ⟨g,k,none⟩ (.int .i64 (qs[k] + 1))=W at *
  have hcb:=h.below hset0
  obtain ⟨hbb,va,vc,va',vc',e0,_,_,_,hv,_⟩:=hcb
  obtain ⟨gv,ov,rfl,hwo⟩:=hv k hkw
  have hne:=Lat.some W
  have k2:(k:Int) < (ws.length:Int):=by omega
  have hkm:k < (qs.set k (qs[k] + 1)).length:=by rw [List.length_set];exact hkq
  have p2:=hset.cell hkm
  rw [List.getElem_set_self] at p2
  have n0:∀ n:Lat W,n.w.cell? ⟨g,k,none⟩=some (.int .i64 (qs[k] + 1)):=fun n=>n.cell hset.lt p2
  have n1:∀ n:Lat W,n.w.cell? ⟨b,0,none⟩=some (.slice (some ⟨gv,ov,none⟩) ws.length vc):=fun n=>n.cell hbb e0
  have ce:∀ n:Lat W,Calls Tryz.prog 167 #[.pointer (some ⟨gv,ov + k * 10,none⟩)] n.w fun e w'=>e=.returned (.int .i64 (ws[k].length:Int))∧Below n.w.heap.size n.w w':=fun n=>(size_off W0 n.w gv (ov + k * 10) ws[k] (hwo.below n.h)).mono fun e w' ⟨h1,h2⟩=>⟨h1,by rw [h2];exact Below.refl _ _⟩
  by_cases hz:k=0
  ·subst hz
   refine wp_region_lat (by kernel_rfl) (by kernel_rfl) ?_
   repeat (go_big_quiet_step ((go_at_call 167;exact Calls.lat_of (ce _))))
   refine wpQuiet_nil ?_
   rintro _ ⟨nq,rfl⟩
   have HE:Hid (qs.set 0 (qs[0] + 1)=stepM ws (ps.length - 1) ps):=by
    unfold Hid
    rw [<- HS.out]
    simp [stepM,List.getD,hkq]
   go_wp2_with fail
   exact bodyPost_ret (v:=.tuple #[]) (by simp [results,Tryz.results221,go_sem]) rfl ⟨⟨_,rfl⟩,by rw [<- HE.out];exact hset.below nq.h,hbut2.trans (But.of_below nq.h)⟩
  ·have hz':((k:Int) == 0)=false:=by rw [beq_eq_false_iff_ne];omega
   have eg:qs.getD k 0=qs[k]:=by simp [List.getD,hkq]
   have ew:ws.getD k []=ws[k]:=by simp [List.getD,hkw]
   by_cases hc:qs[k] + 1 < (ws[k].length:Int)
   ·have HE:Hid (qs.set k (qs[k] + 1)=stepM ws (ps.length - 1) ps):=by
     unfold Hid
     rw [<- HS.out]
     rw [stepM_pos ws hz,eg,ew,if_pos hc]
    have hc':decide (qs[k] + 1 < (ws[k].length:Int))=true:=decide_eq_true hc
    have hz1:1<=k:=by omega
    clear eg ew hz
    refine wp_region_lat (by kernel_rfl) (by kernel_rfl) ?_
    repeat (go_big_quiet_step ((go_at_call 167;exact Calls.lat_of (ce _))))
    refine wpQuiet_nil ?_
    rintro _ ⟨nq,rfl⟩
    go_wp2_with fail
    exact bodyPost_ret (v:=.tuple #[]) (by simp [results,Tryz.results221,go_sem]) rfl ⟨⟨_,rfl⟩,by rw [<- HE.out];exact hset.below nq.h,hbut2.trans (But.of_below nq.h)⟩
   ·have HE:Hid (stepM ws (k - 1) (qs.set k 0)=stepM ws (ps.length - 1) ps):=by
     unfold Hid
     rw [<- HS.out]
     rw [stepM_pos ws hz,eg,ew,if_neg hc]
    have hc':decide (qs[k] + 1 < (ws[k].length:Int))=false:=decide_eq_false hc
    have hz1:1<=k:=by omega
    clear eg ew hz
    refine wp_region_lat (by kernel_rfl) (by kernel_rfl) ?_
    repeat (go_big_quiet_step ((go_at_call 167;exact Calls.lat_of (ce _))))
    refine wpQuiet_nil ?_
    rintro _ ⟨nq,rfl⟩
    have hnq:=hset.below nq.h
    have p4:=hnq.cell hkm
    have p5:=hnq.frozen k
    have hset2:=hnq.set k 0
    rw [List.set_set] at hset2
    have HB2:Hid (∀ j,(h:j < (qs.set k 0).length)->-4<=(qs.set k 0)[j]∧(qs.set k 0)[j]<=4):=fun j hj=>by
     have hj':j < qs.length:=by simpa using hj
     by_cases e:j=k
     ·subst e
      rw [List.getElem_set_self]
      omega
     ·rw [List.getElem_set_ne (fun h=>e h.symm)]
      exact HB.out j hj'
    go_wp2_with fail
    exact ⟨⟨k - 1,qs.set k 0,by omega,by congr 1;omega,by rw [List.length_set];exact HQL.out,HE,HB2,hset2,(hbut2.trans (But.of_below nq.h)).setCell _ _⟩,by simp [intOf];omega⟩
end Go.Proofs.YtpfhegengmlkmacGreatDoor
namespace Go.Proofs.YtpfhegengmlkmacGreatDoor
def fromL (ws:List (List ItemL)):List Int->List Int->List (List Int)
 | pre,[]=>[pre]
 | pre,x :: t=>fromL ws (pre ++ [x]) t ++ ((List.range (ws.getD pre.length []).length).drop (x.toNat + 1)).flatMap fun i:Nat=>allL ws t.length (pre ++ [(i:Int)])
theorem range_first {n:Nat} (h:0 < n):List.range n=0 :: (List.range n).drop 1:=by
 cases n with
 | zero=>omega
 | succ n=>rw [List.range_succ_eq_map];rfl
theorem fromL_zeros {ws:List (List ItemL)}:∀ (m:Nat) (pre:List Int),(∀ j,pre.length<=j->j < pre.length + m->0 < (ws.getD j []).length)->fromL ws pre (List.replicate m 0)=allL ws m pre
 | 0,pre,_=>rfl
 | m + 1,pre,h=>by
  have h0:=h pre.length (Nat.le_refl _) (by omega)
  have ih:=fromL_zeros (ws:=ws) m (pre ++ [0]) (fun j h1 h2=>h j (by simp at h1;omega) (by simp at h2;omega))
  rw [List.replicate_succ]
  simp only [fromL,allL,List.length_replicate]
  rw [ih]
  conv=>rhs;rw [range_first h0]
  rw [List.flatMap_cons]
  rfl
def nxtT (ws:List (List ItemL)):Nat->List Int->Option (List Int)
 | _,[]=>none
 | d,x :: t=>match nxtT ws (d + 1) t with
  | some t'=>some (x :: t')
  | none=>if x + 1 < ((ws.getD d []).length:Int) then some ((x + 1) :: List.replicate t.length 0) else none
theorem nxtT_len {ws:List (List ItemL)}:∀ (t:List Int) (d:Nat) (r:List Int),nxtT ws d t=some r->r.length=t.length
 | [],d,r,h=>by simp [nxtT] at h
 | x :: t,d,r,h=>by
  simp only [nxtT] at h
  cases hn:nxtT ws (d + 1) t with
  | some t'=>
   rw [hn] at h
   have:=nxtT_len t (d + 1) t' hn
   simp only [Option.some.injEq] at h
   rw [<- h]
   simp [this]
  | none=>
   rw [hn] at h
   simp only at h
   split at h
   ·simp only [Option.some.injEq] at h
    rw [<- h]
    simp
   ·cases h
theorem drop_range {n i:Nat} (h:i < n):(List.range n).drop i=i :: (List.range n).drop (i + 1):=by
 rw [List.drop_eq_getElem_cons (by simpa using h)]
 simp
theorem fromL_next {ws:List (List ItemL)}:∀ (t pre:List Int),(∀ j,pre.length<=j->j < pre.length + t.length->0 < (ws.getD j []).length)->(∀ x∈t,0<=x)->fromL ws pre t=(pre ++ t) :: (match nxtT ws pre.length t with | some t'=>fromL ws pre t' | none=>[])
 | [],pre,_,_=>by simp [fromL,nxtT]
 | x :: t,pre,h,hx=>by
  have hx0:=hx x (by simp)
  have ih:=fromL_next (ws:=ws) t (pre ++ [x]) (fun j h1 h2=>h j (by simp at h1;omega) (by simp at h2 ⊢;omega)) (fun y hy=>hx y (by simp [hy]))
  have hl:(pre ++ [x]).length=pre.length + 1:=by simp
  rw [hl] at ih
  simp only [fromL,nxtT]
  rw [ih]
  cases hn:nxtT ws (pre.length + 1) t with
  | some t'=>
   have hlen:=nxtT_len t _ t' hn
   simp only [fromL,hlen]
   simp
  | none=>
   simp only
   by_cases hc:x + 1 < ((ws.getD pre.length []).length:Int)
   ·rw [if_pos hc]
    have e1:x.toNat + 1 < (ws.getD pre.length []).length:=by omega
    have e2:(((x.toNat + 1:Nat):Int))=x + 1:=by omega
    have e3:(x + 1).toNat + 1=x.toNat + 1 + 1:=by omega
    have hz:=fromL_zeros (ws:=ws) t.length (pre ++ [x + 1]) (fun j h1 h2=>h j (by simp at h1;omega) (by simp at h2 ⊢;omega))
    simp only [fromL,List.length_replicate]
    rw [drop_range e1,List.flatMap_cons,e2,hz,e3]
    simp
   ·rw [if_neg hc]
    have e1:(ws.getD pre.length []).length<=x.toNat + 1:=by omega
    rw [List.drop_eq_nil_of_le (by simpa using e1)]
    simp
theorem getD_mid (pre t:List Int) (x:Int):(pre ++ x :: t).getD pre.length 0=x:=by simp [List.getD]
theorem set_mid (pre t:List Int) (x y:Int):(pre ++ x :: t).set pre.length y=pre ++ y :: t:=by simp
theorem stepM_tail {ws:List (List ItemL)}:∀ (t pre:List Int),pre≠[]->stepM ws (pre.length + t.length - 1) (pre ++ t)=match nxtT ws pre.length t with | some t'=>pre ++ t' | none=>stepM ws (pre.length - 1) (pre ++ List.replicate t.length 0)
 | [],pre,_=>by simp [nxtT]
 | x :: t,pre,hp=>by
  have hpos:pre.length≠0:=fun h=>hp (List.length_eq_zero_iff.1 h)
  have ih:=stepM_tail (ws:=ws) t (pre ++ [x]) (by simp)
  have hl:(pre ++ [x]).length=pre.length + 1:=by simp
  rw [hl] at ih
  have e1:pre.length + (x :: t).length - 1=pre.length + 1 + t.length - 1:=by simp only [List.length_cons];omega
  have e2:pre ++ x :: t=(pre ++ [x]) ++ t:=by simp
  rw [e1,e2,ih]
  simp only [nxtT]
  cases hn:nxtT ws (pre.length + 1) t with
  | some t'=>simp
  | none=>
   simp only
   have e3:(pre ++ [x]) ++ List.replicate t.length 0=pre ++ x :: List.replicate t.length 0:=by simp
   have e4:pre.length + 1 - 1=pre.length:=by omega
   rw [e3,e4,stepM_pos ws hpos,getD_mid,set_mid,set_mid]
   by_cases hc:x + 1 < ((ws.getD pre.length []).length:Int)
   ·rw [if_pos hc,if_pos hc]
   ·rw [if_neg hc,if_neg hc]
    simp [List.replicate_succ]
theorem stepM_next {ws:List (List ItemL)} (x:Int) (t:List Int):match nxtT ws 0 (x :: t) with | some r=>stepM ws ((x :: t).length - 1) (x :: t)=r | none=>¬ x + 1 < ((ws.getD 0 []).length:Int)∧stepM ws ((x :: t).length - 1) (x :: t)=(x + 1) :: List.replicate t.length 0:=by
 have h:=stepM_tail (ws:=ws) t [x] (by simp)
 have e1:[x].length + t.length - 1=(x :: t).length - 1:=by simp only [List.length_cons,List.length_nil];omega
 have e2:[x] ++ t=x :: t:=rfl
 have e3:[x].length=0 + 1:=rfl
 rw [e1,e2,e3] at h
 simp only [nxtT]
 cases hn:nxtT ws (0 + 1) t with
 | some t'=>
  rw [hn] at h
  simpa using h
 | none=>
  rw [hn] at h
  simp only at h ⊢
  have h2:stepM ws (0 + 1 - 1) ([x] ++ List.replicate t.length 0)=(x + 1) :: List.replicate t.length 0:=by
   show stepM ws 0 (x :: List.replicate t.length 0)=_
   simp [stepM]
  rw [h2] at h
  by_cases hc:x + 1 < ((ws.getD 0 []).length:Int)
  ·rw [if_pos hc]
   exact h
  ·rw [if_neg hc]
   exact ⟨hc,h⟩
end Go.Proofs.YtpfhegengmlkmacGreatDoor
