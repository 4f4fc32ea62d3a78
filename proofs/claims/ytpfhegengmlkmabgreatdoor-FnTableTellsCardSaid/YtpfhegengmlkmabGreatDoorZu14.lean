/- Texts of this claim. -/
import Derived.Shelf.Strings.BuilderK
import Derived.Test.YtpfhegengmlkmabGreatDoorZu10
import Derived.Test.YtpfhegengmlkmabGreatDoorZu13
namespace Go.Proofs.YtpfhegengmlkmabGreatDoor
open Go.RowKit Go.BigFrame
set_option maxRecDepth 100000
theorem But.grown {R:Nat}{x w w':World}{row:Option Nat}(h:But R x w)(hg:w.grownBy w' row)(hr:∀k,row=some k->x.heap.size<=k):But R x w':=
 ⟨hg.os.trans h.os,hg.tape.trans h.tape,hg.output.trans h.output,Nat.le_trans h.size hg.size,fun k hk hn=>(hg.block k (Nat.lt_of_lt_of_le hk h.size) (fun e=>by have:=hr k e.symm;omega)).trans (h.block k hk hn)⟩
theorem Rd.grown {w w':World}{R n c p:Nat}{ab:Option Addr}{row:Option Nat}(h:Rd w R ab n c p)(hg:w.grownBy w' row)(hr:∀k,row=some k->R<k):Rd w' R ab n c p:=by
 have:=h.lt
 exact h.same fun k hk=>hg.block k (by omega) (fun e=>by have:=hr k e.symm;omega)
theorem KU (w:World)(x:Value)(t:TypeId):(w.alloc (.cells #[x] t)).cell? ⟨w.heap.size,0,none⟩=some x:=by simp[go_sem]
theorem xN {w w':World}{R B e size n:Nat}{v:Value}{xs:List Value}(h:w.ownsRow B e size v n xs)(hb:But R w w')(hR:R<B):w'.ownsRow B e size v n xs:=by
 obtain⟨hl,h|⟨g,cap,cur,hv,hgB,hh,r⟩⟩:=h
 ·exact⟨hl,.inl h⟩
 ·exact⟨hl,.inr ⟨g,cap,cur,hv,hgB,(hb.block g (Array.getElem?_eq_some_iff.1 hh).1 (by omega)).trans hh,r⟩⟩
theorem gV {w w':World}{B e size n:Nat}{v:Value}{xs:List Value}(h:w.ownsRow B e size v n xs)(hb:Below w.heap.size w w'):w'.ownsRow B e size v n xs:=by
 obtain⟨hl,h|⟨g,cap,cur,hv,hgB,hh,r⟩⟩:=h
 ·exact⟨hl,.inl h⟩
 ·exact⟨hl,.inr ⟨g,cap,cur,hv,hgB,(hb.block g (Array.getElem?_eq_some_iff.1 hh).1).trans hh,r⟩⟩
theorem xB {w:World}{B B' e size n:Nat}{v:Value}{xs:List Value}(h:w.ownsRow B e size v n xs)(hB:B'<=B):w.ownsRow B' e size v n xs:=by
 obtain⟨hl,h|⟨g,cap,cur,hv,hgB,r⟩⟩:=h
 ·exact⟨hl,.inl h⟩
 ·exact⟨hl,.inr ⟨g,cap,cur,hv,Nat.le_trans hB hgB,r⟩⟩
theorem fE {w:World}{B e t size n m b:Nat}{v:Value}{xs:List Value}{f:Nat->Value}(h:w.ownsRow B e size v n xs)(hr:w.rowIs b t m f)(hne:t≠e):some b≠v.ownBlock:=by
 intro q
 obtain⟨cs,h1,_⟩:=hr
 rcases h.2 with⟨rfl,_⟩|⟨g,cap,cur,rfl,_,hh,_⟩
 ·simp[Value.ownBlock]at q
 ·obtain rfl:b=g:=by simpa[Value.ownBlock]using q
  rw[h1]at hh
  simp at hh
  exact hne hh.2
theorem fH {w:World}{B e size n:Nat}{v:Value}{xs:List Value}(h:w.ownsRow B e size v n xs):∀k,v.ownBlock=some k->B<=k:=fun k q=>by
 rcases h.2 with⟨rfl,_⟩|⟨g,cap,cur,rfl,hle,_⟩
 ·cases q
 ·simp[Value.ownBlock]at q;omega
theorem IP {w:World}{B e n g cap:Nat}{xs:List Value}(h:w.ownsRow B e 1 (.slice (some ⟨g,0,none⟩) n cap) n xs):B<=g/\n<=cap/\∃m f,w.rowIs g e m f/\n<=m/\∀k u,xs[k]?=some u->f k=u:=by
 obtain⟨hl,h|⟨g2,cap2,cur,hv,hg,hh,hn,hc,hs,ht⟩⟩:=h
 ·simp at h
 ·obtain⟨⟨rfl⟩,rfl⟩:g=g2/\cap=cap2:=by simpa using hv
  refine⟨hg,hn,cap*1,fun i=>(cur[i]?).getD undef,⟨cur,hh,hs,fun i hi=>?_⟩,by omega,fun k u hk=>?_⟩
  ·have hi':i<cur.size:=by omega
   simp[Array.getElem?_eq_getElem hi']
  ·rw[<- ht]at hk
   have hkl:=(List.getElem?_eq_some_iff.1 hk).1
   rw[List.length_take]at hkl
   rw[List.getElem?_take_of_lt (by omega),Array.getElem?_toList]at hk
   simp only[hk,Option.getD_some]
theorem But.out {g R B:Nat}{w w':World}(h:But g w w')(hg:B<=g)(hB:B<=w.heap.size):jF R B w w':=⟨h.os,h.tape,h.output,h.size,fun k hk _=>h.block k (by omega) (by omega)⟩
theorem But.trans' {g R:Nat}{x y z:World}(h:But R x y)(k:But g y z)(hg:x.heap.size<=g):But R x z:=
 ⟨k.os.trans h.os,k.tape.trans h.tape,k.output.trans h.output,Nat.le_trans h.size k.size,fun i hi hn=>(k.block i (Nat.lt_of_lt_of_le hi h.size) (by omega)).trans (h.block i hi hn)⟩
theorem But.setOut {g R:Nat}{x w:World}(h:But R x w)(hg:x.heap.size<=g)(i:Nat)(v:Value):But R x (w.setCell ⟨g,i,none⟩ v):=
 h.trans' ((But.refl g w).setCell i v) hg
def Four (w:World)(g:Nat)(b:Int):Prop:=∃m f,w.rowIs g 3 m f/\4<=m/\∀j,j<4->∃v:Int,f j=.int .i64 v/\0<=v/\v<=b
theorem Four.lt {w:World}{g:Nat}{b:Int}(h:Four w g b):g<w.heap.size:=by
 obtain⟨m,f,h,_⟩:=h
 exact h.lt
theorem Four.of {w w':World}{g:Nat}{b:Int}(h:Four w g b)(hb:w'.heap[g]?=w.heap[g]?):Four w' g b:=by
 obtain⟨m,f,h,hf⟩:=h
 exact⟨m,f,h.of_block hb,hf⟩
theorem Four.below {w w':World}{g:Nat}{b:Int}(h:Four w g b)(hb:Below w.heap.size w w'):Four w' g b:=h.of (hb.block g h.lt)
theorem Four.but {w w':World}{R g:Nat}{b:Int}(h:Four w g b)(hb:But R w w')(hR:g≠R):Four w' g b:=h.of (hb.block g h.lt hR)
theorem Four.mono {w:World}{g:Nat}{b b':Int}(h:Four w g b)(hb:b<=b'):Four w g b':=by
 obtain⟨m,f,h,hm,hf⟩:=h
 refine⟨m,f,h,hm,fun j hj=>?_⟩
 obtain⟨v,e,h0,h1⟩:=hf j hj
 exact⟨v,e,h0,by omega⟩
theorem Four.cell {w:World}{g:Nat}{b:Int}(h:Four w g b){j:Nat}(hj:j<4):∃v:Int,w.cell? ⟨g,j,none⟩=some (.int .i64 v)/\0<=v/\v<=b:=by
 obtain⟨m,f,h,hm,hf⟩:=h
 obtain⟨v,e,h0,h1⟩:=hf j hj
 exact⟨v,by rw[h.cell (by omega),e],h0,h1⟩
theorem Four.free {w:World}{g:Nat}{b:Int}(h:Four w g b)(j:Nat):w.frozen? ⟨g,j,none⟩=false:=by
 obtain⟨m,f,h,_⟩:=h
 exact h.frozen j
theorem Four.set {w:World}{g:Nat}{b:Int}(h:Four w g b){k:Nat}{u:Int}(h0:0<=u)(h1:u<=b):Four (w.setCell ⟨g,k,none⟩ (.int .i64 u)) g b:=by
 obtain⟨m,f,h,hm,hf⟩:=h
 refine⟨m,_,h.set _ _,hm,fun j hj=>?_⟩
 by_cases e:j=k
 ·exact⟨u,if_pos e,h0,h1⟩
 ·obtain⟨v,q,q0,q1⟩:=hf j hj
  exact⟨v,(if_neg e).trans q,q0,q1⟩
theorem Four.grown {w w':World}{B e size n g:Nat}{b:Int}{v:Value}{xs:List Value}(h:Four w g b)(ho:w.ownsRow B e size v n xs)(hne:3≠e)(hg:w.grownBy w' v.ownBlock):Four w' g b:=by
 have hlt:=h.lt
 have h':=h
 obtain⟨m,f,hr,_⟩:=h
 exact h'.of (hg.block g hlt (fE ho hr hne))
set_option maxHeartbeats 1600000 in
theorem yY (g c:Nat)(x b:Int)(w:World)(h:Four w g b) :
  Calls Tryz.prog 30 #[.slice (some ⟨g,0,none⟩) 4 c,.int .i64 x] w fun e w'=>(∃v l,e=.returned v/\Mks w' w.heap.size v l/\l.length<=4)/\Below w.heap.size w w':=by
 obtain⟨i0,hi,hz0,hz1,hz2⟩:=info_parts Tryz.infoM
 go_enter Tryz.func30,Tryz.ntmps30
 go_wp2_with fail
 have hb0:Below w.heap.size w (w.alloc (.cells #[.string ⟨#[119]⟩,.string ⟨#[120]⟩,.string ⟨#[121]⟩,.string ⟨#[122]⟩] 9)):=(Below.refl _ _).alloc (Nat.le_refl _) _
 have hnm:∀k,k<4->∃s:ByteArray,(w.alloc (.cells #[.string ⟨#[119]⟩,.string ⟨#[120]⟩,.string ⟨#[121]⟩,.string ⟨#[122]⟩] 9)).cell? ⟨w.heap.size,k,none⟩=some (.string s)/\s.size<=8:=fun k hk=>by
  rcases(by omega:k=0∨k=1∨k=2∨k=3)with rfl|rfl|rfl|rfl <;> exact⟨_,by simp[go_sem];rfl,by decide⟩
 have hzz:=bP w (.cells #[.string ⟨#[119]⟩,.string ⟨#[120]⟩,.string ⟨#[121]⟩,.string ⟨#[122]⟩] 9)
 generalize (w.alloc (.cells #[.string ⟨#[119]⟩,.string ⟨#[120]⟩,.string ⟨#[121]⟩,.string ⟨#[122]⟩] 9))=W0 at *
 go_loopw [6,7] (fun out i wr=>∃(k:Nat) (o:List (ByteArray×Int)),k<=4/\i=.int .i64 k/\az wr W0.heap.size out o/\o.length<=k/\(o=[]->out=.slice none 0 0)/\(∀m∈o,m.1.size<=2000)/\Below W0.heap.size W0 wr) (fun _ i _=>4-(intOf i).toNat)
 case atStart=>exact⟨0,[],by omega,rfl,az.none _ _,by simp,fun _=>rfl,by simp,Below.refl _ _⟩
 case round=>
  obtain⟨k,o,hk,rfl,hg,hol,hnil,hsz,hb⟩:=hrel
  by_cases hlt:k<4
  ·obtain⟨nm,e0,hns⟩:=hnm k hlt
   obtain⟨v,e1,_,_⟩:=(h.below hb0).cell hlt
   have c0:=ae hb hzz e0
   have hgl:g<W0.heap.size:=Nat.lt_of_lt_of_le h.lt hb0.size
   have c1:=ae hb hgl e1
   have k0:(0:Int)<=(k:Int):=by omega
   have k1:(k:Int)<4:=by omega
   obtain⟨oa,oc,rfl,_⟩:=hg.shape
   have hzr:=hb.size
   go_wp2_with fail
   ·have SW:(wr.drew).cell? ⟨w.heap.size,k,none⟩=some (.string nm)/\(wr.drew).cell? ⟨g,k,none⟩=some (.int .i64 v):=⟨c0,c1⟩
    have hbd:Below wr.heap.size wr wr.drew:=(Below.refl _ _).drew
    refine wp_region_held_drew (S:=fun u=>u.cell? ⟨w.heap.size,k,none⟩=some (.string nm)/\u.cell? ⟨g,k,none⟩=some (.int .i64 v)) (by kernel_rfl) SW (fun _=>?_)
    refine wpAnyH_take (i:=0) (v:=.slice oa o.length oc) rfl (by kernel_rfl) (by kernel_rfl) (by kernel_rfl) (fun _ _ _ h=>h) (Or.inl ⟨by rfl, ?_⟩) SW ?_
    ·rintro u ⟨q1,q2⟩
     go_simp
    simp only[Act.put,List.setIfInBounds_toArray]
    refine wpAnyH_take (i:=1) (v:=.slice (some ⟨w.heap.size,0,none⟩) 4 4) rfl (by kernel_rfl) (by kernel_rfl) (by kernel_rfl) (fun _ _ _ h=>h) (Or.inl ⟨by rfl, ?_⟩) SW ?_
    ·rintro u ⟨q1,q2⟩
     go_simp
    simp only[Act.put]
    refine wpAnyH_take (i:=2) (v:=.int .i64 k) rfl (by kernel_rfl) (by kernel_rfl) (by kernel_rfl) (fun _ _ _ h=>h) (Or.inl ⟨by rfl, ?_⟩) SW ?_
    ·rintro u ⟨q1,q2⟩
     go_simp
    simp only[Act.put]
    refine wpAnyH_take (i:=3) (v:=.pointer (some ⟨w.heap.size,k,none⟩)) rfl (by kernel_rfl) (by kernel_rfl) (by kernel_rfl) (fun _ _ _ h=>h) (Or.inl ⟨by rfl, ?_⟩) SW ?_
    ·rintro u ⟨q1,q2⟩
     go_simp
    simp only[Act.put]
    refine wpAnyH_take (i:=4) (v:=.string nm) rfl (by kernel_rfl) (by kernel_rfl) (by kernel_rfl) (fun _ _ _ h=>h) (Or.inl ⟨by rfl, ?_⟩) SW ?_
    ·rintro u ⟨q1,q2⟩
     go_simp
    simp only[Act.put]
    refine wpAnyH_take (i:=5) (v:=.slice (some ⟨g,0,none⟩) 4 c) rfl (by kernel_rfl) (by kernel_rfl) (by kernel_rfl) (fun _ _ _ h=>h) (Or.inl ⟨by rfl, ?_⟩) SW ?_
    ·rintro u ⟨q1,q2⟩
     go_simp
    simp only[Act.put]
    refine wpAnyH_take (i:=6) (v:=.int .i64 k) rfl (by kernel_rfl) (by kernel_rfl) (by kernel_rfl) (fun _ _ _ h=>h) (Or.inl ⟨by rfl, ?_⟩) SW ?_
    ·rintro u ⟨q1,q2⟩
     go_simp
    simp only[Act.put]
    refine wpAnyH_take (i:=7) (v:=.pointer (some ⟨g,k,none⟩)) rfl (by kernel_rfl) (by kernel_rfl) (by kernel_rfl) (fun _ _ _ h=>h) (Or.inl ⟨by rfl, ?_⟩) SW ?_
    ·rintro u ⟨q1,q2⟩
     go_simp
    simp only[Act.put]
    refine wpAnyH_take (i:=8) (v:=.int .i64 v) rfl (by kernel_rfl) (by kernel_rfl) (by kernel_rfl) (fun _ _ _ h=>h) (Or.inl ⟨by rfl, ?_⟩) SW ?_
    ·rintro u ⟨q1,q2⟩
     go_simp
    simp only[Act.put]
    refine wpAnyH_take (i:=9) (v:=.agg #[.string nm,.int .i64 v]) rfl (by kernel_rfl) (by kernel_rfl) (by kernel_rfl) (fun _ _ _ h=>h) (Or.inl ⟨by rfl, ?_⟩) SW ?_
    ·rintro u ⟨q1,q2⟩
     go_simp
    simp only[Act.put]
    refine wpAnyH_ready (rs:=[10]) (by kernel_rfl) (by simp) ?_
    refine AllReadyH.cons rfl (fun K hK=>?_) AllReadyH.nil
    rw[if_pos (by rfl)]
    go_simp
    have b2:Below wr.heap.size wr (wr.drew.alloc (.cells #[.string nm,.int .i64 v] 54)):=hbd.alloc hbd.size _
    have B2:Below W0.heap.size W0 (wr.drew.alloc (.cells #[.string nm,.int .i64 v] 54)):=hb.trans (b2.mono hzr)
    have S2:(wr.drew.alloc (.cells #[.string nm,.int .i64 v] 54)).cell? ⟨w.heap.size,k,none⟩=some (.string nm)/\(wr.drew.alloc (.cells #[.string nm,.int .i64 v] 54)).cell? ⟨g,k,none⟩=some (.int .i64 v):=⟨ae B2 hzz e0,ae B2 hgl e1⟩
    refine hK.out _ _ S2 (fun _=>?_)
    clear hK K SW
    refine wpAnyH_ready (rs:=[11]) (by kernel_rfl) (by simp) ?_
    refine AllReadyH.cons rfl (fun K hK=>?_) AllReadyH.nil
    rw[if_pos (by rfl)]
    refine dF _ _ rfl W0.heap.size _ o rfl (hg.keep b2) hnil ⟨wr.heap.size,0,none⟩ (nm,v) rfl (box0 wr.drew _ _ _) (by simp[Addr.add,go_sem]) (by omega) B2.size ?_
    intro v3 w3 hg3 ha3
    have B3:=ha3.below B2 (Nat.le_refl _) B2.size
    have S3:w3.cell? ⟨w.heap.size,k,none⟩=some (.string nm)/\w3.cell? ⟨g,k,none⟩=some (.int .i64 v):=⟨ae B3 hzz e0,ae B3 hgl e1⟩
    refine hK.out _ _ S3 (fun _=>?_)
    clear hK K
    refine wpAnyH_ready (rs:=[12]) (by kernel_rfl) (by simp) ?_
    refine AllReadyH.cons rfl (fun K hK=>?_) AllReadyH.nil
    rw[if_pos (by rfl)]
    go_simp
    refine hK.out _ _ S3 (fun _=>?_)
    clear hK K
    refine wpAnyH_done (by kernel_rfl) ?_ _
    go_wp2_with fail
    exact⟨⟨k+1,o++[(nm,v)],by omega,by go_num,hg3,by simp;omega,by simp,fun m hm=>(List.mem_append.1 hm).elim (hsz m) fun e=>by simp at e;subst e;simp only;omega,B3⟩,by simp[intOf];omega⟩
   ·exact⟨⟨k+1,o,by omega,by go_num,hg,by omega,hnil,hsz,hb⟩,by simp[intOf];omega⟩
  ·have B:Below w.heap.size w wr:=hb0.trans (hb.mono hb0.size)
   have hz0:=hb0.size
   go_wp2_with fail
   go_ret
   exact⟨⟨_,o,rfl,⟨hg.lower hz0,by omega,hsz⟩,by omega⟩,B⟩
def iY (w:World)(B:Nat)(v:Value)(L:List (Nat×Nat)):Prop:=w.ownsRow B 41 1 v L.length (L.map fun p=>.slice (some ⟨p.1,0,none⟩) 4 p.2)/\∀p∈L,B<=p.1/\Four w p.1 1000/\4<=p.2
theorem iY.but {w w':World}{R B:Nat}{v:Value}{L:List (Nat×Nat)}(h:iY w B v L)(hb:But R w w')(hR:R<B):iY w' B v L:=
 ⟨xN h.1 hb hR,fun p hp=>⟨(h.2 p hp).1,(h.2 p hp).2.1.but hb (by have:=(h.2 p hp).1;omega),(h.2 p hp).2.2⟩⟩
theorem iY.keep {w w':World}{B:Nat}{v:Value}{L:List (Nat×Nat)}(h:iY w B v L)(hb:Below w.heap.size w w'):iY w' B v L:=
 ⟨gV h.1 hb,fun p hp=>⟨(h.2 p hp).1,(h.2 p hp).2.1.below hb,(h.2 p hp).2.2⟩⟩
theorem iY.upto {w w':World}{R B:Nat}{v:Value}{L:List (Nat×Nat)}(h:iY w B v L)(hb:jF R w.heap.size w w')(hR:R<B):iY w' B v L:=h.but hb.but hR
theorem iY.snoc {w w':World}{B g c:Nat}{v v':Value}{L:List (Nat×Nat)}(h:iY w B v L)(hB:B<=g)(hf:Four w g 1000)(hc:4<=c)(ho:w'.ownsRow B 41 1 v' (L.length+1) ((L.map fun p=>.slice (some ⟨p.1,0,none⟩) 4 p.2)++[.slice (some ⟨g,0,none⟩) 4 c]))(hg:w.grownBy w' v.ownBlock):iY w' B v' (L++[(g,c)]):=by
 refine⟨?_,fun p hp=>?_⟩
 ·rw[List.map_append,List.length_append]
  exact ho
 ·rcases List.mem_append.1 hp with hp|hp
  ·obtain⟨h1,h2,h3⟩:=h.2 p hp
   exact⟨h1,h2.grown h.1 (by decide) hg,h3⟩
  ·obtain rfl:p=(g,c):=by simpa using hp
   exact⟨hB,hf.grown h.1 (by decide) hg,hc⟩
theorem Tryz.infoIS:(Tryz.prog.info? 41).map (fun i=>(i.zero,i.size,i.bytes))=some (some (.slice none 0 0),1,24):=by kernel_rfl
theorem Tryz.infoZZ:(Tryz.prog.info? 3).map (fun i=>(i.zero,i.size,i.bytes))=some (some (.int .i64 0),1,8):=by kernel_rfl
set_option maxHeartbeats 1600000 in
theorem Cf (R n c p:Nat)(ab:Option Addr)(N:Nat)(w:World)(hr:Rd w R ab n c p)(hp:p<=80000)(hN0:1<=N)(hN1:N<=100) :
  Calls Tryz.prog 29 #[.pointer (some ⟨R,0,none⟩),.int .i64 N] w fun e w'=>(∃v L p',e=.returned v/\iY w' w.heap.size v L/\L.length=N/\Rd w' R ab n c p'/\p'<=p+N)/\But R w w':=by
 obtain⟨i0,hi,hz0,hz1,hz2⟩:=info_parts Tryz.infoIS
 obtain⟨j0,hj,hy0,hy1,hy2⟩:=info_parts Tryz.infoZZ
 have hR:=hr.lt
 go_enter Tryz.func29,Tryz.ntmps29
 go_wp2_with fail
 have hb0:Below w.heap.size w ((w.alloc (.cells #[.int .i64 1,.int .i64 1,.int .i64 1,.int .i64 1] 3)).alloc (.cells #[.slice (some ⟨w.heap.size,0,none⟩) 4 4] 41)):=((Below.refl _ _).alloc (Nat.le_refl _) _).alloc (by simp) _
 have hf0:Four ((w.alloc (.cells #[.int .i64 1,.int .i64 1,.int .i64 1,.int .i64 1] 3)).alloc (.cells #[.slice (some ⟨w.heap.size,0,none⟩) 4 4] 41)) w.heap.size 1:=Four.below (w:=w.alloc (.cells #[.int .i64 1,.int .i64 1,.int .i64 1,.int .i64 1] 3)) ⟨4,fun _=>.int .i64 1,World.rowIs_alloc w #[.int .i64 1,.int .i64 1,.int .i64 1,.int .i64 1] 3 _ (fun i hi=>by
   have hi':i<4:=hi
   rcases(by omega:i=0∨i=1∨i=2∨i=3)with rfl|rfl|rfl|rfl <;> rfl),Nat.le_refl _,fun j _=>⟨1,rfl,by omega,by omega⟩⟩ ((Below.refl _ _).alloc (Nat.le_refl _) _)
 have hg0:iY ((w.alloc (.cells #[.int .i64 1,.int .i64 1,.int .i64 1,.int .i64 1] 3)).alloc (.cells #[.slice (some ⟨w.heap.size,0,none⟩) 4 4] 41)) w.heap.size (.slice (some ⟨w.heap.size+1,0,none⟩) 1 1) [(w.heap.size,4)]:=
  ⟨⟨rfl,.inr ⟨w.heap.size+1,1,#[.slice (some ⟨w.heap.size,0,none⟩) 4 4],rfl,Nat.le_succ _,by
   have q:=heap_alloc_new (w.alloc (.cells #[.int .i64 1,.int .i64 1,.int .i64 1,.int .i64 1] 3)) (.cells #[.slice (some ⟨w.heap.size,0,none⟩) 4 4] 41)
   simpa using q,Nat.le_refl _,by unfold maxLen;omega,rfl,rfl⟩⟩,fun p hp=>by
    obtain rfl:p=(w.heap.size,4):=by simpa using hp
    exact⟨Nat.le_refl _,hf0.mono (by omega),Nat.le_refl _⟩⟩
 have hr0:=hr.below hb0
 generalize ((w.alloc (.cells #[.int .i64 1,.int .i64 1,.int .i64 1,.int .i64 1] 3)).alloc (.cells #[.slice (some ⟨w.heap.size,0,none⟩) 4 4] 41))=W0 at *
 have hB0:But R w W0:=But.of_below hb0
 clear hb0 hr
 go_loopw [5,6,7] (fun at' out i wr=>∃(k p' ga ca:Nat) (L:List (Nat×Nat)),1<=k/\k<=N/\i=.int .i64 k/\at'=.slice (some ⟨ga,0,none⟩) 4 ca/\w.heap.size<=ga/\Four wr ga k/\iY wr w.heap.size out L/\L.length=k/\Rd wr R ab n c p'/\p'+1<=p+k/\But R w wr) (fun _ _ i _=>N-(intOf i).toNat)
 case atStart=>exact⟨1,p,_,4,_,Nat.le_refl _,hN0,rfl,rfl,Nat.le_refl _,hf0,hg0,rfl,hr0,by omega,hB0⟩
 case round=>
  obtain⟨k,p',ga,ca,L,hk1,hkN,rfl,rfl,hga,hfa,hg,hLl,hrr,hpp,hb⟩:=hrel
  by_cases hlt:k<N
  ·clear hf0 hg0 hr0 hB0
   have hzr:=hb.size
   obtain⟨v0,e0,v00,v01⟩:=hfa.cell (j:=0) (by omega)
   obtain⟨v1,e1,v10,v11⟩:=hfa.cell (j:=1) (by omega)
   obtain⟨v2,e2,v20,v21⟩:=hfa.cell (j:=2) (by omega)
   obtain⟨v3,e3,v30,v31⟩:=hfa.cell (j:=3) (by omega)
   have hbx:Below wr.heap.size wr (wr.alloc (.cells #[] 3)):=(Below.refl _ _).alloc (Nat.le_refl _) _
   have hox:(wr.alloc (.cells #[] 3)).ownsRow wr.heap.size 3 1 (.slice (some ⟨wr.heap.size,0,none⟩) 0 0) 0 []:=⟨rfl,.inr ⟨wr.heap.size,0,#[],rfl,Nat.le_refl _,heap_alloc_new wr _,Nat.le_refl _,Nat.zero_le _,rfl,rfl⟩⟩
   have hlg:=hfa.lt
   go_wp2_with (at_builtin;refine wpList_append_lies _ rfl _ _ 41 rfl wr.heap.size 3 j0 (.int .i64 0) 1 8 Tryz.underlying41 hj hy0 hy1 hy2 rfl (by decide) _ _ _ rfl hox ⟨ga,0,none⟩ 4 ca [.int .i64 v0,.int .i64 v1,.int .i64 v2,.int .i64 v3] rfl rfl (fun j u hu=>by
     match j,hu with
     |0,hu=>simp at hu;subst hu;exact ae hbx hlg e0
     |1,hu=>simp at hu;subst hu;exact ae hbx hlg e1
     |2,hu=>simp at hu;subst hu;exact ae hbx hlg e2
     |3,hu=>simp at hu;subst hu;exact ae hbx hlg e3) (by simp[Value.oneCell']) (by decide) (by unfold maxLen;omega) (by omega) (by simp) _ rfl ?_;intro gn cn w1 hown hgrow _ _)
   have b1:Below wr.heap.size wr w1:=hbx.grown hgrow (by simp) (fH hox)
   obtain⟨hgn,hcn,m1,f1,hr1,hm1,hf1⟩:=IP hown
   have hF1:Four w1 gn k:=⟨m1,f1,hr1,hm1,fun j hj=>by
    rcases(by omega:j=0∨j=1∨j=2∨j=3)with rfl|rfl|rfl|rfl
    ·exact⟨v0,hf1 0 _ rfl,v00,v01⟩
    ·exact⟨v1,hf1 1 _ rfl,v10,v11⟩
    ·exact⟨v2,hf1 2 _ rfl,v20,v21⟩
    ·exact⟨v3,hf1 3 _ rfl,v30,v31⟩⟩
   have yz1:=b1.size
   have hRr:R<wr.heap.size:=hrr.lt
   have hb1:But R w w1:=hb.trans (But.of_below b1)
   have hg1:=hg.keep b1
   have hr1':=hrr.below b1
   have U1:jF R wr.heap.size wr w1:=uZ b1
   clear hown hgrow hr1 hf1 hm1 e0 e1 e2 e3 hox hbx hrr b1 hfa
   refine(pick_any R n c p' ab 4 w1 hr1' (by omega) (by omega) (by omega)).mono ?_
   rintro e w2 ⟨⟨y,rfl,hy0',hy1'⟩,hr2,hb2⟩
   obtain⟨j,rfl⟩:=Int.eq_ofNat_of_zero_le hy0'
   have hF2:=hF1.but hb2 (by omega)
   have hB2:=hb1.trans hb2
   have U2:jF R wr.heap.size wr w2:=U1.trans (hb2.upto yz1)
   have hj4:j<4:=by omega
   obtain⟨u,c2,hu0,hu1⟩:=hF2.cell hj4
   have fr2:=hF2.free j
   have yz2:=U2.size
   have hF3:Four (w2.setCell ⟨gn,j,none⟩ (.int .i64 (u+1))) gn ((k+1:Nat):Int):=(hF2.mono (by omega)).set (by omega) (by omega)
   have hB3:But R w (w2.setCell ⟨gn,j,none⟩ (.int .i64 (u+1))):=hB2.setOut (by omega) _ _
   have U3:jF R wr.heap.size wr (w2.setCell ⟨gn,j,none⟩ (.int .i64 (u+1))):=U2.trans (((But.refl gn w2).setCell _ _).out hgn yz2)
   have hr3:Rd (w2.setCell ⟨gn,j,none⟩ (.int .i64 (u+1))) R ab n c (p'+1):=hr2.same fun q hq=>Below.heap_setCell _ _ _ _ (by simp only;omega)
   have hbz:Below (w2.setCell ⟨gn,j,none⟩ (.int .i64 (u+1))).heap.size (w2.setCell ⟨gn,j,none⟩ (.int .i64 (u+1))) ((w2.setCell ⟨gn,j,none⟩ (.int .i64 (u+1))).alloc (.cells #[.slice (some ⟨gn,0,none⟩) 4 cn] 41)):=(Below.refl _ _).alloc (Nat.le_refl _) _
   have hF4:=hF3.below hbz
   have hB4:But R w ((w2.setCell ⟨gn,j,none⟩ (.int .i64 (u+1))).alloc (.cells #[.slice (some ⟨gn,0,none⟩) 4 cn] 41)):=hB3.trans (But.of_below hbz)
   have hg4:iY ((w2.setCell ⟨gn,j,none⟩ (.int .i64 (u+1))).alloc (.cells #[.slice (some ⟨gn,0,none⟩) 4 cn] 41)) w.heap.size u6 L:=(hg.upto U3 hR).keep hbz
   have hr4:=hr3.below hbz
   have hsz:(w2.setCell ⟨gn,j,none⟩ (.int .i64 (u+1))).heap.size=w2.heap.size:=by simp[World.setCell]
   have k0:(0:Int)<=(j:Int):=by omega
   have cz:((w2.setCell ⟨gn,j,none⟩ (.int .i64 (u+1))).alloc (.cells #[.slice (some ⟨gn,0,none⟩) 4 cn] 41)).cell? ⟨w2.heap.size,0,none⟩=some (.slice (some ⟨gn,0,none⟩) 4 cn):=by
    have q:=KU (w2.setCell ⟨gn,j,none⟩ (.int .i64 (u+1))) (.slice (some ⟨gn,0,none⟩) 4 cn) 41
    rw[hsz]at q
    exact q
   have HP:Hid _:=And.intro hF4 (And.intro hB4 (And.intro hg4 (And.intro hr4 cz)))
   clear hF1 hF2 hF3 hB2 hB3 U1 U2 U3 hr2 hr3 hg hg1 hb hb1 hb2 hr1' hbz hF4 hB4 hg4 hr4 cz
   go_wp2_with (at_builtin;refine wpList_append_lies _ rfl _ _ 78 rfl w.heap.size 41 i0 (.slice none 0 0) 1 24 Tryz.underlying78 hi hz0 hz1 hz2 rfl (by decide) _ _ _ rfl HP.out.2.2.1.1 ⟨w2.heap.size,0,none⟩ 1 1 [.slice (some ⟨gn,0,none⟩) 4 cn] rfl rfl (fun j u hu=>by
     match j,hu with
     |0,hu=>simp at hu;subst hu;exact HP.out.2.2.2.2) (by simp[Value.oneCell']) (by decide) (by unfold maxLen;omega) (by omega) (by have:=HP.out.2.1.size;omega) _ rfl ?_;intro g5 c5 w5 hown5 hgrow5 _ _)
   obtain⟨hF4,hB4,hg4,hr4,_⟩:=HP.out
   have hF5:=hF4.grown hg4.1 (by decide) hgrow5
   have hg5:=hg4.snoc (by omega) (hF4.mono (by omega)) hcn hown5 hgrow5
   have hB5:But R w w5:=hB4.grown hgrow5 (fH hg4.1)
   have hr5:=hr4.grown hgrow5 (fun q e=>by have:=fH hg4.1 q e;omega)
   rw[hLl]at hg5
   exact⟨⟨k+1,p'+1,gn,cn,L++[(gn,cn)],by omega,by omega,by go_num,rfl,by omega,hF5,hg5,by simp[hLl],hr5,by omega,hB5⟩,by simp[intOf];omega⟩
  ·have hLN:L.length=N:=by omega
   go_wp2_with fail
   go_ret
   exact⟨⟨_,L,p',rfl,hg,hLN,hrr,by omega⟩,hb⟩
theorem qY {P:Program}(w:World)(base:Nat)(t u ty e:TypeId)(i:TypeInfo)(ht:P.underlying t=some (.slice e))(hu:P.underlying u=some .string)(hi:P.info? e=some i)(hz:i.zero=some (.int .u8 0))
  (hsize:i.size=1) (hby:i.bytes=1) (v:Value) (n:Nat) (xs:List Value) (hown:w.ownsRow base e 1 v n xs) (s:ByteArray) (h63:n+s.size<=maxLen) (hbytes:n+s.size<=140737488355328) (hbase:base<=w.heap.size) :
  ∃v' w',(Builtin.append_ #[t,u] ty #[v,.string s]).run P w=.ok v' w'/\w'.ownsRow base e 1 v' (n+s.size) (xs++Lib.strCells s)/\w.grownBy w' v.ownBlock/\(∀k,v'.ownBlock=some k->v.ownBlock=some k∨w.heap.size<=k):=by
 obtain⟨v',w',hr,h2,h3,h4⟩:=Lib.run_append_own_string (P:=P) w base t u ty e i ht hu hi hz hsize hby v n xs hown s h63 hbytes hbase
 refine⟨v',w',hr,h2,h3,fun k hk=>?_⟩
 rcases hown.2 with⟨rfl,rfl⟩|⟨g,cap,cur,rfl,hbg,hg,hnc,hcm,hcs,htake⟩
 ·obtain⟨v2,w2,hr2,k2,_,_⟩:=Lib.run_append_own_string (P:=P) w w.heap.size t u ty e i ht hu hi hz hsize hby (.slice none 0 0) 0 xs ⟨hown.1,.inl ⟨rfl,rfl⟩⟩ s h63 hbytes (Nat.le_refl _)
  rw[hr]at hr2
  obtain⟨rfl,rfl⟩:v'=v2/\w'=w2:=by simpa using hr2
  rcases k2.2 with⟨rfl,_⟩|⟨g,cap,cur,rfl,hbg,_⟩
  ·simp[Value.ownBlock]at hk
  ·right
   have:g=k:=by simpa[Value.ownBlock]using hk
   omega
 ·by_cases hroom:n+s.size<=cap
  ·have hr2:=Lib.run_append_room_string (P:=P) w t u ty e i ht hu hi hsize g n cap cur hg s hroom (by simp at hcs;omega)
   rw[hr]at hr2
   obtain⟨rfl,_⟩:v'=_/\w'=_:=by simpa using hr2
   left
   simpa[Value.ownBlock]using hk
  ·have hxl:xs.length=n:=by simpa using hown.1
   have holds:∀j u,xs[j]?=some u->w.cell? ((⟨g,0,none⟩:Addr).add j)=some u:=hown.cells (g:=g) rfl
   have hr2:=Lib.run_append_grow_string (P:=P) w t u ty e i (.int .u8 0) ht hu hi hz ⟨g,0,none⟩ n cap xs (by rw[hsize];simpa using hxl) holds s (by omega) (by simp only[maxLen]at h63;omega) (by rw[hby];exact growslice_fits (by omega) (by omega))
   rw[hr]at hr2
   obtain⟨rfl,_⟩:v'=_/\w'=_:=by simpa using hr2
   right
   have:w.heap.size=k:=by simpa[Value.ownBlock]using hk
   omega
theorem nH {P:Program}{w:World}{ops:Array Oper}{rest:List Oper}{o:Oper}{a:Act}{Q:Exit->Act->World->Prop}(hgd:o.guard=none)(sl x:Operand)(t u:TypeId)
  (ho:o.op=.call { callee:=.builtin .append,args:=#[sl,x],argTypes:=#[t,u] })
  (base:Nat) (e:TypeId) (i:TypeInfo) (ht:P.underlying t=some (.slice e)) (hu:P.underlying u=some .string) (hi:P.info? e=some i) (hz:i.zero=some (.int .u8 0)) (hsize:i.size=1) (hby:i.bytes=1)
  (v:Value) (n:Nat) (xs:List Value) (hs:a.eval sl=v) (hown:w.ownsRow base e 1 v n xs) (s:ByteArray) (hx:a.eval x=.string s) (h63:n+s.size<=maxLen) (hbytes:n+s.size<=140737488355328) (hbase:base<=w.heap.size)
  (h:∀v' w',w'.ownsRow base e 1 v' (n+s.size) (xs++Lib.strCells s)->w.grownBy w' v.ownBlock->(∀k,v'.ownBlock=some k->v.ownBlock=some k∨w.heap.size<=k)->wpList P ops Q rest (a.put o.dst v') w'):wpList P ops Q (o::rest) a w:=by
 refine wpList_plain hgd fun K hK=>?_
 obtain⟨v',w',hr,h2,h3,h4⟩:=qY (P:=P) w base t u o.type e i ht hu hi hz hsize hby v n xs hown s h63 hbytes hbase
 unfold Oper.wp execOp
 simp only[ho,resolve,invoke,builtin,Sem.run_bind,Sem.run_pure,Result.andThen_ok,List.map_toArray,List.map_cons,List.map_nil,hs,hx,hr]
 exact hK _ _ (h v' w' h2 h3 h4)
structure BJ (B:Nat) (w:World) (b:Nat) (v:Value) (o:List UInt8):Prop where
 ge:B<=b
 box:∃p,(p=.pointer none∨p=.pointer (some ⟨b,0,none⟩))/\w.heap[b]?=some (.cells #[p,v] 61 (0,0))
 own:w.ownsRow B 5 1 v o.length (Lib.byteCells o)
 ne:v.ownBlock≠some b
theorem BJ.row {B:Nat}{w:World}{b:Nat}{v:Value}{o:List UInt8}(h:BJ B w b v o):∀k,v.ownBlock=some k->B<=k/\k<w.heap.size:=fun k e=>by
 have h1:=aN h.own k e
 obtain⟨_,h2|⟨g,cap,cur,hv,_,hg,_⟩⟩:=h.own
 ·rw[h2.1]at e;cases e
 ·subst hv
  have:g=k:=by simpa[Value.ownBlock]using e
  subst this
  exact⟨h1,(Array.getElem?_eq_some_iff.1 hg).1⟩
structure JE (B:Nat) (w w':World) (b:Nat) (v v':Value) (o:List UInt8):Prop where
 bui:BJ B w' b v' o
 size:w.heap.size<=w'.heap.size
 keep:∀k,k<w.heap.size->k≠b->v.ownBlock≠some k->w'.heap[k]?=w.heap[k]?
 at_:∀k,v'.ownBlock=some k->v.ownBlock=some k∨w.heap.size<=k
 bel:Below B w w'
theorem vG {w w':World}{B:Nat}{e:TypeId}{v:Value}{n:Nat}{xs:List Value}(h:w.ownsRow B e 1 v n xs)(hb:∀k,v.ownBlock=some k->w'.heap[k]?=w.heap[k]?):w'.ownsRow B e 1 v n xs:=by
 obtain⟨h1,h2|⟨g,cap,cur,rfl,h3,hg,hr⟩⟩:=h
 ·exact⟨h1,.inl h2⟩
 ·exact⟨h1,.inr ⟨g,cap,cur,rfl,h3,by rw[hb g rfl];exact hg,hr⟩⟩
theorem iP (w:World)(b i k:Nat)(v:Value)(h:k≠b):(w.setCell ⟨b,i,none⟩ v).heap[k]?=w.heap[k]?:=Below.heap_setCell _ _ _ _ (fun e=>h e)
structure NP (B:Nat) (w w':World) (b:Nat) (v:Value) (o:List UInt8):Prop where
 box:w'.heap[b]?=some (.cells #[.pointer (some ⟨b,0,none⟩),v] 61 (0,0))
 own:w'.ownsRow B 5 1 v o.length (Lib.byteCells o)
 size:w'.heap.size=w.heap.size
 keep:∀k,k≠b->w'.heap[k]?=w.heap[k]?
 bel:Below B w w'
theorem check_any (B b:Nat)(v:Value)(o:List UInt8)(w:World)(h:BJ B w b v o) :
  Calls Tryz.prog 36 #[.pointer (some ⟨b,0,none⟩)] w fun e w'=>e=.returned (.tuple #[])/\NP B w w' b v o:=by
 obtain⟨p,hp,hb⟩:=h.box
 have c0:w.cell? ⟨b,0,none⟩=some p:=by rw[Lib.cell_of_heap hb];rfl
 rcases hp with rfl|rfl
 ·have f0:w.frozen? ⟨b,0,none⟩=false:=Lib.frozen_of_heap hb 0
  have hsh:w.shape? b=some (61,2):=by simp[World.shape?,hb]
  refine(Any.Builder_copyCheck_fresh { Tryz.lays156 with } Tryz.Builder_Extra_156.toX72 b w c0 hsh f0).mono ?_
  rintro e w' ⟨rfl,rfl⟩
  refine⟨rfl,⟨?_,vG h.own fun k hk=>iP _ _ _ _ _ (fun e=>h.ne (e ▸ hk)),by simp[World.setCell],fun k hk=>iP _ _ _ _ _ hk,(Below.refl B w).setCell (p:=⟨b,0,none⟩) h.ge _⟩⟩
  simp[World.setCell,Array.getElem?_modify,hb]
 ·refine(Any.Builder_copyCheck_used { Tryz.lays156 with } Tryz.Builder_Extra_156.toX72 b w c0).mono ?_
  rintro e w' ⟨rfl,rfl⟩
  exact⟨rfl,⟨hb,h.own,rfl,fun _ _=>rfl,Below.refl B _⟩⟩
set_option maxHeartbeats 1600000 in
theorem write_any (B b:Nat)(v:Value)(o:List UInt8)(s:ByteArray)(w:World)(h:BJ B w b v o)(hl:o.length+s.size<=1000000)(hB:B<=w.heap.size) :
  Calls Tryz.prog 21 #[.pointer (some ⟨b,0,none⟩),.string s] w fun e w'=>e=.returned (.tuple #[.int .i64 s.size,.nilIface])/\∃v',JE B w w' b v v' (o++bl s):=by
 obtain⟨i0,hi,hz0,hz1,hz2⟩:=info_parts Tryz.Builder_Extra_156.infoByte
 go_enter Tryz.func21,Tryz.ntmps21
 go_wp2_with (go_at_call 36;refine(check_any B b v o _ h).mono ?_)
 rintro e w1 ⟨rfl,hc⟩
 have hlt:b<w1.heap.size:=(Array.getElem?_eq_some_iff.1 hc.box).1
 have c0:w1.cell? ⟨b,0,none⟩=some (.pointer (some ⟨b,0,none⟩)):=by rw[Lib.cell_of_heap hc.box];rfl
 have c1:w1.cell? ⟨b,1,none⟩=some v:=by rw[Lib.cell_of_heap hc.box];rfl
 have hB1:B<=w1.heap.size:=by rw[hc.size];exact hB
 have HC:Hid (NP B w w1 b v o):=hc
 have hown:=hc.own
 clear hc
 go_wp2_with (at_builtin;refine nH rfl _ _ 22 9 rfl B 5 i0 Tryz.underlying22 Tryz.underlying9 hi hz0 hz1 hz2 _ _ _ rfl hown s rfl (by unfold maxLen;omega) (by omega) hB1 ?_)
 intro v' w2 hown' hgrow hat
 have hc:=HC.out
 have hb2:w2.heap[b]?=some (.cells #[.pointer (some ⟨b,0,none⟩),v] 61 (0,0)):=by
  rw[hgrow.block b hlt (fun e=>h.ne e.symm)]
  exact hc.box
 have d0:w2.cell? ⟨b,0,none⟩=some (.pointer (some ⟨b,0,none⟩)):=by rw[Lib.cell_of_heap hb2];rfl
 have d1:w2.cell? ⟨b,1,none⟩=some v:=by rw[Lib.cell_of_heap hb2];rfl
 have f1:w2.frozen? ⟨b,1,none⟩=false:=Lib.frozen_of_heap hb2 1
 have hne:v'.ownBlock≠some b:=fun e=>by
  rcases hat b e with h1|h1
  ·exact h.ne h1
  ·omega
 have HE:Hid (JE B w (w2.setCell ⟨b,1,none⟩ v') b v v' (o++bl s)):=by
  refine⟨⟨h.ge,⟨_,.inr rfl, ?_⟩,vG (w:=w2) ?_ fun k hk=>iP _ _ _ _ _ (fun e=>hne (e ▸ hk)),hne⟩, ?_,fun k hk hkb hkv=>?_,fun k hk=>?_, ?_⟩
  ·simp[World.setCell,Array.getElem?_modify,hb2]
  ·have e:Lib.byteCells (o++bl s)=Lib.byteCells o++Lib.strCells s:=Lib.byteCells_append _ _
   rw[e,List.length_append,ak]
   exact hown'
  ·have:=hgrow.size
   have:=hc.size
   simp[World.setCell];omega
  ·rw[iP _ _ _ _ _ hkb,hgrow.block k (by rw[hc.size];exact hk) (fun e=>hkv e.symm),hc.keep k hkb]
  ·rcases hat k hk with h1|h1
   ·exact .inl h1
   ·exact .inr (by rw[<- hc.size];exact h1)
  ·exact(hc.bel.grown hgrow hB1 (aN hown)).setCell (p:=⟨b,1,none⟩) h.ge _
 obtain⟨ao,n',cap,rfl⟩:∃ao n' cap,v'=.slice ao n' cap:=by
  rcases hown'.2 with⟨hv,_⟩|⟨g,cap,cur,hv,_⟩
  ·exact⟨_,_,_,hv⟩
  ·exact⟨_,_,_,hv⟩
 clear hc hown' hgrow hat hown HC hb2
 go_wp2_with fail
 go_ret2
 exact⟨rfl,_,HE.out⟩
set_option maxHeartbeats 1600000 in
theorem EX (B b:Nat)(v:Value)(o:List UInt8)(w:World)(h:BJ B w b v o)(hl:o.length+1<=1000000)(hB:B<=w.heap.size) :
  Calls Tryz.prog 23 #[.pointer (some ⟨b,0,none⟩),.int .u8 10] w fun e w'=>e=.returned .nilIface/\∃v',JE B w w' b v v' (o++[10]):=by
 obtain⟨i0,hi,hz0,hz1,hz2⟩:=info_parts Tryz.Builder_Extra_156.infoByte
 go_enter Tryz.func23,Tryz.ntmps23
 go_wp2_with (go_at_call 36;refine(check_any B b v o _ h).mono ?_)
 rintro e w1 ⟨rfl,hc⟩
 have hlt:b<w1.heap.size:=(Array.getElem?_eq_some_iff.1 hc.box).1
 have c0:w1.cell? ⟨b,0,none⟩=some (.pointer (some ⟨b,0,none⟩)):=by rw[Lib.cell_of_heap hc.box];rfl
 have c1:w1.cell? ⟨b,1,none⟩=some v:=by rw[Lib.cell_of_heap hc.box];rfl
 have hB1:B<=w1.heap.size:=by rw[hc.size];exact hB
 have HC:Hid (NP B w w1 b v o):=hc
 have hown:=hc.own
 clear hc
 go_wp2_with (at_builtin;refine wpList_append_lies _ rfl _ _ 22 rfl B 5 i0 (.int .u8 0) 1 1 Tryz.underlying22 hi hz0 hz1 hz2 rfl (by decide) _ _ _ rfl (hown.alloc _) ⟨w1.heap.size,0,none⟩ 1 1 [.int .u8 10] rfl rfl (fA w1 _ _) (by simp[Value.oneCell']) (by decide) (by unfold maxLen;omega) (by omega) (by simp;omega) _ rfl ?_)
 intro g' cap' w2 hown' hgrow hat _
 have hc:=HC.out
 have hb2:w2.heap[b]?=some (.cells #[.pointer (some ⟨b,0,none⟩),v] 61 (0,0)):=by
  rw[hgrow.block b (by simp;omega) (fun e=>h.ne e.symm),Lib.alloc_old w1 _ b hlt]
  exact hc.box
 have d0:w2.cell? ⟨b,0,none⟩=some (.pointer (some ⟨b,0,none⟩)):=by rw[Lib.cell_of_heap hb2];rfl
 have d1:w2.cell? ⟨b,1,none⟩=some v:=by rw[Lib.cell_of_heap hb2];rfl
 have f1:w2.frozen? ⟨b,1,none⟩=false:=Lib.frozen_of_heap hb2 1
 have hat2:v.ownBlock=some g'∨w1.heap.size<=g':=by
  rcases hat with h1|h1
  ·exact .inl h1
  ·exact .inr (by rw[h1];simp)
 have hne:g'≠b:=fun e=>by
  rcases hat2 with h1|h1
  ·exact h.ne (e ▸ h1)
  ·omega
 have HE:Hid (JE B w (w2.setCell ⟨b,1,none⟩ (.slice (some ⟨g',0,none⟩) (o.length+1) cap')) b v (.slice (some ⟨g',0,none⟩) (o.length+1) cap') (o++[10])):=by
  refine⟨⟨h.ge,⟨_,.inr rfl, ?_⟩,vG (w:=w2) ?_ fun k hk=>iP _ _ _ _ _ ?_,fun e=>hne (by simpa[Value.ownBlock]using e)⟩, ?_,fun k hk hkb hkv=>?_,fun k hk=>?_, ?_⟩
  ·simp[World.setCell,Array.getElem?_modify,hb2]
  ·have e:Lib.byteCells (o++[10])=Lib.byteCells o++[.int .u8 10]:=Lib.byteCells_append _ _
   rw[e,List.length_append,List.length_singleton]
   exact hown'
  ·have:g'=k:=by simpa[Value.ownBlock]using hk
   omega
  ·have:=hgrow.size
   have:=hc.size
   simp[World.setCell]at *;omega
  ·rw[iP _ _ _ _ _ hkb,hgrow.block k (by simp;rw[hc.size];omega) (fun e=>hkv e.symm),Lib.alloc_old w1 _ k (by rw[hc.size];exact hk),hc.keep k hkb]
  ·have e:g'=k:=by simpa[Value.ownBlock]using hk
   subst e
   rcases hat2 with h1|h1
   ·exact .inl h1
   ·exact .inr (by rw[<- hc.size];exact h1)
  ·exact((hc.bel.alloc hB1 _).grown hgrow (by simp;omega) (aN hown)).setCell (p:=⟨b,1,none⟩) h.ge _
 clear hc hown' hgrow hat hat2 hown HC hb2
 go_wp2_with fail
 go_ret
 exact⟨rfl,_,HE.out⟩
theorem EJ (B b:Nat)(v:Value)(o:List UInt8)(w:World)(h:BJ B w b v o)(hB:B<=w.heap.size) :
  Calls Tryz.prog 24 #[.pointer (some ⟨b,0,none⟩)] w fun e w'=>e=.returned (.string ⟨o.toArray⟩)/\Below B w w':=by
 obtain⟨p,hp,hb⟩:=h.box
 have hA:∀q,q=p->Lib.BuilderAt 61 5 B b q (Lib.byteCells o) w:=fun q hq=>⟨h.ge,v,by rw[hq];exact hb,by rw[Lib.byteCells_length];exact h.own,h.ne⟩
 refine(Tryz.Builder_String_any_k B b o w (Lib.IsBuilderF.of ?_) hB).mono ?_
 ·rcases hp with rfl|rfl
  ·exact .inl (hA _ rfl)
  ·exact .inr (hA _ rfl)
 ·rintro e w' ⟨rfl,_,h2,_⟩
  exact⟨rfl,h2⟩
end Go.Proofs.YtpfhegengmlkmabGreatDoor
