/- Texts of this claim. -/
import Derived.Laws.BitsLemmas
import Derived.Deep.RegionHeld3
import Derived.Laws.IdiomStrings
import Derived.OrdersHeld
import Derived.Test.YtpfhegengmlkmabGreatDoorZu3
namespace Go.Proofs.YtpfhegengmlkmabGreatDoor
open Go.RowKit Go.BigFrame
set_option maxRecDepth 100000
structure Rd (w:World) (R:Nat) (ab:Option Addr) (n c p:Nat):Prop where
 c0:w.cell? ⟨R,0,none⟩=some (.slice ab n c)
 c1:w.cell? ⟨R,1,none⟩=some (.int .i64 (p:Int))
 f1:w.frozen? ⟨R,1,none⟩=false
 small:n<=2000
 byte:∀k,k<n->∃b o,∃v:Int,ab=some ⟨b,o,none⟩/\b<R/\0<=v/\v<=255/\w.cell? ⟨b,o+k,none⟩=some (.int .u8 v)
theorem Rd.lt {w:World}{R n c p:Nat}{ab:Option Addr}(h:Rd w R ab n c p):R<w.heap.size:=block_lt_of_cell h.c0
theorem Rd.same {w w':World}{R n c p:Nat}{ab:Option Addr}(h:Rd w R ab n c p)(hk:∀k,k<=R->w'.heap[k]?=w.heap[k]?):Rd w' R ab n c p:=
 ⟨(World.cell?_of_block (hk R (Nat.le_refl R))).trans h.c0,(World.cell?_of_block (hk R (Nat.le_refl R))).trans h.c1,(World.frozen?_of_block (hk R (Nat.le_refl R))).trans h.f1,h.small,fun k hk'=>by
  obtain⟨b,o,v,h1,h2,h4,h5,h6⟩:=h.byte k hk'
  exact⟨b,o,v,h1,h2,h4,h5,(World.cell?_of_block (hk b (Nat.le_of_lt h2))).trans h6⟩⟩
theorem Rd.below {w w':World}{R n c p:Nat}{ab:Option Addr}(h:Rd w R ab n c p)(hb:Below w.heap.size w w'):Rd w' R ab n c p:=by
 have:=h.lt
 exact h.same fun k hk=>hb.block k (by omega)
theorem Rd.step {w:World}{R n c p:Nat}{ab:Option Addr}(h:Rd w R ab n c p):Rd (w.setCell ⟨R,1,none⟩ (.int .i64 ((p:Int)+1))) R ab n c (p+1):=
 ⟨by simp[go_sem,h.c0],by simp[go_sem,h.c1],by simp[go_sem,h.f1],h.small,fun k hk=>by
  obtain⟨b,o,v,h1,h2,h4,h5,h6⟩:=h.byte k hk
  exact⟨b,o,v,h1,h2,h4,h5,by rw[World.cell?_of_block (Below.heap_setCell _ _ _ _ (by simp only;omega))];exact h6⟩⟩
theorem EH (x y:Int)(hx:0<=x)(hx1:x<4611686018427387904)(hy:0<=y)(hy1:y<4611686018427387904):0<=bits .xor .i64 x y:=by
 obtain⟨a,rfl⟩:=Int.eq_ofNat_of_zero_le hx
 obtain⟨b,rfl⟩:=Int.eq_ofNat_of_zero_le hy
 have ha:a<2 ^ 62:=by omega
 have hb:b<2 ^ 62:=by omega
 have hxl:=Nat.xor_lt_two_pow ha hb
 have ha':a % 2 ^ IntKind.i64.bits=a:=Nat.mod_eq_of_lt (Nat.lt_of_lt_of_le ha (by decide))
 have hb':b % 2 ^ IntKind.i64.bits=b:=Nat.mod_eq_of_lt (Nat.lt_of_lt_of_le hb (by decide))
 simp only[bits,BitVec.ofInt_natCast,BitVec.toNat_xor,BitVec.toNat_ofNat,ha',hb']
 rw[IntKind.wrap_i64]
 omega
set_option maxHeartbeats 800000 in
theorem pick_any (R n c p:Nat)(ab:Option Addr)(m:Int)(w:World)(hr:Rd w R ab n c p)(hp:p<=1000000)(h1:1<=m)(h2:m<=1000000) :
  Calls Tryz.prog 15 #[.pointer (some ⟨R,0,none⟩),.int .i64 m] w fun e w'=>(∃x:Int,e=.returned (.int .i64 x)/\0<=x/\x<m)/\Rd w' R ab n c (p+1)/\But R w w':=by
 obtain⟨c0,c1,f1,hn,hby⟩:=id hr
 by_cases hn0:n=0
 ·subst hn0
  go_enter Tryz.func15,Tryz.ntmps15
  go_wp2_with fail
  go_ret
  exact⟨⟨0,rfl,by omega,by omega⟩,hr.step,(But.refl _ _).setCell _ _⟩
 ·have hm1:decide (m<1)=false:=by simp;omega
  have hn1:((n:Int)==0)=false:=by simp;omega
  by_cases hk:p<n
  ·obtain⟨b,o,v,rfl,hbR0,hv0,hv1,hb⟩:=hby p hk
   have hbR:b≠R:=by omega
   have hb':(w.setCell ⟨R,1,none⟩ (.int .i64 ((p:Int)+1))).cell? ⟨b,o+p,none⟩=some (.int .u8 v):=by rw[World.cell?_of_block (Below.heap_setCell _ _ _ _ hbR)];exact hb
   go_enter Tryz.func15,Tryz.ntmps15
   go_wp2_with fail
   go_ret
   exact⟨⟨_,rfl,Int.emod_nonneg _ (by omega),Int.emod_lt_of_pos _ (by omega)⟩,hr.step,(But.refl _ _).setCell _ _⟩
  ·obtain⟨q1,hq1,hmod1⟩:∃q:Nat,q<n/\(p:Int) % (n:Int)=(q:Int):=⟨p % n,Nat.mod_lt _ (by omega),by omega⟩
   obtain⟨q2,hq2,hmod2⟩:∃q:Nat,q<n/\((p:Int)*7+3) % (n:Int)=(q:Int):=⟨(((p:Int)*7+3) % (n:Int)).toNat,by have:=Int.emod_lt_of_pos ((p:Int)*7+3) (b:=(n:Int)) (by omega);omega,by have:=Int.emod_nonneg ((p:Int)*7+3) (b:=(n:Int)) (by omega);omega⟩
   obtain⟨b,o,v,rfl,hbR0,hv0,hv1,hb⟩:=hby q1 hq1
   have hbR:b≠R:=by omega
   obtain⟨b2,o2,u,e2,hbR2,hu0,hu1,hb2⟩:=hby q2 hq2
   obtain⟨rfl,rfl⟩:b=b2/\o=o2:=by simpa using e2
   have hb':(w.setCell ⟨R,1,none⟩ (.int .i64 ((p:Int)+1))).cell? ⟨b,o+q1,none⟩=some (.int .u8 v):=by rw[World.cell?_of_block (Below.heap_setCell _ _ _ _ hbR)];exact hb
   have hb2':(w.setCell ⟨R,1,none⟩ (.int .i64 ((p:Int)+1))).cell? ⟨b,o+q2,none⟩=some (.int .u8 u):=by rw[World.cell?_of_block (Below.heap_setCell _ _ _ _ hbR)];exact hb2
   obtain⟨D,hD,hD0,hD1⟩:∃D:Int,(p:Int) / (n:Int)=D/\0<=D/\D<=1000000:=⟨_,rfl,Int.ediv_nonneg (by omega) (by omega),by have:=Int.ediv_le_self (a:=(p:Int)) (n:Int) (by omega);omega⟩
   go_enter Tryz.func15,Tryz.ntmps15
   go_wp2_with fail
   go_quiet (fail)
   go_wp2_with fail
   have hxx:=EH (v*131+u*1117+↑p*29+D*53) ((v*131+u*1117+↑p*29+D*53) / 64) (by omega) (by omega) (by omega) (by omega)
   go_ret
   exact⟨⟨_,rfl,Int.tmod_nonneg _ hxx,Int.tmod_lt_of_pos _ (by omega)⟩,hr.step.below (below_drewN (Below.refl _ _) nq),((But.refl _ _).setCell _ _).trans (But.of_below (below_drewN (Below.refl _ _) nq))⟩
theorem But.cell {R:Nat}{w w':World}(h:But R w w'){b:Nat}(o:Nat)(hb:b<w.heap.size)(hne:b≠R):w'.cell? ⟨b,o,none⟩=w.cell? ⟨b,o,none⟩:=World.cell?_of_block (h.block b hb hne)
theorem yg {R:Nat}{w w1:World}{t:TypeId}{tab:Array Value}(hR:R<w.heap.size)(h:But R (w.alloc (.cells tab t)) w1)(k:Nat)(hk:k<tab.size):w1.cell? ⟨w.heap.size,k,none⟩=some tab[k]:=by
 rw[h.cell k (by simp) (by omega)]
 simp[go_sem,hk]
set_option maxHeartbeats 400000 in
theorem Hw (R n c p:Nat)(ab:Option Addr)(w:World)(hr:Rd w R ab n c p)(hp:p<=1000000) :
  Calls Tryz.prog 53 #[.pointer (some ⟨R,0,none⟩)] w fun e w'=>(∃s:ByteArray,e=.returned (.string s)/\s.size<=8)/\Rd w' R ab n c (p+1)/\But R w w':=by
 have hR:=hr.lt
 go_enter Tryz.func53,Tryz.ntmps53
 go_wp2_with fail
 refine(pick_any R n c p ab _ _ (hr.below ((Below.refl _ _).alloc (Nat.le_refl _) _)) hp (by omega) (by omega)).mono ?_
 rintro e w1 ⟨⟨x,rfl,hx0,hx1⟩,hr1,hb1⟩
 obtain⟨k,rfl⟩:=Int.eq_ofNat_of_zero_le hx0
 obtain⟨s,hs,hsz⟩:∃s:ByteArray,w1.cell? ⟨w.heap.size,k,none⟩=some (.string s)/\s.size<=8:=by
  rw[yg hR hb1 k (by simp;omega)]
  rcases(by omega:k=0∨k=1∨k=2∨k=3∨k=4∨k=5)with rfl|rfl|rfl|rfl|rfl|rfl <;> exact⟨_,rfl,by decide⟩
 have hB:But R w w1:=(But.of_below ((Below.refl _ _).alloc (Nat.le_refl _) _)).trans hb1
 have HB:Hid (But R w w1):=hB
 clear hb1 hB
 go_wp2_with fail
 go_ret
 exact⟨⟨s,rfl,hsz⟩,hr1,HB.out⟩
set_option maxHeartbeats 400000 in
theorem IR (R n c p:Nat)(ab:Option Addr)(w:World)(hr:Rd w R ab n c p)(hp:p<=100000) :
  Calls Tryz.prog 91 #[.pointer (some ⟨R,0,none⟩)] w fun e w'=>(∃v:Int,e=.returned (.int .i64 v))/\Rd w' R ab n c (p+2)/\But R w w':=by
 have hR:=hr.lt
 go_enter Tryz.func91,Tryz.ntmps91
 go_wp2_with fail
 refine(pick_any R n c p ab _ _ hr (by omega) (by omega) (by omega)).mono ?_
 rintro e w1 ⟨⟨x,rfl,hx0,hx1⟩,hr1,hb1⟩
 have hR1:=hr1.lt
 by_cases h0:x=0
 ·subst h0
  go_wp2_with fail
  refine(pick_any R n c (p+1) ab _ _ (hr1.below ((Below.refl _ _).alloc (Nat.le_refl _) _)) (by omega) (by omega) (by omega)).mono ?_
  rintro e w2 ⟨⟨x,rfl,hx0,hx1⟩,hr2,hb2⟩
  obtain⟨k,rfl⟩:=Int.eq_ofNat_of_zero_le hx0
  obtain⟨s,hs⟩:∃s:Int,w2.cell? ⟨w1.heap.size,k,none⟩=some (.int .i64 s):=by
   rw[yg hR1 hb2 k (by simp;omega)]
   rcases(by omega:k=0∨k=1∨k=2∨k=3∨k=4∨k=5)with rfl|rfl|rfl|rfl|rfl|rfl <;> exact⟨_,rfl⟩
  have HB:Hid (But R w w2):=hb1.trans ((But.of_below ((Below.refl _ _).alloc (Nat.le_refl _) _)).trans hb2)
  clear hb1 hb2
  go_wp2_with fail
  go_ret
  exact⟨⟨s,rfl⟩,hr2,HB.out⟩
 ·have h0':(x==0)=false:=by simp[h0]
  go_wp2_with fail
  refine(pick_any R n c (p+1) ab _ _ hr1 (by omega) (by omega) (by omega)).mono ?_
  rintro e w2 ⟨⟨y,rfl,hy0,hy1⟩,hr2,hb2⟩
  go_wp2_with fail
  go_ret
  exact⟨⟨_,rfl⟩,hr2,hb1.trans hb2⟩
theorem yQ (d:Int)(h0:0<=d)(h1:d<=255)(u:World) :
  (convert 22 9 (.slice (some ⟨u.heap.size,0,none⟩) 1 1)).run Tryz.prog (u.alloc (.cells #[.int .u8 d] 5))=.ok (.string ⟨#[UInt8.ofNat d.toNat]⟩) (u.alloc (.cells #[.int .u8 d] 5)):=by
 have h:=run_convert_bytes_back (P:=Tryz.prog) (u.alloc (.cells #[.int .u8 d] 5)) 22 9 5 ⟨u.heap.size,0,none⟩ 1 [UInt8.ofNat d.toNat] Tryz.underlying22 Tryz.underlying5 Tryz.underlying9 (fun j hj=>by
  obtain rfl:j=0:=by simpa using hj
  have e:((UInt8.ofNat d.toNat).toNat:Int)=d:=by
   rw[UInt8.toNat_ofNat']
   omega
  simp[Addr.add,go_sem]
  omega)
 simpa using h
set_option maxHeartbeats 400000 in
theorem G7 (k:Nat)(w:World)(h1:k<=1000) :
  Calls Tryz.prog 18 #[.int .i64 (k:Int)] w fun e w'=>(∃s:ByteArray,e=.returned (.string s)/\s.size<=1000)/\Below w.heap.size w w':=by
 by_cases hk:k=0
 ·subst hk
  go_enter Tryz.func18,Tryz.ntmps18
  go_wp2_with fail
  go_ret
  exact⟨⟨_,rfl,by decide⟩,Below.refl _ _⟩
 ·have hk':((k:Int)==0)=false:=by simp;omega
  go_enter Tryz.func18,Tryz.ntmps18
  go_wp2_with fail
  go_loopw [0,3] (fun kk out wr=>∃(q:Nat) (s:ByteArray),kk=.int .i64 q/\s.size+q<=1000/\out=.string s/\Below w.heap.size w wr) (fun kk _ _=>(intOf kk).toNat)
  case atStart=>exact⟨k,_,rfl,by show 0+k<=_;omega,rfl,Below.refl _ _⟩
  case round=>
   obtain⟨q,s,rfl,hq,rfl,hb⟩:=hrel
   by_cases hlt:0<q
   ·have hcv:=yQ (48+(q:Int) % 10) (by omega) (by omega) wr
    have hq':((q:Int) != 0)=true:=by simp;omega
    go_wp2_with fail
    have hsz:((⟨#[48+UInt8.ofNat (q % 10)]⟩:ByteArray)++s).size=1+s.size:=by rw[ByteArray.size_append];rfl
    exact⟨⟨q / 10,_,by congr 1,by rw[hsz];omega,rfl,hb.alloc hb.size _⟩,by simp[intOf];omega⟩
   ·have hq':((q:Int) != 0)=false:=by simp;omega
    go_wp2_with fail
    go_ret
    exact⟨⟨s,rfl,by omega⟩,hb⟩
structure jF (R B:Nat) (w w':World):Prop where
 os:w'.os=w.os
 tape:w'.tape=w.tape
 output:w'.output=w.output
 size:w.heap.size<=w'.heap.size
 block:∀k,k<B->k≠R->w'.heap[k]?=w.heap[k]?
theorem jF.trans {R B:Nat}{x y z:World}(h:jF R B x y)(k:jF R B y z):jF R B x z:=
 ⟨k.os.trans h.os,k.tape.trans h.tape,k.output.trans h.output,Nat.le_trans h.size k.size,fun i hi hn=>(k.block i hi hn).trans (h.block i hi hn)⟩
theorem But.upto {R B:Nat}{w w':World}(h:But R w w')(hB:B<=w.heap.size):jF R B w w':=⟨h.os,h.tape,h.output,h.size,fun k hk hn=>h.block k (by omega) hn⟩
theorem jF.but {R:Nat}{w w':World}(h:jF R w.heap.size w w'):But R w w':=⟨h.os,h.tape,h.output,h.size,fun k hk hn=>h.block k hk hn⟩
theorem uZ {R B:Nat}{w w':World}(h:Below B w w'):jF R B w w':=⟨h.os,h.tape,h.output,h.size,fun k hk _=>h.block k hk⟩
theorem az.but {w w':World}{R B:Nat}{v:Value}{l:List (ByteArray×Int)}(h:az w B v l)(hb:But R w w')(hR:R<B):az w' B v l:=by
 obtain⟨hl,h|⟨g,cap,cur,hv,hgB,hh,r⟩⟩:=h
 ·exact⟨hl,.inl h⟩
 ·exact⟨hl,.inr ⟨g,cap,cur,hv,hgB,(hb.block g (Array.getElem?_eq_some_iff.1 hh).1 (by omega)).trans hh,r⟩⟩
theorem wB:∀(l:List (ByteArray×Int)) (k:Nat) (m:ByteArray×Int),((aP l).set (k*2) (.string m.1)).set (k*2+1) (.int .i64 m.2)=aP (l.set k m)
 |[],k,m=>by simp[aP]
 |x::r,0,m=>by simp[aP]
 |x::r,k+1,m=>by
  have ih:=wB r k m
  have e0:(k+1)*2=k*2+1+1:=by omega
  rw[e0]
  simp only[aP,List.set_cons_succ,ih]
theorem J3 {w:World}{B g cap k:Nat}{l:List (ByteArray×Int)}(h:az w B (.slice (some ⟨g,0,none⟩) l.length cap) l)(m:ByteArray×Int) :
  az ((w.setCell ⟨g,k*2,none⟩ (.string m.1)).setCell ⟨g,k*2+1,none⟩ (.int .i64 m.2)) B (.slice (some ⟨g,0,none⟩) l.length cap) (l.set k m):=by
 have h2:=(World.ownsRow.stored (World.ownsRow.stored h (k*2) (.string m.1)).1 (k*2+1) (.int .i64 m.2)).1
 unfold az
 rw[List.length_set,<- wB]
 exact h2
theorem lZ {w:World}{B g cap k:Nat}{l:List (ByteArray×Int)}(h:az w B (.slice (some ⟨g,0,none⟩) l.length cap) l)(hk:k<l.length):w.cell? ⟨g,k*2,none⟩=some (.string l[k].1)/\w.cell? ⟨g,k*2+1,none⟩=some (.int .i64 l[k].2):=by
 rw[World.ownsRow.cellAt h (k*2) (by omega),World.ownsRow.cellAt h (k*2+1) (by omega)]
 exact oM l k hk
theorem iO {w:World}{B g cap:Nat}{l:List (ByteArray×Int)}(h:az w B (.slice (some ⟨g,0,none⟩) l.length cap) l)(j:Nat):w.frozen? ⟨g,j,none⟩=false:=World.ownsRow.frozenAt h j
theorem vM:∀(l:List (ByteArray×Int)),∀u∈aP l,u.oneCell'=true
 |[],u,h=>by simp[aP]at h
 |m::r,u,h=>by
  simp only[aP,List.mem_cons]at h
  rcases h with rfl|rfl|h
  ·rfl
  ·rfl
  ·exact vM r u h
theorem lh {o:Oper}{a:Act}{w:World}{K:Act->World->Prop}{Q:Exit->Act->World->Prop}(s x:Operand)
  (ho:o.op=.call { callee:=.builtin .append,args:=#[s,x],argTypes:=#[28,28] }) (base B e0 g cap:Nat) (l:List (ByteArray×Int)) (hs:a.eval s=.slice (some ⟨e0,0,none⟩) 0 0) (he:w.heap[e0]?=some (.cells #[] 54 (0,0))) (hb:base<=e0)
  (hx:a.eval x=.slice (some ⟨g,0,none⟩) l.length cap) (hg:az w B (.slice (some ⟨g,0,none⟩) l.length cap) l) (hl0:0<l.length) (hl:l.length<=1048576)
  (h:∀v' w',az w' base v' l->w.grownBy w' (some e0)->K (a.put o.dst v') w'):o.wp Tryz.prog a w K Q:=by
 obtain⟨i0,hi,hz0,hz1,hz2⟩:=info_parts Tryz.infoM
 have hlt:e0<w.heap.size:=(Array.getElem?_eq_some_iff.1 he).1
 have hown:w.ownsRow base 54 2 (.slice (some ⟨e0,0,none⟩) 0 0) 0 []:=⟨rfl,.inr ⟨e0,0,#[],rfl,hb,he,Nat.le_refl _,Nat.zero_le _,rfl,rfl⟩⟩
 obtain⟨g',cap',w',hr,h2,h3,_,_⟩:=run_append_lies (P:=Tryz.prog) w 28 o.type base 54 i0 (.agg #[.string .empty,.int .i64 0]) 2 24 Tryz.underlying28 hi hz0 hz1 hz2 rfl (by decide) _ _ _ hown ⟨g,0,none⟩ l.length cap (aP l) (dC l) (by
   intro j u hj
   have hjl:j<(aP l).length:=(List.getElem?_eq_some_iff.1 hj).1
   have e:(⟨g,0,none⟩:Addr).add j=⟨g,j,none⟩:=by unfold Addr.add;by_cases h:j=0 <;> simp[h]
   rw[e,World.ownsRow.cellAt hg j (by rw[dC]at hjl;exact hjl)]
   exact hj) (vM l) hl0 (by unfold maxLen;omega) (by omega) (Nat.le_trans hb (Nat.le_of_lt hlt)) _ rfl
 unfold Oper.wp execOp
 simp only[ho,resolve,invoke,builtin,Sem.run_bind,Sem.run_pure,Result.andThen_ok,List.map_toArray,List.map_cons,List.map_nil,hs,hx,hr]
 refine h _ w' ?_ h3
 unfold az
 simpa using h2
set_option maxHeartbeats 800000 in
theorem kS (R n c p B:Nat)(ab:Option Addr)(v:Value)(l:List (ByteArray×Int))(w:World)(hr:Rd w R ab n c p)(hp:p<=90000)(hg:az w B v l)(hR:R<B)(hB:B<=w.heap.size)(hl:l.length<=1000)(hs:∀m∈l,m.1.size<=2000) :
  Calls Tryz.prog 54 #[.pointer (some ⟨R,0,none⟩),v] w fun e w'=>(∃v' l' p',e=.returned v'/\az w' B v' l'/\l'.length<=l.length+1/\(∀m∈l',m.1.size<=2000)/\Rd w' R ab n c p'/\p'<=p+5)/\jF R B w w':=by
 have hRl:=hr.lt
 obtain⟨a,cap,rfl,hrow⟩:=hg.shape
 go_enter Tryz.func54,Tryz.ntmps54
 go_wp2_with fail
 refine(pick_any R n c p ab _ _ hr (by omega) (by omega) (by omega)).mono ?_
 rintro e w1 ⟨⟨x,rfl,hx0,hx1⟩,hr1,hb1⟩
 by_cases h0:x=0
 ·by_cases hl0:l.length=0
  ·subst h0
   have hl0':((l.length:Int)==0)=true:=by simp[hl0]
   obtain rfl:l=[]:=List.length_eq_zero_iff.1 hl0
   clear hl0 hl0'
   go_wp2_with fail
   go_ret
   exact⟨⟨_,[],p+1,rfl,hg.but hb1 hR,by simp,by simp,hr1,by omega⟩,hb1.upto hB⟩
  ·subst h0
   have hl0':((l.length:Int)==0)=false:=by rw[beq_eq_false_iff_ne];omega
   obtain⟨g,rfl,hgB⟩:∃g,a=some ⟨g,0,none⟩/\B<=g:=by
    rcases hg.form with⟨_,rfl⟩|⟨g,cap',hv,hgB,_⟩
    ·simp at hl0
    ·simp only[Value.slice.injEq]at hv
     exact⟨g,hv.1,hgB⟩
   go_wp2_with fail
   refine(pick_any R n c (p+1) ab _ _ hr1 (by omega) (by omega) (by omega)).mono ?_
   rintro e w2 ⟨⟨y,rfl,hy0,hy1⟩,hr2,hb2⟩
   obtain⟨k,rfl⟩:=Int.eq_ofNat_of_zero_le hy0
   have hk:k<l.length:=by omega
   have hg2:=(hg.but hb1 hR).but hb2 hR
   obtain⟨c0,c1⟩:=lZ hg2 hk
   have f0:=iO hg2 (k*2)
   have f1:=iO hg2 (k*2+1)
   have HST:Hid (∀(W:World) (m':ByteArray×Int) (p':Nat),Rd W R ab n c p'->p'<=p+5->az W B (.slice (some ⟨g,0,none⟩) l.length cap) l->m'.1.size<=2000->jF R B w W ->
     (∃v' l' p',Ending.returned (.slice (some ⟨g,0,none⟩) l.length cap)=.returned v'/\az ((W.setCell ⟨g,k*2,none⟩ (.string m'.1)).setCell ⟨g,k*2+1,none⟩ (.int .i64 m'.2)) B v' l'/\l'.length<=l.length+1/\(∀m∈l',m.1.size<=2000)/\Rd ((W.setCell ⟨g,k*2,none⟩ (.string m'.1)).setCell ⟨g,k*2+1,none⟩ (.int .i64 m'.2)) R ab n c p'/\p'<=p+5)/\jF R B w ((W.setCell ⟨g,k*2,none⟩ (.string m'.1)).setCell ⟨g,k*2+1,none⟩ (.int .i64 m'.2))):=by
    intro W m' p' hW hp' hG hm hb
    refine⟨⟨_,l.set k m',p',rfl,J3 hG m',by simp,fun m hmem=>?_,hW.same fun q hq=>(Below.heap_setCell _ _ _ _ (by simp only;omega)).trans (Below.heap_setCell _ _ _ _ (by simp only;omega)),hp'⟩,hb.trans ⟨rfl,rfl,rfl,by simp,fun q hq _=>(Below.heap_setCell _ _ _ _ (by simp only;omega)).trans (Below.heap_setCell _ _ _ _ (by simp only;omega))⟩⟩
    rcases List.mem_or_eq_of_mem_set hmem with h|h
    ·exact hs m h
    ·rw[h];exact hm
   have hlk:l[k].1.size<=2000:=hs _ (List.getElem_mem hk)
   have hB2:jF R B w w2:=(hb1.upto hB).trans (hb2.upto (Nat.le_trans hB hb1.size))
   have hz2:B<=w2.heap.size:=Nat.le_trans (Nat.le_trans hB hb1.size) hb2.size
   go_wp2_with fail
   have hbx:Below w2.heap.size w2 (w2.alloc (.cells #[.string l[k].1,.int .i64 l[k].2] 54)):=(Below.refl _ _).alloc (Nat.le_refl _) _
   have bx0:=box0 w2 (.string l[k].1) (.int .i64 l[k].2) 54
   have bx1:=box1 w2 (.string l[k].1) (.int .i64 l[k].2) 54
   have fx0:(w2.alloc (.cells #[.string l[k].1,.int .i64 l[k].2] 54)).frozen? ⟨w2.heap.size,0,none⟩=false:=by simp[go_sem]
   have fx1:(w2.alloc (.cells #[.string l[k].1,.int .i64 l[k].2] 54)).frozen? ⟨w2.heap.size,1,none⟩=false:=by simp[go_sem]
   have hlx:=bP w2 (.cells #[.string l[k].1,.int .i64 l[k].2] 54)
   have hgx:=hg2.keep hbx
   have hrx:=hr2.below hbx
   have hBx:jF R B w (w2.alloc (.cells #[.string l[k].1,.int .i64 l[k].2] 54)):=hB2.trans (uZ (hbx.mono hz2))
   generalize w2.alloc (.cells #[.string l[k].1,.int .i64 l[k].2] 54)=wx at *
   refine(pick_any R n c (p+1+1) ab _ _ hrx (by omega) (by omega) (by omega)).mono ?_
   rintro e w3 ⟨⟨z,rfl,hz0,hz1⟩,hr3,hb3⟩
   have bx0:=(hb3.cell 0 hlx (by omega)).trans bx0
   have bx1:=(hb3.cell 1 hlx (by omega)).trans bx1
   have fx0:w3.frozen? ⟨w2.heap.size,0,none⟩=false:=(World.frozen?_of_block (hb3.block w2.heap.size hlx (by omega))).trans fx0
   have fx1:w3.frozen? ⟨w2.heap.size,1,none⟩=false:=(World.frozen?_of_block (hb3.block w2.heap.size hlx (by omega))).trans fx1
   have hg3:=hgx.but hb3 hR
   have hB3:jF R B w w3:=hBx.trans (hb3.upto (by omega))
   have hlx3:w2.heap.size<w3.heap.size:=Nat.lt_of_lt_of_le hlx hb3.size
   obtain⟨d0,d1⟩:=lZ hg3 hk
   have e0:=iO hg3 (k*2)
   have e1:=iO hg3 (k*2+1)
   have hgl:g<w2.heap.size:=block_lt_of_cell c0
   have hgne:g≠w2.heap.size:=by omega
   clear hgx hrx hBx hg2 hr2 hb2 hb1 hr1 c0 c1 f0 f1
   rcases(by omega:z=0∨z=1∨z=2∨z=3)with rfl|rfl|rfl|rfl
   ·go_wp2_with fail
    refine(IR R n c _ ab _ hr3 (by omega)).mono ?_
    rintro e w4 ⟨⟨vv,rfl⟩,hr4,hb4⟩
    have hly:=hlx3
    have hgy:=hg3
    have hBy:=hB3
    have by0:=(hb4.cell 0 hly (by omega)).trans bx0
    have by1:=(hb4.cell 1 hly (by omega)).trans bx1
    have fy0:w4.frozen? ⟨w2.heap.size,0,none⟩=false:=(World.frozen?_of_block (hb4.block w2.heap.size hly (by omega))).trans fx0
    have fy1:w4.frozen? ⟨w2.heap.size,1,none⟩=false:=(World.frozen?_of_block (hb4.block w2.heap.size hly (by omega))).trans fx1
    have hg4:=hgy.but hb4 hR
    have hB4:jF R B w w4:=hBy.trans (hb4.upto (by omega))
    have hg5:az (w4.setCell ⟨w2.heap.size,1,none⟩ (.int .i64 vv)) B (.slice (some ⟨g,0,none⟩) l.length cap) l:=by
     obtain⟨hl,h|⟨g',cap',cur,hv,hgB',hh,r⟩⟩:=hg4
     ·exact⟨hl,.inl h⟩
     ·have hv':=hv
      simp only[Value.slice.injEq,Option.some.injEq,Addr.mk.injEq,and_true,true_and]at hv'
      exact⟨hl,.inr ⟨g',cap',cur,hv,hgB',(Below.heap_setCell _ _ _ _ (by simp only;omega)).trans hh,r⟩⟩
    have hr5:Rd (w4.setCell ⟨w2.heap.size,1,none⟩ (.int .i64 vv)) R ab n c _:=hr4.same fun q hq=>Below.heap_setCell _ _ _ _ (by simp only;omega)
    have hB5:jF R B w (w4.setCell ⟨w2.heap.size,1,none⟩ (.int .i64 vv)):=hB4.trans ⟨rfl,rfl,rfl,by simp,fun q hq _=>Below.heap_setCell _ _ _ _ (by simp only;omega)⟩
    obtain⟨d0',d1'⟩:=lZ hg5 hk
    have e0':=iO hg5 (k*2)
    have e1':=iO hg5 (k*2+1)
    clear d0 d1 e0 e1
    go_wp2_with fail
    go_ret
    exact HST.out _ (l[k].1,vv) _ hr5 (by omega) hg5 hlk hB5
   ·go_wp2_with fail
    have hbt:Below w3.heap.size w3 (w3.alloc (.cells #[.string ⟨#[]⟩,.string ⟨#[65]⟩,.string ⟨#[97,98,99,100,101,102,103,104,105]⟩,.string ⟨#[120,32,121]⟩] 9)):=(Below.refl _ _).alloc (Nat.le_refl _) _
    refine(pick_any R n c _ ab _ _ (hr3.below hbt) (by omega) (by omega) (by omega)).mono ?_
    rintro e w4 ⟨⟨y,rfl,hy0,hy1⟩,hr4,hb4⟩
    obtain⟨q,rfl⟩:=Int.eq_ofNat_of_zero_le hy0
    obtain⟨t,ht,htz⟩:∃t:ByteArray,w4.cell? ⟨w3.heap.size,q,none⟩=some (.string t)/\t.size<=2000:=by
     rw[yg (by omega) hb4 q (by simp;omega)]
     rcases(by omega:q=0∨q=1∨q=2∨q=3)with rfl|rfl|rfl|rfl <;> exact⟨_,rfl,by decide⟩
    have hly:=Nat.lt_of_lt_of_le hlx3 hbt.size
    have hgy:=hg3.keep hbt
    have hBy:jF R B w _:=hB3.trans (uZ (hbt.mono (by omega)))
    have bx0:=ae hbt hlx3 bx0
    have bx1:=ae hbt hlx3 bx1
    have fx0:=(hbt.frozen (p:=⟨w2.heap.size,0,none⟩) hlx3).trans fx0
    have fx1:=(hbt.frozen (p:=⟨w2.heap.size,1,none⟩) hlx3).trans fx1
    generalize w3.alloc (.cells #[.string ⟨#[]⟩,.string ⟨#[65]⟩,.string ⟨#[97,98,99,100,101,102,103,104,105]⟩,.string ⟨#[120,32,121]⟩] 9)=wy at *
    have by0:=(hb4.cell 0 hly (by omega)).trans bx0
    have by1:=(hb4.cell 1 hly (by omega)).trans bx1
    have fy0:w4.frozen? ⟨w2.heap.size,0,none⟩=false:=(World.frozen?_of_block (hb4.block w2.heap.size hly (by omega))).trans fx0
    have fy1:w4.frozen? ⟨w2.heap.size,1,none⟩=false:=(World.frozen?_of_block (hb4.block w2.heap.size hly (by omega))).trans fx1
    have hg4:=hgy.but hb4 hR
    have hB4:jF R B w w4:=hBy.trans (hb4.upto (by omega))
    have hg5:az (w4.setCell ⟨w2.heap.size,0,none⟩ (.string t)) B (.slice (some ⟨g,0,none⟩) l.length cap) l:=by
     obtain⟨hl,h|⟨g',cap',cur,hv,hgB',hh,r⟩⟩:=hg4
     ·exact⟨hl,.inl h⟩
     ·have hv':=hv
      simp only[Value.slice.injEq,Option.some.injEq,Addr.mk.injEq,and_true,true_and]at hv'
      exact⟨hl,.inr ⟨g',cap',cur,hv,hgB',(Below.heap_setCell _ _ _ _ (by simp only;omega)).trans hh,r⟩⟩
    have hr5:Rd (w4.setCell ⟨w2.heap.size,0,none⟩ (.string t)) R ab n c _:=hr4.same fun q hq=>Below.heap_setCell _ _ _ _ (by simp only;omega)
    have hB5:jF R B w (w4.setCell ⟨w2.heap.size,0,none⟩ (.string t)):=hB4.trans ⟨rfl,rfl,rfl,by simp,fun q hq _=>Below.heap_setCell _ _ _ _ (by simp only;omega)⟩
    obtain⟨d0',d1'⟩:=lZ hg5 hk
    have e0':=iO hg5 (k*2)
    have e1':=iO hg5 (k*2+1)
    clear d0 d1 e0 e1
    go_wp2_with fail
    go_ret
    exact HST.out _ (t,l[k].2) _ hr5 (by omega) hg5 htz hB5
   ·have hkl:=hk
    have HG:Hid (∀u,Below w3.heap.size w3 u->az u B (.slice (some ⟨g,0,none⟩) l.length cap) l):=fun u hu=>hg3.keep hu
    have HS:Hid (∀u,Below w3.heap.size w3 u->u.cell? ⟨w2.heap.size,0,none⟩=some (.string l[k].1)/\u.cell? ⟨w2.heap.size,1,none⟩=some (.int .i64 l[k].2)):=fun u hu=>⟨ae hu hlx3 bx0,ae hu hlx3 bx1⟩
    have HFIN:Hid (∀v8 w8,Below w3.heap.size w3 w8->az w8 w3.heap.size v8 (l++[(l[k].1,l[k].2)])->(∃v' l' p',Ending.returned v8=.returned v'/\az w8 B v' l'/\l'.length<=l.length+1/\(∀m∈l',m.1.size<=2000)/\Rd w8 R ab n c p'/\p'<=p+5)/\jF R B w w8):=by
     intro v8 w8 b8 hg8
     refine⟨⟨v8,_,p+1+1+1,rfl,hg8.lower (by omega),by simp,fun m hm=>?_,hr3.below b8,by omega⟩,hB3.trans (uZ (b8.mono (by omega)))⟩
     rcases List.mem_append.1 hm with h|h
     ·exact hs m h
     ·simp at h;subst h;exact hlk
    have b4:Below w3.heap.size w3 w3.drew:=(Below.refl _ _).drew
    go_wp2_with fail
    refine wp_region_held_drew (S:=fun u=>u.cell? ⟨w2.heap.size,0,none⟩=some (.string l[k].1)/\u.cell? ⟨w2.heap.size,1,none⟩=some (.int .i64 l[k].2)) (by kernel_rfl) ⟨bx0,bx1⟩ (fun _=>?_)
    refine wpAnyH_take (i:=3) (v:=.agg #[.string l[k].1,.int .i64 l[k].2]) rfl (by kernel_rfl) (by kernel_rfl) (by kernel_rfl) (fun _ _ _ h=>h) (Or.inl ⟨by rfl, ?_⟩) ⟨bx0,bx1⟩ ?_
    ·rintro u ⟨q1,q2⟩
     go_simp
    simp only[Act.put,List.setIfInBounds_toArray]
    refine wpAnyH_take (i:=1) (v:=.slice (some ⟨g,0,none⟩) l.length cap) rfl (by kernel_rfl) (by kernel_rfl) (by kernel_rfl) (fun _ _ _ h=>h) (Or.inl ⟨by rfl, ?_⟩) ⟨bx0,bx1⟩ ?_
    ·rintro u ⟨q1,q2⟩
     go_simp
    simp only[Act.put]
    refine wpAnyH_ready (rs:=[0,4]) (by kernel_rfl) (by simp) ?_
    refine AllReadyH.cons rfl (fun K hK=>?_) (AllReadyH.cons rfl (fun K hK=>?_) AllReadyH.nil)
    ·rw[if_pos (by rfl)]
     go_simp
     have b5:=b4.alloc b4.size (.cells #[] 54)
     refine hK.out _ _ (HS.out _ b5) (fun _=>?_)
     clear hK K
     refine wpAnyH_ready (rs:=[2,4]) (by kernel_rfl) (by simp) ?_
     refine AllReadyH.cons rfl (fun K hK=>?_) (AllReadyH.cons rfl (fun K hK=>?_) AllReadyH.nil)
     ·rw[if_pos (by rfl)]
      refine lh _ _ rfl w3.heap.size B w3.heap.size g cap l rfl (heap_alloc_new w3.drew _) (by simp) rfl (HG.out _ b5) (by omega) (by omega) ?_
      intro v7 w7 hg7 hgr7
      have b6:=b5.grown hgr7 b5.size (fun q e=>by simp at e;omega)
      refine hK.out _ _ (HS.out _ b6) (fun _=>?_)
      clear hK K
      refine wpAnyH_ready (rs:=[4]) (by kernel_rfl) (by simp) ?_
      refine AllReadyH.cons rfl (fun K hK=>?_) AllReadyH.nil
      rw[if_pos (by rfl)]
      go_simp
      have b7:=b6.alloc b6.size (.cells #[.string l[k].1,.int .i64 l[k].2] 54)
      refine hK.out _ _ (HS.out _ b7) (fun _=>?_)
      clear hK K
      refine wpAnyH_ready (rs:=[5]) (by kernel_rfl) (by simp) ?_
      refine AllReadyH.cons rfl (fun K hK=>?_) AllReadyH.nil
      rw[if_pos (by rfl)]
      refine dF _ _ rfl w3.heap.size _ l rfl (hg7.keep ((Below.refl _ _).alloc (Nat.le_refl _) _)) (fun h=>absurd (by rw[h];rfl) hl0) ⟨w7.heap.size,0,none⟩ (l[k].1,l[k].2) rfl (box0 w7 _ _ _) (by simp[Addr.add,go_sem]) (by omega) b7.size ?_
      intro v8 w8 hg8 ha8
      have b8:=ha8.below b7 (Nat.le_refl _) b7.size
      refine hK.out _ _ (HS.out _ b8) (fun _=>?_)
      clear hK K
      refine wpAnyH_ready (rs:=[6]) (by kernel_rfl) (by simp) ?_
      refine AllReadyH.cons rfl (fun K hK=>?_) AllReadyH.nil
      rw[if_pos (by rfl)]
      go_simp
      refine hK.out _ _ (HS.out _ b8) (fun _=>?_)
      clear hK K
      refine wpAnyH_done (by kernel_rfl) ?_ _
      go_wp2_with fail
      go_ret
      exact HFIN.out v8 w8 b8 hg8
     ·rw[if_pos (by rfl)]
      go_simp
      have b6:=b5.alloc b5.size (.cells #[.string l[k].1,.int .i64 l[k].2] 54)
      refine hK.out _ _ (HS.out _ b6) (fun _=>?_)
      clear hK K
      refine wpAnyH_ready (rs:=[2]) (by kernel_rfl) (by simp) ?_
      refine AllReadyH.cons rfl (fun K hK=>?_) AllReadyH.nil
      rw[if_pos (by rfl)]
      refine lh _ _ rfl w3.heap.size B w3.heap.size g cap l rfl ((Below.heap_alloc (w3.drew.alloc (.cells #[] 54)) _ w3.heap.size (by simp)).trans (heap_alloc_new w3.drew _)) (by simp) rfl (HG.out _ b6) (by omega) (by omega) ?_
      intro v7 w7 hg7 hgr7
      have b7:=b6.grown hgr7 b6.size (fun q e=>by simp at e;omega)
      refine hK.out _ _ (HS.out _ b7) (fun _=>?_)
      clear hK K
      refine wpAnyH_ready (rs:=[5]) (by kernel_rfl) (by simp) ?_
      refine AllReadyH.cons rfl (fun K hK=>?_) AllReadyH.nil
      rw[if_pos (by rfl)]
      refine dF _ _ rfl w3.heap.size _ l rfl hg7 (fun h=>absurd (by rw[h];rfl) hl0) ⟨w3.heap.size+1,0,none⟩ (l[k].1,l[k].2) rfl ((World.cell?_of_block (hgr7.block (w3.heap.size+1) (by simp) (by simp))).trans (by simp[go_sem])) ((World.cell?_of_block (hgr7.block (w3.heap.size+1) (by simp) (by simp))).trans (by simp[Addr.add,go_sem])) (by omega) b7.size ?_
      intro v8 w8 hg8 ha8
      have b8:=ha8.below b7 (Nat.le_refl _) b7.size
      refine hK.out _ _ (HS.out _ b8) (fun _=>?_)
      clear hK K
      refine wpAnyH_ready (rs:=[6]) (by kernel_rfl) (by simp) ?_
      refine AllReadyH.cons rfl (fun K hK=>?_) AllReadyH.nil
      rw[if_pos (by rfl)]
      go_simp
      refine hK.out _ _ (HS.out _ b8) (fun _=>?_)
      clear hK K
      refine wpAnyH_done (by kernel_rfl) ?_ _
      go_wp2_with fail
      go_ret
      exact HFIN.out v8 w8 b8 hg8
    ·rw[if_pos (by rfl)]
     go_simp
     have b5:=b4.alloc b4.size (.cells #[.string l[k].1,.int .i64 l[k].2] 54)
     refine hK.out _ _ (HS.out _ b5) (fun _=>?_)
     clear hK K
     refine wpAnyH_ready (rs:=[0]) (by kernel_rfl) (by simp) ?_
     refine AllReadyH.cons rfl (fun K hK=>?_) AllReadyH.nil
     rw[if_pos (by rfl)]
     go_simp
     have b6:=b5.alloc b5.size (.cells #[] 54)
     refine hK.out _ _ (HS.out _ b6) (fun _=>?_)
     clear hK K
     refine wpAnyH_ready (rs:=[2]) (by kernel_rfl) (by simp) ?_
     refine AllReadyH.cons rfl (fun K hK=>?_) AllReadyH.nil
     rw[if_pos (by rfl)]
     refine lh _ _ rfl w3.heap.size B (w3.heap.size+1) g cap l rfl (by have h:=heap_alloc_new (w3.alloc (.cells #[.string l[k].1,.int .i64 l[k].2] 54)) (.cells #[] 54);rw[World.size_alloc]at h;exact h) (by simp) rfl (HG.out _ b6) (by omega) (by omega) ?_
     intro v7 w7 hg7 hgr7
     have b7:=b6.grown hgr7 b6.size (fun q e=>by simp at e;omega)
     refine hK.out _ _ (HS.out _ b7) (fun _=>?_)
     clear hK K
     refine wpAnyH_ready (rs:=[5]) (by kernel_rfl) (by simp) ?_
     refine AllReadyH.cons rfl (fun K hK=>?_) AllReadyH.nil
     rw[if_pos (by rfl)]
     refine dF _ _ rfl w3.heap.size _ l rfl hg7 (fun h=>absurd (by rw[h];rfl) hl0) ⟨w3.heap.size,0,none⟩ (l[k].1,l[k].2) rfl ((World.cell?_of_block (hgr7.block w3.heap.size (by simp;omega) (by simp))).trans ((World.cell?_of_block (Below.heap_alloc (w3.alloc (.cells #[.string l[k].1,.int .i64 l[k].2] 54)) (.cells #[] 54) w3.heap.size (by simp))).trans (box0 w3 _ _ _))) ((World.cell?_of_block (hgr7.block w3.heap.size (by simp;omega) (by simp))).trans ((World.cell?_of_block (Below.heap_alloc (w3.alloc (.cells #[.string l[k].1,.int .i64 l[k].2] 54)) (.cells #[] 54) w3.heap.size (by simp))).trans (box1 w3 _ _ _))) (by omega) b7.size ?_
     intro v8 w8 hg8 ha8
     have b8:=ha8.below b7 (Nat.le_refl _) b7.size
     refine hK.out _ _ (HS.out _ b8) (fun _=>?_)
     clear hK K
     refine wpAnyH_ready (rs:=[6]) (by kernel_rfl) (by simp) ?_
     refine AllReadyH.cons rfl (fun K hK=>?_) AllReadyH.nil
     rw[if_pos (by rfl)]
     go_simp
     refine hK.out _ _ (HS.out _ b8) (fun _=>?_)
     clear hK K
     refine wpAnyH_done (by kernel_rfl) ?_ _
     go_wp2_with fail
     go_ret
     exact HFIN.out v8 w8 b8 hg8
   ·go_wp2_with fail
    go_ret
    exact HST.out w3 (l[k].1,l[k].2) _ hr3 (by omega) hg3 hlk hB3
 ·have h0':(x != 0)=true:=by simp[h0]
  go_wp2_with fail
  go_ret
  exact⟨⟨_,l,p+1,rfl,hg.but hb1 hR,by omega,hs,hr1,by omega⟩,hb1.upto hB⟩
end Go.Proofs.YtpfhegengmlkmabGreatDoor
namespace Go.Proofs.YtpfhegengmlkmabGreatDoor
open Go.RowKit
def waits (ops:Array Oper)(i:Nat):List Nat:=match ops[i]? with
 |none=>[]
 |some o=>(o.after.toList.filter (Region.binds .any)).map (·.on)
def earlier (ops:Array Oper):Bool:=(List.range ops.size).all fun i=>(waits ops i).all fun j=>decide (j<i)
theorem mem_ready {ops:Array Oper}{listed:Array Bool}{i:Nat}:i∈Region.ready .any ops listed↔i<ops.size/\listed.getD i true=false/\∀j∈waits ops i,listed.getD j false=true:=by
 unfold Region.ready waits
 rw[List.mem_filter,List.mem_range]
 refine and_congr_right fun hi=>?_
 rw[Array.getElem?_eq_getElem hi]
 simp only[Option.map_some,Option.getD_some,Bool.and_eq_true,Bool.not_eq_true',List.mem_map,List.mem_filter]
 refine and_congr_right fun _=>?_
 rw[Array.all_eq_true']
 constructor
 ·rintro h j ⟨e,⟨he,hb⟩,rfl⟩
  have:=h e (by simpa using he)
  simpa[hb]using this
 ·intro h e he
  by_cases hb:Region.binds .any e=true
  ·simpa[hb]using h e.on ⟨e,⟨by simpa using he,hb⟩,rfl⟩
  ·simp[hb]
def jw (f:Nat->Bool)(i:Nat):Nat->Bool:=fun k=>if k=i then true else f k
theorem yh (f:Nat->Bool){i k:Nat}(h:k≠i):jw f i k=f k:=if_neg h
def wE (n:Nat)(f:Nat->Bool):Nat:=((List.range n).filter fun k=>!f k).length
theorem uC {n i:Nat}{f:Nat->Bool}(hi:i<n)(h:f i=false):wE n (jw f i)<wE n f:=by
 unfold wE
 have e:((List.range n).filter fun k=>!jw f i k)=((List.range n).filter fun k=>!f k).filter fun k=>decide (k≠i):=by
  rw[List.filter_filter]
  refine List.filter_congr fun k _=>?_
  by_cases hk:k=i
  ·subst hk;simp[jw]
  ·simp[jw,hk]
 rw[e]
 refine List.length_filter_lt_length_iff_exists.2 ⟨i, ?_,by simp⟩
 simp[List.mem_filter,hi,h]
theorem rF {ops:Array Oper}(h:earlier ops=true){i j:Nat}(hi:i<ops.size)(hj:j∈waits ops i):j<i:=by
 have h1:=List.all_eq_true.1 h i (List.mem_range.2 hi)
 simpa using List.all_eq_true.1 h1 j hj
theorem Gj {P:Program}{ops:Array Oper}{Q:Exit->Act->World->Prop}(Inv:(Nat->Bool)->Act->World->Prop)(he:earlier ops=true)
  (hstep:∀f a w i,Inv f a w->i<ops.size->f i=false->(∀j∈waits ops i,f j=true)->wpOp P ops Q i (Inv (jw f i)) a w)
  (hend:∀f a w,Inv f a w->(∀i,i<ops.size->f i=true)->Q .normal a w) :
  ∀(fuel:Nat) (listed:Array Bool) (f:Nat->Bool) (a:Act) (w:World),listed.size=ops.size->(∀i,(h:i<listed.size)->listed[i]=f i)->wE ops.size f<=fuel->Inv f a w->wpAny P .any ops Q fuel listed a w:=by
 have hget:∀{listed:Array Bool} {f:Nat->Bool},listed.size=ops.size->(∀i,(h:i<listed.size)->listed[i]=f i)->∀i d,i<ops.size->listed.getD i d=f i:=fun{listed f} hs hl i d hi=>by
  rw[Array.getD_eq_getD_getElem?,Array.getElem?_eq_getElem (by omega)]
  exact hl i (by omega)
 have hall:∀{listed:Array Bool} {f:Nat->Bool},listed.size=ops.size->(∀i,(h:i<listed.size)->listed[i]=f i)->Region.ready .any ops listed=[]->∀i,i<ops.size->f i=true:=fun{listed f} hs hl hr i=>by
  induction i using Nat.strongRecOn with
  |_ i ih=>
   intro hi
   refine Classical.byContradiction fun hn=>?_
   have hm:i∈Region.ready .any ops listed:=mem_ready.2 ⟨hi,by rw[hget hs hl i true hi];simpa using hn,fun j hj=>by
    have hji:=rF he hi hj
    rw[hget hs hl j false (by omega)]
    exact ih j hji (by omega)⟩
   rw[hr]at hm
   simp at hm
 intro fuel
 induction fuel with
 |zero=>
  intro listed f a w hs hl hc hI
  have hr:Region.ready .any ops listed=[]:=by
   refine List.eq_nil_iff_forall_not_mem.2 fun i hi=>?_
   obtain⟨h1,h2,_⟩:=mem_ready.1 hi
   rw[hget hs hl i true h1]at h2
   have:=uC h1 h2
   omega
  exact⟨hr,hend f a w hI (hall hs hl hr)⟩
 |succ fuel ih=>
  intro listed f a w hs hl hc hI
  refine⟨fun hr=>hend f a w hI (hall hs hl hr),fun i hi=>?_⟩
  obtain⟨h1,h2,h3⟩:=mem_ready.1 hi
  rw[hget hs hl i true h1]at h2
  have h4:∀j∈waits ops i,f j=true:=fun j hj=>by
   have hji:=rF he h1 hj
   rw[<- hget hs hl j false (by omega)]
   exact h3 j hj
  have hlt:=uC h1 h2
  have hk:∀a' w',Inv (jw f i) a' w'->wpAny P .any ops Q fuel (listed.setIfInBounds i true) a' w':=fun a' w' h'=>ih _ (jw f i) a' w' (by simpa using hs) (fun k hk'=>by
   have hk2:k<listed.size:=by simpa using hk'
   rw[Array.getElem_setIfInBounds (by simpa using hk2)]
   by_cases e:i=k
   ·subst e;simp[jw]
   ·rw[if_neg e,yh f (fun h=>e h.symm)]
    exact hl k hk2) (by omega) h'
  have hs':=hstep f a w i hI h1 h2 h4
  unfold wpOp at hs' ⊢
  split
  ·rename_i ho
   rw[ho]at hs'
   exact hk _ _ hs'
  ·rename_i o ho
   rw[ho]at hs'
   simp only at hs'
   split
   ·rename_i hw
    rw[if_pos hw]at hs'
    rcases hs' with h|h
    ·exact .inl (Oper.wp_mono hk h)
    ·exact .inr h
   ·rename_i hw
    rw[if_neg hw]at hs'
    exact hk _ _ hs'
theorem lm {P:Program}{id:Nat}{ops:Array Oper}{Q:Exit->Act->World->Prop}{a:Act}{w:World}(hm:P.follows .mixedOrders=true)(he:earlier ops=true)(Inv:(Nat->Bool)->Act->World->Prop)(h0:Inv (fun _=>false) a w.drew)
  (hstep:∀f a w i,Inv f a w->i<ops.size->f i=false->(∀j∈waits ops i,f j=true)->wpOp P ops Q i (Inv (jw f i)) a w)
  (hend:∀f a w,Inv f a w->(∀i,i<ops.size->f i=true)->Q .normal a w):(Code.region id ops true).wp P Q a w:=
 wp_region_any hm (Gj Inv he hstep hend ops.size _ (fun _=>false) a _ (by simp) (fun i hi=>by simp) (by unfold wE;exact Nat.le_trans (List.length_filter_le _ _) (by simp)) h0)
theorem ax {P:Program}{ops:Array Oper}{Q:Exit->Act->World->Prop}{K:Act->World->Prop}{i:Nat}{a:Act}{w:World}{o:Oper}(ho:ops[i]?=some o)(hw:Region.wanted o (yielded ops a.tmps)=true)(h:o.wp P a w K Q):wpOp P ops Q i K a w:=by
 unfold wpOp
 rw[ho]
 simp only
 rw[if_pos hw]
 exact .inl h
end Go.Proofs.YtpfhegengmlkmabGreatDoor
