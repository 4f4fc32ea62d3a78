/- Texts of this claim. -/
import Derived.Deep.DeepCutAuto
import Derived.Test.YtpfhegengmlkmabGreatDoorZu35
namespace Go.Proofs.YtpfhegengmlkmabGreatDoor
open Go.RowKit Go.BigFrame
set_option maxRecDepth 100000
def uA (w:World)(B:Nat)(v:Value)(l:List Int):Prop:=w.ownsRow B 3 1 v l.length (l.map fun x=>.int .i64 x)
theorem uA.cells {w:World}{B g n cap:Nat}{l:List Int}(h:uA w B (.slice (some ⟨g,0,none⟩) n cap) l)(hn:n=l.length){j:Nat}(hj:j<l.length):w.cell? ⟨g,j,none⟩=some (.int .i64 l[j]):=by
 subst hn
 rw[World.ownsRow.cellAt h j (by omega)]
 simp[hj]
theorem uA.some {w:World}{B:Nat}{v:Value}{l:List Int}(h:uA w B v l)(h0:0<l.length):∃g cap,v=.slice (Option.some ⟨g,0,none⟩) l.length cap/\B<=g:=by
 obtain⟨g,cap,e,hB,_⟩:=World.ownsRow.form h h0
 exact⟨g,cap,e,hB⟩
set_option maxHeartbeats 1600000 in
theorem Di (R n c p:Nat)(ab:Option Addr)(w:World)(hr:Rd w R ab n c p)(hp:p<=80000) :
  Calls Tryz.prog 12 #[.pointer (some ⟨R,0,none⟩)] w fun e w'=>(∃v l p',e=.returned v/\uA w' w.heap.size v l/\1<=l.length/\l.length<=4/\Rd w' R ab n c p'/\p'<=p+10)/\But R w w':=by
 obtain⟨i0,hi,hz0,hz1,hz2⟩:=info_parts Tryz.infoZZ
 have hR:=hr.lt
 go_enter Tryz.func12,Tryz.ntmps12
 go_wp2_with fail
 refine(pick_any R n c p ab 4 w hr (by omega) (by omega) (by omega)).mono ?_
 rintro e w1 ⟨⟨y,rfl,hy0,hy1⟩,hr1,hb1⟩
 obtain⟨N,rfl⟩:=Int.eq_ofNat_of_zero_le hy0
 go_wp2_with fail
 go_loopw [3,5] (fun out i wr=>∃(k p':Nat) (l:List Int),k<=N+1/\i=.int .i64 k/\uA wr w.heap.size out l/\l.length=k/\Rd wr R ab n c p'/\p'<=p+1+k/\But R w wr) (fun _ i _=>N+1-(intOf i).toNat)
 case atStart=>exact⟨0,p+1,[],by omega,rfl,World.ownsRow_nil _ _ _ _,rfl,hr1,by omega,hb1⟩
 case round=>
  obtain⟨k,p',l,hk,rfl,hg,hll,hrr,hp',hb⟩:=hrel
  clear hr hr1 hb1
  by_cases hlt:k<N+1
  ·have hlt':decide ((k:Int)<1+(N:Int))=true:=decide_eq_true (by omega)
   go_wp2_with fail
   refine(pick_any R n c p' ab 15 wr hrr (by omega) (by omega) (by omega)).mono ?_
   rintro e w2 ⟨⟨x,rfl,hx0,hx1⟩,hr2,hb2⟩
   have hB2:But R w w2:=hb.trans hb2
   have hg2:w2.ownsRow w.heap.size 3 1 u3 l.length (l.map fun x=>.int .i64 x):=xN hg hb2 hR
   have hbx:Below w2.heap.size w2 (w2.alloc (.cells #[.int .i64 (1+x)] 3)):=(Below.refl _ _).alloc (Nat.le_refl _) _
   have hz2':=hB2.size
   clear hg hb hb2 hrr
   go_wp2_with (at_builtin;refine wpList_append_lies _ rfl _ _ 41 rfl w.heap.size 3 i0 (.int .i64 0) 1 8 Tryz.underlying41 hi hz0 hz1 hz2 rfl (by decide) _ _ _ rfl (gV hg2 hbx) ⟨w2.heap.size,0,none⟩ 1 1 [.int .i64 (1+x)] rfl rfl (fA w2 _ _) (by simp[Value.oneCell']) (by decide) (by unfold maxLen;omega) (by omega) (by simp;omega) _ rfl ?_;intro g3 c3 w3 hown hgrow _ _)
   have hB3:But R w w3:=(hB2.trans (But.of_below hbx)).grown hgrow (fH (gV hg2 hbx))
   have hr3:=(hr2.below hbx).grown hgrow (fun q e=>by have:=fH (gV hg2 hbx) q e;omega)
   have hg3:uA w3 w.heap.size (.slice (some ⟨g3,0,none⟩) (l.length+1) c3) (l++[1+x]):=by
    unfold uA
    rw[List.length_append,List.map_append]
    exact hown
   rw[hll]at hg3
   exact⟨⟨k+1,p'+1,l++[1+x],by omega,by go_num,hg3,by simp[hll],hr3,by omega,hB3⟩,by simp[intOf];omega⟩
  ·have hlt':decide ((k:Int)<1+(N:Int))=false:=decide_eq_false (by omega)
   go_wp2_with fail
   go_ret
   exact⟨⟨_,l,p',rfl,hg,by omega,by omega,hrr,by omega⟩,hb⟩
set_option maxHeartbeats 1600000 in
theorem Iy (N:Nat)(w:World)(hN:N<=10) :
  Calls Tryz.prog 13 #[.int .i64 N] w fun e w'=>(∃v l,e=.returned v/\aI w' w.heap.size v l/\l.length=N/\∀s∈l,s.size<=8)/\Below w.heap.size w w':=by
 obtain⟨i0,hi,hz0,hz1,hz2⟩:=info_parts Tryz.infoS
 go_enter Tryz.func13,Tryz.ntmps13
 go_wp2_with fail
 go_loopw [3,4] (fun out i wr=>∃(k:Nat) (l:List ByteArray),k<=N/\i=.int .i64 k/\aI wr w.heap.size out l/\l.length=k/\(∀s∈l,s.size<=8)/\Below w.heap.size w wr) (fun _ i _=>N-(intOf i).toNat)
 case atStart=>exact⟨0,[],Nat.zero_le _,rfl,jr _ _,rfl,by simp,Below.refl _ _⟩
 case round=>
  obtain⟨k,l,hk,rfl,hg,hll,hs8,hb⟩:=hrel
  by_cases hlt:k<N
  ·have hcv:=yQ (97+(k:Int)) (by omega) (by omega) wr
   have hzr:=hb.size
   generalize hsb:(⟨#[UInt8.ofNat (97+(k:Int)).toNat]⟩:ByteArray)=sb at *
   have hsz:sb.size<=8:=by rw[<- hsb];show 1<=8;omega
   have hbx:Below wr.heap.size wr ((wr.alloc (.cells #[.int .u8 (97+(k:Int))] 5)).alloc (.cells #[.string sb] 9)):=((Below.refl _ _).alloc (Nat.le_refl _) _).alloc (by simp) _
   have hg2:((wr.alloc (.cells #[.int .u8 (97+(k:Int))] 5)).alloc (.cells #[.string sb] 9)).ownsRow w.heap.size 9 1 u3 l.length (l.map .string):=gV hg hbx
   have hnw:∀j u,([.string sb]:List Value)[j]?=some u->((wr.alloc (.cells #[.int .u8 (97+(k:Int))] 5)).alloc (.cells #[.string sb] 9)).cell? ((⟨wr.heap.size+1,0,none⟩:Addr).add j)=some u:=by
    have q:=fA (wr.alloc (.cells #[.int .u8 (97+(k:Int))] 5)) (.string sb) 9
    simpa only[World.size_alloc]using q
   clear hsb
   go_wp2_with (at_builtin;refine wpList_append_lies _ rfl _ _ 23 rfl w.heap.size 9 i0 (.string .empty) 1 16 Tryz.underlying23 hi hz0 hz1 hz2 rfl (by decide) _ _ _ rfl hg2 ⟨wr.heap.size+1,0,none⟩ 1 1 [.string sb] rfl rfl hnw (by simp[Value.oneCell']) (by decide) (by unfold maxLen;omega) (by omega) (by simp;omega) _ rfl ?_;intro g3 c3 w3 hown hgrow _ _)
   have hB3:Below w.heap.size w w3:=(hb.trans (hbx.mono hzr)).grown hgrow (by simp;omega) (fH hg2)
   have hg3:=aI.snoc hown
   rw[hll]at hg3
   exact⟨⟨k+1,l++[sb],by omega,by go_num,hg3,by simp[hll],fun s hs=>(List.mem_append.1 hs).elim (hs8 s) fun e=>by simp at e;subst e;exact hsz,hB3⟩,by simp[intOf];omega⟩
  ·go_wp2_with fail
   go_ret
   exact⟨⟨_,l,rfl,hg,by omega,hs8⟩,hb⟩
abbrev eY:=Int×af×Option Addr×Nat
def iD:List eY->List Value
 |[]=>[]
 |p::r=>.int .i64 p.1::.int .i64 p.2.1.1::.slice p.2.2.1 p.2.1.2.length p.2.2.2::iD r
theorem lq:∀L r,iD (L++r)=iD L++iD r
 |[],_=>rfl
 |p::L,r=>by simp[iD,lq L r]
theorem tX:∀(L:List eY) (k:Nat) (h:k<L.length),(iD L)[k*3]?=some (.int .i64 L[k].1)/\(iD L)[k*3+1]?=some (.int .i64 L[k].2.1.1)/\(iD L)[k*3+2]?=some (.slice L[k].2.2.1 L[k].2.1.2.length L[k].2.2.2)
 |p::r,0,_=>by simp[iD]
 |p::r,k+1,h=>by
  have:=tX r k (by simpa using h)
  have e0:(k+1)*3=k*3+1+1+1:=by omega
  rw[e0]
  simp only[iD,List.getElem?_cons_succ,List.getElem_cons_succ]
  exact this
def eu (w:World)(B:Nat)(v:Value)(L:List eY):Prop:=w.ownsRow B 36 3 v L.length (iD L)/\∀p∈L,qV w B p.2.2.1 p.2.2.2 p.2.1.2/\p.2.1.2.length<=40/\∀y∈p.2.1.2,y.1.size<=2000
theorem Fe (w:World)(B:Nat):eu w B (.slice none 0 0) []:=⟨World.ownsRow_nil _ _ _ _,by simp⟩
theorem eu.but {w w':World}{R B:Nat}{v:Value}{L:List eY}(h:eu w B v L)(hb:But R w w')(hR:R<B):eu w' B v L:=⟨xN h.1 hb hR,fun p hp=>⟨(h.2 p hp).1.but hb hR,(h.2 p hp).2⟩⟩
theorem eu.keep {w w':World}{B:Nat}{v:Value}{L:List eY}(h:eu w B v L)(hb:Below w.heap.size w w'):eu w' B v L:=⟨gV h.1 hb,fun p hp=>⟨(h.2 p hp).1.keep hb,(h.2 p hp).2⟩⟩
theorem eu.lower {w:World}{B B':Nat}{v:Value}{L:List eY}(h:eu w B v L)(hB:B'<=B):eu w B' v L:=⟨xB h.1 hB,fun p hp=>⟨(h.2 p hp).1.lower hB,(h.2 p hp).2⟩⟩
theorem eu.snoc {w w':World}{B:Nat}{v v':Value}{L:List eY}{p:eY}(h:eu w B v L)(hp:qV w B p.2.2.1 p.2.2.2 p.2.1.2/\p.2.1.2.length<=40/\∀y∈p.2.1.2,y.1.size<=2000)
  (h':w'.ownsRow B 36 3 v' (L.length+1) (iD L++[.int .i64 p.1,.int .i64 p.2.1.1,.slice p.2.2.1 p.2.1.2.length p.2.2.2])) (hgr:w.grownBy w' v.ownBlock):eu w' B v' (L++[p]):=by
 refine⟨?_,fun q hq=>?_⟩
 ·rw[lq,List.length_append]
  exact h'
 ·rcases List.mem_append.1 hq with hq|hq
  ·exact⟨(h.2 q hq).1.grown h.1 (by decide) hgr,(h.2 q hq).2⟩
  ·obtain rfl:q=p:=by simpa using hq
   exact⟨hp.1.grown h.1 (by decide) hgr,hp.2⟩
theorem Tryz.infoF:(Tryz.prog.info? 36).map (fun i=>(i.zero,i.size,i.bytes))=some (some (.agg #[.int .i64 0,.int .i64 0,.slice none 0 0]),3,40):=by kernel_rfl
theorem qM {w w':World}{A B e size n:Nat}{v:Value}{xs:List Value}(h:w.ownsRow B e size v n xs)(hb:But A w w')(hne:some A≠v.ownBlock):w'.ownsRow B e size v n xs:=by
 obtain⟨hl,h|⟨g,cap,cur,rfl,hgB,hh,r⟩⟩:=h
 ·exact⟨hl,.inl h⟩
 ·exact⟨hl,.inr ⟨g,cap,cur,rfl,hgB,(hb.block g (Array.getElem?_eq_some_iff.1 hh).1 (fun q=>hne (by rw[<- q];rfl))).trans hh,r⟩⟩
def AtB (w:World)(A n:Nat)(b:Int):Prop:=∃f,w.rowIs A 3 n f/\∀j,j<n->∃v:Int,f j=.int .i64 v/\0<=v/\v<=b
theorem AtB.of {w w':World}{A n:Nat}{b:Int}(h:AtB w A n b)(hb:w'.heap[A]?=w.heap[A]?):AtB w' A n b:=by
 obtain⟨f,h,hf⟩:=h
 exact⟨f,h.of_block hb,hf⟩
theorem AtB.lt {w:World}{A n:Nat}{b:Int}(h:AtB w A n b):A<w.heap.size:=by
 obtain⟨f,h,_⟩:=h
 exact h.lt
theorem AtB.cell {w:World}{A n:Nat}{b:Int}(h:AtB w A n b){j:Nat}(hj:j<n):∃v:Int,w.cell? ⟨A,j,none⟩=some (.int .i64 v)/\0<=v/\v<=b:=by
 obtain⟨f,h,hf⟩:=h
 obtain⟨v,e,h0,h1⟩:=hf j hj
 exact⟨v,by rw[h.cell hj,e],h0,h1⟩
theorem AtB.free {w:World}{A n:Nat}{b:Int}(h:AtB w A n b)(j:Nat):w.frozen? ⟨A,j,none⟩=false:=by
 obtain⟨f,h,_⟩:=h
 exact h.frozen j
theorem AtB.set {w:World}{A n:Nat}{b:Int}(h:AtB w A n b){k:Nat}{u:Int}(h0:0<=u)(h1:u<=b):AtB (w.setCell ⟨A,k,none⟩ (.int .i64 u)) A n b:=by
 obtain⟨f,h,hf⟩:=h
 refine⟨_,h.set _ _,fun j hj=>?_⟩
 by_cases e:j=k
 ·exact⟨u,if_pos e,h0,h1⟩
 ·obtain⟨v,q,q0,q1⟩:=hf j hj
  exact⟨v,(if_neg e).trans q,q0,q1⟩
theorem AtB.made (w:World)(n:Nat):AtB (w.alloc (.cells (madeCells #[.int .i64 0] n) 3)) w.heap.size n 11:=by
 refine⟨fun _=>.int .i64 0, ?_,fun j _=>⟨0,rfl,by omega,by omega⟩⟩
 have h:=World.rowIs_alloc w (madeCells #[.int .i64 0] n) 3 (fun _=>.int .i64 0) (fun i hi=>by
  rw[size_madeCells]at hi
  simp[madeCells,hi,Nat.mod_one])
 rwa [size_madeCells]at h
structure FW (w u:World) (R n c:Nat) (ab:Option Addr) (p' A nw sa sc:Nat) (SL:List (Nat×Nat)) (out:Value) (L:List eY) (b:Int):Prop where
 at_:AtB u A nw b
 story:iY u w.heap.size (.slice (some ⟨sa,0,none⟩) 12 sc) SL
 feeds:eu u w.heap.size out L
 rd:Rd u R ab n c p'
 but:But R w u
 low:w.heap.size<=A
 old:∀p∈SL,p.1<A
 r:R<w.heap.size
theorem FW.keep {w u u':World}{R n c p' A nw sa sc:Nat}{ab:Option Addr}{SL:List (Nat×Nat)}{out:Value}{L:List eY}{b:Int}(h:FW w u R n c ab p' A nw sa sc SL out L b)(hb:Below u.heap.size u u'):FW w u' R n c ab p' A nw sa sc SL out L b:=
 ⟨h.at_.of (hb.block A h.at_.lt),h.story.keep hb,h.feeds.keep hb,h.rd.below hb,h.but.trans (But.of_below hb),h.low,h.old,h.r⟩
theorem FW.pick {w u u':World}{R n c p' p2 A nw sa sc:Nat}{ab:Option Addr}{SL:List (Nat×Nat)}{out:Value}{L:List eY}{b:Int}(h:FW w u R n c ab p' A nw sa sc SL out L b)(hr:Rd u' R ab n c p2)(hb:But R u u'):FW w u' R n c ab p2 A nw sa sc SL out L b:=
 ⟨h.at_.of (hb.block A h.at_.lt (by have:=h.low;have:=h.r;omega)),h.story.but hb h.r,h.feeds.but hb h.r,hr,h.but.trans hb,h.low,h.old,h.r⟩
theorem AtB.mono {w:World}{A n:Nat}{b b':Int}(h:AtB w A n b)(hb:b<=b'):AtB w A n b':=by
 obtain⟨f,h,hf⟩:=h
 refine⟨f,h,fun j hj=>?_⟩
 obtain⟨v,e,h0,h1⟩:=hf j hj
 exact⟨v,e,h0,by omega⟩
theorem FW.turn {w u u':World}{R n c p' A nw sa sc:Nat}{ab:Option Addr}{SL:List (Nat×Nat)}{out:Value}{L:List eY}{b b':Int}(h:FW w u R n c ab p' A nw sa sc SL out L b)(hbt:But A u u')(hat:AtB u' A nw b'):FW w u' R n c ab p' A nw sa sc SL out L b':=by
 obtain⟨f,hrow,_⟩:=id h.at_
 have n1:some A≠(Value.slice (some ⟨sa,0,none⟩) 12 sc).ownBlock:=fE h.story.1 hrow (by decide)
 have n2:=fE h.feeds.1 hrow (by decide)
 refine⟨hat,⟨qM h.story.1 hbt n1,fun p hp=>⟨(h.story.2 p hp).1,(h.story.2 p hp).2.1.but hbt (by have:=h.old p hp;omega),(h.story.2 p hp).2.2⟩⟩,
  ⟨qM h.feeds.1 hbt n2,fun p hp=>⟨⟨(h.feeds.2 p hp).1.1,(h.feeds.2 p hp).1.2.imp id fun⟨g,e,hg,ho⟩=>⟨g,e,hg,hbt.own ho (fun q=>by
   obtain⟨m',f',hr',_⟩:=ho
   obtain⟨cs,q1,_⟩:=hr'
   obtain⟨cs',q2,_⟩:=hrow
   rw[q,q2]at q1
   simp at q1)⟩⟩,(h.feeds.2 p hp).2⟩⟩,h.rd.same fun q hq=>hbt.block q (by have:=h.rd.lt;omega) (by have:=h.low;have:=h.r;omega),h.but.trans' hbt h.low,h.low,h.old,h.r⟩
theorem AtB.set2 {w:World}{A n:Nat}{b:Int}(h:AtB w A n b){k:Nat}{v u:Int}(h0:0<=u)(h1:u<=b):AtB ((w.setCell ⟨A,k,none⟩ (.int .i64 v)).setCell ⟨A,k,none⟩ (.int .i64 u)) A n b:=by
 obtain⟨f,h,hf⟩:=h
 refine⟨_,(h.set _ _).set _ _,fun j hj=>?_⟩
 by_cases e:j=k
 ·exact⟨u,if_pos e,h0,h1⟩
 ·obtain⟨v,q,q0,q1⟩:=hf j hj
  exact⟨v,(if_neg e).trans ((if_neg e).trans q),q0,q1⟩
structure Ha (u:World) (B bt:Nat) (x:Int) (ma:Option Addr) (mc:Nat) (m:List (ByteArray×Int)):Prop where
 row:∃f,u.rowIs bt 34 2 f/\f 0=.int .i64 x/\f 1=.slice ma m.length mc
 sl:qV u B ma mc m
 few:m.length<=40/\∀y∈m,y.1.size<=2000
 low:B<=bt
theorem Ha.lt {u:World}{B bt mc:Nat}{x:Int}{ma:Option Addr}{m:List (ByteArray×Int)}(h:Ha u B bt x ma mc m):bt<u.heap.size:=by
 obtain⟨f,h,_⟩:=h.row
 exact h.lt
theorem Ha.cells {u:World}{B bt mc:Nat}{x:Int}{ma:Option Addr}{m:List (ByteArray×Int)}(h:Ha u B bt x ma mc m):u.cell? ⟨bt,0,none⟩=some (.int .i64 x)/\u.cell? ⟨bt,1,none⟩=some (.slice ma m.length mc)/\u.frozen? ⟨bt,0,none⟩=false/\u.frozen? ⟨bt,1,none⟩=false:=by
 obtain⟨f,h,e0,e1⟩:=h.row
 exact⟨by rw[h.cell (by omega),e0],by rw[h.cell (by omega),e1],h.frozen 0,h.frozen 1⟩
theorem Ha.but {u u':World}{R B bt mc:Nat}{x:Int}{ma:Option Addr}{m:List (ByteArray×Int)}(h:Ha u B bt x ma mc m)(hb:But R u u')(hR:R<B):Ha u' B bt x ma mc m:=by
 have hlt:=h.lt
 obtain⟨f,h1,e⟩:=h.row
 exact⟨⟨f,h1.of_block (hb.block bt hlt (by have:=h.low;omega)),e⟩,h.sl.but hb hR,h.few,h.low⟩
theorem qV.turn {u u':World}{B b t k mc:Nat}{f:Nat->Value}{ma:Option Addr}{m:List (ByteArray×Int)}(h:qV u B ma mc m)(hbt:But b u u')(hrow:u.rowIs b t k f)(hne:54≠t):qV u' B ma mc m:=
 ⟨h.1,h.2.imp id fun⟨g,e,hg,ho⟩=>⟨g,e,hg,hbt.own ho (fun q=>by
   obtain⟨m',f',hr',_⟩:=ho
   obtain⟨cs,q1,_⟩:=hr'
   obtain⟨cs',q2,_⟩:=hrow
   rw[q,q2]at q1
   simp at q1
   exact hne q1.2.symm)⟩⟩
theorem FW.other {w u u':World}{R n c p' A nw sa sc b t k:Nat}{ab:Option Addr}{SL:List (Nat×Nat)}{out:Value}{L:List eY}{bd:Int}{f:Nat->Value}(h:FW w u R n c ab p' A nw sa sc SL out L bd)(hbt:But b u u')(hrow:u.rowIs b t k f)(h1:54≠t)(h2:t≠3)(h3:t≠41)(h4:some b≠out.ownBlock)(hlow:w.heap.size<=b):FW w u' R n c ab p' A nw sa sc SL out L bd:=by
 have int_ne:∀{g m:Nat} {f':Nat->Value},u.rowIs g 3 m f'->g≠b:=fun hr q=>by
  obtain⟨cs,q1,_⟩:=hr
  obtain⟨cs',q2,_⟩:=hrow
  rw[q,q2]at q1
  simp at q1
  exact h2 q1.2
 obtain⟨fa,hra,_⟩:=id h.at_
 refine⟨h.at_.of (hbt.block A h.at_.lt (int_ne hra)),⟨qM h.story.1 hbt (fE h.story.1 hrow h3),fun p hp=>⟨(h.story.2 p hp).1,(h.story.2 p hp).2.1.but hbt (by
   obtain⟨m,f',hr',_⟩:=(h.story.2 p hp).2.1
   exact int_ne hr'),(h.story.2 p hp).2.2⟩⟩,
  ⟨qM h.feeds.1 hbt h4,fun p hp=>⟨(h.feeds.2 p hp).1.turn hbt hrow h1,(h.feeds.2 p hp).2⟩⟩,h.rd.same fun q hq=>hbt.block q (by have:=h.rd.lt;omega) (by have:=h.r;omega),h.but.trans' hbt hlow,h.low,h.old,h.r⟩
theorem wS {w w':World}{B e size n:Nat}{row:Option Nat}{v:Value}{xs:List Value}(h:w.ownsRow B e size v n xs)(hg:w.grownBy w' row)(hne:∀g,v.ownBlock=some g->some g≠row):w'.ownsRow B e size v n xs:=by
 obtain⟨hl,h|⟨g,cap,cur,rfl,hgB,hh,r⟩⟩:=h
 ·exact⟨hl,.inl h⟩
 ·exact⟨hl,.inr ⟨g,cap,cur,rfl,hgB,(hg.block g (Array.getElem?_eq_some_iff.1 hh).1 (hne g rfl)).trans hh,r⟩⟩
theorem Kw {w:World}{B e size n g cap:Nat}{xs:List Value}{k:Nat}(h:w.ownsRow B e size (.slice (some ⟨g,0,none⟩) k cap) n xs):∃m f,w.rowIs g e m f:=by
 obtain⟨hl,h|⟨g2,cap2,cur,hv,_,hh,_⟩⟩:=h
 ·simp at h
 ·obtain⟨⟨rfl⟩,_⟩:g=g2/\_:=by simpa using hv
  exact⟨cur.size,fun i=>(cur[i]?).getD undef,cur,hh,rfl,fun i hi=>by simp[Array.getElem?_eq_getElem hi]⟩
theorem FW.append {w u u':World}{R n c p' A nw sa sc:Nat}{ab:Option Addr}{SL:List (Nat×Nat)}{out v':Value}{L:List eY}{b:Int}{p:eY}(h:FW w u R n c ab p' A nw sa sc SL out L b)(hp:qV u w.heap.size p.2.2.1 p.2.2.2 p.2.1.2/\p.2.1.2.length<=40/\∀y∈p.2.1.2,y.1.size<=2000)
  (ho:u'.ownsRow w.heap.size 36 3 v' (L.length+1) (iD L++[.int .i64 p.1,.int .i64 p.2.1.1,.slice p.2.2.1 p.2.1.2.length p.2.2.2])) (hg:u.grownBy u' out.ownBlock):FW w u' R n c ab p' A nw sa sc SL v' (L++[p]) b:=by
 obtain⟨fa,hra,_⟩:=id h.at_
 obtain⟨m,f,hrs⟩:=Kw h.story.1
 refine⟨h.at_.of (hg.block A h.at_.lt (fE h.feeds.1 hra (by decide))),⟨wS h.story.1 hg (fun g e=>by
   obtain rfl:sa=g:=by simpa[Value.ownBlock]using e
   exact fE h.feeds.1 hrs (by decide)),fun q hq=>⟨(h.story.2 q hq).1,(h.story.2 q hq).2.1.grown h.feeds.1 (by decide) hg,(h.story.2 q hq).2.2⟩⟩,h.feeds.snoc hp ho hg,h.rd.grown hg (fun k e=>by have:=fH h.feeds.1 k e;have:=h.r;omega),h.but.grown hg (fH h.feeds.1),h.low,h.old,h.r⟩
theorem KJ {w:World}{B e size n g:Nat}{v:Value}{xs:List Value}(h:w.ownsRow B e size v n xs)(hg:v.ownBlock=some g):g<w.heap.size:=by
 rcases h.2 with⟨rfl,_⟩|⟨g',cap,cur,rfl,_,hh,_⟩
 ·cases hg
 ·obtain rfl:g'=g:=by simpa[Value.ownBlock]using hg
  exact(Array.getElem?_eq_some_iff.1 hh).1
theorem ND {w:World}(n:Int):∀k,k<3->∃x:Int,(w.alloc (.cells #[.int .i64 (-1),.int .i64 n,.int .i64 1099511627776] 3)).cell? ⟨w.heap.size,k,none⟩=some (.int .i64 x):=fun k hk=>by
 rcases(by omega:k=0∨k=1∨k=2)with rfl|rfl|rfl <;> exact⟨_,by simp[go_sem];rfl⟩
theorem Dj (u:World):u.alloc (.cells #[.int .i64 0,.slice none 0 0] 34) |>.rowIs u.heap.size 34 2 (fun i=>((#[.int .i64 0,.slice none 0 0]:Array Value)[i]?).getD undef):=World.rowIs_alloc u #[.int .i64 0,.slice none 0 0] 34 _ (fun i hi=>by simp[Array.getElem?_eq_getElem hi])
theorem yO {u:World}{B bt mc:Nat}{x:Int}{ma:Option Addr}{m:List (ByteArray×Int)}{f:Nat->Value}(hrow:u.rowIs bt 34 2 f)(sl:qV u B ma mc m)(few:m.length<=40/\∀y∈m,y.1.size<=2000)(low:B<=bt):Ha ((u.setCell ⟨bt,0,none⟩ (.int .i64 x)).setCell ⟨bt,1,none⟩ (.slice ma m.length mc)) B bt x ma mc m:=
 ⟨⟨_,(hrow.set _ _).set _ _,rfl,rfl⟩,sl.turn (((But.refl bt u).setCell _ _).setCell _ _) hrow (by decide),few,low⟩
set_option maxHeartbeats 6400000 in
theorem ng (R n c p:Nat)(ab:Option Addr)(gw cw nw N:Nat)(w:World)(hr:Rd w R ab n c p)(hp:p<=50000)(hnw0:1<=nw)(hnw1:nw<=6)(hN:N<=61)(hgw:gw≠R)(hwh:∀j,j<nw->∃x:Int,w.cell? ⟨gw,j,none⟩=some (.int .i64 x)) :
  Calls Tryz.prog 14 #[.pointer (some ⟨R,0,none⟩),.slice (some ⟨gw,0,none⟩) nw cw,.int .i64 N] w fun e w'=>(∃v L p',e=.returned v/\eu w' w.heap.size v L/\L.length=N/\Rd w' R ab n c p'/\p'<=p+12+110*N)/\But R w w':=by
 obtain⟨i0,hi,hz0,hz1,hz2⟩:=info_parts Tryz.infoF
 obtain⟨j0,hj,hy0,hy1,hy2⟩:=info_parts Tryz.infoZZ
 have hR:=hr.lt
 have hmk:∀u:World,(Instr.makeSlice 41 (.int .i64 (nw:Int)) (.int .i64 (nw:Int))).run Tryz.prog u =
   .ok (.slice (some ⟨u.heap.size,0,none⟩) nw nw) (u.alloc (.cells (madeCells #[.int .i64 0] nw) 3)):=fun u=>by
  have h:=run_make (P:=Tryz.prog) u 41 3 j0 (.int .i64 0) Tryz.underlying41 hj hy0 .i64 .i64 (nw:Int) (nw:Int) (by omega) (Int.le_refl _) (by rw[hy2];omega) (by omega)
  simpa[hy1,Value.cells]using h
 go_enter Tryz.func14,Tryz.ntmps14
 go_wp2_with fail
 refine(Cf R n c p ab 12 w hr (by omega) (by omega) (by omega)).mono ?_
 rintro e w1 ⟨⟨sv,SL,p1,rfl,hs1,hsl,hr1,hp1⟩,hb1⟩
 obtain⟨sa,sc,rfl⟩:∃a c,sv=.slice (some ⟨a,0,none⟩) 12 c:=by
  obtain⟨g,cap,e,_⟩:=hs1.1.form (by omega)
  exact⟨g,cap,by rw[e,hsl]⟩
 go_wp2_with fail
 have hz1':=hb1.size
 have hbx:Below w1.heap.size w1 (w1.alloc (.cells (madeCells #[.int .i64 0] nw) 3)):=(Below.refl _ _).alloc (Nat.le_refl _) _
 have H0:FW w (w1.alloc (.cells (madeCells #[.int .i64 0] nw) 3)) R n c ab p1 w1.heap.size nw sa sc SL (.slice none 0 0) [] 11:=
  ⟨AtB.made w1 nw,hs1.keep hbx,Fe _ _,hr1.below hbx,hb1.trans (But.of_below hbx),hz1',fun p hp=>(hs1.2 p hp).2.1.lt,hR⟩
 generalize w1.alloc (.cells (madeCells #[.int .i64 0] nw) 3)=W1 at *
 generalize w1.heap.size=A at *
 clear hs1 hr1 hb1 hbx hmk hr
 go_loopw [9,10] (fun out i wr=>∃(k p':Nat) (L:List eY),k<=N/\i=.int .i64 k/\L.length=k/\p'<=p+12+110*k/\FW w wr R n c ab p' A nw sa sc SL out L 11) (fun _ i _=>N-(intOf i).toNat)
 case atStart=>exact⟨0,p1,[],Nat.zero_le _,rfl,rfl,by omega,H0⟩
 case round=>
  obtain⟨k,p',L,hk,rfl,hLl,hp',H⟩:=hrel
  clear H0
  by_cases hlt:k<N
  ·go_wp2_with fail
   refine(pick_any R n c p' ab nw wr H.rd (by omega) (by omega) (by omega)).mono ?_
   rintro e w2 ⟨⟨y,rfl,hy0',hy1'⟩,hr2,hb2⟩
   obtain⟨i,rfl⟩:=Int.eq_ofNat_of_zero_le hy0'
   have hi':i<nw:=by omega
   replace H:=H.pick hr2 hb2
   clear hr2 hb2
   go_wp2_with fail
   obtain⟨v,c2,hv0,hv1⟩:=H.at_.cell hi'
   go_cut [] (fun wx=>∃(u:World) (v:Int),FW w u R n c ab (p'+1+1) A nw sa sc SL u9 L 11/\0<=v/\v<=13/\wx=u.setCell ⟨A,i,none⟩ (.int .i64 v))
   case first=>
    have k0:(0:Int)<=(i:Int):=by omega
    have k1:(i:Int)<(nw:Int):=by omega
    have hbd:Below w2.heap.size w2 w2.drew:=(Below.refl _ _).drew
    replace H:=H.keep hbd
    have c2d:=ae hbd (block_lt_of_cell c2) c2
    refine wp_region_held_drew (S:=fun _=>True) (by kernel_rfl) trivial (fun _=>?_)
    clear c2 hbd
    have c2:=c2d
    clear c2d
    generalize w2.drew=W2 at *
    refine wpAnyH_take (i:=0) (v:=.slice (some ⟨A,0,none⟩) nw nw) rfl (by kernel_rfl) (by kernel_rfl) (by kernel_rfl) (fun _ _ _ h=>h) (Or.inl ⟨by rfl, ?_⟩) trivial ?_
    ·rintro u _
     go_simp
    simp only[Act.put,List.setIfInBounds_toArray]
    refine wpAnyH_take (i:=1) (v:=.int .i64 i) rfl (by kernel_rfl) (by kernel_rfl) (by kernel_rfl) (fun _ _ _ h=>h) (Or.inl ⟨by rfl, ?_⟩) trivial ?_
    ·rintro u _
     go_simp
    simp only[Act.put]
    refine wpAnyH_take (i:=2) (v:=.slice (some ⟨A,0,none⟩) nw nw) rfl (by kernel_rfl) (by kernel_rfl) (by kernel_rfl) (fun _ _ _ h=>h) (Or.inl ⟨by rfl, ?_⟩) trivial ?_
    ·rintro u _
     go_simp
    simp only[Act.put]
    refine wpAnyH_take (i:=3) (v:=.int .i64 i) rfl (by kernel_rfl) (by kernel_rfl) (by kernel_rfl) (fun _ _ _ h=>h) (Or.inl ⟨by rfl, ?_⟩) trivial ?_
    ·rintro u _
     go_simp
    simp only[Act.put]
    refine wpAnyH_take (i:=4) (v:=.pointer (some ⟨A,i,none⟩)) rfl (by kernel_rfl) (by kernel_rfl) (by kernel_rfl) (fun _ _ _ h=>h) (Or.inl ⟨by rfl, ?_⟩) trivial ?_
    ·rintro u _
     go_simp
    simp only[Act.put]
    refine wpAnyH_take (i:=6) (v:=.pointer (some ⟨R,0,none⟩)) rfl (by kernel_rfl) (by kernel_rfl) (by kernel_rfl) (fun _ _ _ h=>h) (Or.inl ⟨by rfl, ?_⟩) trivial ?_
    ·rintro u _
     go_simp
    simp only[Act.put]
    refine wpAnyH_ready (rs:=[5,7]) (by kernel_rfl) (by simp) ?_
    refine AllReadyH.cons rfl (fun K hK=>?_) (AllReadyH.cons rfl (fun K hK=>?_) AllReadyH.nil)
    ·rw[if_pos (by rfl)]
     go_simp
     refine hK.out _ _ trivial (fun _=>?_)
     clear hK K
     refine wpAnyH_ready (rs:=[7]) (by kernel_rfl) (by simp) ?_
     refine AllReadyH.cons rfl (fun K hK=>?_) AllReadyH.nil
     rw[if_pos (by rfl)]
     go_simp
     refine(pick_any R n c (p'+1) ab 3 _ H.rd (by omega) (by omega) (by omega)).mono ?_
     rintro e w3 ⟨⟨z,rfl,hz0',hz1'⟩,hr3,hb3⟩
     replace H:=H.pick hr3 hb3
     refine hK.out _ _ trivial (fun _=>?_)
     clear hK K hr3 hb3
     obtain⟨z,rfl⟩:=Int.eq_ofNat_of_zero_le hz0'
     have hne:A≠R:=by have:=H.low;have:=H.r;omega
     obtain⟨v',c3,_,_⟩:=H.at_.cell hi'
     have f3:=H.at_.free i
     refine wpAnyH_take (i:=8) (v:=.int .i64 (v+z)) rfl (by kernel_rfl) (by kernel_rfl) (by kernel_rfl) (fun _ _ _ h=>h) (Or.inl ⟨by rfl, ?_⟩) trivial ?_
     ·rintro u _
      go_simp
      (first|done|exact wrap_small (by omega) (by omega))
     simp only[Act.put,List.setIfInBounds_toArray]
     refine wpAnyH_take (i:=9) (v:=.pointer (some ⟨A,i,none⟩)) rfl (by kernel_rfl) (by kernel_rfl) (by kernel_rfl) (fun _ _ _ h=>h) (Or.inl ⟨by rfl, ?_⟩) trivial ?_
     ·rintro u _
      go_simp
     simp only[Act.put]
     refine wpAnyH_ready (rs:=[10]) (by kernel_rfl) (by simp) ?_
     refine AllReadyH.cons rfl (fun K hK=>?_) AllReadyH.nil
     rw[if_pos (by rfl)]
     go_simp
     refine hK.out _ _ trivial (fun _=>?_)
     clear hK K
     refine wpAnyH_done (by kernel_rfl) ?_ _
     go_wp2_with fail
     go_meet
     exact⟨w3,v+z,H,by omega,by omega,rfl⟩
    ·rw[if_pos (by rfl)]
     go_simp
     have hne:A≠R:=by have:=H.low;have:=H.r;omega
     refine(pick_any R n c (p'+1) ab 3 _ H.rd (by omega) (by omega) (by omega)).mono ?_
     rintro e w3 ⟨⟨z,rfl,hz0',hz1'⟩,hr3,hb3⟩
     have c3:w3.cell? ⟨A,i,none⟩=some (.int .i64 v):=(hb3.cell (b:=A) i (block_lt_of_cell c2) hne).trans c2
     replace H:=H.pick hr3 hb3
     refine hK.out _ _ trivial (fun _=>?_)
     clear hK K hr3 hb3
     refine wpAnyH_ready (rs:=[5]) (by kernel_rfl) (by simp) ?_
     refine AllReadyH.cons rfl (fun K hK=>?_) AllReadyH.nil
     rw[if_pos (by rfl)]
     go_simp
     refine hK.out _ _ trivial (fun _=>?_)
     clear hK K
     obtain⟨z,rfl⟩:=Int.eq_ofNat_of_zero_le hz0'
     have f3:=H.at_.free i
     refine wpAnyH_take (i:=8) (v:=.int .i64 (v+z)) rfl (by kernel_rfl) (by kernel_rfl) (by kernel_rfl) (fun _ _ _ h=>h) (Or.inl ⟨by rfl, ?_⟩) trivial ?_
     ·rintro u _
      go_simp
      (first|done|exact wrap_small (by omega) (by omega))
     simp only[Act.put,List.setIfInBounds_toArray]
     refine wpAnyH_take (i:=9) (v:=.pointer (some ⟨A,i,none⟩)) rfl (by kernel_rfl) (by kernel_rfl) (by kernel_rfl) (fun _ _ _ h=>h) (Or.inl ⟨by rfl, ?_⟩) trivial ?_
     ·rintro u _
      go_simp
     simp only[Act.put]
     refine wpAnyH_ready (rs:=[10]) (by kernel_rfl) (by simp) ?_
     refine AllReadyH.cons rfl (fun K hK=>?_) AllReadyH.nil
     rw[if_pos (by rfl)]
     go_simp
     refine hK.out _ _ trivial (fun _=>?_)
     clear hK K
     refine wpAnyH_done (by kernel_rfl) ?_ _
     go_wp2_with fail
     go_meet
     exact⟨w3,v+z,H,by omega,by omega,rfl⟩
   case rest=>
    obtain⟨u,v,H3,hv0,hv1,rfl⟩:=hcut
    clear H c2
    obtain⟨v0,cu,_,_⟩:=H3.at_.cell hi'
    have c4:(u.setCell ⟨A,i,none⟩ (.int .i64 v)).cell? ⟨A,i,none⟩=some (.int .i64 v):=World.cell?_setCell_same' _ _ _ (by rw[cu];rfl)
    have HA1:Hid (FW w ((u.setCell ⟨A,i,none⟩ (.int .i64 v)).setCell ⟨A,i,none⟩ (.int .i64 11)) R n c ab (p'+1+1) A nw sa sc SL u9 L 11):=H3.turn (((But.refl A u).setCell _ _).setCell _ _) (H3.at_.set2 (by omega) (by omega))
    have HA2:Hid (v<=11->FW w (u.setCell ⟨A,i,none⟩ (.int .i64 v)) R n c ab (p'+1+1) A nw sa sc SL u9 L 11):=fun h=>H3.turn ((But.refl A u).setCell _ _) (H3.at_.set hv0 h)
    have f4:(u.setCell ⟨A,i,none⟩ (.int .i64 v)).frozen? ⟨A,i,none⟩=false:=((H3.at_.mono (by omega:(11:Int)<=13)).set hv0 hv1).free i
    generalize u.setCell ⟨A,i,none⟩ (.int .i64 v)=W4 at *
    clear H3 cu
    have k0:(0:Int)<=(i:Int):=by omega
    have k1:(i:Int)<(nw:Int):=by omega
    go_upto_if 43 with fail
    go_cut [] (fun wx=>FW w wx R n c ab (p'+1+1) A nw sa sc SL u9 L 11)
    case first=>
     by_cases h11:11<v
     ·go_wp2_with fail
      go_meet
      exact HA1.out
     ·go_wp2_with fail
      go_meet
      exact HA2.out (by omega)
    case rest=>
     have H5:=hcut
     clear hcut HA1 HA2 c4 f4
     obtain⟨kv,c5,hkv0,hkv1⟩:=H5.at_.cell hi'
     obtain⟨q,rfl⟩:=Int.eq_ofNat_of_zero_le hkv0
     go_wp2_with fail
     refine(pick_any R n c (p'+1+1) ab 10 wc H5.rd (by omega) (by omega) (by omega)).mono ?_
     rintro e w6 ⟨⟨y6,rfl,hy60,hy61⟩,hr6,hb6⟩
     have H6:=H5.pick hr6 hb6
     clear H5 hr6 hb6 c5
     go_upto_if 53 with fail
     go_cut [12] (fun kk wx=>∃(q p2:Nat),kk=.int .i64 q/\q<=11/\p2<=p'+4/\FW w wx R n c ab p2 A nw sa sc SL u9 L 11)
     case first=>
      by_cases hy6:y6=0
      ·subst hy6
       go_wp2_with fail
       refine(pick_any R n c (p'+1+1+1) ab 12 w6 H6.rd (by omega) (by omega) (by omega)).mono ?_
       rintro e w7 ⟨⟨y7,rfl,hy70,hy71⟩,hr7,hb7⟩
       obtain⟨q7,rfl⟩:=Int.eq_ofNat_of_zero_le hy70
       have H7:=H6.pick hr7 hb7
       clear H6 hr7 hb7
       go_wp2_with fail
       go_meet
       exact⟨q7,_,rfl,by omega,by omega,H7⟩
      ·have hy6':(y6==0)=false:=by rw[beq_eq_false_iff_ne];exact hy6
       go_wp2_with fail
       go_meet
       exact⟨q,_,rfl,by omega,by omega,H6⟩
     case rest=>
      obtain⟨q,p2,rfl,hq,hp2,H7⟩:=hcut
      clear H6
      go_wp2_with fail
      obtain⟨gq,cq,c0,hF,hgq,hsa⟩:=H7.story.at (q:=q) hsl.symm (by omega)
      obtain⟨x,cx⟩:=hwh i hi'
      have cx7:wc.cell? ⟨gw,i,none⟩=some (.int .i64 x):=(H7.but.cell (b:=gw) i (block_lt_of_cell cx) hgw).trans cx
      have k2:(0:Int)<=(q:Int):=by omega
      have k3:(q:Int)<12:=by omega
      go_cut [13] (fun it wx=>∃(bt:Nat) (ma:Option Addr) (mc:Nat) (m:List (ByteArray×Int)),it=.pointer (some ⟨bt,0,none⟩)/\Ha wx w.heap.size bt (100*(i:Int)+(q:Int)) ma mc m/\FW w wx R n c ab p2 A nw sa sc SL u9 L 11)
      case first=>
       have SW:(wc.drew).cell? ⟨sa,q,none⟩=some (.slice (some ⟨gq,0,none⟩) 4 cq)/\(wc.drew).cell? ⟨gw,i,none⟩=some (.int .i64 x):=⟨c0,cx7⟩
       have hbd:Below wc.heap.size wc wc.drew:=(Below.refl _ _).drew
       have H8:=H7.keep hbd
       have hF8:=hF.below hbd
       have hzc:=H8.but.size
       refine wp_region_held_drew (S:=fun u=>u.cell? ⟨sa,q,none⟩=some (.slice (some ⟨gq,0,none⟩) 4 cq)/\u.cell? ⟨gw,i,none⟩=some (.int .i64 x)) (by kernel_rfl) SW (fun _=>?_)
       generalize wc.drew=W8 at *
       clear H7 hF hbd
       refine wpAnyH_take (i:=0) (v:=.int .i64 i) rfl (by kernel_rfl) (by kernel_rfl) (by kernel_rfl) (fun _ _ _ h=>h) (Or.inl ⟨by rfl, ?_⟩) SW ?_
       ·rintro u ⟨q1,q2⟩
        go_simp
       simp only[Act.put,List.setIfInBounds_toArray]
       refine wpAnyH_take (i:=1) (v:=.int .i64 (100*(i:Int))) rfl (by kernel_rfl) (by kernel_rfl) (by kernel_rfl) (fun _ _ _ h=>h) (Or.inl ⟨by rfl, ?_⟩) SW ?_
       ·rintro u ⟨q1,q2⟩
        go_simp
        (first|done|exact wrap_small (by omega) (by omega))
       simp only[Act.put]
       refine wpAnyH_take (i:=2) (v:=.int .i64 q) rfl (by kernel_rfl) (by kernel_rfl) (by kernel_rfl) (fun _ _ _ h=>h) (Or.inl ⟨by rfl, ?_⟩) SW ?_
       ·rintro u ⟨q1,q2⟩
        go_simp
       simp only[Act.put]
       refine wpAnyH_take (i:=3) (v:=.int .i64 (100*(i:Int)+(q:Int))) rfl (by kernel_rfl) (by kernel_rfl) (by kernel_rfl) (fun _ _ _ h=>h) (Or.inl ⟨by rfl, ?_⟩) SW ?_
       ·rintro u ⟨q1,q2⟩
        go_simp
        (first|done|exact wrap_small (by omega) (by omega))
       simp only[Act.put]
       refine wpAnyH_take (i:=4) (v:=.slice (some ⟨sa,0,none⟩) 12 sc) rfl (by kernel_rfl) (by kernel_rfl) (by kernel_rfl) (fun _ _ _ h=>h) (Or.inl ⟨by rfl, ?_⟩) SW ?_
       ·rintro u ⟨q1,q2⟩
        go_simp
       simp only[Act.put]
       refine wpAnyH_take (i:=5) (v:=.int .i64 q) rfl (by kernel_rfl) (by kernel_rfl) (by kernel_rfl) (fun _ _ _ h=>h) (Or.inl ⟨by rfl, ?_⟩) SW ?_
       ·rintro u ⟨q1,q2⟩
        go_simp
       simp only[Act.put]
       refine wpAnyH_take (i:=6) (v:=.pointer (some ⟨sa,q,none⟩)) rfl (by kernel_rfl) (by kernel_rfl) (by kernel_rfl) (fun _ _ _ h=>h) (Or.inl ⟨by rfl, ?_⟩) SW ?_
       ·rintro u ⟨q1,q2⟩
        go_simp
       simp only[Act.put]
       refine wpAnyH_take (i:=7) (v:=.slice (some ⟨gq,0,none⟩) 4 cq) rfl (by kernel_rfl) (by kernel_rfl) (by kernel_rfl) (fun _ _ _ h=>h) (Or.inl ⟨by rfl, ?_⟩) SW ?_
       ·rintro u ⟨q1,q2⟩
        go_simp
       simp only[Act.put]
       refine wpAnyH_take (i:=8) (v:=.slice (some ⟨gw,0,none⟩) nw cw) rfl (by kernel_rfl) (by kernel_rfl) (by kernel_rfl) (fun _ _ _ h=>h) (Or.inl ⟨by rfl, ?_⟩) SW ?_
       ·rintro u ⟨q1,q2⟩
        go_simp
       simp only[Act.put]
       refine wpAnyH_take (i:=9) (v:=.int .i64 i) rfl (by kernel_rfl) (by kernel_rfl) (by kernel_rfl) (fun _ _ _ h=>h) (Or.inl ⟨by rfl, ?_⟩) SW ?_
       ·rintro u ⟨q1,q2⟩
        go_simp
       simp only[Act.put]
       refine wpAnyH_take (i:=10) (v:=.pointer (some ⟨gw,i,none⟩)) rfl (by kernel_rfl) (by kernel_rfl) (by kernel_rfl) (fun _ _ _ h=>h) (Or.inl ⟨by rfl, ?_⟩) SW ?_
       ·rintro u ⟨q1,q2⟩
        go_simp
       simp only[Act.put]
       refine wpAnyH_take (i:=11) (v:=.int .i64 x) rfl (by kernel_rfl) (by kernel_rfl) (by kernel_rfl) (fun _ _ _ h=>h) (Or.inl ⟨by rfl, ?_⟩) SW ?_
       ·rintro u ⟨q1,q2⟩
        go_simp
       simp only[Act.put]
       refine wpAnyH_ready (rs:=[12,14]) (by kernel_rfl) (by simp) ?_
       refine AllReadyH.cons rfl (fun K hK=>?_) (AllReadyH.cons rfl (fun K hK=>?_) AllReadyH.nil)
       ·rw[if_pos (by rfl)]
        go_simp
        refine(yY gq cq x 1000 W8 hF8).mono ?_
        rintro e w9 ⟨⟨mv,m,rfl,hm9,hml⟩,b9⟩
        obtain⟨ma,mc,rfl,hms⟩:=hm9.g.slB
        have H9:=H8.keep b9
        have S9:w9.cell? ⟨sa,q,none⟩=some (.slice (some ⟨gq,0,none⟩) 4 cq)/\w9.cell? ⟨gw,i,none⟩=some (.int .i64 x):=⟨ae b9 (block_lt_of_cell SW.1) SW.1,ae b9 (block_lt_of_cell SW.2) SW.2⟩
        have hms9:=hms.lower hzc
        have hfew:=And.intro hm9.len hm9.size
        refine hK.out _ _ S9 (fun _=>?_)
        clear hK K b9 H8 hm9 hms
        refine wpAnyH_take (i:=13) (v:=.agg #[.int .i64 (100*(i:Int)+(q:Int)),.slice ma m.length mc]) rfl (by kernel_rfl) (by kernel_rfl) (by kernel_rfl) (fun _ _ _ h=>h) (Or.inl ⟨by rfl, ?_⟩) S9 ?_
        ·rintro u ⟨q1,q2⟩
         go_simp
        simp only[Act.put,List.setIfInBounds_toArray]
        refine wpAnyH_ready (rs:=[14]) (by kernel_rfl) (by simp) ?_
        refine AllReadyH.cons rfl (fun K hK=>?_) AllReadyH.nil
        rw[if_pos (by rfl)]
        go_simp
        have hbA:Below w9.heap.size w9 (w9.alloc (.cells #[.int .i64 0,.slice none 0 0] 34)):=(Below.refl _ _).alloc (Nat.le_refl _) _
        have hrow:=Dj w9
        have HA:=H9.keep hbA
        have hmsA:=hms9.keep hbA
        have hlow:w.heap.size<=w9.heap.size:=H9.but.size
        have hn1:sa≠w9.heap.size:=by have hq:sa<w9.heap.size:=block_lt_of_cell S9.1;omega
        have hn2:gw≠w9.heap.size:=by have hq:gw<w9.heap.size:=block_lt_of_cell S9.2;omega
        have SA:(w9.alloc (.cells #[.int .i64 0,.slice none 0 0] 34)).cell? ⟨sa,q,none⟩=some (.slice (some ⟨gq,0,none⟩) 4 cq)/\(w9.alloc (.cells #[.int .i64 0,.slice none 0 0] 34)).cell? ⟨gw,i,none⟩=some (.int .i64 x):=⟨ae hbA (block_lt_of_cell S9.1) S9.1,ae hbA (block_lt_of_cell S9.2) S9.2⟩
        refine hK.out _ _ SA (fun _=>?_)
        clear hK K hbA H9 hms9
        generalize w9.heap.size=bt at *
        generalize w9.alloc (.cells #[.int .i64 0,.slice none 0 0] 34)=WA at *
        clear S9
        obtain⟨y0,y1⟩:WA.cell? ⟨bt,0,none⟩=some (.int .i64 0)/\WA.cell? ⟨bt,1,none⟩=some (.slice none 0 0):=⟨hrow.cell (by decide),hrow.cell (by decide)⟩
        have fy0:=hrow.frozen 0
        have fy1:=hrow.frozen 1
        have HI:Hid (Ha ((WA.setCell ⟨bt,0,none⟩ (.int .i64 (100*(i:Int)+(q:Int)))).setCell ⟨bt,1,none⟩ (.slice ma m.length mc)) w.heap.size bt (100*(i:Int)+(q:Int)) ma mc m):=yO hrow hmsA hfew hlow
        have HW:Hid (FW w ((WA.setCell ⟨bt,0,none⟩ (.int .i64 (100*(i:Int)+(q:Int)))).setCell ⟨bt,1,none⟩ (.slice ma m.length mc)) R n c ab p2 A nw sa sc SL u9 L 11):=HA.other (((But.refl bt WA).setCell _ _).setCell _ _) hrow (by decide) (by decide) (by decide) (fE HA.feeds.1 hrow (by decide)) hlow
        have SZ:((WA.setCell ⟨bt,0,none⟩ (.int .i64 (100*(i:Int)+(q:Int)))).setCell ⟨bt,1,none⟩ (.slice ma m.length mc)).cell? ⟨sa,q,none⟩=some (.slice (some ⟨gq,0,none⟩) 4 cq)/\((WA.setCell ⟨bt,0,none⟩ (.int .i64 (100*(i:Int)+(q:Int)))).setCell ⟨bt,1,none⟩ (.slice ma m.length mc)).cell? ⟨gw,i,none⟩=some (.int .i64 x):=⟨by rw[aV _ _ _ _ hn1,aV _ _ _ _ hn1];exact SA.1,by rw[aV _ _ _ _ hn2,aV _ _ _ _ hn2];exact SA.2⟩
        clear hrow hmsA HA
        refine wpAnyH_ready (rs:=[15]) (by kernel_rfl) (by simp) ?_
        refine AllReadyH.cons rfl (fun K hK=>?_) AllReadyH.nil
        rw[if_pos (by rfl)]
        go_simp
        refine hK.out _ _ SZ (fun _=>?_)
        clear hK K
        refine wpAnyH_done (by kernel_rfl) ?_ _
        go_wp2_with fail
        go_meet
        exact⟨_,ma,mc,m,rfl,HI.out,HW.out⟩
       ·rw[if_pos (by rfl)]
        go_simp
        have hbA:Below W8.heap.size W8 (W8.alloc (.cells #[.int .i64 0,.slice none 0 0] 34)):=(Below.refl _ _).alloc (Nat.le_refl _) _
        have hrow0:=Dj W8
        have HA0:=H8.keep hbA
        have hFA:=hF8.below hbA
        have hlow:w.heap.size<=W8.heap.size:=H8.but.size
        have hn1:sa≠W8.heap.size:=by have hq:sa<W8.heap.size:=block_lt_of_cell SW.1;omega
        have hn2:gw≠W8.heap.size:=by have hq:gw<W8.heap.size:=block_lt_of_cell SW.2;omega
        have SA0:(W8.alloc (.cells #[.int .i64 0,.slice none 0 0] 34)).cell? ⟨sa,q,none⟩=some (.slice (some ⟨gq,0,none⟩) 4 cq)/\(W8.alloc (.cells #[.int .i64 0,.slice none 0 0] 34)).cell? ⟨gw,i,none⟩=some (.int .i64 x):=⟨ae hbA (block_lt_of_cell SW.1) SW.1,ae hbA (block_lt_of_cell SW.2) SW.2⟩
        refine hK.out _ _ SA0 (fun _=>?_)
        clear hK K hbA H8 hF8
        generalize W8.heap.size=bt at *
        generalize W8.alloc (.cells #[.int .i64 0,.slice none 0 0] 34)=WA0 at *
        clear SW
        refine wpAnyH_ready (rs:=[12]) (by kernel_rfl) (by simp) ?_
        refine AllReadyH.cons rfl (fun K hK=>?_) AllReadyH.nil
        rw[if_pos (by rfl)]
        go_simp
        refine(yY gq cq x 1000 WA0 hFA).mono ?_
        rintro e w9 ⟨⟨mv,m,rfl,hm9,hml⟩,b9⟩
        obtain⟨ma,mc,rfl,hms⟩:=hm9.g.slB
        have HA:=HA0.keep b9
        have SA:w9.cell? ⟨sa,q,none⟩=some (.slice (some ⟨gq,0,none⟩) 4 cq)/\w9.cell? ⟨gw,i,none⟩=some (.int .i64 x):=⟨ae b9 (block_lt_of_cell SA0.1) SA0.1,ae b9 (block_lt_of_cell SA0.2) SA0.2⟩
        have hmsA:=hms.lower HA0.but.size
        have hfew:=And.intro hm9.len hm9.size
        have hrow:=hrow0.of_block (b9.block bt hrow0.lt)
        refine hK.out _ _ SA (fun _=>?_)
        clear hK K b9 HA0 hm9 hms hrow0 hFA SA0
        refine wpAnyH_take (i:=13) (v:=.agg #[.int .i64 (100*(i:Int)+(q:Int)),.slice ma m.length mc]) rfl (by kernel_rfl) (by kernel_rfl) (by kernel_rfl) (fun _ _ _ h=>h) (Or.inl ⟨by rfl, ?_⟩) SA ?_
        ·rintro u ⟨q1,q2⟩
         go_simp
        simp only[Act.put,List.setIfInBounds_toArray]
        obtain⟨y0,y1⟩:w9.cell? ⟨bt,0,none⟩=some (.int .i64 0)/\w9.cell? ⟨bt,1,none⟩=some (.slice none 0 0):=⟨hrow.cell (by decide),hrow.cell (by decide)⟩
        have fy0:=hrow.frozen 0
        have fy1:=hrow.frozen 1
        have HI:Hid (Ha ((w9.setCell ⟨bt,0,none⟩ (.int .i64 (100*(i:Int)+(q:Int)))).setCell ⟨bt,1,none⟩ (.slice ma m.length mc)) w.heap.size bt (100*(i:Int)+(q:Int)) ma mc m):=yO hrow hmsA hfew hlow
        have HW:Hid (FW w ((w9.setCell ⟨bt,0,none⟩ (.int .i64 (100*(i:Int)+(q:Int)))).setCell ⟨bt,1,none⟩ (.slice ma m.length mc)) R n c ab p2 A nw sa sc SL u9 L 11):=HA.other (((But.refl bt w9).setCell _ _).setCell _ _) hrow (by decide) (by decide) (by decide) (fE HA.feeds.1 hrow (by decide)) hlow
        have SZ:((w9.setCell ⟨bt,0,none⟩ (.int .i64 (100*(i:Int)+(q:Int)))).setCell ⟨bt,1,none⟩ (.slice ma m.length mc)).cell? ⟨sa,q,none⟩=some (.slice (some ⟨gq,0,none⟩) 4 cq)/\((w9.setCell ⟨bt,0,none⟩ (.int .i64 (100*(i:Int)+(q:Int)))).setCell ⟨bt,1,none⟩ (.slice ma m.length mc)).cell? ⟨gw,i,none⟩=some (.int .i64 x):=⟨by rw[aV _ _ _ _ hn1,aV _ _ _ _ hn1];exact SA.1,by rw[aV _ _ _ _ hn2,aV _ _ _ _ hn2];exact SA.2⟩
        clear hrow hmsA HA
        refine wpAnyH_ready (rs:=[15]) (by kernel_rfl) (by simp) ?_
        refine AllReadyH.cons rfl (fun K hK=>?_) AllReadyH.nil
        rw[if_pos (by rfl)]
        go_simp
        refine hK.out _ _ SZ (fun _=>?_)
        clear hK K
        refine wpAnyH_done (by kernel_rfl) ?_ _
        go_wp2_with fail
        go_meet
        exact⟨_,ma,mc,m,rfl,HI.out,HW.out⟩
      case rest=>
       obtain⟨bt,ma,mc,m,rfl,HI,H8⟩:=hcut
       clear H7 c0 hF cx7
       go_wp2_with fail
       refine(pick_any R n c p2 ab 24 _ H8.rd (by omega) (by omega) (by omega)).mono ?_
       rintro e w9 ⟨⟨y9,rfl,hy90,hy91⟩,hr9,hb9⟩
       have H9:=H8.pick hr9 hb9
       have HI9:=HI.but hb9 hR
       clear H8 HI hr9 hb9
       go_upto_if 72 with fail
       go_cut [] (fun wx=>∃(ma:Option Addr) (mc:Nat) (m:List (ByteArray×Int)) (p3:Nat),p3<=p2+101/\Ha wx w.heap.size bt (100*(i:Int)+(q:Int)) ma mc m/\FW w wx R n c ab p3 A nw sa sc SL u9 L 11)
       case first=>
        by_cases hy9:y9=0
        ·subst hy9
         go_wp2_with fail
         refine(Dx R n c (p2+1) ab w9 H9.rd (by omega)).mono ?_
         rintro e wm ⟨⟨mv,m2,p4,rfl,hm,hml,hrm,hpm⟩,hbm⟩
         obtain⟨ma2,mc2,rfl,hms⟩:=hm.g.slB
         have hz9:=H9.but.size
         have Hm:=H9.pick hrm hbm
         have HIm:=HI9.but hbm hR
         have hms2:=hms.lower hz9
         have hfew:=And.intro hm.len hm.size
         obtain⟨y0,y1,fy0,fy1⟩:=HIm.cells
         have HX:Hid (Ha (wm.setCell ⟨bt,1,none⟩ (.slice ma2 m2.length mc2)) w.heap.size bt (100*(i:Int)+(q:Int)) ma2 mc2 m2/\FW w (wm.setCell ⟨bt,1,none⟩ (.slice ma2 m2.length mc2)) R n c ab p4 A nw sa sc SL u9 L 11):=by
          obtain⟨f,hrow,e0,e1⟩:=HIm.row
          exact⟨⟨⟨_,hrow.set _ _,e0,rfl⟩,hms2.turn ((But.refl bt wm).setCell _ _) hrow (by decide),hfew,HIm.low⟩,Hm.other ((But.refl bt wm).setCell _ _) hrow (by decide) (by decide) (by decide) (fE Hm.feeds.1 hrow (by decide)) HIm.low⟩
         clear H9 HI9 hm hrm hbm hms Hm HIm hms2
         go_wp2_with fail
         go_meet
         exact⟨ma2,mc2,m2,p4,by omega,HX.out⟩
        ·have hy9':(y9==0)=false:=by rw[beq_eq_false_iff_ne];exact hy9
         go_wp2_with fail
         go_meet
         exact⟨ma,mc,m,p2+1,by omega,HI9,H9⟩
       case rest=>
        obtain⟨ma,mc,m,p3,hp3,HI,H8⟩:=hcut
        clear H9 HI9
        obtain⟨y0,y1,fy0,fy1⟩:=HI.cells
        have hbt:=HI.lt
        go_wp2_with fail
        have hbF:Below wc.heap.size wc (wc.alloc (.cells #[.int .i64 (i:Int),.int .i64 (100*(i:Int)+(q:Int)),.slice ma m.length mc] 36)):=(Below.refl _ _).alloc (Nat.le_refl _) _
        have hrf:(wc.alloc (.cells #[.int .i64 (i:Int),.int .i64 (100*(i:Int)+(q:Int)),.slice ma m.length mc] 36)).rowIs wc.heap.size 36 3 (fun i'=>((#[.int .i64 (i:Int),.int .i64 (100*(i:Int)+(q:Int)),.slice ma m.length mc]:Array Value)[i']?).getD undef):=World.rowIs_alloc wc _ 36 _ (fun i hi=>by simp[Array.getElem?_eq_getElem hi])
        have hlf:w.heap.size<=wc.heap.size:=H8.but.size
        have hnf:some wc.heap.size≠u9.ownBlock:=fun e=>by have:=KJ H8.feeds.1 e.symm;omega
        have H9:=H8.keep hbF
        have hs9:=HI.sl.keep hbF
        have hfew:=HI.few
        generalize wc.alloc (.cells #[.int .i64 (i:Int),.int .i64 (100*(i:Int)+(q:Int)),.slice ma m.length mc] 36)=WF at *
        generalize wc.heap.size=bf at *
        clear H8 HI hbF y0 y1 fy0 fy1 hbt
        refine(pick_any R n c p3 ab 60 _ H9.rd (by omega) (by omega) (by omega)).mono ?_
        rintro e w10 ⟨⟨y10,rfl,hy100,hy101⟩,hr10,hb10⟩
        have H10:=H9.pick hr10 hb10
        have hs10:=hs9.but hb10 hR
        have hrf10:=hrf.of_block (hb10.block bf hrf.lt (by omega))
        clear H9 hs9 hrf hr10 hb10
        go_upto_if 81 with fail
        go_cut [] (fun wx=>∃(In:Int) (p4:Nat) (f:Nat->Value),p4<=p3+2/\wx.rowIs bf 36 3 f/\f 0=.int .i64 In/\f 1=.int .i64 (100*(i:Int)+(q:Int))/\f 2=.slice ma m.length mc/\qV wx w.heap.size ma mc m/\FW w wx R n c ab p4 A nw sa sc SL u9 L 11)
        case first=>
         by_cases hy10:y10=0
         ·subst hy10
          have hbT:Below w10.heap.size w10 (w10.alloc (.cells #[.int .i64 (-1),.int .i64 (nw:Int),.int .i64 1099511627776] 3)):=(Below.refl _ _).alloc (Nat.le_refl _) _
          have ht3:=ND (w:=w10) (nw:Int)
          have H11:=H10.keep hbT
          have hs11:=hs10.keep hbT
          have hrf11:=hrf10.of_block (hbT.block bf hrf10.lt)
          have htR:w10.heap.size≠R:=by have:=H10.rd.lt;omega
          clear H10 hs10 hrf10 hbT
          go_wp2_with fail
          generalize w10.alloc (.cells #[.int .i64 (-1),.int .i64 (nw:Int),.int .i64 1099511627776] 3)=W11 at *
          generalize w10.heap.size=tb at *
          refine(pick_any R n c (p3+1) ab 3 _ H11.rd (by omega) (by omega) (by omega)).mono ?_
          rintro e w12 ⟨⟨y12,rfl,hy120,hy121⟩,hr12,hb12⟩
          obtain⟨j,rfl⟩:=Int.eq_ofNat_of_zero_le hy120
          obtain⟨xi,ex⟩:=ht3 j (by omega)
          have ex':w12.cell? ⟨tb,j,none⟩=some (.int .i64 xi):=(hb12.cell (b:=tb) j (block_lt_of_cell ex) htR).trans ex
          have H12:=H11.pick hr12 hb12
          have hs12:=hs11.but hb12 hR
          have hrf12:=hrf11.of_block (hb12.block bf hrf11.lt (by omega))
          have cb0:w12.cell? ⟨bf,0,none⟩=some (.int .i64 (i:Int)):=hrf12.cell (by decide)
          have fb0:=hrf12.frozen 0
          have HX:Hid (qV (w12.setCell ⟨bf,0,none⟩ (.int .i64 xi)) w.heap.size ma mc m/\FW w (w12.setCell ⟨bf,0,none⟩ (.int .i64 xi)) R n c ab (p3+1+1) A nw sa sc SL u9 L 11):=
           ⟨hs12.turn ((But.refl bf w12).setCell _ _) hrf12 (by decide),H12.other ((But.refl bf w12).setCell _ _) hrf12 (by decide) (by decide) (by decide) hnf hlf⟩
          have HR:Hid _:=hrf12.set 0 (.int .i64 xi)
          clear H11 hs11 hrf11 hrf12 H12 hs12 hr12 hb12 ex ht3
          go_wp2_with fail
          go_meet
          exact⟨xi,_,_,by omega,HR.out,rfl,rfl,rfl,HX.out⟩
         ·have hy10':(y10==0)=false:=by rw[beq_eq_false_iff_ne];exact hy10
          go_wp2_with fail
          go_meet
          exact⟨i,p3+1,_,by omega,hrf10,rfl,rfl,rfl,hs10,H10⟩
        case rest=>
         obtain⟨In,p4,f,hp4,hrf,e0,e1,e2,hs,H⟩:=hcut
         clear H10 hs10 hrf10
         have cb0:wc.cell? ⟨bf,0,none⟩=some (.int .i64 In):=by rw[hrf.cell (by decide),e0]
         have cb1:wc.cell? ⟨bf,1,none⟩=some (.int .i64 (100*(i:Int)+(q:Int))):=by rw[hrf.cell (by decide),e1]
         have cb2:wc.cell? ⟨bf,2,none⟩=some (.slice ma m.length mc):=by rw[hrf.cell (by decide),e2]
         have hbZ:Below wc.heap.size wc (wc.alloc (.cells #[.int .i64 In,.int .i64 (100*(i:Int)+(q:Int)),.slice ma m.length mc] 36)):=(Below.refl _ _).alloc (Nat.le_refl _) _
         have HZ:=H.keep hbZ
         have hsZ:=hs.keep hbZ
         have hzz:=HZ.but.size
         have hnw:∀j u,([.int .i64 In,.int .i64 (100*(i:Int)+(q:Int)),.slice ma m.length mc]:List Value)[j]?=some u->(wc.alloc (.cells #[.int .i64 In,.int .i64 (100*(i:Int)+(q:Int)),.slice ma m.length mc] 36)).cell? ((⟨wc.heap.size,0,none⟩:Addr).add j)=some u:=by
          intro j u hj
          match j,hj with
          |0,hj=>simp at hj;subst hj;simp[Addr.add,go_sem]
          |1,hj=>simp at hj;subst hj;simp[Addr.add,go_sem]
          |2,hj=>simp at hj;subst hj;simp[Addr.add,go_sem]
         clear hrf e0 e1 e2 H hs
         go_wp2_with (at_builtin;refine wpList_append_lies _ rfl _ _ 24 rfl w.heap.size 36 i0 (.agg #[.int .i64 0,.int .i64 0,.slice none 0 0]) 3 40 Tryz.underlying24 hi hz0 hz1 hz2 rfl (by decide) _ _ _ rfl HZ.feeds.1 ⟨wc.heap.size,0,none⟩ 1 1 [.int .i64 In,.int .i64 (100*(i:Int)+(q:Int)),.slice ma m.length mc] rfl rfl hnw (by simp[Value.oneCell']) (by decide) (by unfold maxLen;omega) (by omega) hzz _ rfl ?_;intro g9 c9 w14 hown hgrow _ _)
         have H15:=HZ.append (p:=(In,(100*(i:Int)+(q:Int),m),ma,mc)) ⟨hsZ,hfew⟩ hown hgrow
         rw[hLl]at H15
         exact⟨⟨k+1,p4,_,by omega,by go_num,by simp[hLl],by omega,H15⟩,by simp[intOf];omega⟩
  ·go_wp2_with fail
   go_ret
   exact⟨⟨_,L,p',rfl,H.feeds,by omega,H.rd,by omega⟩,H.but⟩
end Go.Proofs.YtpfhegengmlkmabGreatDoor
