/- Texts of this claim. -/
import Derived.Test.YtpfhegengmlkmabGreatDoorZu18
import Derived.Test.YtpfhegengmlkmabGreatDoorZu19
namespace Go.Proofs.YtpfhegengmlkmabGreatDoor
open Go.RowKit Go.Shelf Go.BigFrame
attribute [local go_sem] Oper.semAt_some
set_option maxHeartbeats 400000 in
theorem qw (x:Int)(a:Option Addr)(c:Nat)(l:List (ByteArray×Int))(w:World)(hr:Row w a l)(hf:uO l) :
  Calls Tryz.prog 127 #[.agg #[.int .i64 x,.slice a l.length c]] w fun e w'=>rU (ah l/\l≠[]) e/\Below w.heap.size w w':=by
 have hb0:Below w.heap.size w (w.alloc (.cells #[.int .i64 x,.slice a l.length c] 34)):=(Below.refl _ _).alloc (Nat.le_refl _) _
 have hl:=hf.1
 unfold maxLen at hl
 by_cases h0:0<l.length
 ·have HN:Hid (l≠[]):=fun h=>by rw[h]at h0;exact absurd h0 (Nat.lt_irrefl 0)
  go_enter Tryz.func127,Tryz.ntmps127
  go_wp2_with fail
  refine(bY a c l _ hf.1 (hr.below hb0) hf.2).mono ?_
  rintro e w1 ⟨⟨r,rfl,hr1⟩,b1⟩
  have HR:Hid (r=true↔ah l):=hr1
  clear hr1
  go_wp2_with fail
  go_ret
  exact⟨⟨r,rfl,by rw[HR.out];exact⟨fun h=>⟨h,HN.out⟩,fun h=>h.1⟩⟩,hb0.trans (b1.mono hb0.size)⟩
 ·obtain rfl:l=[]:=List.length_eq_zero_iff.1 (by omega)
  go_enter Tryz.func127,Tryz.ntmps127
  go_wp2_with fail
  go_ret
  exact⟨ai (fun h=>h.2 rfl),hb0⟩
def ones (l:List (ByteArray×Int)):List (ByteArray×Int):=l.map fun m=>(m.1,1)
theorem kR {l:List (ByteArray×Int)}(h:Sorted l):Sorted (ones l):=by
 refine⟨?_,fun m hm=>?_⟩
 ·unfold ones
  rw[List.pairwise_map]
  exact h.1
 ·unfold ones at hm
  obtain⟨x,_,rfl⟩:=List.mem_map.1 hm
  exact Int.le_refl _
theorem BC {l:List (ByteArray×Int)}(h:Sorted l)(s:ByteArray):aA (ones l) s=if 0<aA l s then 1 else 0:=by
 by_cases hp:0<aA l s
 ·rw[if_pos hp]
  have hm:(s,(1:Int))∈ones l:=List.mem_map.2 ⟨_,fV hp,rfl⟩
  exact dP (kR h) hm
 ·rw[if_neg hp]
  have h0:=eP (s:=s) (kR h)
  by_cases hq:0<aA (ones l) s
  ·exfalso
   unfold ones at hq
   obtain⟨x,hx,e⟩:=List.mem_map.1 (fV hq)
   have e1:x.1=s:=(Prod.mk.inj e).1
   have e2:=dP h hx
   have e3:=h.2 x hx
   rw[e1]at e2
   omega
  ·omega
theorem Il {a b:List (ByteArray×Int)}(ha:Sorted a)(hb:Sorted b)(h:∀s,0<aA a s↔0<aA b s):aH a=aH b:=by
 have e:ones a=ones b:=qF (kR ha) (kR hb) fun s=>by
  rw[BC ha,BC hb]
  by_cases hp:0<aA a s
  ·rw[if_pos hp,if_pos ((h s).1 hp)]
  ·rw[if_neg hp,if_neg (fun q=>hp ((h s).2 q))]
 have e2:=congrArg aH e
 simpa[aH,ones,Function.comp_def]using e2
def Alone (x:(ByteArray×Int)×(ByteArray×Int)):Prop:=¬(0<x.1.2/\0<x.2.2)
theorem xn {a b:List (ByteArray×Int)}{P:List ((ByteArray×Int)×(ByteArray×Int))}(ha:ah a)(hb:ah b)(hP:kT a b P)(h:∀p∈P,¬Alone p):aH a=aH b:=by
 have sa:=ay ha
 have sb:=ay hb
 refine Il sa sb fun s=>?_
 constructor
 ·intro h1
  obtain⟨p,hm,hp⟩:=hP.all s (.inl h1)
  obtain⟨p1,p2,_⟩:=hP.mem p hm
  have:=Classical.not_not.1 (h p hm)
  rw[p1,p2,hp]at this
  exact this.2
 ·intro h1
  obtain⟨p,hm,hp⟩:=hP.all s (.inr h1)
  obtain⟨p1,p2,_⟩:=hP.mem p hm
  have:=Classical.not_not.1 (h p hm)
  rw[p1,p2,hp]at this
  exact this.1
theorem qB {a b:List (ByteArray×Int)}{P:List ((ByteArray×Int)×(ByteArray×Int))}(ha:ah a)(hb:ah b)(hP:kT a b P){p:(ByteArray×Int)×(ByteArray×Int)}(hm:p∈P)(h:Alone p):¬aH a=aH b:=by
 intro e
 obtain⟨p1,p2,p3⟩:=hP.mem p hm
 refine h ?_
 have hn:=zL ha hb e p.1.1
 rw[p1,p2]at p3
 simp only at p3
 rw[p1,p2]
 simp only
 rcases p3 with h3|h3
 ·exact⟨h3,hn.1 h3⟩
 ·exact⟨hn.2 h3,h3⟩
set_option maxRecDepth 100000 in
set_option maxHeartbeats 4000000 in
theorem Jy (aa ab:Option Addr)(ca cb:Nat)(la lb:List (ByteArray×Int))(w:World)(hca:la.length<=ca)(hcb:lb.length<=cb)(ha:Row w aa la)(hb:Row w ab lb)(hya:ah la)(hyb:ah lb) :
  Calls Tryz.prog 158 #[.slice aa la.length ca,.slice ab lb.length cb] w fun e w'=>rU (aH la=aH lb) e/\Below w.heap.size w w':=by
 refine(callsIn_wide (n:=5)).1 ?_
 refine callsIn_of_wp_marks Tryz.func158 rfl trivial ?_ rfl
 simp only[Tryz.ntmps158,List.size_toArray,List.length_cons,List.length_nil,Nat.reduceAdd,Nat.reduceSub,Array.replicate_succ,Array.replicate_zero,List.push_toArray,List.append_toArray,List.nil_append,List.cons_append]
 gi_wp2_with fail
 obtain⟨w2,hw2⟩:∃w2,w.alloc (.cells #[.bool false] 4)=w2:=⟨_,rfl⟩
 have B2:Below w.heap.size w w2:=by rw[<- hw2];exact(Below.refl _ _).alloc (Nat.le_refl _) _
 have c2:w2.cell? ⟨w.heap.size,0,none⟩=some (.bool false):=by rw[<- hw2];simp[go_sem]
 have f2:w2.frozen? ⟨w.heap.size,0,none⟩=false:=by rw[<- hw2];simp[go_sem]
 have z2:w.heap.size<w2.heap.size:=block_lt_of_cell c2
 rw[hw2]
 clear hw2
 refine⟨trivial,(callsIn_wide.2 (jX aa ab _ _ ca cb _)).mono ?_⟩
 rintro e w3 ⟨rfl,rfl⟩
 obtain⟨W0,hW0⟩:∃W0,(w2.alloc (.cells #[.slice aa la.length ca] 28)).alloc (.cells #[.slice ab lb.length cb] 28)=W0:=⟨_,rfl⟩
 have cA:W0.cell? ⟨w2.heap.size,0,none⟩=some (.slice aa la.length ca):=by rw[<- hW0];simp[go_sem]
 have cB:W0.cell? ⟨w2.heap.size+1,0,none⟩=some (.slice ab lb.length cb):=by rw[<- hW0];simp[go_sem]
 have nA3:W0.cell? ⟨w2.heap.size,3,none⟩=none:=by rw[<- hW0];simp[go_sem]
 have nB3:W0.cell? ⟨w2.heap.size+1,3,none⟩=none:=by rw[<- hW0];simp[go_sem]
 have hsz:W0.heap.size=w2.heap.size+2:=by rw[<- hW0];simp
 have b20:Below w2.heap.size w2 W0:=by rw[<- hW0];exact((Below.refl _ _).alloc (Nat.le_refl _) _).alloc (by simp) _
 have B0:Below w.heap.size w W0:=B2.trans (b20.mono (Nat.le_of_lt z2))
 have c0:=ae b20 z2 c2
 have f0:W0.frozen? ⟨w.heap.size,0,none⟩=false:=(b20.frozen (p:=⟨w.heap.size,0,none⟩) z2).trans f2
 rw[hW0]
 clear hW0 b20 c2 f2
 gi_wp2_with fail
 refine wpIn_rangeFunc_ownH (n:=5) rfl (by omega) (gf:=164) (lb:=#[.pointer (some ⟨w2.heap.size,0,none⟩),.pointer (some ⟨w2.heap.size+1,0,none⟩)]) rfl trivial (enters_of Tryz.func164 (by kernel_rfl) rfl)
  (pW 4 w.heap.size w2.heap.size w2.heap.size (w2.heap.size+1) aa ab ca cb la lb hca hcb hya hyb (Nat.le_refl _) (by omega) W0 (by omega) cA cB nA3 nB3 (ha.low.below B0) (hb.low.below B0)) KS.trans (fun W l o o' _ h1 h2 _=>KS.put W l o o' h1 h2) (Below.refl _ _) (fun _=>rfl)
  (fun pre W=>(W.cell? ⟨w.heap.size,0,none⟩=some (.bool false)/\W.frozen? ⟨w.heap.size,0,none⟩=false/\(∀y∈pre,¬Alone y.p)/\W0.heap.size<=W.heap.size)/\Below w.heap.size w W)
  (fun c pre W=>(c=.ret/\(∃y∈pre,Alone y.p)/\W.cell? ⟨w.heap.size,0,none⟩=some (.bool false))/\Below w.heap.size w W)
  (OwnFrom.and (Go.Own.from (fun s A B row hs hg hr=>⟨cell_kept hs.1 hg hr,(frozen_kept hs.1 hg hr).trans hs.2.1,hs.2.2.1,Nat.le_trans hs.2.2.2 hg.size⟩) _) (ownFrom_below (Nat.le_refl _) (by omega)))
  (fun c=>OwnFrom.and (Go.Own.from (fun s A B row hs hg hr=>⟨hs.1,hs.2.1,cell_kept hs.2.2 hg hr⟩) _) (ownFrom_below (Nat.le_refl _) (by omega)))
  ⟨⟨c0,f0,by simp,Nat.le_refl _⟩,B0⟩
  (fun x a' W=>∃bx bz,W0.heap.size<=bx/\W0.heap.size<=bz/\(W.cell? ⟨bx,0,none⟩=some (.string x.p.1.1)/\W.cell? ⟨bx,1,none⟩=some (.int .i64 x.p.1.2)/\W.cell? ⟨bz,0,none⟩=some (.string x.p.2.1)/\W.cell? ⟨bz,1,none⟩=some (.int .i64 x.p.2.2))/\a'={ tmps:=#[.slice aa la.length ca,.slice ab lb.length cb,undef,undef,.pointer (some ⟨w.heap.size,0,none⟩),.pointer (some ⟨bx,0,none⟩),.pointer (some ⟨bz,0,none⟩),.slice aa la.length ca,.slice ab lb.length cb,.func (.func 164) #[] #[.pointer (some ⟨w2.heap.size,0,none⟩),.pointer (some ⟨w2.heap.size+1,0,none⟩)],.agg #[.string x.p.1.1,.int .i64 x.p.1.2],.agg #[.string x.p.2.1,.int .i64 x.p.2.2],undef,undef,undef,undef,undef,undef,undef,undef],defers:=[] })
  (fun x a' s A B row hs hg hr=>by
   obtain⟨bx,bz,h1,h2,h3,h4⟩:=hs
   exact⟨bx,bz,h1,h2,⟨cell_kept h3.1 hg (fun r e=>(hr r e).2),cell_kept h3.2.1 hg (fun r e=>(hr r e).2),cell_kept h3.2.2.1 hg (fun r e=>(hr r e).2),cell_kept h3.2.2.2 hg (fun r e=>(hr r e).2)⟩,h4⟩) ?assign ?body ?done ?stop
 case assign=>
  rintro l pre x W K ⟨⟨hc,hf,hp,hW0⟩,hB⟩ hK
  simp only[Iw]
  gi_wp2
  have hb2:Below W.heap.size W ((W.alloc (.cells #[.string x.p.1.1,.int .i64 x.p.1.2] 54)).alloc (.cells #[.string x.p.2.1,.int .i64 x.p.2.2] 54)):=((Below.refl _ _).alloc (Nat.le_refl _) _).alloc (by simp) _
  have hWl:=block_lt_of_cell hc
  exact hK _ _ (cZ _ hb2) (KS.of_below hb2) ⟨⟨ae hb2 hWl hc,(hb2.frozen (p:=⟨w.heap.size,0,none⟩) hWl).trans hf,hp,Nat.le_trans hW0 hb2.size⟩,hB.trans (hb2.mono hB.size)⟩ ⟨W.heap.size,W.heap.size+1,hW0,Nat.le_succ_of_le hW0,⟨by simp[go_sem],by simp[go_sem],by simp[go_sem],by simp[go_sem]⟩,rfl⟩
 case body=>
  rintro l pre x a' W hle ⟨r,hr⟩ ⟨⟨hc,hf,hp,hW0⟩,hB⟩ ⟨bx,bz,h1,h2,⟨x0,x1,z0,z1⟩,rfl⟩ hlt
  have hWl:=block_lt_of_cell hc
  have hok:∀W',Below W.heap.size W W'->¬Alone x.p->KeepsFrom W0.heap.size W W'/\KS w.heap.size w2.heap.size W W'/\(W'.cell? ⟨w.heap.size,0,none⟩=some (.bool false)/\W'.frozen? ⟨w.heap.size,0,none⟩=false/\(∀y∈pre++[x],¬Alone y.p)/\W0.heap.size<=W'.heap.size)/\Below w.heap.size w W':=
   fun W' h hn=>⟨cZ _ h,KS.of_below h,⟨ae h hWl hc,(h.frozen (p:=⟨w.heap.size,0,none⟩) hWl).trans hf,fun y hy=>(List.mem_append.1 hy).elim (hp y) fun e=>by simp at e;subst e;exact hn,Nat.le_trans hW0 h.size⟩,hB.trans (h.mono hB.size)⟩
  have HOK:Hid _:=hok
  have hbd:∀W',Below W.heap.size W W'->W'.cell? ⟨w.heap.size,0,none⟩=some (.bool false)->Alone x.p->KeepsFrom W0.heap.size W (W'.setCell ⟨w.heap.size,0,none⟩ (.bool false))/\(((∃y∈pre++[x],Alone y.p)/\(W'.setCell ⟨w.heap.size,0,none⟩ (.bool false)).cell? ⟨w.heap.size,0,none⟩=some (.bool false))/\Below w.heap.size w (W'.setCell ⟨w.heap.size,0,none⟩ (.bool false))):=
   fun W' h hc' hx=>⟨(cZ _ h).trans ((KeepsOthers.setCell _ _ _).from _),⟨⟨x,by simp,hx⟩,World.cell?_setCell_same' _ _ _ (by rw[hc'];rfl)⟩,(hB.trans (h.mono hB.size)).setCell (p:=⟨w.heap.size,0,none⟩) (Nat.le_refl _) _⟩
  have HBAD:Hid _:=hbd
  clear hok hbd
  by_cases e1:0<x.p.1.2
  ·gi_wp2_with fail
   refine⟨trivial,(CallsIn.inRound l (callsIn_wide.2 (Dc _ _ _ e1))).mono ?_⟩
   rintro e w3 ⟨rfl,hb3⟩
   have z0':=ae hb3 (block_lt_of_cell z0) z0
   have z1':=ae hb3 (block_lt_of_cell z1) z1
   by_cases e2:0<x.p.2.2
   ·gi_wp2_with fail
    refine⟨trivial,(CallsIn.inRound l (callsIn_wide.2 (Dc _ _ _ e2))).mono ?_⟩
    rintro e w4 ⟨rfl,hb4⟩
    have hb34:=hb3.trans (hb4.mono hb3.size)
    have HAL:Hid (¬Alone x.p):=fun h=>h ⟨e1,e2⟩
    gi_wp2_with fail
    exact HOK.out w4 hb34 HAL.out
   ·gi_wp2_with fail
    refine⟨trivial,(CallsIn.inRound l (callsIn_wide.2 (zC _ _ _ (Int.not_lt.2 e2)))).mono ?_⟩
    rintro e w4 ⟨rfl,hb4⟩
    have hb34:=hb3.trans (hb4.mono hb3.size)
    have hc4:=ae hb34 hWl hc
    have hf4:=(hb34.frozen (p:=⟨w.heap.size,0,none⟩) hWl).trans hf
    have HAL:Hid (Alone x.p):=fun h=>absurd h.2 (Int.not_lt.2 e2)
    clear hc hf
    gi_wp2_with fail
    have q:=HBAD.out w4 hb34 hc4 HAL.out
    exact⟨q.1,⟨rfl,q.2.1⟩,q.2.2⟩
  ·gi_wp2_with fail
   refine⟨trivial,(CallsIn.inRound l (callsIn_wide.2 (zC _ _ _ (Int.not_lt.2 e1)))).mono ?_⟩
   rintro e w3 ⟨rfl,hb3⟩
   have hc4:=ae hb3 hWl hc
   have hf4:=(hb3.frozen (p:=⟨w.heap.size,0,none⟩) hWl).trans hf
   have HAL:Hid (Alone x.p):=fun h=>absurd h.1 (Int.not_lt.2 e1)
   clear hc hf
   gi_wp2_with fail
   refine⟨trivial, ?_⟩
   gi_wp2_with fail
   have q:=HBAD.out w3 hb3 hc4 HAL.out
   exact⟨q.1,⟨rfl,q.2.1⟩,q.2.2⟩
 case done=>
  rintro D ys W hD hS ⟨⟨hc,hf,hne,_⟩,hB⟩ hK
  gi_wp2
  have hK':=(KeepsOthers.setCell W ⟨w.heap.size,0,none⟩ (.bool true)).same D _ hK rfl
  refine⟨by simp,.inl ⟨_,_,rfl,run_takeDeferred hK', ?_⟩⟩
  have hc5:=cell_kept (World.cell?_setCell_same' W ⟨w.heap.size,0,none⟩ (.bool true) (by rw[hc];rfl)) (grownBy_putObj' _ D (.deferred none)) (fun r e=>by cases e;exact⟨_,hK',rfl⟩)
  refine⟨.bool true, ?_,dE (xn hya hyb (dW _ la lb (ay hya) (ay hyb) (Nat.le_refl _)) ?_),(hB.setCell (p:=⟨w.heap.size,0,none⟩) (Nat.le_refl _) _).trans (belowK_b (w:=w) (Nat.le_refl _) _ D _ _ (by omega) hK' rfl rfl)⟩
  ·simp[results,Tryz.f158,go_sem,hc5]
  ·rw[<- hS]
   intro p hp
   obtain⟨y,hy,rfl⟩:=List.mem_map.1 hp
   exact hne y hy
 case stop=>
  rintro D c pre W hD hpre ⟨⟨rfl,⟨y,hy,hbad⟩,hcr⟩,hB⟩ hK
  gi_wp2
  refine⟨by simp,.inl ⟨_,_,rfl,run_takeDeferred hK, ?_⟩⟩
  have hc5:=cell_kept hcr (grownBy_putObj' _ D (.deferred none)) (fun r e=>by cases e;exact⟨_,hK,rfl⟩)
  refine⟨.bool false, ?_,ai (qB hya hyb (dW _ la lb (ay hya) (ay hyb) (Nat.le_refl _)) (hpre.subset (List.mem_map.2 ⟨y,hy,rfl⟩)) hbad),hB.trans (belowK_b (w:=w) (Nat.le_refl _) W D _ _ (by omega) hK rfl rfl)⟩
  simp[results,Tryz.f158,go_sem,hc5]
end Go.Proofs.YtpfhegengmlkmabGreatDoor
namespace Go.Proofs.YtpfhegengmlkmabGreatDoor
open Go.RowKit Go.BigFrame
set_option maxRecDepth 100000
theorem dH {l:List (ByteArray×Int)}(h:ah l):uO l:=⟨by have:=h.1;unfold maxLen;omega,fun j hj=>by have:=(h.2.1 j hj).1.2.1;unfold maxLen;omega⟩
theorem kN (y:Int)(a:Option Addr)(n c:Nat)(u:World):(Instr.field 34 (.agg #[.int .i64 y,.slice a n c]) 1).run Tryz.prog u=.ok (.slice a n c) u:=by kernel_rfl
set_option maxHeartbeats 800000 in
theorem su (W0 w:World)(b s:Nat)(l:List af)(x:Int)(v:Value)(m:List (ByteArray×Int))(h:gY W0 w b s l)(hW:Below W0.heap.size W0 w)(hl:∀k,(h:k<l.length)->ah l[k].2)(hv:lN W0 v m)(hm:ah m) :
  Calls Tryz.prog 128 #[.pointer (some ⟨b,0,none⟩),.agg #[.int .i64 x,v]] w fun e w'=>rU (∀h:0<l.length,eU (l[l.length-1]'(by omega)).2 m) e/\Below w.heap.size w w':=by
 have h4:=h.2.2.1
 have hz:=hW.size
 obtain⟨sa,sc,rfl,hcap,hrow⟩:=hv
 go_enter Tryz.func128,Tryz.ntmps128
 go_wp2_with fail
 have hb0:Below w.heap.size w (w.alloc (.cells #[.int .i64 x,.slice sa m.length sc] 34)):=(Below.refl _ _).alloc (Nat.le_refl _) _
 have d0:=box0 w (.int .i64 x) (.slice sa m.length sc) 34
 have d1:=box1 w (.int .i64 x) (.slice sa m.length sc) 34
 have hlt:=bP w (.cells #[.int .i64 x,.slice sa m.length sc] 34)
 have hW1:=h.below hb0
 generalize w.alloc (.cells #[.int .i64 x,.slice sa m.length sc] 34)=W1 at *
 refine(size_any W0 W1 b s l hW1).mono ?_
 rintro e w1 ⟨rfl,rfl⟩
 by_cases h0:0<l.length
 ·have h0':((l.length:Int)==0)=false:=by rw[beq_eq_false_iff_ne];omega
  go_wp2_with fail
  refine(last_any W0 _ b s l hW1 h0).mono ?_
  rintro e w2 ⟨⟨v2,rfl,sb,sd,rfl,hcap2,hrow2⟩,b2⟩
  have B2:Below w.heap.size w w2:=hb0.trans (b2.mono hb0.size)
  have BW:Below W0.heap.size W0 w2:=hW.trans (B2.mono hz)
  replace d0:=ae b2 hlt d0
  replace d1:=ae b2 hlt d1
  have hs1:=hl (l.length-1) (by omega)
  have hlt2:w.heap.size<w2.heap.size:=Nat.lt_of_lt_of_le hlt b2.size
  generalize hq:l[l.length-1]=q at *
  obtain⟨q1,q2⟩:=q
  simp only at hs1 hcap2 hrow2
  have HG:Hid (∀P:List (ByteArray×Int)->Prop,P q2->P (l[l.length-1]'(by omega)).2):=fun P hP=>by rw[hq];exact hP
  have hfd:=kN q1 sb q2.length sd
  clear b2 hW1 hq
  go_wp2_with fail
  refine(Jy sb sa sd sc q2 m _ hcap2 hcap (hrow2.below BW) (hrow.below BW) hs1 hm).mono ?_
  rintro e w3 ⟨⟨r,rfl,hr⟩,b3⟩
  have B3:Below w.heap.size w w3:=B2.trans (b3.mono B2.size)
  have BW3:Below W0.heap.size W0 w3:=hW.trans (B3.mono hz)
  replace d0:=ae b3 hlt2 d0
  replace d1:=ae b3 hlt2 d1
  have HR:Hid (r=true↔aH q2=aH m):=hr
  clear hr b3
  cases r
  ·have HN:Hid (¬∀h:0<l.length,eU (l[l.length-1]'(by omega)).2 m):=fun h=>by
    have h1:=HG.out (fun z=>¬eU z m) (fun z=>by simpa using HR.out.2 z.1)
    exact h1 (h h0)
   clear HR HG
   go_wp2_with fail
   go_ret
   exact⟨ai HN.out,B3⟩
  ·go_wp2_with fail
   refine(pM sb sa sd sc q2 m _ (dH hs1).1 (dH hm).1 hcap2 hcap (hrow2.below BW3) (hrow.below BW3) (dH hs1).2 (dH hm).2).mono ?_
   rintro e w4 ⟨⟨v,rfl,hv⟩,b4⟩
   have B4:Below w.heap.size w w4:=B3.trans (b4.mono B3.size)
   have HV:Hid (v=1↔(ah q2/\ah m/\dL q2 m/\¬dL m q2)):=Ce hv
   clear hv
   go_wp2_with fail
   go_ret
   refine⟨⟨v==1,rfl, ?_⟩,B4⟩
   rw[beq_iff_eq,HV.out]
   constructor
   ·intro h _
    exact HG.out (fun z=>eU z m) ⟨HR.out.1 (by trivial),h⟩
   ·intro h
    have h1:=HG.out (fun z=>eU z m->(ah q2/\ah m/\dL q2 m/\¬dL m q2)) (fun z=>z.2)
    exact h1 (h h0)
 ·have h0':((l.length:Int)==0)=true:=by rw[beq_iff_eq];omega
  go_wp2_with fail
  go_ret
  exact⟨dE (fun q=>absurd q h0),hb0⟩
def uM (W0:World)(v:Value)(l:List af):Prop:=∃(x0 x1 x2 x3:Int) (a0 a1 a2 a3:Option Addr) (n0 n1 n2 n3 c0 c1 c2 c3:Nat),
 v=.agg #[.int .i64 x0,.slice a0 n0 c0,.int .i64 x1,.slice a1 n1 c1,.int .i64 x2,.slice a2 n2 c2,.int .i64 x3,.slice a3 n3 c3,.int .i64 0,.int .i64 l.length]/\l.length<=4 /\
  ∀k,(h:k<l.length)->[x0,x1,x2,x3][k]?=some l[k].1/\∃a n c,[(a0,n0,c0),(a1,n1,c1),(a2,n2,c2),(a3,n3,c3)][k]?=some (a,n,c)/\lN W0 (.slice a n c) l[k].2
theorem Fz {W0:World}{f:Nat->Value}{l:List af}(h4:l.length<=4){x0 x1 x2 x3:Int}{a0 a1 a2 a3:Option Addr}{n0 n1 n2 n3 c0 c1 c2 c3:Nat}
  (p0:f (0*2)=.int .i64 x0) (p1:f (0*2+1)=.slice a0 n0 c0) (p2:f (1*2)=.int .i64 x1) (p3:f (1*2+1)=.slice a1 n1 c1) (p4:f (2*2)=.int .i64 x2) (p5:f (2*2+1)=.slice a2 n2 c2) (p6:f (3*2)=.int .i64 x3) (p7:f (3*2+1)=.slice a3 n3 c3)
  (hf:∀k,(h:k<l.length)->f ((0+k) % 4*2)=.int .i64 l[k].1/\∃v,f ((0+k) % 4*2+1)=v/\lN W0 v l[k].2) :
  uM W0 (.agg #[.int .i64 x0,.slice a0 n0 c0,.int .i64 x1,.slice a1 n1 c1,.int .i64 x2,.slice a2 n2 c2,.int .i64 x3,.slice a3 n3 c3,.int .i64 0,.int .i64 l.length]) l:=by
 refine⟨x0,x1,x2,x3,a0,a1,a2,a3,n0,n1,n2,n3,c0,c1,c2,c3,rfl,h4,fun k hk=>?_⟩
 rcases(by omega:k=0∨k=1∨k=2∨k=3)with rfl|rfl|rfl|rfl
 ·obtain⟨q1,v,q2,q3⟩:=hf 0 hk
  have e1:x0=l[0].1:=by have h:=p0.symm.trans q1;simpa using h
  have e2:v=.slice a0 n0 c0:=q2.symm.trans p1
  exact⟨by rw[<- e1];rfl,a0,n0,c0,rfl,by rw[<- e2];exact q3⟩
 ·obtain⟨q1,v,q2,q3⟩:=hf 1 hk
  have e1:x1=l[1].1:=by have h:=p2.symm.trans q1;simpa using h
  have e2:v=.slice a1 n1 c1:=q2.symm.trans p3
  exact⟨by rw[<- e1];rfl,a1,n1,c1,rfl,by rw[<- e2];exact q3⟩
 ·obtain⟨q1,v,q2,q3⟩:=hf 2 hk
  have e1:x2=l[2].1:=by have h:=p4.symm.trans q1;simpa using h
  have e2:v=.slice a2 n2 c2:=q2.symm.trans p5
  exact⟨by rw[<- e1];rfl,a2,n2,c2,rfl,by rw[<- e2];exact q3⟩
 ·obtain⟨q1,v,q2,q3⟩:=hf 3 hk
  have e1:x3=l[3].1:=by have h:=p6.symm.trans q1;simpa using h
  have e2:v=.slice a3 n3 c3:=q2.symm.trans p7
  exact⟨by rw[<- e1];rfl,a3,n3,c3,rfl,by rw[<- e2];exact q3⟩
theorem uM.ring {W0:World}{v:Value}{l:List af}(h:uM W0 v l):∃cs:Array Value,v=.agg cs/\cs.size=10/\∀(w:World) (b:Nat),W0.heap.size<=b->w.rowIs b 181 10 (fun i=>(cs[i]?).getD undef)->gY W0 w b 0 l:=by
 obtain⟨x0,x1,x2,x3,a0,a1,a2,a3,n0,n1,n2,n3,c0,c1,c2,c3,rfl,h4,hk⟩:=h
 refine⟨_,rfl,rfl,fun w b hb hr=>⟨hb,by omega,h4,_,⟨hr,fun i hi=>?_⟩,rfl,rfl,fun k h=>?_⟩⟩
 ·rcases(by omega:i=0∨i=1∨i=2∨i=3)with rfl|rfl|rfl|rfl
  ·exact⟨_,_,_,_,rfl,rfl⟩
  ·exact⟨_,_,_,_,rfl,rfl⟩
  ·exact⟨_,_,_,_,rfl,rfl⟩
  ·exact⟨_,_,_,_,rfl,rfl⟩
 ·rcases(by omega:k=0∨k=1∨k=2∨k=3)with rfl|rfl|rfl|rfl
  ·obtain⟨q1,a,n,c,q2,q3⟩:=hk 0 h
   obtain⟨rfl,rfl,rfl⟩:a0=a/\n0=n/\c0=c:=by simpa using q2
   have e1:x0=l[0].1:=by simpa using q1
   exact⟨by rw[<- e1];rfl,_,rfl,q3⟩
  ·obtain⟨q1,a,n,c,q2,q3⟩:=hk 1 h
   obtain⟨rfl,rfl,rfl⟩:a1=a/\n1=n/\c1=c:=by simpa using q2
   have e1:x1=l[1].1:=by simpa using q1
   exact⟨by rw[<- e1];rfl,_,rfl,q3⟩
  ·obtain⟨q1,a,n,c,q2,q3⟩:=hk 2 h
   obtain⟨rfl,rfl,rfl⟩:a2=a/\n2=n/\c2=c:=by simpa using q2
   have e1:x2=l[2].1:=by simpa using q1
   exact⟨by rw[<- e1];rfl,_,rfl,q3⟩
  ·obtain⟨q1,a,n,c,q2,q3⟩:=hk 3 h
   obtain⟨rfl,rfl,rfl⟩:a3=a/\n3=n/\c3=c:=by simpa using q2
   have e1:x3=l[3].1:=by simpa using q1
   exact⟨by rw[<- e1];rfl,_,rfl,q3⟩
theorem uM.laid {W0:World}{v:Value}{l:List af}(h:uM W0 v l):∃(x0 x1 x2 x3:Int) (a0 a1 a2 a3:Option Addr) (n0 n1 n2 n3 c0 c1 c2 c3:Nat),v=.agg #[.int .i64 x0,.slice a0 n0 c0,.int .i64 x1,.slice a1 n1 c1,.int .i64 x2,.slice a2 n2 c2,.int .i64 x3,.slice a3 n3 c3,.int .i64 0,.int .i64 l.length] /\
  ∀w:World,W0.heap.size<=w.heap.size->gY W0 (w.alloc (.cells #[.int .i64 x0,.slice a0 n0 c0,.int .i64 x1,.slice a1 n1 c1,.int .i64 x2,.slice a2 n2 c2,.int .i64 x3,.slice a3 n3 c3,.int .i64 0,.int .i64 l.length] 181)) w.heap.size 0 l:=by
 obtain⟨cs,hv,hs,hw⟩:=h.ring
 obtain⟨x0,x1,x2,x3,a0,a1,a2,a3,n0,n1,n2,n3,c0,c1,c2,c3,rfl,h4,hk⟩:=h
 obtain rfl:#[.int .i64 x0,.slice a0 n0 c0,.int .i64 x1,.slice a1 n1 c1,.int .i64 x2,.slice a2 n2 c2,.int .i64 x3,.slice a3 n3 c3,.int .i64 0,.int .i64 l.length]=cs:=by simpa using hv
 exact⟨x0,x1,x2,x3,a0,a1,a2,a3,n0,n1,n2,n3,c0,c1,c2,c3,rfl,fun w hW=>hw _ _ hW (World.rowIs_alloc w _ 181 _ (fun i hi=>by simp only[Array.getElem?_eq_getElem hi,Option.getD_some]))⟩
def LY (W0:World)(l:List af)(e:Ending):Prop:=(∃v,e=.returned (.tuple #[v,.bool true])/\aX l/\uM W0 v l)∨(∃v,e=.returned (.tuple #[v,.bool false])/\¬aX l/\uM W0 v [])
abbrev bH:Array Value:=#[.int .i64 0,.slice none 0 0,.int .i64 0,.slice none 0 0,.int .i64 0,.slice none 0 0,.int .i64 0,.slice none 0 0,.int .i64 0,.int .i64 0]
theorem jQ (W0:World):uM W0 (.agg bH) []:=⟨0,0,0,0,none,none,none,none,0,0,0,0,0,0,0,0,rfl,Nat.zero_le _,fun k h=>absurd h (Nat.not_lt_zero k)⟩
theorem Bf (W0 w:World)(h:W0.heap.size<=w.heap.size):gY W0 (w.alloc (.cells bH 181)) w.heap.size 0 []:=by
 refine⟨h,by omega,Nat.zero_le _,fun i=>(bH[i]?).getD undef,⟨?_, ?_⟩,rfl,rfl,fun k h=>absurd h (Nat.not_lt_zero k)⟩
 ·exact World.rowIs_alloc w bH 181 _ (fun i hi=>by simp[Array.getElem?_eq_getElem hi])
 ·intro i hi
  match i,hi with
  |0,_=>exact⟨0,none,0,0,rfl,rfl⟩
  |1,_=>exact⟨0,none,0,0,rfl,rfl⟩
  |2,_=>exact⟨0,none,0,0,rfl,rfl⟩
  |3,_=>exact⟨0,none,0,0,rfl,rfl⟩
def jZ (w:World)(H:Nat):Prop:=w.rowIs H 181 10 (fun i=>(bH[i]?).getD undef)
theorem zQ (w:World):jZ (w.alloc (.cells bH 181)) w.heap.size:=World.rowIs_alloc w bH 181 _ (fun i hi=>by simp[Array.getElem?_eq_getElem hi])
theorem jZ.cells {w:World}{H:Nat}(h:jZ w H):w.cell? ⟨H,0,none⟩=some (.int .i64 0)/\w.cell? ⟨H,1,none⟩=some (.slice none 0 0)/\w.cell? ⟨H,2,none⟩=some (.int .i64 0)/\w.cell? ⟨H,3,none⟩=some (.slice none 0 0)/\w.cell? ⟨H,4,none⟩=some (.int .i64 0)/\w.cell? ⟨H,5,none⟩=some (.slice none 0 0)/\w.cell? ⟨H,6,none⟩=some (.int .i64 0)/\w.cell? ⟨H,7,none⟩=some (.slice none 0 0)/\w.cell? ⟨H,8,none⟩=some (.int .i64 0)/\w.cell? ⟨H,9,none⟩=some (.int .i64 0):=
 ⟨h.cell (by decide),h.cell (by decide),h.cell (by decide),h.cell (by decide),h.cell (by decide),h.cell (by decide),h.cell (by decide),h.cell (by decide),h.cell (by decide),h.cell (by decide)⟩
theorem jZ.free {w:World}{H:Nat}(h:jZ w H):w.frozen? ⟨H,0,none⟩=false/\w.frozen? ⟨H,1,none⟩=false/\w.frozen? ⟨H,2,none⟩=false/\w.frozen? ⟨H,3,none⟩=false/\w.frozen? ⟨H,4,none⟩=false/\w.frozen? ⟨H,5,none⟩=false/\w.frozen? ⟨H,6,none⟩=false/\w.frozen? ⟨H,7,none⟩=false/\w.frozen? ⟨H,8,none⟩=false/\w.frozen? ⟨H,9,none⟩=false:=
 ⟨h.frozen _,h.frozen _,h.frozen _,h.frozen _,h.frozen _,h.frozen _,h.frozen _,h.frozen _,h.frozen _,h.frozen _⟩
theorem jZ.below {w w':World}{H:Nat}(h:jZ w H)(hb:Below w.heap.size w w'):jZ w' H:=World.rowIs.of_block h (hb.block H (World.rowIs.lt h))
theorem jZ.but {w w':World}{H b:Nat}(h:jZ w H)(hb:But b w w')(hne:H≠b):jZ w' H:=World.rowIs.of_block h (hb.block H (World.rowIs.lt h) hne)
theorem ui {l:List af}{k:Nat}(h:lH l k):∀j,(hj:j<(l.take k).length)->ah (l.take k)[j].2:=fun j hj=>by
 rw[List.length_take]at hj
 rw[List.getElem_take]
 exact(h.1 j (by omega) (by omega)).1
theorem vN {l:List af}{k:Nat}(h:aX l)(hk:k<l.length):∀h0:0<(l.take k).length,eU ((l.take k)[(l.take k).length-1]'(by omega)).2 l[k].2:=fun h0=>by
 have e:(l.take k).length=k:=by rw[List.length_take];omega
 have e2:(l.take k)[(l.take k).length-1]'(by omega)=l[k-1]'(by omega):=by rw[List.getElem_take];congr 1;omega
 rw[e2]
 exact x8 h (by omega) hk
theorem xk {l:List af}{k:Nat}(hk:k<l.length)(h0:0<k)(h:∀h0:0<(l.take k).length,eU ((l.take k)[(l.take k).length-1]'(by omega)).2 l[k].2):eU (l[k-1]'(by omega)).2 l[k].2:=by
 have e:(l.take k).length=k:=by rw[List.length_take];omega
 have e2:(l.take k)[(l.take k).length-1]'(by omega)=l[k-1]'(by omega):=by rw[List.getElem_take];congr 1;omega
 rw[<- e2]
 exact h (by omega)
def jC (w:World)(H:Nat)(v0 v1 v2 v3 v4 v5 v6 v7 v8 v9:Value):World:=(((((((((w.setCell ⟨H,0,none⟩ v0).setCell ⟨H,1,none⟩ v1).setCell ⟨H,2,none⟩ v2).setCell ⟨H,3,none⟩ v3).setCell ⟨H,4,none⟩ v4).setCell ⟨H,5,none⟩ v5).setCell ⟨H,6,none⟩ v6).setCell ⟨H,7,none⟩ v7).setCell ⟨H,8,none⟩ v8).setCell ⟨H,9,none⟩ v9
theorem iM {w:World}{H:Nat}{f:Nat->Value}(h:w.rowIs H 181 10 f)(v0 v1 v2 v3 v4 v5 v6 v7 v8 v9:Value):(jC w H v0 v1 v2 v3 v4 v5 v6 v7 v8 v9).cell? ⟨H,0,none⟩=some v0/\(jC w H v0 v1 v2 v3 v4 v5 v6 v7 v8 v9).cell? ⟨H,1,none⟩=some v1/\(jC w H v0 v1 v2 v3 v4 v5 v6 v7 v8 v9).cell? ⟨H,2,none⟩=some v2/\(jC w H v0 v1 v2 v3 v4 v5 v6 v7 v8 v9).cell? ⟨H,3,none⟩=some v3/\(jC w H v0 v1 v2 v3 v4 v5 v6 v7 v8 v9).cell? ⟨H,4,none⟩=some v4/\(jC w H v0 v1 v2 v3 v4 v5 v6 v7 v8 v9).cell? ⟨H,5,none⟩=some v5/\(jC w H v0 v1 v2 v3 v4 v5 v6 v7 v8 v9).cell? ⟨H,6,none⟩=some v6/\(jC w H v0 v1 v2 v3 v4 v5 v6 v7 v8 v9).cell? ⟨H,7,none⟩=some v7/\(jC w H v0 v1 v2 v3 v4 v5 v6 v7 v8 v9).cell? ⟨H,8,none⟩=some v8/\(jC w H v0 v1 v2 v3 v4 v5 v6 v7 v8 v9).cell? ⟨H,9,none⟩=some v9:=by
 have R:=((((((((((h.set 0 v0).set 1 v1).set 2 v2).set 3 v3).set 4 v4).set 5 v5).set 6 v6).set 7 v7).set 8 v8).set 9 v9)
 exact⟨R.cell (by decide),R.cell (by decide),R.cell (by decide),R.cell (by decide),R.cell (by decide),R.cell (by decide),R.cell (by decide),R.cell (by decide),R.cell (by decide),R.cell (by decide)⟩
theorem iJ {B H:Nat}{x w:World}(hb:Below B x w)(hB:B<=H)(v0 v1 v2 v3 v4 v5 v6 v7 v8 v9:Value):Below B x (jC w H v0 v1 v2 v3 v4 v5 v6 v7 v8 v9):=((((((((((hb.setCell (p:=⟨H,0,none⟩) hB v0).setCell (p:=⟨H,1,none⟩) hB v1).setCell (p:=⟨H,2,none⟩) hB v2).setCell (p:=⟨H,3,none⟩) hB v3).setCell (p:=⟨H,4,none⟩) hB v4).setCell (p:=⟨H,5,none⟩) hB v5).setCell (p:=⟨H,6,none⟩) hB v6).setCell (p:=⟨H,7,none⟩) hB v7).setCell (p:=⟨H,8,none⟩) hB v8).setCell (p:=⟨H,9,none⟩) hB v9)
set_option maxHeartbeats 3200000 in
theorem og (a:Option Addr)(cap:Nat)(l:List af)(w:World)(hf:Be l)(hr:pg w a l) :
  Calls Tryz.prog 126 #[.slice a l.length cap] w fun e w'=>LY w l e/\Below w.heap.size w w':=by
 have hl:=hf.1
 unfold maxLen at hl
 by_cases h4:4<l.length
 ·have HN:Hid (¬aX l):=fun h=>by have:=h.1;omega
  go_enter Tryz.func126,Tryz.ntmps126
  go_wp2_with fail
  exact bodyPost_ret (v:=.tuple #[.agg bH,.bool false]) (by simp[results,Tryz.results126,go_sem]) rfl ⟨.inr ⟨_,rfl,HN.out,jQ _⟩,((Below.refl _ _).alloc (Nat.le_refl _) _).alloc (by simp) _⟩
 go_enter Tryz.func126,Tryz.ntmps126
 go_wp2_with fail
 have hA1:Below w.heap.size w (w.alloc (.cells bH 181)):=(Below.refl _ _).alloc (Nat.le_refl _) _
 have hA2:Below w.heap.size w ((w.alloc (.cells bH 181)).alloc (.cells bH 181)):=hA1.alloc hA1.size _
 have hZ:jZ ((w.alloc (.cells bH 181)).alloc (.cells bH 181)) w.heap.size:=(zQ w).below ((Below.refl _ _).alloc (Nat.le_refl _) _)
 have hWn:gY w ((w.alloc (.cells bH 181)).alloc (.cells bH 181)) (w.heap.size+1) 0 []:=by
  have h:=Bf w (w.alloc (.cells bH 181)) hA1.size
  rw[World.size_alloc]at h
  exact h
 go_loopw [13] (fun i wr=>∃k:Nat,k<=l.length/\i=.int .i64 k/\gY w wr (w.heap.size+1) 0 (l.take k)/\Hid (lH l k)/\jZ wr w.heap.size/\Below w.heap.size w wr) (fun i _=>l.length-(intOf i).toNat)
 case atStart=>exact⟨0,Nat.zero_le _,rfl,hWn,qx l,hZ,hA2⟩
 case round=>
  obtain⟨k,hk,rfl,hW,HTO,hz,hb⟩:=hrel
  clear hA1 hA2 hZ hWn
  by_cases hlt:k<l.length
  ·obtain⟨b1,o1,rfl,g1,e0,v1,e1,⟨s1,t1,rfl,hc1,r1⟩⟩:=hr k hlt
   have k0:(0:Int)<=(k:Int):=by omega
   have k1:(k:Int)<(l.length:Int):=by omega
   have x0:=ae hb g1 e0
   have x1:=ae hb g1 e1
   have fk:=hf.2 k hlt
   clear e0 e1
   go_wp2_with fail
   have hb0:Below wr.heap.size wr (wr.alloc (.cells #[.int .i64 l[k].1,.slice s1 l[k].2.length t1] 34)):=(Below.refl _ _).alloc (Nat.le_refl _) _
   have d0:=box0 wr (.int .i64 l[k].1) (.slice s1 l[k].2.length t1) 34
   have d1:=box1 wr (.int .i64 l[k].1) (.slice s1 l[k].2.length t1) 34
   have hlt0:=bP wr (.cells #[.int .i64 l[k].1,.slice s1 l[k].2.length t1] 34)
   replace hW:=hW.below hb0
   replace hz:=hz.below hb0
   have B1:Below w.heap.size w (wr.alloc (.cells #[.int .i64 l[k].1,.slice s1 l[k].2.length t1] 34)):=hb.trans (hb0.mono hb.size)
   generalize hq:wr.heap.size=q at *
   generalize wr.alloc (.cells #[.int .i64 l[k].1,.slice s1 l[k].2.length t1] 34)=W1 at *
   clear hb0 x0 x1 hq hb
   refine(qw l[k].1 s1 t1 l[k].2 W1 (r1.below B1) fk).mono ?_
   rintro e w2 ⟨⟨r,rfl,hr2⟩,b2⟩
   replace hW:=hW.below b2
   replace hz:=hz.below b2
   replace d0:=ae b2 hlt0 d0
   replace d1:=ae b2 hlt0 d1
   have B2:Below w.heap.size w w2:=B1.trans (b2.mono B1.size)
   have hlt2:q<w2.heap.size:=Nat.lt_of_lt_of_le hlt0 b2.size
   have HR2:Hid (r=true↔ah l[k].2/\l[k].2≠[]):=hr2
   clear hr2 b2 B1 hlt0
   cases r
   ·have HN:Hid (¬aX l):=fun h=>by simpa using HR2.out.2 (h.2.1 k hlt)
    obtain⟨z0,z1,z2,z3,z4,z5,z6,z7,z8,z9⟩:=hz.cells
    obtain⟨y0,y1,y2,y3,y4,y5,y6,y7,y8,y9⟩:=hz.free
    have HY:Hid _:=iM hz (.int .i64 0) (.slice none 0 0) (.int .i64 0) (.slice none 0 0) (.int .i64 0) (.slice none 0 0) (.int .i64 0) (.slice none 0 0) (.int .i64 0) (.int .i64 0)
    clear HR2 hz hW
    go_wp2_with fail
    obtain⟨Y0,Y1,Y2,Y3,Y4,Y5,Y6,Y7,Y8,Y9⟩:=HY.out
    unfold jC at Y0 Y1 Y2 Y3 Y4 Y5 Y6 Y7 Y8 Y9
    exact bodyPost_ret (v:=.tuple #[.agg bH,.bool false]) (by simp[results,Tryz.results126,go_sem,Y0,Y1,Y2,Y3,Y4,Y5,Y6,Y7,Y8,Y9]) rfl ⟨.inr ⟨_,rfl,HN.out,jQ _⟩,iJ B2 (Nat.le_refl _) _ _ _ _ _ _ _ _ _ _⟩
   ·go_wp2_with fail
    refine(su w w2 _ 0 (l.take k) l[k].1 _ l[k].2 hW B2 (ui HTO.out) ⟨s1,t1,rfl,hc1,r1⟩ (HR2.out.1 (by trivial)).1).mono ?_
    rintro e w3 ⟨⟨r,rfl,hr3⟩,b3⟩
    replace hW:=hW.below b3
    replace hz:=hz.below b3
    replace d0:=ae b3 hlt2 d0
    replace d1:=ae b3 hlt2 d1
    have B3:Below w.heap.size w w3:=B2.trans (b3.mono B2.size)
    have HR3:Hid (r=true↔∀h:0<(l.take k).length,eU ((l.take k)[(l.take k).length-1]'(by omega)).2 l[k].2):=hr3
    clear hr3 b3 B2 hlt2
    cases r
    ·have HN:Hid (¬aX l):=fun h=>by
      have h3:=HR3.out.2 (vN h hlt)
      simp at h3
     obtain⟨z0,z1,z2,z3,z4,z5,z6,z7,z8,z9⟩:=hz.cells
     obtain⟨y0,y1,y2,y3,y4,y5,y6,y7,y8,y9⟩:=hz.free
     have HY:Hid _:=iM hz (.int .i64 0) (.slice none 0 0) (.int .i64 0) (.slice none 0 0) (.int .i64 0) (.slice none 0 0) (.int .i64 0) (.slice none 0 0) (.int .i64 0) (.int .i64 0)
     clear HR2 HR3 hz hW
     go_wp2_with fail
     obtain⟨Y0,Y1,Y2,Y3,Y4,Y5,Y6,Y7,Y8,Y9⟩:=HY.out
     unfold jC at Y0 Y1 Y2 Y3 Y4 Y5 Y6 Y7 Y8 Y9
     exact bodyPost_ret (v:=.tuple #[.agg bH,.bool false]) (by simp[results,Tryz.results126,go_sem,Y0,Y1,Y2,Y3,Y4,Y5,Y6,Y7,Y8,Y9]) rfl ⟨.inr ⟨_,rfl,HN.out,jQ _⟩,iJ B3 (Nat.le_refl _) _ _ _ _ _ _ _ _ _ _⟩
    ·have HST:Hid (lH l (k+1)):=mr HTO.out hlt (HR2.out.1 (by trivial)) (fun h=>xk hlt h (HR3.out.1 (by trivial)))
     have HT:Hid (l.take (k+1)=l.take k++[(l[k].1,l[k].2)]):=List.take_succ_eq_append_getElem hlt
     clear HR2 HR3 HTO
     go_wp2_with fail
     refine(push_room w w3 _ 0 (l.take k) l[k].1 _ l[k].2 hW ⟨s1,t1,rfl,hc1,r1⟩ (by rw[List.length_take];omega)).mono ?_
     rintro e w4 ⟨rfl,hW4,b4⟩
     have hz4:=hz.but b4 (by omega)
     have B4:Below w.heap.size w w4:=B3.trans (b4.below (by omega) B3.size)
     clear hW hz d0 d1 b4
     go_wp2_with fail
     exact⟨⟨k+1,by omega,by go_num,by rw[HT.out];exact hW4,HST,hz4,B4⟩,by simp[intOf];omega⟩
  ·have HF:Hid (aX l):=zY HTO.out hlt (by omega)
   rw[List.take_of_length_le (by omega)]at hW
   obtain⟨z0,z1,z2,z3,z4,z5,z6,z7,z8,z9⟩:=hz.cells
   obtain⟨y0,y1,y2,y3,y4,y5,y6,y7,y8,y9⟩:=hz.free
   obtain⟨_,_,_,f,⟨hrow,hsh⟩,e8,e9,hf'⟩:=hW
   obtain⟨x0,a0,n0,c0,p0,p1⟩:=hsh 0 (by omega)
   obtain⟨x1,a1,n1,c1,p2,p3⟩:=hsh 1 (by omega)
   obtain⟨x2,a2,n2,c2,p4,p5⟩:=hsh 2 (by omega)
   obtain⟨x3,a3,n3,c3,p6,p7⟩:=hsh 3 (by omega)
   have HV:Hid (uM w (.agg #[.int .i64 x0,.slice a0 n0 c0,.int .i64 x1,.slice a1 n1 c1,.int .i64 x2,.slice a2 n2 c2,.int .i64 x3,.slice a3 n3 c3,.int .i64 0,.int .i64 l.length]) l):=Fz (by omega) p0 p1 p2 p3 p4 p5 p6 p7 hf'
   have r0:wr.cell? ⟨w.heap.size+1,0,none⟩=some (.int .i64 x0):=by rw[hrow.cell (by omega),<- p0]
   have r1:wr.cell? ⟨w.heap.size+1,1,none⟩=some (.slice a0 n0 c0):=by rw[hrow.cell (by omega),<- p1]
   have r2:wr.cell? ⟨w.heap.size+1,2,none⟩=some (.int .i64 x1):=by rw[hrow.cell (by omega),<- p2]
   have r3:wr.cell? ⟨w.heap.size+1,3,none⟩=some (.slice a1 n1 c1):=by rw[hrow.cell (by omega),<- p3]
   have r4:wr.cell? ⟨w.heap.size+1,4,none⟩=some (.int .i64 x2):=by rw[hrow.cell (by omega),<- p4]
   have r5:wr.cell? ⟨w.heap.size+1,5,none⟩=some (.slice a2 n2 c2):=by rw[hrow.cell (by omega),<- p5]
   have r6:wr.cell? ⟨w.heap.size+1,6,none⟩=some (.int .i64 x3):=by rw[hrow.cell (by omega),<- p6]
   have r7:wr.cell? ⟨w.heap.size+1,7,none⟩=some (.slice a3 n3 c3):=by rw[hrow.cell (by omega),<- p7]
   have r8:wr.cell? ⟨w.heap.size+1,8,none⟩=some (.int .i64 0):=by rw[hrow.cell (by omega),e8];rfl
   have r9:wr.cell? ⟨w.heap.size+1,9,none⟩=some (.int .i64 l.length):=by rw[hrow.cell (by omega),e9]
   have HY:Hid _:=iM hz (.int .i64 x0) (.slice a0 n0 c0) (.int .i64 x1) (.slice a1 n1 c1) (.int .i64 x2) (.slice a2 n2 c2) (.int .i64 x3) (.slice a3 n3 c3) (.int .i64 0) (.int .i64 l.length)
   clear HTO hz hrow hsh e8 e9 hf' p0 p1 p2 p3 p4 p5 p6 p7 f
   go_wp2_with fail
   obtain⟨Y0,Y1,Y2,Y3,Y4,Y5,Y6,Y7,Y8,Y9⟩:=HY.out
   unfold jC at Y0 Y1 Y2 Y3 Y4 Y5 Y6 Y7 Y8 Y9
   exact bodyPost_ret (v:=.tuple #[.agg #[.int .i64 x0,.slice a0 n0 c0,.int .i64 x1,.slice a1 n1 c1,.int .i64 x2,.slice a2 n2 c2,.int .i64 x3,.slice a3 n3 c3,.int .i64 0,.int .i64 l.length],.bool true]) (by simp[results,Tryz.results126,go_sem,Y0,Y1,Y2,Y3,Y4,Y5,Y6,Y7,Y8,Y9]) rfl ⟨.inl ⟨_,rfl,HF.out,HV.out⟩,iJ hb (Nat.le_refl _) _ _ _ _ _ _ _ _ _ _⟩
end Go.Proofs.YtpfhegengmlkmabGreatDoor
