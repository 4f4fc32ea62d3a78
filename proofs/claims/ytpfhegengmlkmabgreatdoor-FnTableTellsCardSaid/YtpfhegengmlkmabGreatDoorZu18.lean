/- Texts of this claim. -/
import Derived.Test.YtpfhegengmlkmabGreatDoorZu16
import Derived.Test.YtpfhegengmlkmabGreatDoorZu17
namespace Go.Proofs.YtpfhegengmlkmabGreatDoor
open Go.RowKit Go.Shelf Go.BigFrame
attribute [local go_sem] Oper.semAt_some
set_option maxHeartbeats 400000 in
theorem jX (aa ab:Option Addr)(na nb ca cb:Nat)(w:World) :
  Calls Tryz.prog 139 #[.slice aa na ca,.slice ab nb cb] w fun e w'=>e=.returned (.func (.func 164) #[] #[.pointer (some ⟨w.heap.size,0,none⟩),.pointer (some ⟨w.heap.size+1,0,none⟩)]) /\
   w'=(w.alloc (.cells #[.slice aa na ca] 28)).alloc (.cells #[.slice ab nb cb] 28):=by
 go_enter Tryz.func139,Tryz.ntmps139
 go_wp2
 go_ret
 exact⟨rfl,rfl⟩
theorem pW (n lo hi Ba Bb:Nat)(aa ab:Option Addr)(ca cb:Nat)(la lb:List (ByteArray×Int))(hca:la.length<=ca)(hcb:lb.length<=cb)(hpa:ah la)(hpb:ah lb)(hBa:hi<=Ba)(hBb:hi<=Bb)(w:World)(hlo:lo<=w.heap.size)
  (cA:w.cell? ⟨Ba,0,none⟩=some (.slice aa la.length ca)) (cB:w.cell? ⟨Bb,0,none⟩=some (.slice ab lb.length cb)) (nA3:w.cell? ⟨Ba,3,none⟩=none) (nB3:w.cell? ⟨Bb,3,none⟩=none) (hra:Dy lo w aa la) (hrb:Dy lo w ab lb) :
  SeqStopsK Fence.wide n Tryz.prog 164 #[.pointer (some ⟨Ba,0,none⟩),.pointer (some ⟨Bb,0,none⟩)] Iw (KS lo hi) (fun ys=>ys.map PM.p=aO (la.length+lb.length) la lb) (fun pre=>pre.map PM.p <+: aO (la.length+lb.length) la lb) (la.length+lb.length) w:=
 fun l J Jx W hW hJ _ hY h0=>
  JV n l Ba Bb lo hi aa ab ca cb la lb hca hcb hpa.1 hpb.1 (name_sizes hpa) (name_sizes hpb) (ay hpa).2 (ay hpb).2 hBa hBb J Jx W (Nat.le_trans hlo hW.size) hJ hY
   (ae hW (block_lt_of_cell cA) cA) (ae hW (block_lt_of_cell cB) cB) ((hW.cell (p:=⟨Ba,3,none⟩) (lt_of cA)).trans nA3) ((hW.cell (p:=⟨Bb,3,none⟩) (lt_of cB)).trans nB3) (hra.below (hW.mono hlo)) (hrb.below (hW.mono hlo)) h0
where
 lt_of {B:Nat} {v:Value} (h:w.cell? ⟨B,0,none⟩=some v):B<w.heap.size:=block_lt_of_cell h
 name_sizes {l:List (ByteArray×Int)} (h:ah l):∀m∈l,m.1.size<=1048576:=fun m hm=>by
  obtain⟨j,hj,rfl⟩:=List.mem_iff_getElem.1 hm
  have:=(h.2.1 j hj).1.2.1
  omega
attribute [local go_sem] Oper.semAt_some
theorem Dc (s:ByteArray)(v:Int)(w:World)(h:0<v):Calls Tryz.prog 166 #[.agg #[.string s,.int .i64 v]] w fun e w'=>e=.returned (.bool true)/\Below w.heap.size w w':=
 (uY s v w).mono fun e w' ⟨h1,h2⟩=>⟨by rw[h1,decide_eq_true h],h2⟩
theorem zC (s:ByteArray)(v:Int)(w:World)(h:¬0<v):Calls Tryz.prog 166 #[.agg #[.string s,.int .i64 v]] w fun e w'=>e=.returned (.bool false)/\Below w.heap.size w w':=
 (uY s v w).mono fun e w' ⟨h1,h2⟩=>⟨by rw[h1,decide_eq_false h],h2⟩
theorem cZ (B:Nat){W W':World}(h:Below W.heap.size W W'):KeepsFrom B W W':=⟨h.size,fun k _ _ hk _=>(h.block k (Array.getElem?_eq_some_iff.1 hk).1).trans hk⟩
attribute [local go_sem] Oper.semAt_some
def Mc (p:(ByteArray×Int)×(ByteArray×Int)):Prop:=p.1=p.2
def Ls (p:(ByteArray×Int)×(ByteArray×Int)):Prop:=p.1≠p.2/\p.1.2<p.2.2
def LP (p:(ByteArray×Int)×(ByteArray×Int)):Prop:=p.1≠p.2/\¬p.1.2<p.2.2
def kG (pre:List ((ByteArray×Int)×(ByteArray×Int)))(v:Int):Prop:=
 (v=0/\∀y∈pre,Mc y)∨(v=1/\(∃y∈pre,Ls y)/\∀y∈pre,Mc y∨Ls y)∨(v=2/\(∃y∈pre,LP y)/\∀y∈pre,Mc y∨LP y)
theorem kG.eq {pre:List ((ByteArray×Int)×(ByteArray×Int))}{v:Int}{x:(ByteArray×Int)×(ByteArray×Int)}(h:kG pre v)(hx:Mc x):kG (pre++[x]) v:=by
 rcases h with⟨e,h⟩|⟨e,⟨y,hy,hl⟩,h⟩|⟨e,⟨y,hy,hl⟩,h⟩
 ·exact .inl ⟨e,fun y hy=>(List.mem_append.1 hy).elim (h y) (fun k=>by simp at k;subst k;exact hx)⟩
 ·exact .inr (.inl ⟨e,⟨y,List.mem_append.2 (.inl hy),hl⟩,fun y hy=>(List.mem_append.1 hy).elim (h y) (fun k=>by simp at k;subst k;exact .inl hx)⟩)
 ·exact .inr (.inr ⟨e,⟨y,List.mem_append.2 (.inl hy),hl⟩,fun y hy=>(List.mem_append.1 hy).elim (h y) (fun k=>by simp at k;subst k;exact .inl hx)⟩)
theorem kG.lt {pre:List ((ByteArray×Int)×(ByteArray×Int))}{v:Int}{x:(ByteArray×Int)×(ByteArray×Int)}(h:kG pre v)(hv:v=0∨v=1)(hx:Ls x):kG (pre++[x]) 1:=by
 rcases h with⟨e,h⟩|⟨e,_,h⟩|⟨e,_,_⟩
 ·exact .inr (.inl ⟨rfl,⟨x,by simp,hx⟩,fun y hy=>(List.mem_append.1 hy).elim (fun k=>.inl (h y k)) (fun k=>by simp at k;subst k;exact .inr hx)⟩)
 ·exact .inr (.inl ⟨rfl,⟨x,by simp,hx⟩,fun y hy=>(List.mem_append.1 hy).elim (h y) (fun k=>by simp at k;subst k;exact .inr hx)⟩)
 ·omega
theorem kG.gt {pre:List ((ByteArray×Int)×(ByteArray×Int))}{v:Int}{x:(ByteArray×Int)×(ByteArray×Int)}(h:kG pre v)(hv:v=0∨v=2)(hx:LP x):kG (pre++[x]) 2:=by
 rcases h with⟨e,h⟩|⟨e,_,_⟩|⟨e,_,h⟩
 ·exact .inr (.inr ⟨rfl,⟨x,by simp,hx⟩,fun y hy=>(List.mem_append.1 hy).elim (fun k=>.inl (h y k)) (fun k=>by simp at k;subst k;exact .inr hx)⟩)
 ·omega
 ·exact .inr (.inr ⟨rfl,⟨x,by simp,hx⟩,fun y hy=>(List.mem_append.1 hy).elim (h y) (fun k=>by simp at k;subst k;exact .inr hx)⟩)
theorem kG.val {pre:List ((ByteArray×Int)×(ByteArray×Int))}{v:Int}(h:kG pre v):v=0∨v=1∨v=2:=by
 rcases h with⟨e,_⟩|⟨e,_⟩|⟨e,_⟩ <;> omega
def Apart (pre:List ((ByteArray×Int)×(ByteArray×Int))):Prop:=(∃y∈pre,Ls y)/\∃y∈pre,LP y
theorem kG.apart1 {pre:List ((ByteArray×Int)×(ByteArray×Int))}{x:(ByteArray×Int)×(ByteArray×Int)}(h:kG pre 1)(hx:LP x):Apart (pre++[x]):=by
 rcases h with⟨e,_⟩|⟨_,⟨y,hy,hl⟩,_⟩|⟨e,_,_⟩
 ·omega
 ·exact⟨⟨y,List.mem_append.2 (.inl hy),hl⟩,⟨x,by simp,hx⟩⟩
 ·omega
theorem kG.apart2 {pre:List ((ByteArray×Int)×(ByteArray×Int))}{x:(ByteArray×Int)×(ByteArray×Int)}(h:kG pre 2)(hx:Ls x):Apart (pre++[x]):=by
 rcases h with⟨e,_⟩|⟨e,_,_⟩|⟨_,⟨y,hy,hl⟩,_⟩
 ·omega
 ·omega
 ·exact⟨⟨x,by simp,hx⟩,⟨y,List.mem_append.2 (.inl hy),hl⟩⟩
theorem oW {a b:List (ByteArray×Int)}{P:List ((ByteArray×Int)×(ByteArray×Int))}(hP:kT a b P){p:(ByteArray×Int)×(ByteArray×Int)}(hm:p∈P) :
  (Mc p->aA a p.1.1=aA b p.1.1)/\(Ls p->aA a p.1.1<aA b p.1.1)/\(LP p->aA b p.1.1<aA a p.1.1):=by
 obtain⟨e1,e2,_⟩:=hP.mem p hm
 obtain⟨p1,p2⟩:=p
 simp only at e1 e2
 refine⟨fun h=>?_,fun h=>?_,fun h=>?_⟩
 ·have h:p1=p2:=h
  rw[e1,e2]at h
  exact(Prod.mk.inj h).2
 ·have h:=h.2
  simp only at h
  rw[e1,e2]at h
  exact h
 ·obtain⟨h1,h2⟩:=h
  simp only at h1 h2
  have h3:p1.2≠p2.2:=fun e=>h1 (by rw[e1,e2];simp only[Prod.mk.injEq,true_and];rw[e1,e2]at e;exact e)
  have h4:p2.2<p1.2:=by omega
  rw[e1,e2]at h4
  exact h4
theorem BB {a b:List (ByteArray×Int)}{P:List ((ByteArray×Int)×(ByteArray×Int))}(ha:Sorted a)(hP:kT a b P)(h:∀p∈P,Mc p∨Ls p):dL a b:=fun i hi=>by
 have e1:aA a a[i].1=a[i].2:=dP ha (List.getElem_mem hi)
 have e2:=ha.2 _ (List.getElem_mem hi)
 obtain⟨p,hm,hp⟩:=hP.all a[i].1 (.inl (by omega))
 obtain⟨k1,k2,_⟩:=oW hP hm
 rw[hp]at k1 k2
 rcases h p hm with h|h
 ·have:=k1 h;omega
 ·have:=k2 h;omega
theorem CO {a b:List (ByteArray×Int)}{P:List ((ByteArray×Int)×(ByteArray×Int))}(hb:Sorted b)(hP:kT a b P)(h:∀p∈P,Mc p∨LP p):dL b a:=fun i hi=>by
 have e1:aA b b[i].1=b[i].2:=dP hb (List.getElem_mem hi)
 have e2:=hb.2 _ (List.getElem_mem hi)
 obtain⟨p,hm,hp⟩:=hP.all b[i].1 (.inr (by omega))
 obtain⟨k1,_,k2⟩:=oW hP hm
 rw[hp]at k1 k2
 rcases h p hm with h|h
 ·have:=k1 h;omega
 ·have:=k2 h;omega
theorem qP {a b:List (ByteArray×Int)}{P:List ((ByteArray×Int)×(ByteArray×Int))}(hb:Sorted b)(hP:kT a b P){p:(ByteArray×Int)×(ByteArray×Int)}(hm:p∈P)(h:LP p):¬dL a b:=fun hab=>by
 have k:=(oW hP hm).2.2 h
 have hn:=eP (s:=p.1.1) hb
 have hmem:=fV (l:=a) (s:=p.1.1) (by omega)
 obtain⟨i,hi,e⟩:=List.mem_iff_getElem.1 hmem
 have:=hab i hi
 rw[e]at this
 simp only at this
 omega
theorem rQ {a b:List (ByteArray×Int)}{P:List ((ByteArray×Int)×(ByteArray×Int))}(ha:Sorted a)(hP:kT a b P){p:(ByteArray×Int)×(ByteArray×Int)}(hm:p∈P)(h:Ls p):¬dL b a:=fun hab=>by
 have k:=(oW hP hm).2.1 h
 have hn:=eP (s:=p.1.1) ha
 have hmem:=fV (l:=b) (s:=p.1.1) (by omega)
 obtain⟨i,hi,e⟩:=List.mem_iff_getElem.1 hmem
 have:=hab i hi
 rw[e]at this
 simp only at this
 omega
theorem JK {a b:List (ByteArray×Int)}{P:List ((ByteArray×Int)×(ByteArray×Int))}(ha:ah a)(hb:ah b)(hP:kT a b P){v:Int}(h:kG P v):kC a b v:=by
 have sa:=ay ha
 have sb:=ay hb
 refine .inr ⟨ha,hb, ?_⟩
 rcases h with⟨rfl,h⟩|⟨rfl,⟨y,hy,hl⟩,h⟩|⟨rfl,⟨y,hy,hl⟩,h⟩
 ·exact .inl ⟨BB sa hP fun p hp=>.inl (h p hp),CO sb hP fun p hp=>.inl (h p hp),rfl⟩
 ·exact .inr (.inl ⟨BB sa hP h,rQ sa hP hy hl,rfl⟩)
 ·exact .inr (.inr (.inl ⟨qP sb hP hy hl,CO sb hP h,rfl⟩))
theorem Ig {a b:List (ByteArray×Int)}{P pre:List ((ByteArray×Int)×(ByteArray×Int))}(ha:ah a)(hb:ah b)(hP:kT a b P)(hpre:pre <+: P)(h:Apart pre):kC a b 3:=by
 obtain⟨⟨y,hy,hl⟩,z,hz,hg⟩:=h
 exact .inr ⟨ha,hb,.inr (.inr (.inr ⟨qP (ay hb) hP (hpre.subset hz) hg,rQ (ay ha) hP (hpre.subset hy) hl,rfl⟩))⟩
theorem KE (x y:ByteArray×Int)(w:World)(h:x.2<y.2) :
  Calls Tryz.prog 140 #[.agg #[.string x.1,.int .i64 x.2],.agg #[.string y.1,.int .i64 y.2]] w fun e w'=>e=.returned (.agg #[.string y.1,.int .i64 y.2])/\Below w.heap.size w w':=
 (oV x y w).mono fun e w' ⟨h1,h2⟩=>⟨by rw[h1];unfold aG;rw[if_pos h],h2⟩
theorem Ji (x y:ByteArray×Int)(w:World)(h:¬x.2<y.2) :
  Calls Tryz.prog 140 #[.agg #[.string x.1,.int .i64 x.2],.agg #[.string y.1,.int .i64 y.2]] w fun e w'=>e=.returned (.agg #[.string x.1,.int .i64 x.2])/\Below w.heap.size w w':=
 (oV x y w).mono fun e w' ⟨h1,h2⟩=>⟨by rw[h1];unfold aG;rw[if_neg h],h2⟩
set_option maxRecDepth 100000 in
set_option maxHeartbeats 4000000 in
theorem pM (aa ab:Option Addr)(ca cb:Nat)(la lb:List (ByteArray×Int))(w:World)(hla:la.length<=maxLen)(hlb:lb.length<=maxLen)(hca:la.length<=ca)(hcb:lb.length<=cb)(ha:Row w aa la)(hb:Row w ab lb)
  (hsa:∀j,(h:j<la.length)->la[j].1.size<=maxLen) (hsb:∀j,(h:j<lb.length)->lb[j].1.size<=maxLen) :
  Calls Tryz.prog 89 #[.slice aa la.length ca,.slice ab lb.length cb] w fun e w'=>(∃v,e=.returned (.int .i64 v)/\kC la lb v)/\Below w.heap.size w w':=by
 refine(callsIn_wide (n:=5)).1 ?_
 refine callsIn_of_wp_marks Tryz.func89 rfl trivial ?_ rfl
 simp only[Tryz.ntmps89,List.size_toArray,List.length_cons,List.length_nil,Nat.reduceAdd,Nat.reduceSub,Array.replicate_succ,Array.replicate_zero,List.push_toArray,List.append_toArray,List.nil_append,List.cons_append]
 gi_wp2_with fail
 have hba:Below w.heap.size w (w.alloc (.cells #[.int .i64 0] 3)):=(Below.refl _ _).alloc (Nat.le_refl _) _
 refine⟨trivial,(callsIn_wide.2 (bY aa ca la _ hla (ha.below hba) hsa)).mono ?_⟩
 rintro e w1 ⟨⟨r,rfl,hr1⟩,hb1⟩
 have B1:Below w.heap.size w w1:=hba.trans (hb1.mono hba.size)
 have c1:w1.cell? ⟨w.heap.size,0,none⟩=some (.int .i64 0):=ae hb1 (by simp) (by simp[go_sem])
 have f1:w1.frozen? ⟨w.heap.size,0,none⟩=false:=(hb1.frozen (p:=⟨w.heap.size,0,none⟩) (by simp)).trans (by simp[go_sem])
 have z1:w.heap.size<w1.heap.size:=block_lt_of_cell c1
 clear hb1
 cases r
 ·have hn:¬ah la:=fun h=>by simpa using hr1.2 h
  clear hr1
  gi_wp2_with fail
  refine⟨trivial, ?_⟩
  gi_wp2_with fail
  refine⟨.int .i64 4, ?_,⟨4,rfl,.inl ⟨fun h=>hn h.1,rfl⟩⟩,B1.setCell (p:=⟨w.heap.size,0,none⟩) (Nat.le_refl _) _⟩
  simp[results,Tryz.f89,go_sem,c1]
 have hya:ah la:=hr1.1 rfl
 clear hr1
 gi_wp2_with fail
 refine⟨trivial,(callsIn_wide.2 (bY ab cb lb _ hlb (hb.below B1) hsb)).mono ?_⟩
 rintro e w2 ⟨⟨r,rfl,hr2⟩,hb2⟩
 have B2:Below w.heap.size w w2:=B1.trans (hb2.mono B1.size)
 have c2:=ae hb2 z1 c1
 have f2:w2.frozen? ⟨w.heap.size,0,none⟩=false:=(hb2.frozen (p:=⟨w.heap.size,0,none⟩) z1).trans f1
 have z2:w.heap.size<w2.heap.size:=block_lt_of_cell c2
 clear hb2 c1 f1 z1 B1
 cases r
 ·have hn:¬ah lb:=fun h=>by simpa using hr2.2 h
  clear hr2
  gi_wp2_with fail
  refine⟨.int .i64 4, ?_,⟨4,rfl,.inl ⟨fun h=>hn h.2,rfl⟩⟩,B2.setCell (p:=⟨w.heap.size,0,none⟩) (Nat.le_refl _) _⟩
  simp[results,Tryz.f89,go_sem,c2]
 have hyb:ah lb:=hr2.1 rfl
 clear hr2
 gi_wp2_with fail
 refine⟨trivial,(callsIn_wide.2 (jX aa ab _ _ ca cb _)).mono ?_⟩
 rintro e w3 ⟨rfl,rfl⟩
 simp only[World.size_alloc]
 obtain⟨W0,hW0⟩:∃W0,((w2.alloc (.cells #[.int .i64 0] 3)).alloc (.cells #[.slice aa la.length ca] 28)).alloc (.cells #[.slice ab lb.length cb] 28)=W0:=⟨_,rfl⟩
 have cO:W0.cell? ⟨w2.heap.size,0,none⟩=some (.int .i64 0):=by rw[<- hW0];simp[go_sem]
 have fO:W0.frozen? ⟨w2.heap.size,0,none⟩=false:=by rw[<- hW0];simp[go_sem]
 have cA:W0.cell? ⟨w2.heap.size+1,0,none⟩=some (.slice aa la.length ca):=by rw[<- hW0];simp[go_sem]
 have cB:W0.cell? ⟨w2.heap.size+1+1,0,none⟩=some (.slice ab lb.length cb):=by rw[<- hW0];simp[go_sem]
 have nA3:W0.cell? ⟨w2.heap.size+1,3,none⟩=none:=by rw[<- hW0];simp[go_sem]
 have nB3:W0.cell? ⟨w2.heap.size+1+1,3,none⟩=none:=by rw[<- hW0];simp[go_sem]
 have hsz:W0.heap.size=w2.heap.size+3:=by rw[<- hW0];simp
 have b20:Below w2.heap.size w2 W0:=by rw[<- hW0];exact(((Below.refl _ _).alloc (Nat.le_refl _) _).alloc (by simp) _).alloc (by simp;omega) _
 have B0:Below w.heap.size w W0:=B2.trans (b20.mono (Nat.le_of_lt z2))
 have c0:=ae b20 z2 c2
 have f0:W0.frozen? ⟨w.heap.size,0,none⟩=false:=(b20.frozen (p:=⟨w.heap.size,0,none⟩) z2).trans f2
 rw[hW0]
 clear hW0 b20 c2 f2
 gi_wp2_with fail
 refine wpIn_rangeFunc_ownH (n:=5) rfl (by omega) (gf:=164) (lb:=#[.pointer (some ⟨w2.heap.size+1,0,none⟩),.pointer (some ⟨w2.heap.size+1+1,0,none⟩)]) rfl trivial (enters_of Tryz.func164 (by kernel_rfl) rfl)
  (pW 4 w.heap.size (w2.heap.size+1) (w2.heap.size+1) (w2.heap.size+1+1) aa ab ca cb la lb hca hcb hya hyb (Nat.le_refl _) (by omega) W0 (by omega) cA cB nA3 nB3 (ha.low.below B0) (hb.low.below B0)) KS.trans (fun W l o o' _ h1 h2 _=>KS.put W l o o' h1 h2) (Below.refl _ _) (fun _=>rfl)
  (fun pre W=>(W.cell? ⟨w.heap.size,0,none⟩=some (.int .i64 0)/\W.frozen? ⟨w.heap.size,0,none⟩=false/\(∃v,kG (pre.map PM.p) v/\W.cell? ⟨w2.heap.size,0,none⟩=some (.int .i64 v)/\W.frozen? ⟨w2.heap.size,0,none⟩=false)/\W0.heap.size<=W.heap.size)/\Below w.heap.size w W)
  (fun c pre W=>(c=.ret/\Apart (pre.map PM.p)/\W.cell? ⟨w.heap.size,0,none⟩=some (.int .i64 3))/\Below w.heap.size w W)
  (OwnFrom.and (Go.Own.from (fun s A B row hs hg hr=>⟨cell_kept hs.1 hg hr,(frozen_kept hs.1 hg hr).trans hs.2.1,⟨hs.2.2.1.choose,hs.2.2.1.choose_spec.1,cell_kept hs.2.2.1.choose_spec.2.1 hg hr,(frozen_kept hs.2.2.1.choose_spec.2.1 hg hr).trans hs.2.2.1.choose_spec.2.2⟩,Nat.le_trans hs.2.2.2 hg.size⟩) _) (ownFrom_below (Nat.le_refl _) (by omega)))
  (fun c=>OwnFrom.and (Go.Own.from (fun s A B row hs hg hr=>⟨hs.1,hs.2.1,cell_kept hs.2.2 hg hr⟩) _) (ownFrom_below (Nat.le_refl _) (by omega)))
  ⟨⟨c0,f0,⟨0,.inl ⟨rfl,by simp⟩,cO,fO⟩,Nat.le_refl _⟩,B0⟩
  (fun x a' W=>∃bx bz,W0.heap.size<=bx/\W0.heap.size<=bz/\(W.cell? ⟨bx,0,none⟩=some (.string x.p.1.1)/\W.cell? ⟨bx,1,none⟩=some (.int .i64 x.p.1.2)/\W.cell? ⟨bz,0,none⟩=some (.string x.p.2.1)/\W.cell? ⟨bz,1,none⟩=some (.int .i64 x.p.2.2))/\a'={ tmps:=#[.slice aa la.length ca,.slice ab lb.length cb,undef,undef,.pointer (some ⟨w.heap.size,0,none⟩),.pointer (some ⟨w2.heap.size,0,none⟩),.pointer (some ⟨bx,0,none⟩),.pointer (some ⟨bz,0,none⟩),undef,.slice aa la.length ca,.bool true,.bool false,.bool false,.slice ab lb.length cb,.bool true,.bool false,.bool false,.slice aa la.length ca,.slice ab lb.length cb,.func (.func 164) #[] #[.pointer (some ⟨w2.heap.size+1,0,none⟩),.pointer (some ⟨w2.heap.size+1+1,0,none⟩)],.agg #[.string x.p.1.1,.int .i64 x.p.1.2],.agg #[.string x.p.2.1,.int .i64 x.p.2.2],undef,undef,undef,undef,undef,undef,undef,undef,undef,undef,undef,undef,undef,undef,undef,undef,undef],defers:=[] })
  (fun x a' s A B row hs hg hr=>by
   obtain⟨bx,bz,h1,h2,h3,h4⟩:=hs
   exact⟨bx,bz,h1,h2,⟨cell_kept h3.1 hg (fun r e=>(hr r e).2),cell_kept h3.2.1 hg (fun r e=>(hr r e).2),cell_kept h3.2.2.1 hg (fun r e=>(hr r e).2),cell_kept h3.2.2.2 hg (fun r e=>(hr r e).2)⟩,h4⟩) ?assign ?body ?done ?stop
 case assign=>
  rintro l pre x W K ⟨⟨hc,hf,⟨v,hv,ho,hof⟩,hW0⟩,hB⟩ hK
  simp only[Iw]
  gi_wp2
  have hb2:Below W.heap.size W ((W.alloc (.cells #[.string x.p.1.1,.int .i64 x.p.1.2] 54)).alloc (.cells #[.string x.p.2.1,.int .i64 x.p.2.2] 54)):=((Below.refl _ _).alloc (Nat.le_refl _) _).alloc (by simp) _
  have hWl:=block_lt_of_cell hc
  have hWo:=block_lt_of_cell ho
  exact hK _ _ (cZ _ hb2) (KS.of_below hb2) ⟨⟨ae hb2 hWl hc,(hb2.frozen (p:=⟨w.heap.size,0,none⟩) hWl).trans hf,⟨v,hv,ae hb2 hWo ho,(hb2.frozen (p:=⟨w2.heap.size,0,none⟩) hWo).trans hof⟩,Nat.le_trans hW0 hb2.size⟩,hB.trans (hb2.mono hB.size)⟩ ⟨W.heap.size,W.heap.size+1,hW0,Nat.le_succ_of_le hW0,⟨by simp[go_sem],by simp[go_sem],by simp[go_sem],by simp[go_sem]⟩,rfl⟩
 case body=>
  rintro l pre x a' W hle ⟨r,hr⟩ ⟨⟨hc,hf,⟨v,hv,ho,hof⟩,hW0⟩,hB⟩ ⟨bx,bz,h1,h2,⟨x0,x1,z0,z1⟩,rfl⟩ hlt
  have hWl:=block_lt_of_cell hc
  have hWo:=block_lt_of_cell ho
  have hne:w.heap.size≠w2.heap.size:=by omega
  have hN:∀n:dA W,n.w.cell? ⟨w.heap.size,0,none⟩=some (.int .i64 0)/\n.w.frozen? ⟨w.heap.size,0,none⟩=false/\n.w.cell? ⟨w2.heap.size,0,none⟩=some (.int .i64 v)/\n.w.frozen? ⟨w2.heap.size,0,none⟩=false:=
   fun n=>⟨n.cell hWl hc,(n.h.frozen (p:=⟨w.heap.size,0,none⟩) hWl).trans hf,n.cell hWo ho,(n.h.frozen (p:=⟨w2.heap.size,0,none⟩) hWo).trans hof⟩
  have HN:Hid _:=hN
  have hset:∀(n:dA W) (u:Int),kG ((pre++[x]).map PM.p) u->KeepsFrom W0.heap.size W (n.w.setCell ⟨w2.heap.size,0,none⟩ (.int .i64 u))/\KS w.heap.size (w2.heap.size+1) W (n.w.setCell ⟨w2.heap.size,0,none⟩ (.int .i64 u)) /\
    ((n.w.setCell ⟨w2.heap.size,0,none⟩ (.int .i64 u)).cell? ⟨w.heap.size,0,none⟩=some (.int .i64 0)/\(n.w.setCell ⟨w2.heap.size,0,none⟩ (.int .i64 u)).frozen? ⟨w.heap.size,0,none⟩=false/\(∃v,kG ((pre++[x]).map PM.p) v/\(n.w.setCell ⟨w2.heap.size,0,none⟩ (.int .i64 u)).cell? ⟨w2.heap.size,0,none⟩=some (.int .i64 v)/\(n.w.setCell ⟨w2.heap.size,0,none⟩ (.int .i64 u)).frozen? ⟨w2.heap.size,0,none⟩=false)/\W0.heap.size<=(n.w.setCell ⟨w2.heap.size,0,none⟩ (.int .i64 u)).heap.size)/\Below w.heap.size w (n.w.setCell ⟨w2.heap.size,0,none⟩ (.int .i64 u)):=by
   intro n u hu
   obtain⟨n1,n2,n3,n4⟩:=hN n
   refine⟨(cZ _ n.h).trans ((KeepsOthers.setCell _ _ _).from _),(KS.of_below n.h).trans ⟨(KeepsOthers.setCell _ _ _).size,fun k o hk h _=>?_⟩,⟨(aK _ _ hne).trans n1, ?_,⟨u,hu,World.cell?_setCell_same' _ _ _ (by rw[n3];rfl), ?_⟩,Nat.le_trans (Nat.le_trans hW0 n.h.size) (KeepsOthers.setCell _ _ _).size⟩,(hB.trans (n.h.mono hB.size)).setCell (p:=⟨w2.heap.size,0,none⟩) (Nat.le_of_lt z2) _⟩
   ·rw[Below.heap_setCell _ _ _ _ (by simp only;omega)];exact h
   ·simp[go_sem,n2]
   ·simp[go_sem,n4]
  have HSET:Hid _:=hset
  have hret:∀(n:dA W),Apart ((pre++[x]).map PM.p)->KeepsFrom W0.heap.size W (n.w.setCell ⟨w.heap.size,0,none⟩ (.int .i64 3))/\(Apart ((pre++[x]).map PM.p)/\(n.w.setCell ⟨w.heap.size,0,none⟩ (.int .i64 3)).cell? ⟨w.heap.size,0,none⟩=some (.int .i64 3))/\Below w.heap.size w (n.w.setCell ⟨w.heap.size,0,none⟩ (.int .i64 3)):=by
   intro n hu
   obtain⟨n1,n2,n3,n4⟩:=hN n
   exact⟨(cZ _ n.h).trans ((KeepsOthers.setCell _ _ _).from _),⟨hu,World.cell?_setCell_same' _ _ _ (by rw[n1];rfl)⟩,(hB.trans (n.h.mono hB.size)).setCell (p:=⟨w.heap.size,0,none⟩) (Nat.le_refl _) _⟩
  have HRET:Hid _:=hret
  have hmap:(pre++[x]).map PM.p=pre.map PM.p++[x.p]:=by simp
  have hsame:Mc x.p->KeepsFrom W0.heap.size W W/\KS w.heap.size (w2.heap.size+1) W W/\(W.cell? ⟨w.heap.size,0,none⟩=some (.int .i64 0)/\W.frozen? ⟨w.heap.size,0,none⟩=false/\(∃v,kG ((pre++[x]).map PM.p) v/\W.cell? ⟨w2.heap.size,0,none⟩=some (.int .i64 v)/\W.frozen? ⟨w2.heap.size,0,none⟩=false)/\W0.heap.size<=W.heap.size)/\Below w.heap.size w W:=
   fun h=>⟨KeepsFrom.refl _ _,KS.refl _ _ _,⟨hc,hf,⟨v,by rw[hmap];exact hv.eq h,ho,hof⟩,hW0⟩,hB⟩
  have HSAME:Hid _:=hsame
  have HM:Hid _:=hmap
  clear hset hret hsame hmap hN
  clear hsz
  by_cases hxx:x.p.1=x.p.2
  ·obtain⟨⟨p,q⟩,hpq⟩:=x
   obtain rfl:p=q:=hxx
   gi_wp2_with fail
   exact HSAME.out rfl
  have HX:Hid (x.p.1≠x.p.2):=hxx
  clear hxx
  gi_wp2_with fail
  ·rename_i hs hu
   exact absurd (Prod.ext (toList_inj hs) hu) HX.out
  all_goals
   have q0:∀n:dA W,n.w.cell? ⟨bx,0,none⟩=some (.string x.p.1.1):=fun n=>n.cell (block_lt_of_cell x0) x0
   have q1:∀n:dA W,n.w.cell? ⟨bx,1,none⟩=some (.int .i64 x.p.1.2):=fun n=>n.cell (block_lt_of_cell x1) x1
   have q2:∀n:dA W,n.w.cell? ⟨bz,0,none⟩=some (.string x.p.2.1):=fun n=>n.cell (block_lt_of_cell z0) z0
   have q3:∀n:dA W,n.w.cell? ⟨bz,1,none⟩=some (.int .i64 x.p.2.2):=fun n=>n.cell (block_lt_of_cell z1) z1
   refine tH (by kernel_rfl) (by kernel_rfl) (by kernel_rfl) (fun⟨_,_,h⟩=>h) ?_
   have hne:=dA.some W
   by_cases hlt:x.p.1.2<x.p.2.2
   ·have HL:Hid (Ls x.p):=⟨HX.out,hlt⟩
    repeat (go_big_quiet_step ((go_at_call 140;exact Calls.lat_of (KE _ _ _ hlt))))
    refine wpQuiet_nil ?_
    rintro _ ⟨nq,rfl⟩
    obtain⟨n1,n2,n3,n4⟩:=HN.out nq
    have HV:Hid (kG (pre.map PM.p) v):=hv
    rcases hv.val with rfl|rfl|rfl
    ·clear hv hc hf ho hof
     gi_wp2_with fail
     exact HSET.out nq 1 (by rw[HM.out];exact HV.out.lt (.inl rfl) HL.out)
    ·clear hv hc hf ho hof
     gi_wp2_with fail
     exact HSET.out nq 1 (by rw[HM.out];exact HV.out.lt (.inr rfl) HL.out)
    ·clear hv hc hf ho hof
     gi_wp2_with fail
     have q:=HRET.out nq (by rw[HM.out];exact HV.out.apart2 HL.out)
     exact⟨q.1,⟨rfl,q.2.1⟩,q.2.2⟩
   ·have HL:Hid (LP x.p):=⟨HX.out,hlt⟩
    repeat (go_big_quiet_step ((go_at_call 140;exact Calls.lat_of (Ji _ _ _ hlt))))
    refine wpQuiet_nil ?_
    rintro _ ⟨nq,rfl⟩
    obtain⟨n1,n2,n3,n4⟩:=HN.out nq
    have HV:Hid (kG (pre.map PM.p) v):=hv
    rcases hv.val with rfl|rfl|rfl
    ·clear hv hc hf ho hof
     gi_wp2_with fail
     exact HSET.out nq 2 (by rw[HM.out];exact HV.out.gt (.inl rfl) HL.out)
    ·clear hv hc hf ho hof
     gi_wp2_with fail
     have q:=HRET.out nq (by rw[HM.out];exact HV.out.apart1 HL.out)
     exact⟨q.1,⟨rfl,q.2.1⟩,q.2.2⟩
    ·clear hv hc hf ho hof
     gi_wp2_with fail
     exact HSET.out nq 2 (by rw[HM.out];exact HV.out.gt (.inr rfl) HL.out)
 case done=>
  rintro D ys W hD hS ⟨⟨hc,hf,⟨v,hv,ho,hof⟩,_⟩,hB⟩ hK
  gi_wp2
  have hK':=(KeepsOthers.setCell W ⟨w.heap.size,0,none⟩ (.int .i64 v)).same D _ hK rfl
  refine⟨by simp,.inl ⟨_,_,rfl,run_takeDeferred hK', ?_⟩⟩
  have hc5:=cell_kept (World.cell?_setCell_same' W ⟨w.heap.size,0,none⟩ (.int .i64 v) (by rw[hc];rfl)) (grownBy_putObj' _ D (.deferred none)) (fun r e=>by cases e;exact⟨_,hK',rfl⟩)
  refine⟨.int .i64 v, ?_,⟨v,rfl,JK hya hyb (dW _ la lb (ay hya) (ay hyb) (Nat.le_refl _)) (by rw[<- hS];exact hv)⟩,(hB.setCell (p:=⟨w.heap.size,0,none⟩) (Nat.le_refl _) _).trans (belowK_b (w:=w) (Nat.le_refl _) _ D _ _ (by omega) hK' rfl rfl)⟩
  simp[results,Tryz.f89,go_sem,hc5]
 case stop=>
  rintro D c pre W hD hpre ⟨⟨rfl,hap,hcr⟩,hB⟩ hK
  gi_wp2
  refine⟨by simp,.inl ⟨_,_,rfl,run_takeDeferred hK, ?_⟩⟩
  have hc5:=cell_kept hcr (grownBy_putObj' _ D (.deferred none)) (fun r e=>by cases e;exact⟨_,hK,rfl⟩)
  refine⟨.int .i64 3, ?_,⟨3,rfl,Ig hya hyb (dW _ la lb (ay hya) (ay hyb) (Nat.le_refl _)) hpre hap⟩,hB.trans (belowK_b (w:=w) (Nat.le_refl _) W D _ _ (by omega) hK rfl rfl)⟩
  simp[results,Tryz.f89,go_sem,hc5]
end Go.Proofs.YtpfhegengmlkmabGreatDoor
