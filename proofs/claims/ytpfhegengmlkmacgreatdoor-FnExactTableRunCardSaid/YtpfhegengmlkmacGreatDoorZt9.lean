/- Texts of this claim. -/
import Derived.Test.YtpfhegengmlkmacGreatDoorZt7
namespace Go.Proofs.YtpfhegengmlkmacGreatDoor
open Go.RowKit Go.Shelf Go.BigFrame
attribute [local go_sem] Oper.semAt_some
def EqP (p:(ByteArray×Int)×(ByteArray×Int)):Prop:=p.1=p.2
def LtP (p:(ByteArray×Int)×(ByteArray×Int)):Prop:=p.1≠p.2∧p.1.2 < p.2.2
def GtP (p:(ByteArray×Int)×(ByteArray×Int)):Prop:=p.1≠p.2∧¬ p.1.2 < p.2.2
def OrdS (pre:List ((ByteArray×Int)×(ByteArray×Int))) (v:Int):Prop:=
 (v=0∧∀ y∈pre,EqP y)∨(v=1∧(∃ y∈pre,LtP y)∧∀ y∈pre,EqP y∨LtP y)∨(v=2∧(∃ y∈pre,GtP y)∧∀ y∈pre,EqP y∨GtP y)
theorem OrdS.eq {pre:List ((ByteArray×Int)×(ByteArray×Int))} {v:Int} {x:(ByteArray×Int)×(ByteArray×Int)} (h:OrdS pre v) (hx:EqP x):OrdS (pre ++ [x]) v:=by
 rcases h with ⟨e,h⟩ | ⟨e,⟨y,hy,hl⟩,h⟩ | ⟨e,⟨y,hy,hl⟩,h⟩
 ·exact .inl ⟨e,fun y hy=>(List.mem_append.1 hy).elim (h y) (fun k=>by simp at k;subst k;exact hx)⟩
 ·exact .inr (.inl ⟨e,⟨y,List.mem_append.2 (.inl hy),hl⟩,fun y hy=>(List.mem_append.1 hy).elim (h y) (fun k=>by simp at k;subst k;exact .inl hx)⟩)
 ·exact .inr (.inr ⟨e,⟨y,List.mem_append.2 (.inl hy),hl⟩,fun y hy=>(List.mem_append.1 hy).elim (h y) (fun k=>by simp at k;subst k;exact .inl hx)⟩)
theorem OrdS.lt {pre:List ((ByteArray×Int)×(ByteArray×Int))} {v:Int} {x:(ByteArray×Int)×(ByteArray×Int)} (h:OrdS pre v) (hv:v=0∨v=1) (hx:LtP x):OrdS (pre ++ [x]) 1:=by
 rcases h with ⟨e,h⟩ | ⟨e,_,h⟩ | ⟨e,_,_⟩
 ·exact .inr (.inl ⟨rfl,⟨x,by simp,hx⟩,fun y hy=>(List.mem_append.1 hy).elim (fun k=>.inl (h y k)) (fun k=>by simp at k;subst k;exact .inr hx)⟩)
 ·exact .inr (.inl ⟨rfl,⟨x,by simp,hx⟩,fun y hy=>(List.mem_append.1 hy).elim (h y) (fun k=>by simp at k;subst k;exact .inr hx)⟩)
 ·omega
theorem OrdS.gt {pre:List ((ByteArray×Int)×(ByteArray×Int))} {v:Int} {x:(ByteArray×Int)×(ByteArray×Int)} (h:OrdS pre v) (hv:v=0∨v=2) (hx:GtP x):OrdS (pre ++ [x]) 2:=by
 rcases h with ⟨e,h⟩ | ⟨e,_,_⟩ | ⟨e,_,h⟩
 ·exact .inr (.inr ⟨rfl,⟨x,by simp,hx⟩,fun y hy=>(List.mem_append.1 hy).elim (fun k=>.inl (h y k)) (fun k=>by simp at k;subst k;exact .inr hx)⟩)
 ·omega
 ·exact .inr (.inr ⟨rfl,⟨x,by simp,hx⟩,fun y hy=>(List.mem_append.1 hy).elim (h y) (fun k=>by simp at k;subst k;exact .inr hx)⟩)
theorem OrdS.val {pre:List ((ByteArray×Int)×(ByteArray×Int))} {v:Int} (h:OrdS pre v):v=0∨v=1∨v=2:=by
 rcases h with ⟨e,_⟩ | ⟨e,_⟩ | ⟨e,_⟩ <;> omega
def Apart (pre:List ((ByteArray×Int)×(ByteArray×Int))):Prop:=(∃ y∈pre,LtP y)∧∃ y∈pre,GtP y
theorem OrdS.apart1 {pre:List ((ByteArray×Int)×(ByteArray×Int))} {x:(ByteArray×Int)×(ByteArray×Int)} (h:OrdS pre 1) (hx:GtP x):Apart (pre ++ [x]):=by
 rcases h with ⟨e,_⟩ | ⟨_,⟨y,hy,hl⟩,_⟩ | ⟨e,_,_⟩
 ·omega
 ·exact ⟨⟨y,List.mem_append.2 (.inl hy),hl⟩,⟨x,by simp,hx⟩⟩
 ·omega
theorem OrdS.apart2 {pre:List ((ByteArray×Int)×(ByteArray×Int))} {x:(ByteArray×Int)×(ByteArray×Int)} (h:OrdS pre 2) (hx:LtP x):Apart (pre ++ [x]):=by
 rcases h with ⟨e,_⟩ | ⟨e,_,_⟩ | ⟨_,⟨y,hy,hl⟩,_⟩
 ·omega
 ·omega
 ·exact ⟨⟨x,by simp,hx⟩,⟨y,List.mem_append.2 (.inl hy),hl⟩⟩
theorem pair_vers {a b:List (ByteArray×Int)} {P:List ((ByteArray×Int)×(ByteArray×Int))} (hP:PSpec a b P) {p:(ByteArray×Int)×(ByteArray×Int)} (hm:p∈P) :
  (EqP p->getM a p.1.1=getM b p.1.1)∧(LtP p->getM a p.1.1 < getM b p.1.1)∧(GtP p->getM b p.1.1 < getM a p.1.1):=by
 obtain ⟨e1,e2,_⟩:=hP.mem p hm
 obtain ⟨p1,p2⟩:=p
 simp only at e1 e2
 refine ⟨fun h=>?_,fun h=>?_,fun h=>?_⟩
 ·have h:p1=p2:=h
  rw [e1,e2] at h
  exact (Prod.mk.inj h).2
 ·have h:=h.2
  simp only at h
  rw [e1,e2] at h
  exact h
 ·obtain ⟨h1,h2⟩:=h
  simp only at h1 h2
  have h3:p1.2≠p2.2:=fun e=>h1 (by rw [e1,e2];simp only [Prod.mk.injEq,true_and];rw [e1,e2] at e;exact e)
  have h4:p2.2 < p1.2:=by omega
  rw [e1,e2] at h4
  exact h4
theorem below_of {a b:List (ByteArray×Int)} {P:List ((ByteArray×Int)×(ByteArray×Int))} (ha:Sorted a) (hP:PSpec a b P) (h:∀ p∈P,EqP p∨LtP p):BelowP a b:=fun i hi=>by
 have e1:getM a a[i].1=a[i].2:=getM_mem ha (List.getElem_mem hi)
 have e2:=ha.2 _ (List.getElem_mem hi)
 obtain ⟨p,hm,hp⟩:=hP.all a[i].1 (.inl (by omega))
 obtain ⟨k1,k2,_⟩:=pair_vers hP hm
 rw [hp] at k1 k2
 rcases h p hm with h | h
 ·have:=k1 h;omega
 ·have:=k2 h;omega
theorem above_of {a b:List (ByteArray×Int)} {P:List ((ByteArray×Int)×(ByteArray×Int))} (hb:Sorted b) (hP:PSpec a b P) (h:∀ p∈P,EqP p∨GtP p):BelowP b a:=fun i hi=>by
 have e1:getM b b[i].1=b[i].2:=getM_mem hb (List.getElem_mem hi)
 have e2:=hb.2 _ (List.getElem_mem hi)
 obtain ⟨p,hm,hp⟩:=hP.all b[i].1 (.inr (by omega))
 obtain ⟨k1,_,k2⟩:=pair_vers hP hm
 rw [hp] at k1 k2
 rcases h p hm with h | h
 ·have:=k1 h;omega
 ·have:=k2 h;omega
theorem not_below_of {a b:List (ByteArray×Int)} {P:List ((ByteArray×Int)×(ByteArray×Int))} (hb:Sorted b) (hP:PSpec a b P) {p:(ByteArray×Int)×(ByteArray×Int)} (hm:p∈P) (h:GtP p):¬ BelowP a b:=fun hab=>by
 have k:=(pair_vers hP hm).2.2 h
 have hn:=getM_nonneg (s:=p.1.1) hb
 have hmem:=getM_pos (l:=a) (s:=p.1.1) (by omega)
 obtain ⟨i,hi,e⟩:=List.mem_iff_getElem.1 hmem
 have:=hab i hi
 rw [e] at this
 simp only at this
 omega
theorem not_above_of {a b:List (ByteArray×Int)} {P:List ((ByteArray×Int)×(ByteArray×Int))} (ha:Sorted a) (hP:PSpec a b P) {p:(ByteArray×Int)×(ByteArray×Int)} (hm:p∈P) (h:LtP p):¬ BelowP b a:=fun hab=>by
 have k:=(pair_vers hP hm).2.1 h
 have hn:=getM_nonneg (s:=p.1.1) ha
 have hmem:=getM_pos (l:=b) (s:=p.1.1) (by omega)
 obtain ⟨i,hi,e⟩:=List.mem_iff_getElem.1 hmem
 have:=hab i hi
 rw [e] at this
 simp only at this
 omega
theorem ord_done {a b:List (ByteArray×Int)} {P:List ((ByteArray×Int)×(ByteArray×Int))} (ha:StampP a) (hb:StampP b) (hP:PSpec a b P) {v:Int} (h:OrdS P v):IsOrd a b v:=by
 have sa:=stamp_sorted ha
 have sb:=stamp_sorted hb
 refine .inr ⟨ha,hb, ?_⟩
 rcases h with ⟨rfl,h⟩ | ⟨rfl,⟨y,hy,hl⟩,h⟩ | ⟨rfl,⟨y,hy,hl⟩,h⟩
 ·exact .inl ⟨below_of sa hP fun p hp=>.inl (h p hp),above_of sb hP fun p hp=>.inl (h p hp),rfl⟩
 ·exact .inr (.inl ⟨below_of sa hP h,not_above_of sa hP hy hl,rfl⟩)
 ·exact .inr (.inr (.inl ⟨not_below_of sb hP hy hl,above_of sb hP h,rfl⟩))
theorem ord_apart {a b:List (ByteArray×Int)} {P pre:List ((ByteArray×Int)×(ByteArray×Int))} (ha:StampP a) (hb:StampP b) (hP:PSpec a b P) (hpre:pre <+: P) (h:Apart pre):IsOrd a b 3:=by
 obtain ⟨⟨y,hy,hl⟩,z,hz,hg⟩:=h
 exact .inr ⟨ha,hb,.inr (.inr (.inr ⟨not_below_of (stamp_sorted hb) hP (hpre.subset hz) hg,not_above_of (stamp_sorted ha) hP (hpre.subset hy) hl,rfl⟩))⟩
theorem later_lt (x y:ByteArray×Int) (w:World) (h:x.2 < y.2) :
  Calls Tryz.prog 144 #[.agg #[.string x.1,.int .i64 x.2],.agg #[.string y.1,.int .i64 y.2]] w fun e w'=>e=.returned (.agg #[.string y.1,.int .i64 y.2])∧Below w.heap.size w w':=
 (later_any x y w).mono fun e w' ⟨h1,h2⟩=>⟨by rw [h1];unfold laterM;rw [if_pos h],h2⟩
theorem later_ge (x y:ByteArray×Int) (w:World) (h:¬ x.2 < y.2) :
  Calls Tryz.prog 144 #[.agg #[.string x.1,.int .i64 x.2],.agg #[.string y.1,.int .i64 y.2]] w fun e w'=>e=.returned (.agg #[.string x.1,.int .i64 x.2])∧Below w.heap.size w w':=
 (later_any x y w).mono fun e w' ⟨h1,h2⟩=>⟨by rw [h1];unfold laterM;rw [if_neg h],h2⟩
set_option maxRecDepth 100000 in
set_option maxHeartbeats 4000000 in
theorem implOrder_any (aa ab:Option Addr) (ca cb:Nat) (la lb:List (ByteArray×Int)) (w:World) (hla:la.length<=maxLen) (hlb:lb.length<=maxLen) (hca:la.length<=ca) (hcb:lb.length<=cb) (ha:Row w aa la) (hb:Row w ab lb)
  (hsa:∀ j,(h:j < la.length)->la[j].1.size<=maxLen) (hsb:∀ j,(h:j < lb.length)->lb[j].1.size<=maxLen) :
  Calls Tryz.prog 98 #[.slice aa la.length ca,.slice ab lb.length cb] w fun e w'=>(∃ v,e=.returned (.int .i64 v)∧IsOrd la lb v)∧Below w.heap.size w w':=by
 refine (callsIn_wide (n:=5)).1 ?_
 refine callsIn_of_wp_marks Tryz.func98 rfl trivial ?_ rfl
 simp only [Tryz.ntmps98,List.size_toArray,List.length_cons,List.length_nil,Nat.reduceAdd,Nat.reduceSub,Array.replicate_succ,Array.replicate_zero,List.push_toArray,List.append_toArray,List.nil_append,List.cons_append]
 gi_wp2_with fail
 have hba:Below w.heap.size w (w.alloc (.cells #[.int .i64 0] 3)):=(Below.refl _ _).alloc (Nat.le_refl _) _
 refine ⟨trivial,(callsIn_wide.2 (implStampOk_any aa ca la _ hla (ha.below hba) hsa)).mono ?_⟩
 rintro e w1 ⟨⟨r,rfl,hr1⟩,hb1⟩
 have B1:Below w.heap.size w w1:=hba.trans (hb1.mono hba.size)
 have c1:w1.cell? ⟨w.heap.size,0,none⟩=some (.int .i64 0):=cell_on hb1 (by simp) (by simp [go_sem])
 have f1:w1.frozen? ⟨w.heap.size,0,none⟩=false:=(hb1.frozen (p:=⟨w.heap.size,0,none⟩) (by simp)).trans (by simp [go_sem])
 have z1:w.heap.size < w1.heap.size:=block_lt_of_cell c1
 clear hb1
 cases r
 ·have hn:¬ StampP la:=fun h=>by simpa using hr1.2 h
  clear hr1
  gi_wp2_with fail
  refine ⟨trivial, ?_⟩
  gi_wp2_with fail
  refine ⟨.int .i64 4, ?_,⟨4,rfl,.inl ⟨fun h=>hn h.1,rfl⟩⟩,B1.setCell (p:=⟨w.heap.size,0,none⟩) (Nat.le_refl _) _⟩
  simp [results,Tryz.f98,go_sem,c1]
 have hya:StampP la:=hr1.1 rfl
 clear hr1
 gi_wp2_with fail
 refine ⟨trivial,(callsIn_wide.2 (implStampOk_any ab cb lb _ hlb (hb.below B1) hsb)).mono ?_⟩
 rintro e w2 ⟨⟨r,rfl,hr2⟩,hb2⟩
 have B2:Below w.heap.size w w2:=B1.trans (hb2.mono B1.size)
 have c2:=cell_on hb2 z1 c1
 have f2:w2.frozen? ⟨w.heap.size,0,none⟩=false:=(hb2.frozen (p:=⟨w.heap.size,0,none⟩) z1).trans f1
 have z2:w.heap.size < w2.heap.size:=block_lt_of_cell c2
 clear hb2 c1 f1 z1 B1
 cases r
 ·have hn:¬ StampP lb:=fun h=>by simpa using hr2.2 h
  clear hr2
  gi_wp2_with fail
  refine ⟨.int .i64 4, ?_,⟨4,rfl,.inl ⟨fun h=>hn h.2,rfl⟩⟩,B2.setCell (p:=⟨w.heap.size,0,none⟩) (Nat.le_refl _) _⟩
  simp [results,Tryz.f98,go_sem,c2]
 have hyb:StampP lb:=hr2.1 rfl
 clear hr2
 gi_wp2_with fail
 refine ⟨trivial,(callsIn_wide.2 (sideBySide_any aa ab _ _ ca cb _)).mono ?_⟩
 rintro e w3 ⟨rfl,rfl⟩
 simp only [World.size_alloc]
 obtain ⟨W0,hW0⟩:∃ W0,((w2.alloc (.cells #[.int .i64 0] 3)).alloc (.cells #[.slice aa la.length ca] 34)).alloc (.cells #[.slice ab lb.length cb] 34)=W0:=⟨_,rfl⟩
 have cO:W0.cell? ⟨w2.heap.size,0,none⟩=some (.int .i64 0):=by rw [<- hW0];simp [go_sem]
 have fO:W0.frozen? ⟨w2.heap.size,0,none⟩=false:=by rw [<- hW0];simp [go_sem]
 have cA:W0.cell? ⟨w2.heap.size + 1,0,none⟩=some (.slice aa la.length ca):=by rw [<- hW0];simp [go_sem]
 have cB:W0.cell? ⟨w2.heap.size + 1 + 1,0,none⟩=some (.slice ab lb.length cb):=by rw [<- hW0];simp [go_sem]
 have nA3:W0.cell? ⟨w2.heap.size + 1,3,none⟩=none:=by rw [<- hW0];simp [go_sem]
 have nB3:W0.cell? ⟨w2.heap.size + 1 + 1,3,none⟩=none:=by rw [<- hW0];simp [go_sem]
 have hsz:W0.heap.size=w2.heap.size + 3:=by rw [<- hW0];simp
 have b20:Below w2.heap.size w2 W0:=by rw [<- hW0];exact (((Below.refl _ _).alloc (Nat.le_refl _) _).alloc (by simp) _).alloc (by simp;omega) _
 have B0:Below w.heap.size w W0:=B2.trans (b20.mono (Nat.le_of_lt z2))
 have c0:=cell_on b20 z2 c2
 have f0:W0.frozen? ⟨w.heap.size,0,none⟩=false:=(b20.frozen (p:=⟨w.heap.size,0,none⟩) z2).trans f2
 rw [hW0]
 clear hW0 b20 c2 f2
 gi_wp2_with fail
 refine wpIn_rangeFunc_ownH (n:=5) rfl (by omega) (gf:=177) (lb:=#[.pointer (some ⟨w2.heap.size + 1,0,none⟩),.pointer (some ⟨w2.heap.size + 1 + 1,0,none⟩)]) rfl trivial (enters_of Tryz.func177 (by kernel_rfl) rfl)
  (side_stops 4 w.heap.size (w2.heap.size + 1) (w2.heap.size + 1) (w2.heap.size + 1 + 1) aa ab ca cb la lb hca hcb hya hyb (Nat.le_refl _) (by omega) W0 (by omega) cA cB nA3 nB3 (ha.low.below B0) (hb.low.below B0)) KS.trans (fun W l o o' _ h1 h2 _=>KS.put W l o o' h1 h2) (Below.refl _ _) (fun _=>rfl)
  (fun pre W=>(W.cell? ⟨w.heap.size,0,none⟩=some (.int .i64 0)∧W.frozen? ⟨w.heap.size,0,none⟩=false∧(∃ v,OrdS (pre.map PM.p) v∧W.cell? ⟨w2.heap.size,0,none⟩=some (.int .i64 v)∧W.frozen? ⟨w2.heap.size,0,none⟩=false)∧W0.heap.size<=W.heap.size)∧Below w.heap.size w W)
  (fun c pre W=>(c=.ret∧Apart (pre.map PM.p)∧W.cell? ⟨w.heap.size,0,none⟩=some (.int .i64 3))∧Below w.heap.size w W)
  (OwnFrom.and (Go.Own.from (fun s A B row hs hg hr=>⟨cell_kept hs.1 hg hr,(frozen_kept hs.1 hg hr).trans hs.2.1,⟨hs.2.2.1.choose,hs.2.2.1.choose_spec.1,cell_kept hs.2.2.1.choose_spec.2.1 hg hr,(frozen_kept hs.2.2.1.choose_spec.2.1 hg hr).trans hs.2.2.1.choose_spec.2.2⟩,Nat.le_trans hs.2.2.2 hg.size⟩) _) (ownFrom_below (Nat.le_refl _) (by omega)))
  (fun c=>OwnFrom.and (Go.Own.from (fun s A B row hs hg hr=>⟨hs.1,hs.2.1,cell_kept hs.2.2 hg hr⟩) _) (ownFrom_below (Nat.le_refl _) (by omega)))
  ⟨⟨c0,f0,⟨0,.inl ⟨rfl,by simp⟩,cO,fO⟩,Nat.le_refl _⟩,B0⟩
  (fun x a' W=>∃ bx bz,W0.heap.size<=bx∧W0.heap.size<=bz∧(W.cell? ⟨bx,0,none⟩=some (.string x.p.1.1)∧W.cell? ⟨bx,1,none⟩=some (.int .i64 x.p.1.2)∧W.cell? ⟨bz,0,none⟩=some (.string x.p.2.1)∧W.cell? ⟨bz,1,none⟩=some (.int .i64 x.p.2.2))∧a'={ tmps:=#[.slice aa la.length ca,.slice ab lb.length cb,undef,undef,.pointer (some ⟨w.heap.size,0,none⟩),.pointer (some ⟨w2.heap.size,0,none⟩),.pointer (some ⟨bx,0,none⟩),.pointer (some ⟨bz,0,none⟩),undef,.slice aa la.length ca,.bool true,.bool false,.bool false,.slice ab lb.length cb,.bool true,.bool false,.bool false,.slice aa la.length ca,.slice ab lb.length cb,.func (.func 177) #[] #[.pointer (some ⟨w2.heap.size + 1,0,none⟩),.pointer (some ⟨w2.heap.size + 1 + 1,0,none⟩)],.agg #[.string x.p.1.1,.int .i64 x.p.1.2],.agg #[.string x.p.2.1,.int .i64 x.p.2.2],undef,undef,undef,undef,undef,undef,undef,undef,undef,undef,undef,undef,undef,undef,undef,undef,undef],defers:=[] })
  (fun x a' s A B row hs hg hr=>by
   obtain ⟨bx,bz,h1,h2,h3,h4⟩:=hs
   exact ⟨bx,bz,h1,h2,⟨cell_kept h3.1 hg (fun r e=>(hr r e).2),cell_kept h3.2.1 hg (fun r e=>(hr r e).2),cell_kept h3.2.2.1 hg (fun r e=>(hr r e).2),cell_kept h3.2.2.2 hg (fun r e=>(hr r e).2)⟩,h4⟩) ?assign ?body ?done ?stop
 case assign=>
  rintro l pre x W K ⟨⟨hc,hf,⟨v,hv,ho,hof⟩,hW0⟩,hB⟩ hK
  simp only [encP]
  gi_wp2
  have hb2:Below W.heap.size W ((W.alloc (.cells #[.string x.p.1.1,.int .i64 x.p.1.2] 144)).alloc (.cells #[.string x.p.2.1,.int .i64 x.p.2.2] 144)):=((Below.refl _ _).alloc (Nat.le_refl _) _).alloc (by simp) _
  have hWl:=block_lt_of_cell hc
  have hWo:=block_lt_of_cell ho
  exact hK _ _ (keepsFrom_below _ hb2) (KS.of_below hb2) ⟨⟨cell_on hb2 hWl hc,(hb2.frozen (p:=⟨w.heap.size,0,none⟩) hWl).trans hf,⟨v,hv,cell_on hb2 hWo ho,(hb2.frozen (p:=⟨w2.heap.size,0,none⟩) hWo).trans hof⟩,Nat.le_trans hW0 hb2.size⟩,hB.trans (hb2.mono hB.size)⟩ ⟨W.heap.size,W.heap.size + 1,hW0,Nat.le_succ_of_le hW0,⟨by simp [go_sem],by simp [go_sem],by simp [go_sem],by simp [go_sem]⟩,rfl⟩
 case body=>
  rintro l pre x a' W hle ⟨r,hr⟩ ⟨⟨hc,hf,⟨v,hv,ho,hof⟩,hW0⟩,hB⟩ ⟨bx,bz,h1,h2,⟨x0,x1,z0,z1⟩,rfl⟩ hlt
  have hWl:=block_lt_of_cell hc
  have hWo:=block_lt_of_cell ho
  have hne:w.heap.size≠w2.heap.size:=by omega
  have hN:∀ n:Lat W,n.w.cell? ⟨w.heap.size,0,none⟩=some (.int .i64 0)∧n.w.frozen? ⟨w.heap.size,0,none⟩=false∧n.w.cell? ⟨w2.heap.size,0,none⟩=some (.int .i64 v)∧n.w.frozen? ⟨w2.heap.size,0,none⟩=false:=
   fun n=>⟨n.cell hWl hc,(n.h.frozen (p:=⟨w.heap.size,0,none⟩) hWl).trans hf,n.cell hWo ho,(n.h.frozen (p:=⟨w2.heap.size,0,none⟩) hWo).trans hof⟩
  have HN:Hid _:=hN
  have hset:∀ (n:Lat W) (u:Int),OrdS ((pre ++ [x]).map PM.p) u->KeepsFrom W0.heap.size W (n.w.setCell ⟨w2.heap.size,0,none⟩ (.int .i64 u))∧KS w.heap.size (w2.heap.size + 1) W (n.w.setCell ⟨w2.heap.size,0,none⟩ (.int .i64 u)) ∧
    ((n.w.setCell ⟨w2.heap.size,0,none⟩ (.int .i64 u)).cell? ⟨w.heap.size,0,none⟩=some (.int .i64 0)∧(n.w.setCell ⟨w2.heap.size,0,none⟩ (.int .i64 u)).frozen? ⟨w.heap.size,0,none⟩=false∧(∃ v,OrdS ((pre ++ [x]).map PM.p) v∧(n.w.setCell ⟨w2.heap.size,0,none⟩ (.int .i64 u)).cell? ⟨w2.heap.size,0,none⟩=some (.int .i64 v)∧(n.w.setCell ⟨w2.heap.size,0,none⟩ (.int .i64 u)).frozen? ⟨w2.heap.size,0,none⟩=false)∧W0.heap.size<=(n.w.setCell ⟨w2.heap.size,0,none⟩ (.int .i64 u)).heap.size)∧Below w.heap.size w (n.w.setCell ⟨w2.heap.size,0,none⟩ (.int .i64 u)):=by
   intro n u hu
   obtain ⟨n1,n2,n3,n4⟩:=hN n
   refine ⟨(keepsFrom_below _ n.h).trans ((KeepsOthers.setCell _ _ _).from _),(KS.of_below n.h).trans ⟨(KeepsOthers.setCell _ _ _).size,fun k o hk h _=>?_⟩,⟨(far_set _ _ hne).trans n1, ?_,⟨u,hu,World.cell?_setCell_same' _ _ _ (by rw [n3];rfl), ?_⟩,Nat.le_trans (Nat.le_trans hW0 n.h.size) (KeepsOthers.setCell _ _ _).size⟩,(hB.trans (n.h.mono hB.size)).setCell (p:=⟨w2.heap.size,0,none⟩) (Nat.le_of_lt z2) _⟩
   ·rw [Below.heap_setCell _ _ _ _ (by simp only;omega)];exact h
   ·simp [go_sem,n2]
   ·simp [go_sem,n4]
  have HSET:Hid _:=hset
  have hret:∀ (n:Lat W),Apart ((pre ++ [x]).map PM.p)->KeepsFrom W0.heap.size W (n.w.setCell ⟨w.heap.size,0,none⟩ (.int .i64 3))∧(Apart ((pre ++ [x]).map PM.p)∧(n.w.setCell ⟨w.heap.size,0,none⟩ (.int .i64 3)).cell? ⟨w.heap.size,0,none⟩=some (.int .i64 3))∧Below w.heap.size w (n.w.setCell ⟨w.heap.size,0,none⟩ (.int .i64 3)):=by
   intro n hu
   obtain ⟨n1,n2,n3,n4⟩:=hN n
   exact ⟨(keepsFrom_below _ n.h).trans ((KeepsOthers.setCell _ _ _).from _),⟨hu,World.cell?_setCell_same' _ _ _ (by rw [n1];rfl)⟩,(hB.trans (n.h.mono hB.size)).setCell (p:=⟨w.heap.size,0,none⟩) (Nat.le_refl _) _⟩
  have HRET:Hid _:=hret
  have hmap:(pre ++ [x]).map PM.p=pre.map PM.p ++ [x.p]:=by simp
  have hsame:EqP x.p->KeepsFrom W0.heap.size W W∧KS w.heap.size (w2.heap.size + 1) W W∧(W.cell? ⟨w.heap.size,0,none⟩=some (.int .i64 0)∧W.frozen? ⟨w.heap.size,0,none⟩=false∧(∃ v,OrdS ((pre ++ [x]).map PM.p) v∧W.cell? ⟨w2.heap.size,0,none⟩=some (.int .i64 v)∧W.frozen? ⟨w2.heap.size,0,none⟩=false)∧W0.heap.size<=W.heap.size)∧Below w.heap.size w W:=
   fun h=>⟨KeepsFrom.refl _ _,KS.refl _ _ _,⟨hc,hf,⟨v,by rw [hmap];exact hv.eq h,ho,hof⟩,hW0⟩,hB⟩
  have HSAME:Hid _:=hsame
  have HM:Hid _:=hmap
  clear hset hret hsame hmap hN
  clear hsz
  by_cases hxx:x.p.1=x.p.2
  ·obtain ⟨⟨p,q⟩,hpq⟩:=x
   obtain rfl:p=q:=hxx
   gi_wp2_with fail
   exact HSAME.out rfl
  have HX:Hid (x.p.1≠x.p.2):=hxx
  clear hxx
  gi_wp2_with fail
  ·rename_i hs hu
   exact absurd (Prod.ext (toList_inj hs) hu) HX.out
  all_goals
   have q0:∀ n:Lat W,n.w.cell? ⟨bx,0,none⟩=some (.string x.p.1.1):=fun n=>n.cell (block_lt_of_cell x0) x0
   have q1:∀ n:Lat W,n.w.cell? ⟨bx,1,none⟩=some (.int .i64 x.p.1.2):=fun n=>n.cell (block_lt_of_cell x1) x1
   have q2:∀ n:Lat W,n.w.cell? ⟨bz,0,none⟩=some (.string x.p.2.1):=fun n=>n.cell (block_lt_of_cell z0) z0
   have q3:∀ n:Lat W,n.w.cell? ⟨bz,1,none⟩=some (.int .i64 x.p.2.2):=fun n=>n.cell (block_lt_of_cell z1) z1
   refine wpIn_region_latR (by kernel_rfl) (by kernel_rfl) (by kernel_rfl) (fun ⟨_,_,h⟩=>h) ?_
   have hne:=Lat.some W
   by_cases hlt:x.p.1.2 < x.p.2.2
   ·have HL:Hid (LtP x.p):=⟨HX.out,hlt⟩
    repeat (go_big_quiet_step ((go_at_call 144;exact Calls.lat_of (later_lt _ _ _ hlt))))
    refine wpQuiet_nil ?_
    rintro _ ⟨nq,rfl⟩
    obtain ⟨n1,n2,n3,n4⟩:=HN.out nq
    have HV:Hid (OrdS (pre.map PM.p) v):=hv
    rcases hv.val with rfl | rfl | rfl
    ·clear hv hc hf ho hof
     gi_wp2_with fail
     exact HSET.out nq 1 (by rw [HM.out];exact HV.out.lt (.inl rfl) HL.out)
    ·clear hv hc hf ho hof
     gi_wp2_with fail
     exact HSET.out nq 1 (by rw [HM.out];exact HV.out.lt (.inr rfl) HL.out)
    ·clear hv hc hf ho hof
     gi_wp2_with fail
     have q:=HRET.out nq (by rw [HM.out];exact HV.out.apart2 HL.out)
     exact ⟨q.1,⟨rfl,q.2.1⟩,q.2.2⟩
   ·have HL:Hid (GtP x.p):=⟨HX.out,hlt⟩
    repeat (go_big_quiet_step ((go_at_call 144;exact Calls.lat_of (later_ge _ _ _ hlt))))
    refine wpQuiet_nil ?_
    rintro _ ⟨nq,rfl⟩
    obtain ⟨n1,n2,n3,n4⟩:=HN.out nq
    have HV:Hid (OrdS (pre.map PM.p) v):=hv
    rcases hv.val with rfl | rfl | rfl
    ·clear hv hc hf ho hof
     gi_wp2_with fail
     exact HSET.out nq 2 (by rw [HM.out];exact HV.out.gt (.inl rfl) HL.out)
    ·clear hv hc hf ho hof
     gi_wp2_with fail
     have q:=HRET.out nq (by rw [HM.out];exact HV.out.apart1 HL.out)
     exact ⟨q.1,⟨rfl,q.2.1⟩,q.2.2⟩
    ·clear hv hc hf ho hof
     gi_wp2_with fail
     exact HSET.out nq 2 (by rw [HM.out];exact HV.out.gt (.inr rfl) HL.out)
 case done=>
  rintro D ys W hD hS ⟨⟨hc,hf,⟨v,hv,ho,hof⟩,_⟩,hB⟩ hK
  gi_wp2
  have hK':=(KeepsOthers.setCell W ⟨w.heap.size,0,none⟩ (.int .i64 v)).same D _ hK rfl
  refine ⟨by simp,.inl ⟨_,_,rfl,run_takeDeferred hK', ?_⟩⟩
  have hc5:=cell_kept (World.cell?_setCell_same' W ⟨w.heap.size,0,none⟩ (.int .i64 v) (by rw [hc];rfl)) (grownBy_putObj' _ D (.deferred none)) (fun r e=>by cases e;exact ⟨_,hK',rfl⟩)
  refine ⟨.int .i64 v, ?_,⟨v,rfl,ord_done hya hyb (pairs_spec _ la lb (stamp_sorted hya) (stamp_sorted hyb) (Nat.le_refl _)) (by rw [<- hS];exact hv)⟩,(hB.setCell (p:=⟨w.heap.size,0,none⟩) (Nat.le_refl _) _).trans (belowK_b (w:=w) (Nat.le_refl _) _ D _ _ (by omega) hK' rfl rfl)⟩
  simp [results,Tryz.f98,go_sem,hc5]
 case stop=>
  rintro D c pre W hD hpre ⟨⟨rfl,hap,hcr⟩,hB⟩ hK
  gi_wp2
  refine ⟨by simp,.inl ⟨_,_,rfl,run_takeDeferred hK, ?_⟩⟩
  have hc5:=cell_kept hcr (grownBy_putObj' _ D (.deferred none)) (fun r e=>by cases e;exact ⟨_,hK,rfl⟩)
  refine ⟨.int .i64 3, ?_,⟨3,rfl,ord_apart hya hyb (pairs_spec _ la lb (stamp_sorted hya) (stamp_sorted hyb) (Nat.le_refl _)) hpre hap⟩,hB.trans (belowK_b (w:=w) (Nat.le_refl _) W D _ _ (by omega) hK rfl rfl)⟩
  simp [results,Tryz.f98,go_sem,hc5]
end Go.Proofs.YtpfhegengmlkmacGreatDoor
