/- Texts of this claim. -/
import Derived.Test.YtpfhegengmlkmacGreatDoorZt7
namespace Go.Proofs.YtpfhegengmlkmacGreatDoor
open Go.RowKit Go.Shelf Go.BigFrame
attribute [local go_sem] Oper.semAt_some
set_option maxHeartbeats 400000 in
theorem itemOk_any (x:Int) (a:Option Addr) (c:Nat) (l:List (ByteArray×Int)) (w:World) (hr:Row w a l) (hf:FitM l) :
  Calls Tryz.prog 128 #[.agg #[.int .i64 x,.slice a l.length c]] w fun e w'=>IsB (StampP l∧l≠[]) e∧Below w.heap.size w w':=by
 have hb0:Below w.heap.size w (w.alloc (.cells #[.int .i64 x,.slice a l.length c] 44)):=(Below.refl _ _).alloc (Nat.le_refl _) _
 have hl:=hf.1
 unfold maxLen at hl
 by_cases h0:0 < l.length
 ·have HN:Hid (l≠[]):=fun h=>by rw [h] at h0;exact absurd h0 (Nat.lt_irrefl 0)
  go_enter Tryz.func128,Tryz.ntmps128
  go_wp2_with fail
  refine (implStampOk_any a c l _ hf.1 (hr.below hb0) hf.2).mono ?_
  rintro e w1 ⟨⟨r,rfl,hr1⟩,b1⟩
  have HR:Hid (r=true↔StampP l):=hr1
  clear hr1
  go_wp2_with fail
  go_ret
  exact ⟨⟨r,rfl,by rw [HR.out];exact ⟨fun h=>⟨h,HN.out⟩,fun h=>h.1⟩⟩,hb0.trans (b1.mono hb0.size)⟩
 ·obtain rfl:l=[]:=List.length_eq_zero_iff.1 (by omega)
  go_enter Tryz.func128,Tryz.ntmps128
  go_wp2_with fail
  go_ret
  exact ⟨isB_false (fun h=>h.2 rfl),hb0⟩
def ones (l:List (ByteArray×Int)):List (ByteArray×Int):=l.map fun m=>(m.1,1)
theorem ones_sorted {l:List (ByteArray×Int)} (h:Sorted l):Sorted (ones l):=by
 refine ⟨?_,fun m hm=>?_⟩
 ·unfold ones
  rw [List.pairwise_map]
  exact h.1
 ·unfold ones at hm
  obtain ⟨x,_,rfl⟩:=List.mem_map.1 hm
  exact Int.le_refl _
theorem ones_get {l:List (ByteArray×Int)} (h:Sorted l) (s:ByteArray):getM (ones l) s=if 0 < getM l s then 1 else 0:=by
 by_cases hp:0 < getM l s
 ·rw [if_pos hp]
  have hm:(s,(1:Int))∈ones l:=List.mem_map.2 ⟨_,getM_pos hp,rfl⟩
  exact getM_mem (ones_sorted h) hm
 ·rw [if_neg hp]
  have h0:=getM_nonneg (s:=s) (ones_sorted h)
  by_cases hq:0 < getM (ones l) s
  ·exfalso
   unfold ones at hq
   obtain ⟨x,hx,e⟩:=List.mem_map.1 (getM_pos hq)
   have e1:x.1=s:=(Prod.mk.inj e).1
   have e2:=getM_mem h hx
   have e3:=h.2 x hx
   rw [e1] at e2
   omega
  ·omega
theorem names_ext {a b:List (ByteArray×Int)} (ha:Sorted a) (hb:Sorted b) (h:∀ s,0 < getM a s↔0 < getM b s):namesM a=namesM b:=by
 have e:ones a=ones b:=sorted_ext (ones_sorted ha) (ones_sorted hb) fun s=>by
  rw [ones_get ha,ones_get hb]
  by_cases hp:0 < getM a s
  ·rw [if_pos hp,if_pos ((h s).1 hp)]
  ·rw [if_neg hp,if_neg (fun q=>hp ((h s).2 q))]
 have e2:=congrArg namesM e
 simpa [namesM,ones,Function.comp_def] using e2
def Alone (x:(ByteArray×Int)×(ByteArray×Int)):Prop:=¬ (0 < x.1.2∧0 < x.2.2)
theorem names_of_pairs {a b:List (ByteArray×Int)} {P:List ((ByteArray×Int)×(ByteArray×Int))} (ha:StampP a) (hb:StampP b) (hP:PSpec a b P) (h:∀ p∈P,¬ Alone p):namesM a=namesM b:=by
 have sa:=stamp_sorted ha
 have sb:=stamp_sorted hb
 refine names_ext sa sb fun s=>?_
 constructor
 ·intro h1
  obtain ⟨p,hm,hp⟩:=hP.all s (.inl h1)
  obtain ⟨p1,p2,_⟩:=hP.mem p hm
  have:=Classical.not_not.1 (h p hm)
  rw [p1,p2,hp] at this
  exact this.2
 ·intro h1
  obtain ⟨p,hm,hp⟩:=hP.all s (.inr h1)
  obtain ⟨p1,p2,_⟩:=hP.mem p hm
  have:=Classical.not_not.1 (h p hm)
  rw [p1,p2,hp] at this
  exact this.1
theorem not_names_of_alone {a b:List (ByteArray×Int)} {P:List ((ByteArray×Int)×(ByteArray×Int))} (ha:StampP a) (hb:StampP b) (hP:PSpec a b P) {p:(ByteArray×Int)×(ByteArray×Int)} (hm:p∈P) (h:Alone p):¬ namesM a=namesM b:=by
 intro e
 obtain ⟨p1,p2,p3⟩:=hP.mem p hm
 refine h ?_
 have hn:=names_get ha hb e p.1.1
 rw [p1,p2] at p3
 simp only at p3
 rw [p1,p2]
 simp only
 rcases p3 with h3 | h3
 ·exact ⟨h3,hn.1 h3⟩
 ·exact ⟨hn.2 h3,h3⟩
set_option maxRecDepth 100000 in
set_option maxHeartbeats 4000000 in
theorem same_any (aa ab:Option Addr) (ca cb:Nat) (la lb:List (ByteArray×Int)) (w:World) (hca:la.length<=ca) (hcb:lb.length<=cb) (ha:Row w aa la) (hb:Row w ab lb) (hya:StampP la) (hyb:StampP lb) :
  Calls Tryz.prog 169 #[.slice aa la.length ca,.slice ab lb.length cb] w fun e w'=>IsB (namesM la=namesM lb) e∧Below w.heap.size w w':=by
 refine (callsIn_wide (n:=5)).1 ?_
 refine callsIn_of_wp_marks Tryz.func169 rfl trivial ?_ rfl
 simp only [Tryz.ntmps169,List.size_toArray,List.length_cons,List.length_nil,Nat.reduceAdd,Nat.reduceSub,Array.replicate_succ,Array.replicate_zero,List.push_toArray,List.append_toArray,List.nil_append,List.cons_append]
 gi_wp2_with fail
 obtain ⟨w2,hw2⟩:∃ w2,w.alloc (.cells #[.bool false] 4)=w2:=⟨_,rfl⟩
 have B2:Below w.heap.size w w2:=by rw [<- hw2];exact (Below.refl _ _).alloc (Nat.le_refl _) _
 have c2:w2.cell? ⟨w.heap.size,0,none⟩=some (.bool false):=by rw [<- hw2];simp [go_sem]
 have f2:w2.frozen? ⟨w.heap.size,0,none⟩=false:=by rw [<- hw2];simp [go_sem]
 have z2:w.heap.size < w2.heap.size:=block_lt_of_cell c2
 rw [hw2]
 clear hw2
 refine ⟨trivial,(callsIn_wide.2 (sideBySide_any aa ab _ _ ca cb _)).mono ?_⟩
 rintro e w3 ⟨rfl,rfl⟩
 obtain ⟨W0,hW0⟩:∃ W0,(w2.alloc (.cells #[.slice aa la.length ca] 34)).alloc (.cells #[.slice ab lb.length cb] 34)=W0:=⟨_,rfl⟩
 have cA:W0.cell? ⟨w2.heap.size,0,none⟩=some (.slice aa la.length ca):=by rw [<- hW0];simp [go_sem]
 have cB:W0.cell? ⟨w2.heap.size + 1,0,none⟩=some (.slice ab lb.length cb):=by rw [<- hW0];simp [go_sem]
 have nA3:W0.cell? ⟨w2.heap.size,3,none⟩=none:=by rw [<- hW0];simp [go_sem]
 have nB3:W0.cell? ⟨w2.heap.size + 1,3,none⟩=none:=by rw [<- hW0];simp [go_sem]
 have hsz:W0.heap.size=w2.heap.size + 2:=by rw [<- hW0];simp
 have b20:Below w2.heap.size w2 W0:=by rw [<- hW0];exact ((Below.refl _ _).alloc (Nat.le_refl _) _).alloc (by simp) _
 have B0:Below w.heap.size w W0:=B2.trans (b20.mono (Nat.le_of_lt z2))
 have c0:=cell_on b20 z2 c2
 have f0:W0.frozen? ⟨w.heap.size,0,none⟩=false:=(b20.frozen (p:=⟨w.heap.size,0,none⟩) z2).trans f2
 rw [hW0]
 clear hW0 b20 c2 f2
 gi_wp2_with fail
 refine wpIn_rangeFunc_ownH (n:=5) rfl (by omega) (gf:=177) (lb:=#[.pointer (some ⟨w2.heap.size,0,none⟩),.pointer (some ⟨w2.heap.size + 1,0,none⟩)]) rfl trivial (enters_of Tryz.func177 (by kernel_rfl) rfl)
  (side_stops 4 w.heap.size w2.heap.size w2.heap.size (w2.heap.size + 1) aa ab ca cb la lb hca hcb hya hyb (Nat.le_refl _) (by omega) W0 (by omega) cA cB nA3 nB3 (ha.low.below B0) (hb.low.below B0)) KS.trans (fun W l o o' _ h1 h2 _=>KS.put W l o o' h1 h2) (Below.refl _ _) (fun _=>rfl)
  (fun pre W=>(W.cell? ⟨w.heap.size,0,none⟩=some (.bool false)∧W.frozen? ⟨w.heap.size,0,none⟩=false∧(∀ y∈pre,¬ Alone y.p)∧W0.heap.size<=W.heap.size)∧Below w.heap.size w W)
  (fun c pre W=>(c=.ret∧(∃ y∈pre,Alone y.p)∧W.cell? ⟨w.heap.size,0,none⟩=some (.bool false))∧Below w.heap.size w W)
  (OwnFrom.and (Go.Own.from (fun s A B row hs hg hr=>⟨cell_kept hs.1 hg hr,(frozen_kept hs.1 hg hr).trans hs.2.1,hs.2.2.1,Nat.le_trans hs.2.2.2 hg.size⟩) _) (ownFrom_below (Nat.le_refl _) (by omega)))
  (fun c=>OwnFrom.and (Go.Own.from (fun s A B row hs hg hr=>⟨hs.1,hs.2.1,cell_kept hs.2.2 hg hr⟩) _) (ownFrom_below (Nat.le_refl _) (by omega)))
  ⟨⟨c0,f0,by simp,Nat.le_refl _⟩,B0⟩
  (fun x a' W=>∃ bx bz,W0.heap.size<=bx∧W0.heap.size<=bz∧(W.cell? ⟨bx,0,none⟩=some (.string x.p.1.1)∧W.cell? ⟨bx,1,none⟩=some (.int .i64 x.p.1.2)∧W.cell? ⟨bz,0,none⟩=some (.string x.p.2.1)∧W.cell? ⟨bz,1,none⟩=some (.int .i64 x.p.2.2))∧a'={ tmps:=#[.slice aa la.length ca,.slice ab lb.length cb,undef,undef,.pointer (some ⟨w.heap.size,0,none⟩),.pointer (some ⟨bx,0,none⟩),.pointer (some ⟨bz,0,none⟩),.slice aa la.length ca,.slice ab lb.length cb,.func (.func 177) #[] #[.pointer (some ⟨w2.heap.size,0,none⟩),.pointer (some ⟨w2.heap.size + 1,0,none⟩)],.agg #[.string x.p.1.1,.int .i64 x.p.1.2],.agg #[.string x.p.2.1,.int .i64 x.p.2.2],undef,undef,undef,undef,undef,undef,undef,undef],defers:=[] })
  (fun x a' s A B row hs hg hr=>by
   obtain ⟨bx,bz,h1,h2,h3,h4⟩:=hs
   exact ⟨bx,bz,h1,h2,⟨cell_kept h3.1 hg (fun r e=>(hr r e).2),cell_kept h3.2.1 hg (fun r e=>(hr r e).2),cell_kept h3.2.2.1 hg (fun r e=>(hr r e).2),cell_kept h3.2.2.2 hg (fun r e=>(hr r e).2)⟩,h4⟩) ?assign ?body ?done ?stop
 case assign=>
  rintro l pre x W K ⟨⟨hc,hf,hp,hW0⟩,hB⟩ hK
  simp only [encP]
  gi_wp2
  have hb2:Below W.heap.size W ((W.alloc (.cells #[.string x.p.1.1,.int .i64 x.p.1.2] 144)).alloc (.cells #[.string x.p.2.1,.int .i64 x.p.2.2] 144)):=((Below.refl _ _).alloc (Nat.le_refl _) _).alloc (by simp) _
  have hWl:=block_lt_of_cell hc
  exact hK _ _ (keepsFrom_below _ hb2) (KS.of_below hb2) ⟨⟨cell_on hb2 hWl hc,(hb2.frozen (p:=⟨w.heap.size,0,none⟩) hWl).trans hf,hp,Nat.le_trans hW0 hb2.size⟩,hB.trans (hb2.mono hB.size)⟩ ⟨W.heap.size,W.heap.size + 1,hW0,Nat.le_succ_of_le hW0,⟨by simp [go_sem],by simp [go_sem],by simp [go_sem],by simp [go_sem]⟩,rfl⟩
 case body=>
  rintro l pre x a' W hle ⟨r,hr⟩ ⟨⟨hc,hf,hp,hW0⟩,hB⟩ ⟨bx,bz,h1,h2,⟨x0,x1,z0,z1⟩,rfl⟩ hlt
  have hWl:=block_lt_of_cell hc
  have hok:∀ W',Below W.heap.size W W'->¬ Alone x.p->KeepsFrom W0.heap.size W W'∧KS w.heap.size w2.heap.size W W'∧(W'.cell? ⟨w.heap.size,0,none⟩=some (.bool false)∧W'.frozen? ⟨w.heap.size,0,none⟩=false∧(∀ y∈pre ++ [x],¬ Alone y.p)∧W0.heap.size<=W'.heap.size)∧Below w.heap.size w W':=
   fun W' h hn=>⟨keepsFrom_below _ h,KS.of_below h,⟨cell_on h hWl hc,(h.frozen (p:=⟨w.heap.size,0,none⟩) hWl).trans hf,fun y hy=>(List.mem_append.1 hy).elim (hp y) fun e=>by simp at e;subst e;exact hn,Nat.le_trans hW0 h.size⟩,hB.trans (h.mono hB.size)⟩
  have HOK:Hid _:=hok
  have hbd:∀ W',Below W.heap.size W W'->W'.cell? ⟨w.heap.size,0,none⟩=some (.bool false)->Alone x.p->KeepsFrom W0.heap.size W (W'.setCell ⟨w.heap.size,0,none⟩ (.bool false))∧(((∃ y∈pre ++ [x],Alone y.p)∧(W'.setCell ⟨w.heap.size,0,none⟩ (.bool false)).cell? ⟨w.heap.size,0,none⟩=some (.bool false))∧Below w.heap.size w (W'.setCell ⟨w.heap.size,0,none⟩ (.bool false))):=
   fun W' h hc' hx=>⟨(keepsFrom_below _ h).trans ((KeepsOthers.setCell _ _ _).from _),⟨⟨x,by simp,hx⟩,World.cell?_setCell_same' _ _ _ (by rw [hc'];rfl)⟩,(hB.trans (h.mono hB.size)).setCell (p:=⟨w.heap.size,0,none⟩) (Nat.le_refl _) _⟩
  have HBAD:Hid _:=hbd
  clear hok hbd
  by_cases e1:0 < x.p.1.2
  ·gi_wp2_with fail
   refine ⟨trivial,(CallsIn.inRound l (callsIn_wide.2 (had_true _ _ _ e1))).mono ?_⟩
   rintro e w3 ⟨rfl,hb3⟩
   have z0':=cell_on hb3 (block_lt_of_cell z0) z0
   have z1':=cell_on hb3 (block_lt_of_cell z1) z1
   by_cases e2:0 < x.p.2.2
   ·gi_wp2_with fail
    refine ⟨trivial,(CallsIn.inRound l (callsIn_wide.2 (had_true _ _ _ e2))).mono ?_⟩
    rintro e w4 ⟨rfl,hb4⟩
    have hb34:=hb3.trans (hb4.mono hb3.size)
    have HAL:Hid (¬ Alone x.p):=fun h=>h ⟨e1,e2⟩
    gi_wp2_with fail
    exact HOK.out w4 hb34 HAL.out
   ·gi_wp2_with fail
    refine ⟨trivial,(CallsIn.inRound l (callsIn_wide.2 (had_false _ _ _ (Int.not_lt.2 e2)))).mono ?_⟩
    rintro e w4 ⟨rfl,hb4⟩
    have hb34:=hb3.trans (hb4.mono hb3.size)
    have hc4:=cell_on hb34 hWl hc
    have hf4:=(hb34.frozen (p:=⟨w.heap.size,0,none⟩) hWl).trans hf
    have HAL:Hid (Alone x.p):=fun h=>absurd h.2 (Int.not_lt.2 e2)
    clear hc hf
    gi_wp2_with fail
    have q:=HBAD.out w4 hb34 hc4 HAL.out
    exact ⟨q.1,⟨rfl,q.2.1⟩,q.2.2⟩
  ·gi_wp2_with fail
   refine ⟨trivial,(CallsIn.inRound l (callsIn_wide.2 (had_false _ _ _ (Int.not_lt.2 e1)))).mono ?_⟩
   rintro e w3 ⟨rfl,hb3⟩
   have hc4:=cell_on hb3 hWl hc
   have hf4:=(hb3.frozen (p:=⟨w.heap.size,0,none⟩) hWl).trans hf
   have HAL:Hid (Alone x.p):=fun h=>absurd h.1 (Int.not_lt.2 e1)
   clear hc hf
   gi_wp2_with fail
   refine ⟨trivial, ?_⟩
   gi_wp2_with fail
   have q:=HBAD.out w3 hb3 hc4 HAL.out
   exact ⟨q.1,⟨rfl,q.2.1⟩,q.2.2⟩
 case done=>
  rintro D ys W hD hS ⟨⟨hc,hf,hne,_⟩,hB⟩ hK
  gi_wp2
  have hK':=(KeepsOthers.setCell W ⟨w.heap.size,0,none⟩ (.bool true)).same D _ hK rfl
  refine ⟨by simp,.inl ⟨_,_,rfl,run_takeDeferred hK', ?_⟩⟩
  have hc5:=cell_kept (World.cell?_setCell_same' W ⟨w.heap.size,0,none⟩ (.bool true) (by rw [hc];rfl)) (grownBy_putObj' _ D (.deferred none)) (fun r e=>by cases e;exact ⟨_,hK',rfl⟩)
  refine ⟨.bool true, ?_,isB_true (names_of_pairs hya hyb (pairs_spec _ la lb (stamp_sorted hya) (stamp_sorted hyb) (Nat.le_refl _)) ?_),(hB.setCell (p:=⟨w.heap.size,0,none⟩) (Nat.le_refl _) _).trans (belowK_b (w:=w) (Nat.le_refl _) _ D _ _ (by omega) hK' rfl rfl)⟩
  ·simp [results,Tryz.f169,go_sem,hc5]
  ·rw [<- hS]
   intro p hp
   obtain ⟨y,hy,rfl⟩:=List.mem_map.1 hp
   exact hne y hy
 case stop=>
  rintro D c pre W hD hpre ⟨⟨rfl,⟨y,hy,hbad⟩,hcr⟩,hB⟩ hK
  gi_wp2
  refine ⟨by simp,.inl ⟨_,_,rfl,run_takeDeferred hK, ?_⟩⟩
  have hc5:=cell_kept hcr (grownBy_putObj' _ D (.deferred none)) (fun r e=>by cases e;exact ⟨_,hK,rfl⟩)
  refine ⟨.bool false, ?_,isB_false (not_names_of_alone hya hyb (pairs_spec _ la lb (stamp_sorted hya) (stamp_sorted hyb) (Nat.le_refl _)) (hpre.subset (List.mem_map.2 ⟨y,hy,rfl⟩)) hbad),hB.trans (belowK_b (w:=w) (Nat.le_refl _) W D _ _ (by omega) hK rfl rfl)⟩
  simp [results,Tryz.f169,go_sem,hc5]
end Go.Proofs.YtpfhegengmlkmacGreatDoor
