/- Texts of this claim. -/
import Derived.Test.YtpfhegengmlkmacGreatDoorZt33
namespace Go.Proofs.YtpfhegengmlkmacGreatDoor
open Go.RowKit Go.Shelf Go.BigFrame
attribute [local go_sem] Oper.semAt_some
structure Res2 (b:Nat) (w:World):Prop where
 c0:w.cell? ⟨b,0,none⟩=some (.slice none 0 0)
 f0:w.frozen? ⟨b,0,none⟩=false
 c1:w.cell? ⟨b + 1,0,none⟩=some (.bool false)
 f1:w.frozen? ⟨b + 1,0,none⟩=false
theorem Res2.lt {b:Nat} {w:World} (h:Res2 b w):b + 1 < w.heap.size:=block_lt_of_cell h.c1
theorem Res2.below {b:Nat} {w w':World} (h:Res2 b w) (hb:Below w.heap.size w w'):Res2 b w':=by
 have h1:=h.lt
 exact ⟨cell_on hb (by omega) h.c0,(hb.frozen (p:=⟨b,0,none⟩) (by simp only;omega)).trans h.f0,cell_on hb h1 h.c1,(hb.frozen (p:=⟨b + 1,0,none⟩) h1).trans h.f1⟩
theorem Res2.kept {b:Nat} {w w':World} {row:Option Nat} (h:Res2 b w) (hg:w.grownBy w' row) (hr:∀ r,row=some r->∃ o:Obj,w.heap[r]?=some o∧o.isCells=false):Res2 b w':=
 ⟨cell_kept h.c0 hg hr,(frozen_kept h.c0 hg hr).trans h.f0,cell_kept h.c1 hg hr,(frozen_kept h.c1 hg hr).trans h.f1⟩
theorem Res2.upto {b B:Nat} {w w':World} (h:Res2 b w) (hb:Below B w w') (hB:b + 1 < B):Res2 b w':=
 ⟨(hb.cell (p:=⟨b,0,none⟩) (by simp only;omega)).trans h.c0,(hb.frozen (p:=⟨b,0,none⟩) (by simp only;omega)).trans h.f0,(hb.cell (p:=⟨b + 1,0,none⟩) hB).trans h.c1,(hb.frozen (p:=⟨b + 1,0,none⟩) hB).trans h.f1⟩
theorem Res2.set {b J:Nat} {w:World} (h:Res2 b w) (h0:b≠J) (h1:b + 1≠J) (v:Value):Res2 b (w.setCell ⟨J,0,none⟩ v):=
 ⟨(far_set _ _ h0).trans h.c0,(World.frozen?_of_block (Below.heap_setCell _ _ _ _ h0)).trans h.f0,(far_set _ _ h1).trans h.c1,(World.frozen?_of_block (Below.heap_setCell _ _ _ _ h1)).trans h.f1⟩
theorem Gath.kept {w w':World} {B:Nat} {v:Value} {l:List (ByteArray×Int)} {row:Option Nat} (h:Gath w B v l) (hg:w.grownBy w' row) (hr:∀ r,row=some r->∃ o:Obj,w.heap[r]?=some o∧o.isCells=false):Gath w' B v l:=by
 obtain ⟨hl,h | ⟨g,cap,cur,hv,hgB,hh,r⟩⟩:=h
 ·exact ⟨hl,.inl h⟩
 ·exact ⟨hl,.inr ⟨g,cap,cur,hv,hgB,(grownBy_keeps_cells hg hr hh rfl).trans hh,r⟩⟩
theorem Gath.far {w w':World} {B:Nat} {v:Value} {l:List (ByteArray×Int)} (h:Gath w B v l) (hk:∀ k,B<=k->k < w.heap.size->w'.heap[k]?=w.heap[k]?):Gath w' B v l:=by
 obtain ⟨hl,h | ⟨g,cap,cur,hv,hgB,hh,r⟩⟩:=h
 ·exact ⟨hl,.inl h⟩
 ·exact ⟨hl,.inr ⟨g,cap,cur,hv,hgB,(hk g hgB (Array.getElem?_eq_some_iff.1 hh).1).trans hh,r⟩⟩
def JInv (r J B:Nat) (pre:List PM) (W:World):Prop:=
 Res2 r W∧(∃ jv,W.cell? ⟨J,0,none⟩=some jv∧W.frozen? ⟨J,0,none⟩=false∧Gath W B jv (joinP (pre.map PM.p))∧(pre=[]->jv=.slice none 0 0))∧pre.length<=12∧B<=W.heap.size
theorem JInv.kept {r J B:Nat} {pre:List PM} {w w':World} {row:Option Nat} (h:JInv r J B pre w) (hg:w.grownBy w' row) (hr:∀ r,row=some r->∃ o:Obj,w.heap[r]?=some o∧o.isCells=false):JInv r J B pre w':=by
 obtain ⟨h1,⟨jv,c,f,g,e⟩,h3,h4⟩:=h
 exact ⟨h1.kept hg hr,⟨jv,cell_kept c hg hr,(frozen_kept c hg hr).trans f,g.kept hg hr,e⟩,h3,Nat.le_trans h4 hg.size⟩
theorem JInv.below {r J B:Nat} {pre:List PM} {w w':World} (h:JInv r J B pre w) (hb:Below w.heap.size w w'):JInv r J B pre w':=by
 obtain ⟨h1,⟨jv,c,f,g,e⟩,h3,h4⟩:=h
 have hl:=block_lt_of_cell c
 exact ⟨h1.below hb,⟨jv,cell_on hb hl c,(hb.frozen (p:=⟨J,0,none⟩) hl).trans f,g.keep hb,e⟩,h3,Nat.le_trans h4 hb.size⟩
theorem none_kept {W W':World} {row:Option Nat} {b:Nat} {v:Value} (h:W.cell? ⟨b,0,none⟩=some v) (hn:W.cell? ⟨b,3,none⟩=none) (hg:W.grownBy W' row) (hrow:∀ r,row=some r->∃ o:Obj,W.heap[r]?=some o∧o.isCells=false):W'.cell? ⟨b,3,none⟩=none:=by
 obtain ⟨o,ho,hc⟩:=cells_of_cell h
 rw [World.cell?_of_block (w:=W) (w':=W') (a:=⟨b,3,none⟩) (grownBy_keeps_cells hg hrow ho hc)];exact hn
theorem join_len (pre:List PM):(joinP (pre.map PM.p)).length=pre.length:=by simp [joinP]
theorem join_snoc (pre:List PM) (x:PM):joinP ((pre ++ [x]).map PM.p)=joinP (pre.map PM.p) ++ [laterM x.p.1 x.p.2]:=by simp [joinP]
theorem later_size (x:PM):(laterM x.p.1 x.p.2).1.size<=1048576:=by
 unfold laterM
 split
 ·exact x.h.2
 ·exact x.h.1
set_option maxRecDepth 100000 in
set_option maxHeartbeats 4000000 in
theorem implJoin_any (aa ab:Option Addr) (ca cb:Nat) (la lb:List (ByteArray×Int)) (w:World) (hla:la.length<=maxLen) (hlb:lb.length<=maxLen) (hca:la.length<=ca) (hcb:lb.length<=cb) (ha:Row w aa la) (hb:Row w ab lb)
  (hsa:∀ j,(h:j < la.length)->la[j].1.size<=maxLen) (hsb:∀ j,(h:j < lb.length)->lb[j].1.size<=maxLen) :
  Calls Tryz.prog 141 #[.slice aa la.length ca,.slice ab lb.length cb] w fun e w'=>(∃ v m ok,e=.returned (.tuple #[v,.bool ok])∧Gath w' w.heap.size v m∧IsJ la lb m ok)∧Below w.heap.size w w':=by
 refine (callsIn_wide (n:=5)).1 ?_
 refine callsIn_of_wp_marks Tryz.func141 rfl trivial ?_ rfl
 simp only [Tryz.ntmps141,List.size_toArray,List.length_cons,List.length_nil,Nat.reduceAdd,Nat.reduceSub,Array.replicate_succ,Array.replicate_zero,List.push_toArray,List.append_toArray,List.nil_append,List.cons_append]
 gi_wp2_with fail
 have hba:Below w.heap.size w ((w.alloc (.cells #[.slice none 0 0] 34)).alloc (.cells #[.bool false] 4)):=((Below.refl _ _).alloc (Nat.le_refl _) _).alloc (by simp) _
 have R0:Res2 w.heap.size ((w.alloc (.cells #[.slice none 0 0] 34)).alloc (.cells #[.bool false] 4)):=⟨by simp [go_sem],by simp [go_sem],by simp [go_sem],by simp [go_sem]⟩
 generalize (w.alloc (.cells #[.slice none 0 0] 34)).alloc (.cells #[.bool false] 4)=w0 at *
 refine ⟨trivial,(callsIn_wide.2 (implStampOk_any aa ca la _ hla (ha.below hba) hsa)).mono ?_⟩
 rintro e w1 ⟨⟨r,rfl,hr1⟩,hb1⟩
 have B1:Below w.heap.size w w1:=hba.trans (hb1.mono hba.size)
 have R1:=R0.below hb1
 have z1:=R1.lt
 obtain ⟨c0,f0,c1,f1⟩:=R1
 cases r
 ·have hn:¬ StampP la:=fun h=>by simpa using hr1.2 h
  clear hr1
  gi_wp2_with fail
  refine ⟨trivial, ?_⟩
  gi_wp2_with fail
  refine ⟨.tuple #[.slice none 0 0,.bool false], ?_,⟨_,[],false,rfl,Gath.none _ _,.inl ⟨fun h=>hn h.1,rfl,rfl⟩⟩,(B1.setCell (p:=⟨w.heap.size,0,none⟩) (Nat.le_refl _) _).setCell (p:=⟨w.heap.size + 1,0,none⟩) (Nat.le_succ _) _⟩
  simp [results,Tryz.f141,go_sem,c0,c1]
 have hya:StampP la:=hr1.1 rfl
 clear hr1
 gi_wp2_with fail
 refine ⟨trivial,(callsIn_wide.2 (implStampOk_any ab cb lb _ hlb (hb.below B1) hsb)).mono ?_⟩
 rintro e w2 ⟨⟨r,rfl,hr2⟩,hb2⟩
 have B2:Below w.heap.size w w2:=B1.trans (hb2.mono B1.size)
 have R2:=(R0.below hb1).below hb2
 have z2:=R2.lt
 clear hb2 z1 B1 c0 f0 c1 f1 hb1 R0
 cases r
 ·have hn:¬ StampP lb:=fun h=>by simpa using hr2.2 h
  clear hr2
  obtain ⟨c0,f0,c1,f1⟩:=R2
  gi_wp2_with fail
  refine ⟨.tuple #[.slice none 0 0,.bool false], ?_,⟨_,[],false,rfl,Gath.none _ _,.inl ⟨fun h=>hn h.2,rfl,rfl⟩⟩,(B2.setCell (p:=⟨w.heap.size,0,none⟩) (Nat.le_refl _) _).setCell (p:=⟨w.heap.size + 1,0,none⟩) (Nat.le_succ _) _⟩
  simp [results,Tryz.f141,go_sem,c0,c1]
 have hyb:StampP lb:=hr2.1 rfl
 clear hr2
 gi_wp2_with fail
 refine ⟨trivial,(callsIn_wide.2 (sideBySide_any aa ab _ _ ca cb _)).mono ?_⟩
 rintro e w3 ⟨rfl,rfl⟩
 simp only [World.size_alloc]
 obtain ⟨W0,hW0⟩:∃ W0,((w2.alloc (.cells #[.slice none 0 0] 34)).alloc (.cells #[.slice aa la.length ca] 34)).alloc (.cells #[.slice ab lb.length cb] 34)=W0:=⟨_,rfl⟩
 have cO:W0.cell? ⟨w2.heap.size,0,none⟩=some (.slice none 0 0):=by rw [<- hW0];simp [go_sem]
 have fO:W0.frozen? ⟨w2.heap.size,0,none⟩=false:=by rw [<- hW0];simp [go_sem]
 have cA:W0.cell? ⟨w2.heap.size + 1,0,none⟩=some (.slice aa la.length ca):=by rw [<- hW0];simp [go_sem]
 have cB:W0.cell? ⟨w2.heap.size + 1 + 1,0,none⟩=some (.slice ab lb.length cb):=by rw [<- hW0];simp [go_sem]
 have nA3:W0.cell? ⟨w2.heap.size + 1,3,none⟩=none:=by rw [<- hW0];simp [go_sem]
 have nB3:W0.cell? ⟨w2.heap.size + 1 + 1,3,none⟩=none:=by rw [<- hW0];simp [go_sem]
 have hsz:W0.heap.size=w2.heap.size + 3:=by rw [<- hW0];simp
 have b20:Below w2.heap.size w2 W0:=by rw [<- hW0];exact (((Below.refl _ _).alloc (Nat.le_refl _) _).alloc (by simp) _).alloc (by simp;omega) _
 have B0:Below w.heap.size w W0:=B2.trans (b20.mono B2.size)
 have R0:=R2.below b20
 rw [hW0]
 clear hW0 b20 R2
 gi_wp2_with fail
 refine wpIn_rangeFunc_ownH (n:=5) rfl (by omega) (gf:=177) (lb:=#[.pointer (some ⟨w2.heap.size + 1,0,none⟩),.pointer (some ⟨w2.heap.size + 1 + 1,0,none⟩)]) rfl trivial (enters_of Tryz.func177 (by kernel_rfl) rfl)
  (side_stops 4 w.heap.size (w2.heap.size + 1) (w2.heap.size + 1) (w2.heap.size + 1 + 1) aa ab ca cb la lb hca hcb hya hyb (Nat.le_refl _) (by omega) W0 (by omega) cA cB nA3 nB3 (ha.low.below B0) (hb.low.below B0)) KS.trans (fun W l o o' _ h1 h2 _=>KS.put W l o o' h1 h2) (Below.refl _ _) (fun _=>rfl)
  (fun pre W=>JInv w.heap.size w2.heap.size W0.heap.size pre W∧Below w.heap.size w W)
  (fun c pre W=>(c=.ret∧12 < pre.length∧Res2 w.heap.size W)∧Below w.heap.size w W)
  (OwnFrom.and (Go.Own.from (I:=JInv w.heap.size w2.heap.size W0.heap.size) (fun s A B row hs hg hr=>JInv.kept hs hg hr) _) (ownFrom_below (Nat.le_refl _) (by omega)))
  (fun c=>OwnFrom.and (Go.Own.from (fun s A B row hs hg hr=>⟨hs.1,hs.2.1,hs.2.2.kept hg hr⟩) _) (ownFrom_below (Nat.le_refl _) (by omega)))
  ⟨⟨R0,⟨_,cO,fO,Gath.none _ _,fun _=>rfl⟩,by simp,Nat.le_refl _⟩,B0⟩
  (fun x a' W=>∃ bx bz,W0.heap.size<=bx∧W0.heap.size<=bz∧(W.cell? ⟨bx,0,none⟩=some (.string x.p.1.1)∧W.cell? ⟨bx,1,none⟩=some (.int .i64 x.p.1.2)∧W.cell? ⟨bz,0,none⟩=some (.string x.p.2.1)∧W.cell? ⟨bz,1,none⟩=some (.int .i64 x.p.2.2)∧W.cell? ⟨bx,3,none⟩=none∧W.cell? ⟨bz,3,none⟩=none)∧a'={ tmps:=#[.slice aa la.length ca,.slice ab lb.length cb,undef,undef,.pointer (some ⟨w.heap.size,0,none⟩),.pointer (some ⟨w.heap.size + 1,0,none⟩),.pointer (some ⟨w2.heap.size,0,none⟩),.pointer (some ⟨bx,0,none⟩),.pointer (some ⟨bz,0,none⟩),.slice aa la.length ca,.bool true,.bool false,.bool false,.slice ab lb.length cb,.bool true,.bool false,.bool false,.slice aa la.length ca,.slice ab lb.length cb,.func (.func 177) #[] #[.pointer (some ⟨w2.heap.size + 1,0,none⟩),.pointer (some ⟨w2.heap.size + 1 + 1,0,none⟩)],.agg #[.string x.p.1.1,.int .i64 x.p.1.2],.agg #[.string x.p.2.1,.int .i64 x.p.2.2],undef,undef,undef,undef,undef,undef,undef,undef,undef,undef,undef],defers:=[] })
  (fun x a' s A B row hs hg hr=>by
   obtain ⟨bx,bz,h1,h2,h3,h4⟩:=hs
   exact ⟨bx,bz,h1,h2,⟨cell_kept h3.1 hg (fun r e=>(hr r e).2),cell_kept h3.2.1 hg (fun r e=>(hr r e).2),cell_kept h3.2.2.1 hg (fun r e=>(hr r e).2),cell_kept h3.2.2.2.1 hg (fun r e=>(hr r e).2),none_kept h3.1 h3.2.2.2.2.1 hg (fun r e=>(hr r e).2),none_kept h3.2.2.1 h3.2.2.2.2.2 hg (fun r e=>(hr r e).2)⟩,h4⟩) ?assign ?body ?done ?stop
 case assign=>
  rintro l pre x W K ⟨hI,hB⟩ hK
  simp only [encP]
  gi_wp2
  have hb2:Below W.heap.size W ((W.alloc (.cells #[.string x.p.1.1,.int .i64 x.p.1.2] 144)).alloc (.cells #[.string x.p.2.1,.int .i64 x.p.2.2] 144)):=((Below.refl _ _).alloc (Nat.le_refl _) _).alloc (by simp) _
  exact hK _ _ (keepsFrom_below _ hb2) (KS.of_below hb2) ⟨hI.below hb2,hB.trans (hb2.mono hB.size)⟩ ⟨W.heap.size,W.heap.size + 1,hI.2.2.2,Nat.le_succ_of_le hI.2.2.2,⟨by simp [go_sem],by simp [go_sem],by simp [go_sem],by simp [go_sem],by simp [go_sem],by simp [go_sem]⟩,rfl⟩
 case body=>
  rintro l pre x a' W hle ⟨r,hr⟩ ⟨⟨hR,⟨jv,hc,hf,hg,hnil⟩,hlen,hW0⟩,hB⟩ ⟨bx,bz,h1,h2,⟨x0,x1,z0,z1,x3,z3⟩,rfl⟩ hlt
  have HIL:=join_len pre
  obtain ⟨ag,capg,rfl,hrow⟩:=hg.shape
  rw [HIL] at hc hnil hg
  by_cases h12:pre.length=12
  ·have h12':((pre.length:Int) == 12)=true:=by simp [h12]
   obtain ⟨c0,f0,c1,f1⟩:=id hR
   have HR:Hid (∀ W',W'=(W.setCell ⟨w.heap.size,0,none⟩ (.slice none 0 0)).setCell ⟨w.heap.size + 1,0,none⟩ (.bool false)->KeepsFrom W0.heap.size W W'∧(12 < (pre ++ [x]).length∧Res2 w.heap.size W')∧Below w.heap.size w W'):=by
    rintro W' rfl
    refine ⟨((KeepsOthers.setCell _ _ _).trans (KeepsOthers.setCell _ _ _)).from _,⟨by simp;omega,⟨by simp [go_sem,c0],by simp [go_sem,f0],by simp [go_sem,c1],by simp [go_sem,f1]⟩⟩,(hB.setCell (p:=⟨w.heap.size,0,none⟩) (Nat.le_refl _) _).setCell (p:=⟨w.heap.size + 1,0,none⟩) (Nat.le_succ _) _⟩
   gi_wp2_with fail
   have q:=HR.out _ rfl
   exact ⟨q.1,⟨rfl,q.2.1⟩,q.2.2⟩
  have h12':((pre.length:Int) == 12)=false:=by simp;omega
  have HFIN:Hid (∀ (w6 w7:World) (v7:Value),Below W.heap.size W w6->Gath w7 W0.heap.size v7 (joinP (pre.map PM.p) ++ [laterM x.p.1 x.p.2])->Appended W0.heap.size w6 w7 ->
    KeepsFrom W0.heap.size W (w7.setCell ⟨w2.heap.size,0,none⟩ v7)∧KS w.heap.size (w2.heap.size + 1) W (w7.setCell ⟨w2.heap.size,0,none⟩ v7)∧JInv w.heap.size w2.heap.size W0.heap.size (pre ++ [x]) (w7.setCell ⟨w2.heap.size,0,none⟩ v7)∧Below w.heap.size w (w7.setCell ⟨w2.heap.size,0,none⟩ v7)):=by
   intro w6 w7 v7 b6 hg7 ha7
   have hW6:W0.heap.size<=w6.heap.size:=Nat.le_trans hW0 b6.size
   have far7:=ha7.far hW6
   have cJ7:w7.cell? ⟨w2.heap.size,0,none⟩=some (.slice ag pre.length capg):=(far7.cell (p:=⟨w2.heap.size,0,none⟩) (by simp only;omega)).trans (cell_on b6 (block_lt_of_cell hc) hc)
   have fJ7:w7.frozen? ⟨w2.heap.size,0,none⟩=false:=(far7.frozen (p:=⟨w2.heap.size,0,none⟩) (by simp only;omega)).trans ((b6.frozen (p:=⟨w2.heap.size,0,none⟩) (by simp only;omega)).trans hf)
   have hz7:=(KeepsOthers.setCell w7 ⟨w2.heap.size,0,none⟩ v7).size
   refine ⟨(keepsFrom_below _ b6).trans ((ha7.keeps.trans (KeepsOthers.setCell _ _ _)).from _),((KS.of_below b6).trans (ha7.ks B0.size)).trans ⟨hz7,fun k o hk h _=>?_⟩,⟨((hR.below b6).upto far7 (by omega)).set (by omega) (by omega) v7,⟨v7,World.cell?_setCell_same' _ _ _ (by rw [cJ7];rfl),by simp [go_sem,fJ7], ?_,fun e=>by simp at e⟩,by simp;omega,by have:=ha7.size;omega⟩, ?_⟩
   ·rw [Below.heap_setCell _ _ _ _ (by simp only;omega)];exact h
   ·rw [join_snoc]
    exact hg7.far fun k h1 h2=>Below.heap_setCell _ _ _ _ (by simp only;omega)
   ·exact (ha7.below (hB.trans (b6.mono hB.size)) B0.size (Nat.le_trans B0.size hW6)).setCell (p:=⟨w2.heap.size,0,none⟩) (by simp only;omega) _
  clear h12
  gi_wp2_with fail
  have HLX:Hid (bx < W.heap.size):=block_lt_of_cell x0
  have HLZ:Hid (bz < W.heap.size):=block_lt_of_cell z0
  have hdr:Below W.heap.size W W.drew:=(Below.refl _ _).drew
  have hS4:∀ u,Below W.heap.size W u->u.cell? ⟨bx,0,none⟩=some (.string x.p.1.1)∧u.cell? ⟨bx,1,none⟩=some (.int .i64 x.p.1.2)∧u.cell? ⟨bz,0,none⟩=some (.string x.p.2.1)∧u.cell? ⟨bz,1,none⟩=some (.int .i64 x.p.2.2):=fun u hu=>
   ⟨cell_on hu (block_lt_of_cell x0) x0,cell_on hu (block_lt_of_cell x1) x1,cell_on hu (block_lt_of_cell z0) z0,cell_on hu (block_lt_of_cell z1) z1⟩
  have HS4:Hid _:=hS4
  have hSJ:∀ u,Below W.heap.size W u->u.cell? ⟨w2.heap.size,0,none⟩=some (.slice ag pre.length capg):=fun u hu=>cell_on hu (block_lt_of_cell hc) hc
  have HSJ:Hid _:=hSJ
  clear hS4 hSJ
  refine wpIn_region_heldR (S:=fun u=>u.cell? ⟨bx,0,none⟩=some (.string x.p.1.1)∧u.cell? ⟨bx,1,none⟩=some (.int .i64 x.p.1.2)∧u.cell? ⟨bz,0,none⟩=some (.string x.p.2.1)∧u.cell? ⟨bz,1,none⟩=some (.int .i64 x.p.2.2)) (by kernel_rfl) (by kernel_rfl) (fun ⟨_,_,h⟩=>h) ?_
  refine wpAnyH_take (i:=1) (v:=.agg #[.string x.p.1.1,.int .i64 x.p.1.2]) rfl (by kernel_rfl) (by kernel_rfl) (by kernel_rfl) (fun _ _ _ h=>h) (Or.inl ⟨by rfl, ?_⟩) ⟨x0,x1,z0,z1⟩ ?_
  ·rintro u ⟨q1,q2,q3,q4⟩
   go_simp
  simp only [Act.put,List.setIfInBounds_toArray]
  refine wpAnyH_take (i:=2) (v:=.agg #[.string x.p.2.1,.int .i64 x.p.2.2]) rfl (by kernel_rfl) (by kernel_rfl) (by kernel_rfl) (fun _ _ _ h=>h) (Or.inl ⟨by rfl, ?_⟩) ⟨x0,x1,z0,z1⟩ ?_
  ·rintro u ⟨q1,q2,q3,q4⟩
   go_simp
  simp only [Act.put]
  refine wpAnyH_ready (rs:=[0,3]) (by kernel_rfl) (by simp) ?_
  refine AllReadyH.cons rfl (fun K hK=>?_) (AllReadyH.cons rfl (fun K hK=>?_) AllReadyH.nil)
  ·rw [if_pos (by rfl)]
   have hcJ:=HSJ.out _ hdr
   go_simp
   refine hK.out _ _ (HS4.out _ hdr) (fun _=>?_)
   clear hK K hcJ
   refine wpAnyH_ready (rs:=[3]) (by kernel_rfl) (by simp) ?_
   refine AllReadyH.cons rfl (fun K hK=>?_) AllReadyH.nil
   rw [if_pos (by rfl)]
   go_simp
   refine (later_any _ _ _).mono ?_
   rintro e w4 ⟨rfl,hb4⟩
   have b4:=hdr.trans (hb4.mono hdr.size)
   refine hK.out _ _ (HS4.out _ b4) (fun _=>?_)
   clear hK K
   refine wpAnyH_ready (rs:=[4]) (by kernel_rfl) (by simp) ?_
   refine AllReadyH.cons rfl (fun K hK=>?_) AllReadyH.nil
   rw [if_pos (by rfl)]
   go_simp
   refine (fresh_any _ _ _ (by have:=later_size x;omega)).mono ?_
   rintro e w5 ⟨rfl,hb5⟩
   have b5:=b4.trans (hb5.mono b4.size)
   refine hK.out _ _ (HS4.out _ b5) (fun _=>?_)
   clear hK K
   refine wpAnyH_ready (rs:=[5]) (by kernel_rfl) (by simp) ?_
   refine AllReadyH.cons rfl (fun K hK=>?_) AllReadyH.nil
   rw [if_pos (by rfl)]
   go_simp
   have b6:=b5.alloc b5.size (.cells #[.string (laterM x.p.1 x.p.2).1,.int .i64 (laterM x.p.1 x.p.2).2] 144)
   refine hK.out _ _ (HS4.out _ b6) (fun _=>?_)
   clear hK K
   refine wpAnyH_ready (rs:=[6]) (by kernel_rfl) (by simp) ?_
   refine AllReadyH.cons rfl (fun K hK=>?_) AllReadyH.nil
   rw [if_pos (by rfl)]
   have m0:=box0 w5 (.string (laterM x.p.1 x.p.2).1) (.int .i64 (laterM x.p.1 x.p.2).2) 144
   have m1:=box1 w5 (.string (laterM x.p.1 x.p.2).1) (.int .i64 (laterM x.p.1 x.p.2).2) 144
   generalize hw6:w5.alloc (.cells #[.string (laterM x.p.1 x.p.2).1,.int .i64 (laterM x.p.1 x.p.2).2] 144)=w6 at *
   clear hw6
   refine wp_append_mark _ _ rfl W0.heap.size _ (joinP (pre.map PM.p)) rfl (hg.keep b6) (fun h=>hnil (by simpa [joinP] using h)) ⟨w5.heap.size,0,none⟩ (laterM x.p.1 x.p.2) rfl m0 (by simpa [Addr.add] using m1) (by omega) (Nat.le_trans hW0 b6.size) ?_
   intro v7 w7 hg7 ha7
   have hW6:W0.heap.size<=w6.heap.size:=Nat.le_trans hW0 b6.size
   have far7:=ha7.far hW6
   have cJ7:w7.cell? ⟨w2.heap.size,0,none⟩=some (.slice ag pre.length capg):=(far7.cell (p:=⟨w2.heap.size,0,none⟩) (by simp only;omega)).trans (HSJ.out _ b6)
   have fJ7:w7.frozen? ⟨w2.heap.size,0,none⟩=false:=(far7.frozen (p:=⟨w2.heap.size,0,none⟩) (by simp only;omega)).trans ((b6.frozen (p:=⟨w2.heap.size,0,none⟩) (by simp only;omega)).trans hf)
   have ks6:KS w.heap.size (w2.heap.size + 1) W w7:=(KS.of_below b6).trans (ha7.ks B0.size)
   have nx:bx < W.heap.size:=HLX.out
   have nz:bz < W.heap.size:=HLZ.out
   refine hK.out _ _ ⟨ks6.cell (.inr ⟨by omega,x3⟩) x0,ks6.cell (.inr ⟨by omega,x3⟩) x1,ks6.cell (.inr ⟨by omega,z3⟩) z0,ks6.cell (.inr ⟨by omega,z3⟩) z1⟩ (fun hS7=>?_)
   clear hK K
   refine wpAnyH_ready (rs:=[7]) (by kernel_rfl) (by simp) ?_
   refine AllReadyH.cons rfl (fun K hK=>?_) AllReadyH.nil
   rw [if_pos (by rfl)]
   obtain ⟨a7,n7,rfl,hrow7⟩:=hg7.shape
   go_simp
   refine hK.out _ _ ⟨(far_set _ _ (by omega)).trans hS7.1,(far_set _ _ (by omega)).trans hS7.2.1,(far_set _ _ (by omega)).trans hS7.2.2.1,(far_set _ _ (by omega)).trans hS7.2.2.2⟩ (fun _=>?_)
   refine wpAnyH_done (by kernel_rfl) ?_ _
   refine HFIN.out w6 w7 _ b6 ?_ ha7
   simp only [List.length_append,List.length_cons,List.length_nil,Nat.zero_add,HIL] at hg7
   exact hg7
  ·rw [if_pos (by rfl)]
   go_simp
   refine (later_any _ _ _).mono ?_
   rintro e w4 ⟨rfl,hb4⟩
   have b4:=hdr.trans (hb4.mono hdr.size)
   refine hK.out _ _ (HS4.out _ b4) (fun _=>?_)
   clear hK K
   refine wpAnyH_ready (rs:=[0,4]) (by kernel_rfl) (by simp) ?_
   refine AllReadyH.cons rfl (fun K hK=>?_) (AllReadyH.cons rfl (fun K hK=>?_) AllReadyH.nil)
   ·rw [if_pos (by rfl)]
    have hcJ:=HSJ.out _ b4
    go_simp
    refine hK.out _ _ (HS4.out _ b4) (fun _=>?_)
    clear hK K hcJ
    refine wpAnyH_ready (rs:=[4]) (by kernel_rfl) (by simp) ?_
    refine AllReadyH.cons rfl (fun K hK=>?_) AllReadyH.nil
    rw [if_pos (by rfl)]
    go_simp
    refine (fresh_any _ _ _ (by have:=later_size x;omega)).mono ?_
    rintro e w5 ⟨rfl,hb5⟩
    have b5:=b4.trans (hb5.mono b4.size)
    refine hK.out _ _ (HS4.out _ b5) (fun _=>?_)
    clear hK K
    refine wpAnyH_ready (rs:=[5]) (by kernel_rfl) (by simp) ?_
    refine AllReadyH.cons rfl (fun K hK=>?_) AllReadyH.nil
    rw [if_pos (by rfl)]
    go_simp
    have b6:=b5.alloc b5.size (.cells #[.string (laterM x.p.1 x.p.2).1,.int .i64 (laterM x.p.1 x.p.2).2] 144)
    refine hK.out _ _ (HS4.out _ b6) (fun _=>?_)
    clear hK K
    refine wpAnyH_ready (rs:=[6]) (by kernel_rfl) (by simp) ?_
    refine AllReadyH.cons rfl (fun K hK=>?_) AllReadyH.nil
    rw [if_pos (by rfl)]
    have m0:=box0 w5 (.string (laterM x.p.1 x.p.2).1) (.int .i64 (laterM x.p.1 x.p.2).2) 144
    have m1:=box1 w5 (.string (laterM x.p.1 x.p.2).1) (.int .i64 (laterM x.p.1 x.p.2).2) 144
    generalize hw6:w5.alloc (.cells #[.string (laterM x.p.1 x.p.2).1,.int .i64 (laterM x.p.1 x.p.2).2] 144)=w6 at *
    clear hw6
    refine wp_append_mark _ _ rfl W0.heap.size _ (joinP (pre.map PM.p)) rfl (hg.keep b6) (fun h=>hnil (by simpa [joinP] using h)) ⟨w5.heap.size,0,none⟩ (laterM x.p.1 x.p.2) rfl m0 (by simpa [Addr.add] using m1) (by omega) (Nat.le_trans hW0 b6.size) ?_
    intro v7 w7 hg7 ha7
    have hW6:W0.heap.size<=w6.heap.size:=Nat.le_trans hW0 b6.size
    have far7:=ha7.far hW6
    have cJ7:w7.cell? ⟨w2.heap.size,0,none⟩=some (.slice ag pre.length capg):=(far7.cell (p:=⟨w2.heap.size,0,none⟩) (by simp only;omega)).trans (HSJ.out _ b6)
    have fJ7:w7.frozen? ⟨w2.heap.size,0,none⟩=false:=(far7.frozen (p:=⟨w2.heap.size,0,none⟩) (by simp only;omega)).trans ((b6.frozen (p:=⟨w2.heap.size,0,none⟩) (by simp only;omega)).trans hf)
    have ks6:KS w.heap.size (w2.heap.size + 1) W w7:=(KS.of_below b6).trans (ha7.ks B0.size)
    have nx:bx < W.heap.size:=HLX.out
    have nz:bz < W.heap.size:=HLZ.out
    refine hK.out _ _ ⟨ks6.cell (.inr ⟨by omega,x3⟩) x0,ks6.cell (.inr ⟨by omega,x3⟩) x1,ks6.cell (.inr ⟨by omega,z3⟩) z0,ks6.cell (.inr ⟨by omega,z3⟩) z1⟩ (fun hS7=>?_)
    clear hK K
    refine wpAnyH_ready (rs:=[7]) (by kernel_rfl) (by simp) ?_
    refine AllReadyH.cons rfl (fun K hK=>?_) AllReadyH.nil
    rw [if_pos (by rfl)]
    obtain ⟨a7,n7,rfl,hrow7⟩:=hg7.shape
    go_simp
    refine hK.out _ _ ⟨(far_set _ _ (by omega)).trans hS7.1,(far_set _ _ (by omega)).trans hS7.2.1,(far_set _ _ (by omega)).trans hS7.2.2.1,(far_set _ _ (by omega)).trans hS7.2.2.2⟩ (fun _=>?_)
    refine wpAnyH_done (by kernel_rfl) ?_ _
    refine HFIN.out w6 w7 _ b6 ?_ ha7
    simp only [List.length_append,List.length_cons,List.length_nil,Nat.zero_add,HIL] at hg7
    exact hg7
   ·rw [if_pos (by rfl)]
    go_simp
    refine (fresh_any _ _ _ (by have:=later_size x;omega)).mono ?_
    rintro e w5 ⟨rfl,hb5⟩
    have b5:=b4.trans (hb5.mono b4.size)
    refine hK.out _ _ (HS4.out _ b5) (fun _=>?_)
    clear hK K
    refine wpAnyH_ready (rs:=[0,5]) (by kernel_rfl) (by simp) ?_
    refine AllReadyH.cons rfl (fun K hK=>?_) (AllReadyH.cons rfl (fun K hK=>?_) AllReadyH.nil)
    ·rw [if_pos (by rfl)]
     have hcJ:=HSJ.out _ b5
     go_simp
     refine hK.out _ _ (HS4.out _ b5) (fun _=>?_)
     clear hK K hcJ
     refine wpAnyH_ready (rs:=[5]) (by kernel_rfl) (by simp) ?_
     refine AllReadyH.cons rfl (fun K hK=>?_) AllReadyH.nil
     rw [if_pos (by rfl)]
     go_simp
     have b6:=b5.alloc b5.size (.cells #[.string (laterM x.p.1 x.p.2).1,.int .i64 (laterM x.p.1 x.p.2).2] 144)
     refine hK.out _ _ (HS4.out _ b6) (fun _=>?_)
     clear hK K
     refine wpAnyH_ready (rs:=[6]) (by kernel_rfl) (by simp) ?_
     refine AllReadyH.cons rfl (fun K hK=>?_) AllReadyH.nil
     rw [if_pos (by rfl)]
     have m0:=box0 w5 (.string (laterM x.p.1 x.p.2).1) (.int .i64 (laterM x.p.1 x.p.2).2) 144
     have m1:=box1 w5 (.string (laterM x.p.1 x.p.2).1) (.int .i64 (laterM x.p.1 x.p.2).2) 144
     generalize hw6:w5.alloc (.cells #[.string (laterM x.p.1 x.p.2).1,.int .i64 (laterM x.p.1 x.p.2).2] 144)=w6 at *
     clear hw6
     refine wp_append_mark _ _ rfl W0.heap.size _ (joinP (pre.map PM.p)) rfl (hg.keep b6) (fun h=>hnil (by simpa [joinP] using h)) ⟨w5.heap.size,0,none⟩ (laterM x.p.1 x.p.2) rfl m0 (by simpa [Addr.add] using m1) (by omega) (Nat.le_trans hW0 b6.size) ?_
     intro v7 w7 hg7 ha7
     have hW6:W0.heap.size<=w6.heap.size:=Nat.le_trans hW0 b6.size
     have far7:=ha7.far hW6
     have cJ7:w7.cell? ⟨w2.heap.size,0,none⟩=some (.slice ag pre.length capg):=(far7.cell (p:=⟨w2.heap.size,0,none⟩) (by simp only;omega)).trans (HSJ.out _ b6)
     have fJ7:w7.frozen? ⟨w2.heap.size,0,none⟩=false:=(far7.frozen (p:=⟨w2.heap.size,0,none⟩) (by simp only;omega)).trans ((b6.frozen (p:=⟨w2.heap.size,0,none⟩) (by simp only;omega)).trans hf)
     have ks6:KS w.heap.size (w2.heap.size + 1) W w7:=(KS.of_below b6).trans (ha7.ks B0.size)
     have nx:bx < W.heap.size:=HLX.out
     have nz:bz < W.heap.size:=HLZ.out
     refine hK.out _ _ ⟨ks6.cell (.inr ⟨by omega,x3⟩) x0,ks6.cell (.inr ⟨by omega,x3⟩) x1,ks6.cell (.inr ⟨by omega,z3⟩) z0,ks6.cell (.inr ⟨by omega,z3⟩) z1⟩ (fun hS7=>?_)
     clear hK K
     refine wpAnyH_ready (rs:=[7]) (by kernel_rfl) (by simp) ?_
     refine AllReadyH.cons rfl (fun K hK=>?_) AllReadyH.nil
     rw [if_pos (by rfl)]
     obtain ⟨a7,n7,rfl,hrow7⟩:=hg7.shape
     go_simp
     refine hK.out _ _ ⟨(far_set _ _ (by omega)).trans hS7.1,(far_set _ _ (by omega)).trans hS7.2.1,(far_set _ _ (by omega)).trans hS7.2.2.1,(far_set _ _ (by omega)).trans hS7.2.2.2⟩ (fun _=>?_)
     refine wpAnyH_done (by kernel_rfl) ?_ _
     refine HFIN.out w6 w7 _ b6 ?_ ha7
     simp only [List.length_append,List.length_cons,List.length_nil,Nat.zero_add,HIL] at hg7
     exact hg7
    ·rw [if_pos (by rfl)]
     go_simp
     have b6:=b5.alloc b5.size (.cells #[.string (laterM x.p.1 x.p.2).1,.int .i64 (laterM x.p.1 x.p.2).2] 144)
     refine hK.out _ _ (HS4.out _ b6) (fun _=>?_)
     clear hK K
     refine wpAnyH_ready (rs:=[0]) (by kernel_rfl) (by simp) ?_
     refine AllReadyH.cons rfl (fun K hK=>?_) AllReadyH.nil
     rw [if_pos (by rfl)]
     have hcJ:=HSJ.out _ b6
     go_simp
     refine hK.out _ _ (HS4.out _ b6) (fun _=>?_)
     clear hK K hcJ
     refine wpAnyH_ready (rs:=[6]) (by kernel_rfl) (by simp) ?_
     refine AllReadyH.cons rfl (fun K hK=>?_) AllReadyH.nil
     rw [if_pos (by rfl)]
     have m0:=box0 w5 (.string (laterM x.p.1 x.p.2).1) (.int .i64 (laterM x.p.1 x.p.2).2) 144
     have m1:=box1 w5 (.string (laterM x.p.1 x.p.2).1) (.int .i64 (laterM x.p.1 x.p.2).2) 144
     generalize hw6:w5.alloc (.cells #[.string (laterM x.p.1 x.p.2).1,.int .i64 (laterM x.p.1 x.p.2).2] 144)=w6 at *
     clear hw6
     refine wp_append_mark _ _ rfl W0.heap.size _ (joinP (pre.map PM.p)) rfl (hg.keep b6) (fun h=>hnil (by simpa [joinP] using h)) ⟨w5.heap.size,0,none⟩ (laterM x.p.1 x.p.2) rfl m0 (by simpa [Addr.add] using m1) (by omega) (Nat.le_trans hW0 b6.size) ?_
     intro v7 w7 hg7 ha7
     have hW6:W0.heap.size<=w6.heap.size:=Nat.le_trans hW0 b6.size
     have far7:=ha7.far hW6
     have cJ7:w7.cell? ⟨w2.heap.size,0,none⟩=some (.slice ag pre.length capg):=(far7.cell (p:=⟨w2.heap.size,0,none⟩) (by simp only;omega)).trans (HSJ.out _ b6)
     have fJ7:w7.frozen? ⟨w2.heap.size,0,none⟩=false:=(far7.frozen (p:=⟨w2.heap.size,0,none⟩) (by simp only;omega)).trans ((b6.frozen (p:=⟨w2.heap.size,0,none⟩) (by simp only;omega)).trans hf)
     have ks6:KS w.heap.size (w2.heap.size + 1) W w7:=(KS.of_below b6).trans (ha7.ks B0.size)
     have nx:bx < W.heap.size:=HLX.out
     have nz:bz < W.heap.size:=HLZ.out
     refine hK.out _ _ ⟨ks6.cell (.inr ⟨by omega,x3⟩) x0,ks6.cell (.inr ⟨by omega,x3⟩) x1,ks6.cell (.inr ⟨by omega,z3⟩) z0,ks6.cell (.inr ⟨by omega,z3⟩) z1⟩ (fun hS7=>?_)
     clear hK K
     refine wpAnyH_ready (rs:=[7]) (by kernel_rfl) (by simp) ?_
     refine AllReadyH.cons rfl (fun K hK=>?_) AllReadyH.nil
     rw [if_pos (by rfl)]
     obtain ⟨a7,n7,rfl,hrow7⟩:=hg7.shape
     go_simp
     refine hK.out _ _ ⟨(far_set _ _ (by omega)).trans hS7.1,(far_set _ _ (by omega)).trans hS7.2.1,(far_set _ _ (by omega)).trans hS7.2.2.1,(far_set _ _ (by omega)).trans hS7.2.2.2⟩ (fun _=>?_)
     refine wpAnyH_done (by kernel_rfl) ?_ _
     refine HFIN.out w6 w7 _ b6 ?_ ha7
     simp only [List.length_append,List.length_cons,List.length_nil,Nat.zero_add,HIL] at hg7
     exact hg7
 case done=>
  rintro D ys W hD hS ⟨⟨hR,⟨jv,hc,hf,hg,hnil⟩,hlen,hW0⟩,hB⟩ hK
  have hJ:=joinP_of (stamp_sorted hya) (stamp_sorted hyb) (pairs_spec _ la lb (stamp_sorted hya) (stamp_sorted hyb) (Nat.le_refl _))
  rw [<- hS] at hJ
  have HIL:=join_len ys
  obtain ⟨ag,capg,rfl,hrow⟩:=hg.shape
  obtain ⟨c0,f0,c1,f1⟩:=id hR
  have HJ:Hid (JoinOf la lb (joinP (ys.map PM.p))):=hJ
  clear hJ
  generalize joinP (ys.map PM.p)=jl at *
  have hz:=hR.lt
  rw [HIL] at hc hg
  gi_wp2
  have hg':Gath ((W.setCell ⟨w.heap.size,0,none⟩ (.slice ag ys.length capg)).setCell ⟨w.heap.size + 1,0,none⟩ (.bool true)) W0.heap.size (.slice ag ys.length capg) jl:=
   hg.far fun k h1 h2=>(Below.heap_setCell _ _ _ _ (by simp only;omega)).trans (Below.heap_setCell _ _ _ _ (by simp only;omega))
  have hK':=((KeepsOthers.setCell W ⟨w.heap.size,0,none⟩ (.slice ag ys.length capg)).trans (KeepsOthers.setCell _ ⟨w.heap.size + 1,0,none⟩ (.bool true))).same D _ hK rfl
  refine ⟨by simp,.inl ⟨_,_,rfl,run_takeDeferred hK', ?_⟩⟩
  have d0:((W.setCell ⟨w.heap.size,0,none⟩ (.slice ag ys.length capg)).setCell ⟨w.heap.size + 1,0,none⟩ (.bool true)).cell? ⟨w.heap.size,0,none⟩=some (.slice ag ys.length capg):=by simp [go_sem,c0]
  have d1:((W.setCell ⟨w.heap.size,0,none⟩ (.slice ag ys.length capg)).setCell ⟨w.heap.size + 1,0,none⟩ (.bool true)).cell? ⟨w.heap.size + 1,0,none⟩=some (.bool true):=by simp [go_sem,c1]
  have hr':∀ r,some D=some r->∃ o:Obj,((W.setCell ⟨w.heap.size,0,none⟩ (.slice ag ys.length capg)).setCell ⟨w.heap.size + 1,0,none⟩ (.bool true)).heap[r]?=some o∧o.isCells=false:=fun r e=>by cases e;exact ⟨_,hK',rfl⟩
  have e0:=cell_kept d0 (grownBy_putObj' _ D (.deferred none)) hr'
  have e1:=cell_kept d1 (grownBy_putObj' _ D (.deferred none)) hr'
  have hg5:=hg'.kept (grownBy_putObj' _ D (.deferred none)) hr'
  have hB2:=((hB.setCell (p:=⟨w.heap.size,0,none⟩) (Nat.le_refl _) (.slice ag ys.length capg)).setCell (p:=⟨w.heap.size + 1,0,none⟩) (Nat.le_succ _) (.bool true)).trans (belowK_b (w:=w) (Nat.le_refl _) _ D _ (.deferred none) (by omega) hK' rfl rfl)
  refine ⟨.tuple #[.slice ag ys.length capg,.bool true], ?_,⟨_,jl,true,rfl,hg5.lower B0.size,.inr ⟨hya,hyb,jl,HJ.out,.inl ⟨by omega,rfl,rfl⟩⟩⟩,hB2⟩
  simp [results,Tryz.f141,go_sem,e0,e1]
 case stop=>
  rintro D c pre W hD hpre ⟨⟨rfl,h12,hR⟩,hB⟩ hK
  have hJ:=joinP_of (stamp_sorted hya) (stamp_sorted hyb) (pairs_spec _ la lb (stamp_sorted hya) (stamp_sorted hyb) (Nat.le_refl _))
  have hlen:12 < (joinP (pairsF (la.length + lb.length) la lb)).length:=by
   have:=hpre.length_le
   simp only [joinP,List.length_map] at this ⊢
   omega
  gi_wp2
  refine ⟨by simp,.inl ⟨_,_,rfl,run_takeDeferred hK, ?_⟩⟩
  have hR5:=hR.kept (grownBy_putObj' _ D (.deferred none)) (fun r e=>by cases e;exact ⟨_,hK,rfl⟩)
  refine ⟨.tuple #[.slice none 0 0,.bool false], ?_,⟨_,[],false,rfl,Gath.none _ _,.inr ⟨hya,hyb,_,hJ,.inr ⟨hlen,rfl,rfl⟩⟩⟩,hB.trans (belowK_b (w:=w) (Nat.le_refl _) W D _ _ (by omega) hK rfl rfl)⟩
  simp [results,Tryz.f141,go_sem,hR5.c0,hR5.c1]
end Go.Proofs.YtpfhegengmlkmacGreatDoor
