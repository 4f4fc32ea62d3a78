/- Texts of this claim. -/
import Derived.Test.YtpfhegengmlkmacGreatDoorZt28
namespace Go.Proofs.YtpfhegengmlkmacGreatDoor
open Go.RowKit Go.BigFrame
set_option maxRecDepth 100000
theorem GathY.blockY {w:World} {B:Nat} {v:Value} {L:List WinY} (h:GathY w B v L) (h0:0 < L.length):∃ t c,v=.slice (some ⟨t,0,none⟩) L.length c∧L.length<=c∧B<=t∧t < w.heap.size∧(∀ k,(h:k < L.length)->w.cell? ⟨t,k,none⟩=some L[k].v)∧(∀ k,w.frozen? ⟨t,k,none⟩=false)∧∀ p∈L,t < p.lo∨p.hi<=t:=by
 rcases h.own.2 with ⟨_,e⟩ | ⟨g,cap,cur,rfl,hB,hh,hn,hc,hs,ht⟩
 ·omega
 ·have hlt:g < w.heap.size:=(Array.getElem?_eq_some_iff.1 hh).1
  refine ⟨g,cap,rfl,hn,hB,hlt,fun k hk=>?_,fun k=>?_,fun p hp=>h.far p hp g rfl⟩
  ·have:=World.ownsRow.cellAt h.own k (by omega)
   rw [this]
   simp [hk]
  ·simp [World.frozen?,hh]
theorem FreG.full {w w':World} {g:GatL} {e:Ending} (h:FreG w w' g e) (h1:1<=g.ins.length) (hlen:g.wins.length=g.ins.length):∃ b t c0 c1 gm cm L,e=.returned (.agg #[.slice (some ⟨b,0,none⟩) g.ins.length c0,.slice (some ⟨t,0,none⟩) L.length c1,.slice (some ⟨gm,0,none⟩) g.shown.length cm]) ∧
  FullG w' w.heap.size w'.heap.size b t (some ⟨gm,0,none⟩) g.ins L g.shown∧L.map (·.l)=g.wins∧(g.ins.length<=c0∧c0<=maxLen)∧L.length<=c1∧g.shown.length<=cm∧(∀ k,w'.frozen? ⟨t,k,none⟩=false)∧w.heap.size<=gm:=by
 obtain ⟨B,v0,v1,L,gm,cm,hB,rfl,hg0,hg1,hLL,hfar,hgm,hgB,hcm,hom⟩:=h
 have hL:L.length=g.ins.length:=by have:=congrArg List.length hLL;simp only [List.length_map] at this;omega
 obtain ⟨b,c0,rfl,hbB,hsb⟩:=hg0.block (by omega)
 obtain ⟨t,c1,rfl,hc1,htB,htl,hcell,hfz,hft⟩:=hg1.blockY (by omega)
 have hne:b≠t:=fun e=>by
  have hx:=own_types (show World.ownsRow _ _ _ _ _ _ _ from hg0) hg1.own str_unlike
  rcases hx with hx | hx
  ·simp [Value.ownBlock] at hx
  ·exact hx (by rw [e];rfl)
 have hc0:g.ins.length<=c0∧c0<=maxLen:=by
  rcases hg0.2 with ⟨_,e⟩ | ⟨g',cap,cur,e,_,_,hn,hmx,_⟩
  ·omega
  ·simp only [Value.slice.injEq] at e
   omega
 have hlow:∀ p∈L,gm < p.lo:=fun p hp=>by have:=(hg1.at_ p hp).2.1;omega
 refine ⟨b,t,c0,c1,gm,cm,L,rfl,⟨hsb,⟨htl,hcell,fun p hp=>(hg1.at_ p hp).1,hft,fun p hp=>?_,hg1.dis.imp fun h=>.inl h⟩,hne,⟨by omega,hsb.lt⟩,⟨by omega,htl⟩,fun p hp=>hfar p hp b rfl,.inr ⟨gm,rfl,hgm,hom.lt,by omega,by omega,hom,fun p hp=>.inl (hlow p hp)⟩⟩,hLL,hc0,hc1,hcm,hfz,hgm⟩
 have:=(hg1.at_ p hp).2
 omega
theorem FullG.widen {w:World} {lo hi lo' hi' b t:Nat} {a2:Option Addr} {nm:List ByteArray} {L:List WinY} {m:List (ByteArray×Int)} (h:FullG w lo hi b t a2 nm L m) (h1:lo'<=lo) (h2:hi<=hi'):FullG w lo' hi' b t a2 nm L m:=
 ⟨h.names,⟨h.wins.lt,h.wins.cell,h.wins.at_,h.wins.far,fun p hp=>by have:=h.wins.in_ p hp;omega,h.wins.dis⟩,h.bt,by have:=h.bin;omega,by have:=h.tin;omega,h.bfar,by
  rcases h.stamp with e | ⟨s,e,h3,h4,h5⟩
  ·exact .inl e
  ·exact .inr ⟨s,e,by omega,by omega,h5⟩⟩
theorem FullG.setWin {w:World} {lo hi b t:Nat} {a2:Option Addr} {nm:List ByteArray} {L:List WinY} {m:List (ByteArray×Int)} (h:FullG w lo hi b t a2 nm L m) {k:Nat} (hk:k < L.length) {q:WinY} (hq:∃ a c,q.v=.slice a q.l.length c∧q.l.length<=c∧SafeI w q.lo q.hi a q.l) (hin:lo<=q.lo∧q.lo<=q.hi∧q.hi<=hi) (hqb:b < q.lo∨q.hi<=b) (hqt:t < q.lo∨q.hi<=t) (hqs:∀ s,a2=some ⟨s,0,none⟩->s < q.lo∨q.hi<=s) (hqL:∀ p∈L,p.hi<=q.lo∨q.hi<=p.lo) :
  FullG (w.setCell ⟨t,k,none⟩ q.v) lo hi b t a2 nm (L.set k q) m:=by
 have hbut:But t w (w.setCell ⟨t,k,none⟩ q.v):=(But.refl t w).setCell k q.v
 have hsp:Span t (t + 1) w (w.setCell ⟨t,k,none⟩ q.v):=hbut.span (Nat.le_refl _) (Nat.lt_succ_self _)
 have hmem:∀ p∈L.set k q,p∈L∨p=q:=fun p hp=>List.mem_or_eq_of_mem_set hp
 refine ⟨h.names.span hsp (by have:=h.bt;omega),⟨by simpa using h.wins.lt,fun j hj=>?_,fun p hp=>?_,fun p hp=>?_,fun p hp=>?_, ?_⟩,h.bt,h.bin,h.tin,fun p hp=>?_, ?_⟩
 ·have hj':j < L.length:=by simpa using hj
  rw [List.getElem_set]
  by_cases e:k=j
  ·subst e
   rw [if_pos rfl]
   exact World.cell?_setCell_same' _ _ _ (by rw [h.wins.cell k hk];rfl)
  ·rw [if_neg e]
   have:=h.wins.cell j hj'
   simp [go_sem,this]
 ·rcases hmem p hp with h1 | rfl
  ·obtain ⟨a,c,h2,h3,h4⟩:=h.wins.at_ p h1
   exact ⟨a,c,h2,h3,h4.span hsp (by have:=h.wins.far p h1;omega)⟩
  ·obtain ⟨a,c,h2,h3,h4⟩:=hq
   exact ⟨a,c,h2,h3,h4.span hsp (by omega)⟩
 ·rcases hmem p hp with h1 | rfl
  ·exact h.wins.far p h1
  ·exact hqt
 ·rcases hmem p hp with h1 | rfl
  ·exact h.wins.in_ p h1
  ·exact hin
 ·rw [List.pairwise_iff_getElem]
  intro a c ha hc hac
  have ha':a < L.length:=by simpa using ha
  have hc':c < L.length:=by simpa using hc
  have hd:=List.pairwise_iff_getElem.1 h.wins.dis a c ha' hc' hac
  rw [List.getElem_set,List.getElem_set]
  split
  ·split
   ·omega
   ·exact (hqL _ (List.getElem_mem hc')).symm
  ·split
   ·exact hqL _ (List.getElem_mem ha')
   ·exact hd
 ·rcases hmem p hp with h1 | rfl
  ·exact h.bfar p h1
  ·exact hqb
 ·rcases h.stamp with e | ⟨s,e,h1,h2,h3,h4,h5,h6⟩
  ·exact .inl e
  ·refine .inr ⟨s,e,h1,h2,h3,h4,hbut.own h5 h4,fun p hp=>?_⟩
   rcases hmem p hp with h1 | rfl
   ·exact h6 p h1
   ·exact hqs s e
theorem IsP.code {l:List ItemL} {x:Int} {m:List (ByteArray×Int)} {r:List ItemL} {c:Int} (h:IsP l x m r c):c=1∨c=2∨c=0:=by
 by_cases hw:WinP l∧StampP m∧m≠[]
 ·by_cases ht:TakeP l m
  ·exact .inr (.inr (h.2.2 hw ht).2)
  ·exact .inr (.inl (h.2.1 hw ht).2)
 ·exact .inl (h.1 hw).2
def TakE (w w':World) (g:GatL) (i x:Int) (m:List (ByteArray×Int)) (e:Ending):Prop:=
 (e=.returned (.tuple #[.agg #[.slice none 0 0,.slice none 0 0,.slice none 0 0],.iface 96 (.agg #[.int .i64 2])])∧(¬ InG g i∨(InG g i∧∃ r,IsP (g.wins.getD i.toNat []) x m r 1))) ∨
 (InG g i∧∃ r c b t c0 c1 gm cm L err,e=.returned (.tuple #[.agg #[.slice (some ⟨b,0,none⟩) g.ins.length c0,.slice (some ⟨t,0,none⟩) L.length c1,.slice (some ⟨gm,0,none⟩) g.shown.length cm],err])∧IsP (g.wins.getD i.toNat []) x m r c ∧
  FullG w' w.heap.size w'.heap.size b t (some ⟨gm,0,none⟩) g.ins L g.shown∧(g.shown.length<=cm∧g.ins.length<=c0∧c0<=maxLen)∧((c=2∧L.map (·.l)=g.wins∧err=.iface 96 (.agg #[.int .i64 3]))∨(c=0∧L.map (·.l)=g.wins.set i.toNat r∧err=.nilIface)))
set_option maxHeartbeats 4000000 in
theorem taking_any (a0 a1 a2 am:Option Addr) (c0 c1 c2 cm:Nat) (g:GatL) (i x:Int) (m:List (ByteArray×Int)) (w:World) (hf:FitG g) (hi:g.ins.length<=1048576) (hc:g.ins.length<=c0) (hc2:c0<=maxLen) (r0:RowS w a0 g.ins) (r1:RowW w a1 g.wins) (r2:Row w a2 g.shown) (hfm:FitM m) (hcm:m.length<=cm) (hrm:Row w am m) :
  Calls Tryz.prog 51 #[.agg #[.slice a0 g.ins.length c0,.slice a1 g.wins.length c1,.slice a2 g.shown.length c2],.agg #[.int .i64 i,.int .i64 x,.slice am m.length cm]] w fun e w'=>TakE w w' g i x m e∧Below w.heap.size w w':=by
 have hb0:Below w.heap.size w (((w.alloc (.cells #[.slice a0 g.ins.length c0,.slice a1 g.wins.length c1,.slice a2 g.shown.length c2] 36)).alloc (.cells #[.int .i64 i,.int .i64 x,.slice am m.length cm] 46)).alloc (.cells #[.slice none 0 0,.slice none 0 0,.slice none 0 0] 36)):=(((Below.refl _ _).alloc (Nat.le_refl _) _).alloc (by simp) _).alloc (by simp;omega) _
 have tP:Tri (((w.alloc (.cells #[.slice a0 g.ins.length c0,.slice a1 g.wins.length c1,.slice a2 g.shown.length c2] 36)).alloc (.cells #[.int .i64 i,.int .i64 x,.slice am m.length cm] 46)).alloc (.cells #[.slice none 0 0,.slice none 0 0,.slice none 0 0] 36)) w.heap.size (.slice a0 g.ins.length c0) (.slice a1 g.wins.length c1) (.slice a2 g.shown.length c2):=((tri_new w _ _ _ _).keep ((Below.refl _ _).alloc (Nat.le_refl _) _)).keep ((Below.refl _ _).alloc (Nat.le_refl _) _)
 have tF:Tri (((w.alloc (.cells #[.slice a0 g.ins.length c0,.slice a1 g.wins.length c1,.slice a2 g.shown.length c2] 36)).alloc (.cells #[.int .i64 i,.int .i64 x,.slice am m.length cm] 46)).alloc (.cells #[.slice none 0 0,.slice none 0 0,.slice none 0 0] 36)) (w.heap.size + 1) (.int .i64 i) (.int .i64 x) (.slice am m.length cm):=by
  have h:=tri_new (w.alloc (.cells #[.slice a0 g.ins.length c0,.slice a1 g.wins.length c1,.slice a2 g.shown.length c2] 36)) (.int .i64 i) (.int .i64 x) (.slice am m.length cm) 46
  rw [World.size_alloc] at h
  exact h.keep ((Below.refl _ _).alloc (Nat.le_refl _) _)
 have tR:Tri (((w.alloc (.cells #[.slice a0 g.ins.length c0,.slice a1 g.wins.length c1,.slice a2 g.shown.length c2] 36)).alloc (.cells #[.int .i64 i,.int .i64 x,.slice am m.length cm] 46)).alloc (.cells #[.slice none 0 0,.slice none 0 0,.slice none 0 0] 36)) (w.heap.size + 1 + 1) (.slice none 0 0) (.slice none 0 0) (.slice none 0 0):=by
  have h:=tri_new ((w.alloc (.cells #[.slice a0 g.ins.length c0,.slice a1 g.wins.length c1,.slice a2 g.shown.length c2] 36)).alloc (.cells #[.int .i64 i,.int .i64 x,.slice am m.length cm] 46)) (.slice none 0 0) (.slice none 0 0) (.slice none 0 0) 36
  rw [World.size_alloc,World.size_alloc] at h
  exact h
 go_enter Tryz.func51,Tryz.ntmps51
 go_wp2_with fail
 generalize ((w.alloc (.cells #[.slice a0 g.ins.length c0,.slice a1 g.wins.length c1,.slice a2 g.shown.length c2] 36)).alloc (.cells #[.int .i64 i,.int .i64 x,.slice am m.length cm] 46)).alloc (.cells #[.slice none 0 0,.slice none 0 0,.slice none 0 0] 36)=W0 at *
 refine (implGOk_any a0 a1 a2 c0 c1 c2 g _ hf hi hc hc2 (r0.below hb0) (r1.below hb0) (r2.below hb0)).mono ?_
 rintro e w1 ⟨⟨r,rfl,hr1⟩,b1⟩
 have HR:Hid (r=true↔GatP g):=hr1
 clear hr1
 have B1:Below w.heap.size w w1:=hb0.trans (b1.mono hb0.size)
 replace tP:=tP.keep b1
 replace tF:=tF.keep b1
 replace tR:=tR.keep b1
 have z0:w.heap.size + 2 < w1.heap.size:=block_lt_of_cell tR.c0
 clear b1 hb0
 have HBAD:Hid (∀ X:World,Below w.heap.size w X->(¬ InG g i∨(InG g i∧∃ r,IsP (g.wins.getD i.toNat []) x m r 1))->TakE w (((X.setCell ⟨w.heap.size + 1 + 1,0,none⟩ (.slice none 0 0)).setCell ⟨w.heap.size + 1 + 1,1,none⟩ (.slice none 0 0)).setCell ⟨w.heap.size + 1 + 1,2,none⟩ (.slice none 0 0)) g i x m (.returned (.tuple #[.agg #[.slice none 0 0,.slice none 0 0,.slice none 0 0],.iface 96 (.agg #[.int .i64 2])]))∧Below w.heap.size w (((X.setCell ⟨w.heap.size + 1 + 1,0,none⟩ (.slice none 0 0)).setCell ⟨w.heap.size + 1 + 1,1,none⟩ (.slice none 0 0)).setCell ⟨w.heap.size + 1 + 1,2,none⟩ (.slice none 0 0))):=
  fun X hX h=>⟨.inl ⟨rfl,h⟩,((hX.setCell (by simp only;omega) _).setCell (by simp only;omega) _).setCell (by simp only;omega) _⟩
 by_cases hin:r=true∧0<=i∧i < (g.ins.length:Int)
 ·obtain ⟨rfl,hi0,hi1⟩:=hin
  have HG:Hid (GatP g):=HR.out.1 rfl
  clear HR
  have HLEN:Hid (g.wins.length=g.ins.length):=HG.out.len
  have hiw:i < (g.wins.length:Int):=by have:=HLEN.out;omega
  obtain ⟨k,rfl⟩:∃ k:Nat,i=(k:Int):=⟨i.toNat,by omega⟩
  have hkw:k < g.wins.length:=by omega
  have HIN:Hid (InG g (k:Int)):=⟨HG.out,hi0,hi1⟩
  obtain ⟨bw,ow,rfl,hbw,s1,t1,q1,ht1,hri⟩:=r1.below B1 k hkw
  obtain ⟨p0,p1,p2,_,_,_⟩:=id tP
  obtain ⟨f0,f1,f2,_,_,_⟩:=id tF
  have k1:(k:Int) < (g.wins.length:Int):=by omega
  go_wp2_with fail
  have hbd:Below w1.heap.size w1 w1.drew:=(Below.refl _ _).drew
  have HS:Hid (∀ u:World,Below w1.heap.size w1 u->u.cell? ⟨w.heap.size,1,none⟩=some (.slice (some ⟨bw,ow,none⟩) g.wins.length c1)∧u.cell? ⟨w.heap.size + 1,0,none⟩=some (.int .i64 k)∧u.cell? ⟨w.heap.size + 1,1,none⟩=some (.int .i64 x)∧u.cell? ⟨w.heap.size + 1,2,none⟩=some (.slice am m.length cm)∧u.cell? ⟨bw,ow + k,none⟩=some (.slice s1 g.wins[k].length t1)):=fun u hu=>⟨cell_on hu (by omega) p1,cell_on hu (by omega) f0,cell_on hu (by omega) f1,cell_on hu (by omega) f2,cell_on hu hbw q1⟩
  have SW:=HS.out _ hbd
  refine wp_region_held_drew (S:=fun u=>u.cell? ⟨w.heap.size,1,none⟩=some (.slice (some ⟨bw,ow,none⟩) g.wins.length c1)∧u.cell? ⟨w.heap.size + 1,0,none⟩=some (.int .i64 k)∧u.cell? ⟨w.heap.size + 1,1,none⟩=some (.int .i64 x)∧u.cell? ⟨w.heap.size + 1,2,none⟩=some (.slice am m.length cm)∧u.cell? ⟨bw,ow + k,none⟩=some (.slice s1 g.wins[k].length t1)) (by kernel_rfl) SW (fun _=>?_)
  refine wpAnyH_take (i:=0) (v:=.pointer (some ⟨w.heap.size,1,none⟩)) rfl (by kernel_rfl) (by kernel_rfl) (by kernel_rfl) (fun _ _ _ h=>h) (Or.inl ⟨by rfl, ?_⟩) SW ?_
  ·rintro u ⟨x1,x2,x3,x4,x5⟩
   go_simp
  simp only [Act.put,List.setIfInBounds_toArray]
  refine wpAnyH_take (i:=1) (v:=.slice (some ⟨bw,ow,none⟩) g.wins.length c1) rfl (by kernel_rfl) (by kernel_rfl) (by kernel_rfl) (fun _ _ _ h=>h) (Or.inl ⟨by rfl, ?_⟩) SW ?_
  ·rintro u ⟨x1,x2,x3,x4,x5⟩
   go_simp
  simp only [Act.put]
  refine wpAnyH_take (i:=2) (v:=.pointer (some ⟨w.heap.size + 1,0,none⟩)) rfl (by kernel_rfl) (by kernel_rfl) (by kernel_rfl) (fun _ _ _ h=>h) (Or.inl ⟨by rfl, ?_⟩) SW ?_
  ·rintro u ⟨x1,x2,x3,x4,x5⟩
   go_simp
  simp only [Act.put]
  refine wpAnyH_take (i:=3) (v:=.int .i64 k) rfl (by kernel_rfl) (by kernel_rfl) (by kernel_rfl) (fun _ _ _ h=>h) (Or.inl ⟨by rfl, ?_⟩) SW ?_
  ·rintro u ⟨x1,x2,x3,x4,x5⟩
   go_simp
  simp only [Act.put]
  refine wpAnyH_take (i:=4) (v:=.pointer (some ⟨bw,ow + k,none⟩)) rfl (by kernel_rfl) (by kernel_rfl) (by kernel_rfl) (fun _ _ _ h=>h) (Or.inl ⟨by rfl, ?_⟩) SW ?_
  ·rintro u ⟨x1,x2,x3,x4,x5⟩
   go_simp
  simp only [Act.put]
  refine wpAnyH_take (i:=5) (v:=.slice s1 g.wins[k].length t1) rfl (by kernel_rfl) (by kernel_rfl) (by kernel_rfl) (fun _ _ _ h=>h) (Or.inl ⟨by rfl, ?_⟩) SW ?_
  ·rintro u ⟨x1,x2,x3,x4,x5⟩
   go_simp
  simp only [Act.put]
  refine wpAnyH_take (i:=6) (v:=.pointer (some ⟨w.heap.size + 1,1,none⟩)) rfl (by kernel_rfl) (by kernel_rfl) (by kernel_rfl) (fun _ _ _ h=>h) (Or.inl ⟨by rfl, ?_⟩) SW ?_
  ·rintro u ⟨x1,x2,x3,x4,x5⟩
   go_simp
  simp only [Act.put]
  refine wpAnyH_take (i:=7) (v:=.agg #[.int .i64 x,.slice am m.length cm]) rfl (by kernel_rfl) (by kernel_rfl) (by kernel_rfl) (fun _ _ _ h=>h) (Or.inl ⟨by rfl, ?_⟩) SW ?_
  ·rintro u ⟨x1,x2,x3,x4,x5⟩
   go_simp
  simp only [Act.put]
  refine wpAnyH_ready (rs:=[8]) (by kernel_rfl) (by simp) ?_
  refine AllReadyH.cons rfl (fun K hK=>?_) AllReadyH.nil
  rw [if_pos (by rfl)]
  go_simp
  refine (implPut_any s1 t1 g.wins[k] x am cm m _ (hf.wins.2 k hkw) (hri.below hbd) hfm hcm (hrm.below (B1.trans (hbd.mono B1.size)))).mono ?_
  rintro e w2 ⟨⟨v2,rr,cc,rfl,hP,hg2⟩,b2⟩
  obtain ⟨va,vc,rfl,hvc,hsv⟩:=hg2.safe
  have hb2:Below w1.heap.size w1 w2:=hbd.trans (b2.mono hbd.size)
  have B2:Below w.heap.size w w2:=B1.trans (hb2.mono B1.size)
  have HP:Hid (IsP (g.wins.getD ((k:Nat):Int).toNat []) x m rr cc):=by unfold Hid;rw [Int.toNat_natCast,getD_get _ _ hkw];exact hP
  clear hP
  have S2:=HS.out _ hb2
  refine hK.out _ _ S2 (fun _=>?_)
  clear hK K SW
  refine wpAnyH_take (i:=9) (v:=.tuple #[.slice va rr.length vc,.int .i64 cc]) rfl (by kernel_rfl) (by kernel_rfl) (by kernel_rfl) (fun _ _ _ h=>h) (Or.inl ⟨by rfl, ?_⟩) S2 ?_
  ·rintro u ⟨x1,x2,x3,x4,x5⟩
   go_simp
  simp only [Act.put,List.setIfInBounds_toArray]
  refine wpAnyH_take (i:=10) (v:=.slice va rr.length vc) rfl (by kernel_rfl) (by kernel_rfl) (by kernel_rfl) (fun _ _ _ h=>h) (Or.inl ⟨by rfl, ?_⟩) S2 ?_
  ·rintro u ⟨x1,x2,x3,x4,x5⟩
   go_simp
  simp only [Act.put]
  refine wpAnyH_take (i:=11) (v:=.int .i64 cc) rfl (by kernel_rfl) (by kernel_rfl) (by kernel_rfl) (fun _ _ _ h=>h) (Or.inl ⟨by rfl, ?_⟩) S2 ?_
  ·rintro u ⟨x1,x2,x3,x4,x5⟩
   go_simp
  simp only [Act.put]
  refine wpAnyH_ready (rs:=[12]) (by kernel_rfl) (by simp) ?_
  refine AllReadyH.cons rfl (fun K hK=>?_) AllReadyH.nil
  rw [if_pos (by rfl)]
  go_simp
  refine hK.out _ _ S2 (fun _=>?_)
  clear hK K
  refine wpAnyH_ready (rs:=[13]) (by kernel_rfl) (by simp) ?_
  refine AllReadyH.cons rfl (fun K hK=>?_) AllReadyH.nil
  rw [if_pos (by rfl)]
  go_simp
  refine hK.out _ _ S2 (fun _=>?_)
  clear hK K
  refine wpAnyH_done (by kernel_rfl) ?_ _
  clear S2
  have HI1:Hid (InG g (k:Int)):=HIN.out
  replace tP:=tP.keep hb2
  replace tF:=tF.keep hb2
  replace tR:=tR.keep hb2
  have z2:=hb2.size
  rcases HP.out.code with rfl | rfl | rfl
  ·obtain ⟨d0,d1,d2,d3,d4,d5⟩:=id tR
   go_wp2_with fail
   exact bodyPost_ret (v:=.tuple #[.agg #[.slice none 0 0,.slice none 0 0,.slice none 0 0],.iface 96 (.agg #[.int .i64 2])]) (by simp [results,Tryz.results51,go_sem,d0,d1,d2]) rfl (HBAD.out _ B2 (.inr ⟨HI1.out,_,HP.out⟩))
  ·obtain ⟨p0,p1,p2,_,_,_⟩:=id tP
   obtain ⟨f0,f1,f2,_,_,_⟩:=id tF
   obtain ⟨d0,d1,d2,d3,d4,d5⟩:=id tR
   go_wp2_with fail
   refine (freshG_any a0 (some ⟨bw,ow,none⟩) a2 c0 c1 c2 g _ HG.out.ins.2.1 HLEN.out (r0.below B2) (r1.below B2) (r2.below B2) (fun j hj=>(HG.out.ins.2.2 j hj).1.2.1) (fun j hj=>HG.out.wins.2.2 j hj) HG.out.shown).mono ?_
   rintro e w3 ⟨hF,b3⟩
   obtain ⟨b,t,e0,e1,gm,em,L,rfl,hfull,hLL,hce0,hce1,hcem,hfz,hgmz⟩:=hF.full HG.out.ins.1 HLEN.out
   have HLL:Hid (L.map (·.l)=g.wins):=hLL
   have HLL2:Hid (L.length=g.wins.length):=by have:=congrArg List.length hLL;unfold Hid;simpa using this
   have B3:Below w.heap.size w w3:=B2.trans (b3.mono B2.size)
   have bT:Below w3.heap.size w3 (w3.alloc (.cells #[.slice (some ⟨b,0,none⟩) g.ins.length e0,.slice (some ⟨t,0,none⟩) L.length e1,.slice (some ⟨gm,0,none⟩) g.shown.length em] 36)):=(Below.refl _ _).alloc (Nat.le_refl _) _
   have tT:=tri_new w3 (.slice (some ⟨b,0,none⟩) g.ins.length e0) (.slice (some ⟨t,0,none⟩) L.length e1) (.slice (some ⟨gm,0,none⟩) g.shown.length em) 36
   have z3:=b3.size
   have hsv3:=(hsv.below b3).below bT
   have hfull3:=hfull.below bT
   have htl:=hfull.wins.lt
   have htz:=hfull.tin.1
   have hbz:=hfull.bin.1
   replace tP:=(tP.keep b3).keep bT
   replace tF:=(tF.keep b3).keep bT
   replace tR:=(tR.keep b3).keep bT
   have BT:Below w.heap.size w (w3.alloc (.cells #[.slice (some ⟨b,0,none⟩) g.ins.length e0,.slice (some ⟨t,0,none⟩) L.length e1,.slice (some ⟨gm,0,none⟩) g.shown.length em] 36)):=B3.trans (bT.mono B3.size)
   clear p0 p1 p2 f0 f1 f2 d0 d1 d2 d3 d4 d5 hLL
   obtain ⟨p0,p1,p2,_,_,_⟩:=id tP
   obtain ⟨f0,f1,f2,_,_,_⟩:=id tF
   obtain ⟨d0,d1,d2,d3,d4,d5⟩:=id tR
   obtain ⟨g0,g1,g2,_,_,_⟩:=id tT
   have hfzT:∀ j,(w3.alloc (.cells #[.slice (some ⟨b,0,none⟩) g.ins.length e0,.slice (some ⟨t,0,none⟩) L.length e1,.slice (some ⟨gm,0,none⟩) g.shown.length em] 36)).frozen? ⟨t,j,none⟩=false:=fun j=>(bT.frozen (p:=⟨t,j,none⟩) htl).trans (hfz j)
   have htT:(w3.alloc (.cells #[.slice (some ⟨b,0,none⟩) g.ins.length e0,.slice (some ⟨t,0,none⟩) L.length e1,.slice (some ⟨gm,0,none⟩) g.shown.length em] 36)).heap.size=w3.heap.size + 1:=by simp
   go_wp2_with fail
   generalize w3.alloc (.cells #[.slice (some ⟨b,0,none⟩) g.ins.length e0,.slice (some ⟨t,0,none⟩) L.length e1,.slice (some ⟨gm,0,none⟩) g.shown.length em] 36)=WT at *
   obtain ⟨W9,h9⟩:∃ W9,((WT.setCell ⟨w.heap.size + 1 + 1,0,none⟩ (.slice (some ⟨b,0,none⟩) g.ins.length e0)).setCell ⟨w.heap.size + 1 + 1,1,none⟩ (.slice (some ⟨t,0,none⟩) L.length e1)).setCell ⟨w.heap.size + 1 + 1,2,none⟩ (.slice (some ⟨gm,0,none⟩) g.shown.length em)=W9:=⟨_,rfl⟩
   have hsR:Span (w.heap.size + 2) (w.heap.size + 3) WT W9:=by rw [<- h9];exact (((Span.refl _ _ _).setCell (by omega) (by omega) _ _).setCell (by omega) (by omega) _ _).setCell (by omega) (by omega) _ _
   have z9:W9.heap.size=w3.heap.size + 1:=by rw [<- h9];simpa using htT
   have c9:W9.cell? ⟨w.heap.size + 1 + 1,0,none⟩=some (.slice (some ⟨b,0,none⟩) g.ins.length e0)∧W9.cell? ⟨w.heap.size + 1 + 1,1,none⟩=some (.slice (some ⟨t,0,none⟩) L.length e1)∧W9.cell? ⟨w.heap.size + 1 + 1,2,none⟩=some (.slice (some ⟨gm,0,none⟩) g.shown.length em):=by rw [<- h9];refine ⟨?_, ?_, ?_⟩ <;> simp [go_sem,d0,d1,d2]
   have hB9:Below w.heap.size w W9:=by rw [<- h9];exact ((BT.setCell (by simp only;omega) _).setCell (by simp only;omega) _).setCell (by simp only;omega) _
   have hfu9:=(hfull3.span hsR (.inr (by omega))).widen (show w.heap.size<=w2.heap.size by omega) (show w3.heap.size<=W9.heap.size by omega)
   rw [h9]
   clear h9
   obtain ⟨y0,y1,y2⟩:=c9
   exact bodyPost_ret (v:=.tuple #[.agg #[.slice (some ⟨b,0,none⟩) g.ins.length e0,.slice (some ⟨t,0,none⟩) L.length e1,.slice (some ⟨gm,0,none⟩) g.shown.length em],.iface 96 (.agg #[.int .i64 3])]) (by simp [results,Tryz.results51,go_sem,y0,y1,y2]) rfl ⟨.inr ⟨HI1.out,_,_,b,t,e0,e1,gm,em,L,_,rfl,HP.out,hfu9,⟨hcem,hce0⟩,.inl ⟨rfl,HLL.out,rfl⟩⟩,hB9⟩
  ·obtain ⟨p0,p1,p2,_,_,_⟩:=id tP
   obtain ⟨f0,f1,f2,_,_,_⟩:=id tF
   obtain ⟨d0,d1,d2,d3,d4,d5⟩:=id tR
   go_wp2_with fail
   refine (freshG_any a0 (some ⟨bw,ow,none⟩) a2 c0 c1 c2 g _ HG.out.ins.2.1 HLEN.out (r0.below B2) (r1.below B2) (r2.below B2) (fun j hj=>(HG.out.ins.2.2 j hj).1.2.1) (fun j hj=>HG.out.wins.2.2 j hj) HG.out.shown).mono ?_
   rintro e w3 ⟨hF,b3⟩
   obtain ⟨b,t,e0,e1,gm,em,L,rfl,hfull,hLL,hce0,hce1,hcem,hfz,hgmz⟩:=hF.full HG.out.ins.1 HLEN.out
   have HLL:Hid (L.map (·.l)=g.wins):=hLL
   have HLL2:Hid (L.length=g.wins.length):=by have:=congrArg List.length hLL;unfold Hid;simpa using this
   have B3:Below w.heap.size w w3:=B2.trans (b3.mono B2.size)
   have bT:Below w3.heap.size w3 (w3.alloc (.cells #[.slice (some ⟨b,0,none⟩) g.ins.length e0,.slice (some ⟨t,0,none⟩) L.length e1,.slice (some ⟨gm,0,none⟩) g.shown.length em] 36)):=(Below.refl _ _).alloc (Nat.le_refl _) _
   have tT:=tri_new w3 (.slice (some ⟨b,0,none⟩) g.ins.length e0) (.slice (some ⟨t,0,none⟩) L.length e1) (.slice (some ⟨gm,0,none⟩) g.shown.length em) 36
   have z3:=b3.size
   have hsv3:=(hsv.below b3).below bT
   have hfull3:=hfull.below bT
   have htl:=hfull.wins.lt
   have htz:=hfull.tin.1
   have hbz:=hfull.bin.1
   have hkL:k < L.length:=by rw [HLL2.out];exact hkw
   have kL1:(k:Int) < (L.length:Int):=by omega
   have q3:=hfull.wins.cell k hkL
   obtain ⟨pa,pc,pv,_,_⟩:=hfull.wins.at_ _ (List.getElem_mem hkL)
   have hsw:=FullG.setWin (hfull.widen (show w.heap.size + 3<=w2.heap.size by omega) (Nat.le_refl _)) hkL (q:=WinY.mk rr (.slice va rr.length vc) w1.drew.heap.size w2.heap.size) ⟨va,vc,rfl,hvc,hsv.below b3⟩ ⟨show w.heap.size + 3<=w1.drew.heap.size by have:=hbd.size;omega,b2.size,z3⟩ (.inr hbz) (.inr htz) (fun s hs=>.inr (show w2.heap.size<=s by have h1:gm=s:=congrArg Addr.block (Option.some.inj hs);omega)) (fun p hp=>.inr (show w2.heap.size<=p.lo from (hfull.wins.in_ p hp).1))
   replace tP:=(tP.keep b3).keep bT
   replace tF:=(tF.keep b3).keep bT
   have tR3:=tR.keep b3
   have tRS:=(tR3.far (q:=t) (by omega) k (.slice va rr.length vc)).keep (show Below _ _ ((w3.setCell ⟨t,k,none⟩ (.slice va rr.length vc)).alloc (.cells #[.slice (some ⟨b,0,none⟩) g.ins.length e0,.slice (some ⟨t,0,none⟩) L.length e1,.slice (some ⟨gm,0,none⟩) g.shown.length em] 36)) from (Below.refl _ _).alloc (Nat.le_refl _) _)
   clear p0 p1 p2 f0 f1 f2 d0 d1 d2 d3 d4 d5 hLL
   obtain ⟨p0,p1,p2,_,_,_⟩:=id tP
   obtain ⟨f0,f1,f2,_,_,_⟩:=id tF
   obtain ⟨d0,d1,d2,d3,d4,d5⟩:=id tRS
   have hfzT:=hfz k
   rw [pv] at q3
   go_wp2_with fail
   have bS:Below (w3.setCell ⟨t,k,none⟩ (.slice va rr.length vc)).heap.size (w3.setCell ⟨t,k,none⟩ (.slice va rr.length vc)) ((w3.setCell ⟨t,k,none⟩ (.slice va rr.length vc)).alloc (.cells #[.slice (some ⟨b,0,none⟩) g.ins.length e0,.slice (some ⟨t,0,none⟩) L.length e1,.slice (some ⟨gm,0,none⟩) g.shown.length em] 36)):=(Below.refl _ _).alloc (Nat.le_refl _) _
   have hfS:=hsw.below bS
   have BS:Below w.heap.size w ((w3.setCell ⟨t,k,none⟩ (.slice va rr.length vc)).alloc (.cells #[.slice (some ⟨b,0,none⟩) g.ins.length e0,.slice (some ⟨t,0,none⟩) L.length e1,.slice (some ⟨gm,0,none⟩) g.shown.length em] 36)):=(B3.setCell (p:=⟨t,k,none⟩) (by simp only;omega) _).alloc (by simp;omega) _
   have hzS:((w3.setCell ⟨t,k,none⟩ (.slice va rr.length vc)).alloc (.cells #[.slice (some ⟨b,0,none⟩) g.ins.length e0,.slice (some ⟨t,0,none⟩) L.length e1,.slice (some ⟨gm,0,none⟩) g.shown.length em] 36)).heap.size=w3.heap.size + 1:=by simp
   have hlS:(L.set k (WinY.mk rr (.slice va rr.length vc) w1.drew.heap.size w2.heap.size)).length=L.length:=by simp
   have HLS:Hid ((L.set k (WinY.mk rr (.slice va rr.length vc) w1.drew.heap.size w2.heap.size)).map (·.l)=g.wins.set ((k:Nat):Int).toNat rr):=by
    unfold Hid
    rw [List.map_set,HLL.out,Int.toNat_natCast]
   have hdlo:w.heap.size + 3<=w1.drew.heap.size:=by have:=hbd.size;omega
   generalize L.set k (WinY.mk rr (.slice va rr.length vc) w1.drew.heap.size w2.heap.size)=L' at *
   generalize (w3.setCell ⟨t,k,none⟩ (.slice va rr.length vc)).alloc (.cells #[.slice (some ⟨b,0,none⟩) g.ins.length e0,.slice (some ⟨t,0,none⟩) L.length e1,.slice (some ⟨gm,0,none⟩) g.shown.length em] 36)=WT at *
   obtain ⟨W9,h9⟩:∃ W9,((WT.setCell ⟨w.heap.size + 1 + 1,0,none⟩ (.slice (some ⟨b,0,none⟩) g.ins.length e0)).setCell ⟨w.heap.size + 1 + 1,1,none⟩ (.slice (some ⟨t,0,none⟩) L.length e1)).setCell ⟨w.heap.size + 1 + 1,2,none⟩ (.slice (some ⟨gm,0,none⟩) g.shown.length em)=W9:=⟨_,rfl⟩
   have hsR:Span (w.heap.size + 2) (w.heap.size + 3) WT W9:=by rw [<- h9];exact (((Span.refl _ _ _).setCell (by omega) (by omega) _ _).setCell (by omega) (by omega) _ _).setCell (by omega) (by omega) _ _
   have z9:W9.heap.size=w3.heap.size + 1:=by rw [<- h9];simpa using hzS
   have c9:W9.cell? ⟨w.heap.size + 1 + 1,0,none⟩=some (.slice (some ⟨b,0,none⟩) g.ins.length e0)∧W9.cell? ⟨w.heap.size + 1 + 1,1,none⟩=some (.slice (some ⟨t,0,none⟩) L.length e1)∧W9.cell? ⟨w.heap.size + 1 + 1,2,none⟩=some (.slice (some ⟨gm,0,none⟩) g.shown.length em):=by rw [<- h9];refine ⟨?_, ?_, ?_⟩ <;> simp [go_sem,d0,d1,d2]
   have hB9:Below w.heap.size w W9:=by rw [<- h9];exact ((BS.setCell (by simp only;omega) _).setCell (by simp only;omega) _).setCell (by simp only;omega) _
   have hfu9:=hfS.span hsR (.inr (Nat.le_refl _))
   rw [h9]
   clear h9
   obtain ⟨y0,y1,y2⟩:=c9
   exact bodyPost_ret (v:=.tuple #[.agg #[.slice (some ⟨b,0,none⟩) g.ins.length e0,.slice (some ⟨t,0,none⟩) L.length e1,.slice (some ⟨gm,0,none⟩) g.shown.length em],.nilIface]) (by simp [results,Tryz.results51,go_sem,y0,y1,y2]) rfl ⟨.inr ⟨HI1.out,_,_,b,t,e0,e1,gm,em,L',_,by rw [hlS],HP.out,hfu9.widen (by omega) (by omega),⟨hcem,hce0⟩,.inr ⟨rfl,HLS.out,rfl⟩⟩,hB9⟩
 ·have HNI:Hid (¬ InG g i):=fun h=>hin ⟨HR.out.2 h.1,h.2⟩
  obtain ⟨p0,p1,p2,_,_,_⟩:=id tP
  obtain ⟨f0,f1,f2,_,_,_⟩:=id tF
  obtain ⟨d0,d1,d2,d3,d4,d5⟩:=id tR
  cases r with
  | false=>
   go_wp2_with fail
   exact bodyPost_ret (v:=.tuple #[.agg #[.slice none 0 0,.slice none 0 0,.slice none 0 0],.iface 96 (.agg #[.int .i64 2])]) (by simp [results,Tryz.results51,go_sem,d0,d1,d2]) rfl (HBAD.out _ B1 (.inl HNI.out))
  | true=>
   by_cases hi0:i < 0
   ·go_wp2_with fail
    exact bodyPost_ret (v:=.tuple #[.agg #[.slice none 0 0,.slice none 0 0,.slice none 0 0],.iface 96 (.agg #[.int .i64 2])]) (by simp [results,Tryz.results51,go_sem,d0,d1,d2]) rfl (HBAD.out _ B1 (.inl HNI.out))
   ·have hi1:¬ i < (g.ins.length:Int):=fun h=>hin ⟨rfl,by omega,h⟩
    go_wp2_with fail
    exact bodyPost_ret (v:=.tuple #[.agg #[.slice none 0 0,.slice none 0 0,.slice none 0 0],.iface 96 (.agg #[.int .i64 2])]) (by simp [results,Tryz.results51,go_sem,d0,d1,d2]) rfl (HBAD.out _ B1 (.inl HNI.out))
end Go.Proofs.YtpfhegengmlkmacGreatDoor
