/- Texts of this claim. -/
import Derived.Test.YtpfhegengmlkmabGreatDoorZu22
import Derived.Test.YtpfhegengmlkmabGreatDoorZu24
import Derived.Test.YtpfhegengmlkmabGreatDoorZu26
namespace Go.Proofs.YtpfhegengmlkmabGreatDoor
open Go.RowKit Go.BigFrame
set_option maxRecDepth 100000
structure iy (w:World) (b:Nat) (x y z:Value):Prop where
 c0:w.cell? ⟨b,0,none⟩=some x
 c1:w.cell? ⟨b,1,none⟩=some y
 c2:w.cell? ⟨b,2,none⟩=some z
 f0:w.frozen? ⟨b,0,none⟩=false
 f1:w.frozen? ⟨b,1,none⟩=false
 f2:w.frozen? ⟨b,2,none⟩=false
theorem iy.keep {w w':World}{b:Nat}{x y z:Value}(h:iy w b x y z)(hb:Below w.heap.size w w'):iy w' b x y z:=by
 have hlt:=block_lt_of_cell h.c0
 exact⟨ae hb hlt h.c0,ae hb hlt h.c1,ae hb hlt h.c2,(hb.frozen (p:=⟨b,0,none⟩) hlt).trans h.f0,(hb.frozen (p:=⟨b,1,none⟩) hlt).trans h.f1,(hb.frozen (p:=⟨b,2,none⟩) hlt).trans h.f2⟩
theorem iy.grown {w w':World}{b:Nat}{x y z:Value}{r:Option Nat}(h:iy w b x y z)(hg:w.grownBy w' r)(hne:some b≠r):iy w' b x y z:=by
 have hlt:=block_lt_of_cell h.c0
 exact⟨dn hg hne h.c0,dn hg hne h.c1,dn hg hne h.c2,(hg.frozen_far ⟨b,0,none⟩ hlt hne).trans h.f0,(hg.frozen_far ⟨b,1,none⟩ hlt hne).trans h.f1,(hg.frozen_far ⟨b,2,none⟩ hlt hne).trans h.f2⟩
theorem iy.set0 {w:World}{b:Nat}{x y z:Value}(h:iy w b x y z)(v:Value):iy (w.setCell ⟨b,0,none⟩ v) b v y z:=
 ⟨by simp[go_sem,h.c0],by simp[go_sem,h.c1],by simp[go_sem,h.c2],by simp[go_sem,h.f0],by simp[go_sem,h.f1],by simp[go_sem,h.f2]⟩
theorem iy.set1 {w:World}{b:Nat}{x y z:Value}(h:iy w b x y z)(v:Value):iy (w.setCell ⟨b,1,none⟩ v) b x v z:=
 ⟨by simp[go_sem,h.c0],by simp[go_sem,h.c1],by simp[go_sem,h.c2],by simp[go_sem,h.f0],by simp[go_sem,h.f1],by simp[go_sem,h.f2]⟩
theorem iy.far {w:World}{b q:Nat}{x y z:Value}(h:iy w b x y z)(hq:b≠q)(i:Nat)(v:Value):iy (w.setCell ⟨q,i,none⟩ v) b x y z:=
 ⟨by rw[aV _ _ _ _ hq];exact h.c0,by rw[aV _ _ _ _ hq];exact h.c1,by rw[aV _ _ _ _ hq];exact h.c2,by simp[go_sem,h.f0],by simp[go_sem,h.f1],by simp[go_sem,h.f2]⟩
theorem aQ (w:World)(x y z:Value)(t:TypeId):iy (w.alloc (.cells #[x,y,z] t)) w.heap.size x y z:=⟨by simp[go_sem],by simp[go_sem],by simp[go_sem],by simp[go_sem],by simp[go_sem],by simp[go_sem]⟩
theorem yB {o:Oper}{a:Act}{w:World}{K:Act->World->Prop}{Q:Exit->Act->World->Prop}(s x:Operand)
  (ho:o.op=.call { callee:=.builtin .append,args:=#[s,x],argTypes:=#[23,23] }) (base:Nat) (v:Value) (l:List ByteArray) (hs:a.eval s=v) (hg:aI w base v l) (hbase:base<=w.heap.size)
  (ad:Nat) (t:ByteArray) (hx:a.eval x=.slice (some ⟨ad,0,none⟩) 1 1) (c0:w.cell? ⟨ad,0,none⟩=some (.string t)) (hl:l.length<=1048576)
  (h:∀v' w',aI w' base v' (l++[t])->w.grownBy w' v.ownBlock->(v'.ownBlock=v.ownBlock∨v'.ownBlock=some w.heap.size)->K (a.put o.dst v') w'):o.wp Tryz.prog a w K Q:=by
 obtain⟨i0,hi,hz0,hz1,hz2⟩:=info_parts Tryz.infoS
 obtain⟨v',w',hr,h2,h3,_,h5⟩:=run_append_own_at (P:=Tryz.prog) w base 23 o.type 9 i0 (.string .empty) 1 16 Tryz.underlying23 hi hz0 hz1 hz2 rfl (by decide) v l.length (l.map .string) hg ⟨ad,0,none⟩ 1 1 [.string t] rfl (by
   intro j u hj
   match j,hj with
   |0,hj=>simp at hj;subst hj;exact c0) (by simp[Value.oneCell']) (by unfold maxLen;omega) (by omega) hbase
 unfold Oper.wp execOp
 simp only[ho,resolve,invoke,builtin,Sem.run_bind,Sem.run_pure,Result.andThen_ok,List.map_toArray,List.map_cons,List.map_nil,hs,hx,hr]
 exact h _ w' (aI.snoc h2) h3 h5
theorem kX {o:Oper}{a:Act}{w:World}{K:Act->World->Prop}{Q:Exit->Act->World->Prop}(s x:Operand)
  (ho:o.op=.call { callee:=.builtin .append,args:=#[s,x],argTypes:=#[27,27] }) (base:Nat) (v:Value) (L:List aS) (hs:a.eval s=v) (hg:ed w base v L) (hbase:base<=w.heap.size)
  (ad:Nat) (p:aS) (hw:∀q∈L,q.hi<=p.lo) (hp:p.In w base) (hpv:∀k,v.ownBlock=some k->k<p.lo∨p.hi<=k) (hx:a.eval x=.slice (some ⟨ad,0,none⟩) 1 1) (c0:w.cell? ⟨ad,0,none⟩=some p.v) (hl:L.length<=1048576)
  (h:∀v' w',ed w' base v' (L++[p])->w.grownBy w' v.ownBlock->(v'.ownBlock=v.ownBlock∨v'.ownBlock=some w.heap.size)->K (a.put o.dst v') w'):o.wp Tryz.prog a w K Q:=by
 obtain⟨i0,hi,hz0,hz1,hz2⟩:=info_parts Tryz.infoW
 obtain⟨pa,pc,pe,_⟩:=hp.1
 obtain⟨v',w',hr,h2,h3,_,h5⟩:=run_append_own_at (P:=Tryz.prog) w base 27 o.type 129 i0 (.slice none 0 0) 1 24 Tryz.underlying27 hi hz0 hz1 hz2 rfl (by decide) v L.length (L.map (·.v)) hg.own ⟨ad,0,none⟩ 1 1 [p.v] rfl (by
   intro j u hj
   match j,hj with
   |0,hj=>simp at hj;subst hj;exact c0) (by simp[Value.oneCell',pe]) (by unfold maxLen;omega) (by omega) hbase
 unfold Oper.wp execOp
 simp only[ho,resolve,invoke,builtin,Sem.run_bind,Sem.run_pure,Result.andThen_ok,List.map_toArray,List.map_cons,List.map_nil,hs,hx,hr]
 exact h _ w' (hg.snoc hw hp hpv h2 h3 h5) h3 h5
theorem sN {w w':World}{g:Nat}{l:List (ByteArray×Int)}{r:Option Nat}(h:Own w g l)(hg:w.grownBy w' r)(hne:some g≠r):Own w' g l:=by
 have hlt:=h.lt
 obtain⟨m,f,h',hf⟩:=h
 exact⟨m,f,h'.of_block (hg.block g hlt hne),hf⟩
theorem jY:9≠129:=by decide
def MF (w w':World)(g:aB)(e:Ending):Prop:=∃B v0 v1 L gm cm,w.heap.size<=B/\e=.returned (.agg #[v0,v1,.slice (some ⟨gm,0,none⟩) g.shown.length cm])/\aI w' B v0 g.ins/\ed w' B v1 L/\L.map (·.l)=g.wins/\(∀p∈L,∀k,v0.ownBlock=some k->k<p.lo∨p.hi<=k)/\w.heap.size<=gm/\gm<B/\g.shown.length<=cm/\Own w' gm g.shown
set_option maxHeartbeats 12800000 in
theorem qc (a0 a1 a2:Option Addr)(c0 c1 c2:Nat)(g:aB)(w:World)(hi:g.ins.length<=6)(hlen:g.wins.length=g.ins.length)(r0:dQ w a0 g.ins)(r1:iF w a1 g.wins)(r2:Row w a2 g.shown)(hn:∀j,(h:j<g.ins.length)->g.ins[j].size<=8)(hw:∀j,(h:j<g.wins.length)->aX g.wins[j])(hs:ah g.shown) :
  Calls Tryz.prog 47 #[.agg #[.slice a0 g.ins.length c0,.slice a1 g.wins.length c1,.slice a2 g.shown.length c2]] w fun e w'=>MF w w' g e/\Below w.heap.size w w':=by
 have HLEN:Hid (g.wins.length=g.ins.length):=hlen
 have hi':g.wins.length<=6:=by omega
 clear hlen
 have hb0:Below w.heap.size w ((w.alloc (.cells #[.slice a0 g.ins.length c0,.slice a1 g.wins.length c1,.slice a2 g.shown.length c2] 30)).alloc (.cells #[.slice none 0 0,.slice none 0 0,.slice none 0 0] 30)):=((Below.refl _ _).alloc (Nat.le_refl _) _).alloc (by simp) _
 have tP:iy ((w.alloc (.cells #[.slice a0 g.ins.length c0,.slice a1 g.wins.length c1,.slice a2 g.shown.length c2] 30)).alloc (.cells #[.slice none 0 0,.slice none 0 0,.slice none 0 0] 30)) w.heap.size (.slice a0 g.ins.length c0) (.slice a1 g.wins.length c1) (.slice a2 g.shown.length c2):=(aQ w _ _ _ _).keep ((Below.refl _ _).alloc (Nat.le_refl _) _)
 have tR:iy ((w.alloc (.cells #[.slice a0 g.ins.length c0,.slice a1 g.wins.length c1,.slice a2 g.shown.length c2] 30)).alloc (.cells #[.slice none 0 0,.slice none 0 0,.slice none 0 0] 30)) (w.heap.size+1) (.slice none 0 0) (.slice none 0 0) (.slice none 0 0):=by
  have h:=aQ (w.alloc (.cells #[.slice a0 g.ins.length c0,.slice a1 g.wins.length c1,.slice a2 g.shown.length c2] 30)) (.slice none 0 0) (.slice none 0 0) (.slice none 0 0) 30
  rw[World.size_alloc]at h
  exact h
 go_enter Tryz.func47,Tryz.ntmps47
 go_wp2_with fail
 generalize (w.alloc (.cells #[.slice a0 g.ins.length c0,.slice a1 g.wins.length c1,.slice a2 g.shown.length c2] 30)).alloc (.cells #[.slice none 0 0,.slice none 0 0,.slice none 0 0] 30)=W0 at *
 refine(kE a2 c2 g.shown _ (r2.below hb0) (by have:=hs.1;omega) (fun j hj=>by have:=(hs.2.1 j hj).1.2.1;omega)).mono ?_
 rintro e w1 ⟨⟨gm,cm,rfl,hgm,hcm,hom⟩,b1⟩
 have hbt:Below w1.heap.size w1 (w1.alloc (.cells #[.slice none 0 0,.slice none 0 0,.slice (some ⟨gm,0,none⟩) g.shown.length cm] 30)):=(Below.refl _ _).alloc (Nat.le_refl _) _
 have tT:=aQ w1 (.slice none 0 0) (.slice none 0 0) (.slice (some ⟨gm,0,none⟩) g.shown.length cm) 30
 have tP1:=(tP.keep b1).keep hbt
 have tR1:=(tR.keep b1).keep hbt
 have B1:Below w.heap.size w w1:=hb0.trans (b1.mono hb0.size)
 have BT:Below w.heap.size w (w1.alloc (.cells #[.slice none 0 0,.slice none 0 0,.slice (some ⟨gm,0,none⟩) g.shown.length cm] 30)):=B1.trans (hbt.mono B1.size)
 have omT:=hom.below hbt
 have x0:=tP1.c0
 have zg:gm<w1.heap.size:=hom.lt
 have zW0:w.heap.size+1<W0.heap.size:=block_lt_of_cell tR.c0
 have zW:w.heap.size+2<=w1.heap.size:=by have h1:w.heap.size+1<W0.heap.size:=block_lt_of_cell tR.c0;have:=b1.size;omega
 go_wp2_with fail
 generalize w1.alloc (.cells #[.slice none 0 0,.slice none 0 0,.slice (some ⟨gm,0,none⟩) g.shown.length cm] 30)=WT at *
 have zT:w1.heap.size<WT.heap.size:=block_lt_of_cell tT.c0
 go_loopw [13] (fun i wr=>∃(k:Nat) (vi vw:Value) (L:List aS),k<=g.ins.length/\i=.int .i64 k/\aI wr (w1.heap.size+1) vi (g.ins.take k)/\ed wr (w1.heap.size+1) vw L/\Hid (L.map (·.l)=g.wins.take k)/\Hid (∀p∈L,∀k,vi.ownBlock=some k->k<p.lo∨p.hi<=k) /\
  iy wr w.heap.size (.slice a0 g.ins.length c0) (.slice a1 g.wins.length c1) (.slice a2 g.shown.length c2)/\iy wr (w.heap.size+1) (.slice none 0 0) (.slice none 0 0) (.slice none 0 0)/\iy wr w1.heap.size vi vw (.slice (some ⟨gm,0,none⟩) g.shown.length cm)/\Own wr gm g.shown/\w1.heap.size+1<=wr.heap.size/\Below w.heap.size w wr) (fun i _=>g.ins.length-(intOf i).toNat)
 case atStart=>exact⟨0,_,_,[],Nat.zero_le _,rfl,jr _ _,qg _ _,by simp[Hid],by simp[Hid],tP1,tR1,tT,omT,zT,BT⟩
 case round=>
  clear tP1 tR1 tT omT BT x0 tP tR b1 hbt B1 hom
  obtain⟨k,vi,vw,L,hk,rfl,hgs,hgy,HL,HF,tP,tR,tT,hom,hsz,hbl⟩:=hrel
  by_cases hlt:k<g.ins.length
  ·obtain⟨bn,on,rfl,hbn,n0⟩:=r0 k hlt
   have hkw:k<g.wins.length:=by rw[HLEN.out];exact hlt
   obtain⟨bw,ow,rfl,hbw,sw,tw,m0,hcw,hrw⟩:=r1 k hkw
   have n0':=ae hbl hbn n0
   have k0:(0:Int)<=(k:Int):=by omega
   have k1:(k:Int)<(g.ins.length:Int):=by omega
   have k2:(k:Int)<(g.wins.length:Int):=by omega
   have hnk:=hn k hlt
   have x0:=tT.c0
   go_wp2_with fail
   have hbd:Below wr.heap.size wr wr.drew:=(Below.refl _ _).drew
   have tT0:(wr.drew).cell? ⟨w1.heap.size,0,none⟩=some vi:=tT.c0
   refine wp_region_held_drew (S:=fun _=>True) (by kernel_rfl) trivial (fun _=>?_)
   refine wpAnyH_take (i:=0) (v:=.pointer (some ⟨w1.heap.size,0,none⟩)) rfl (by kernel_rfl) (by kernel_rfl) (by kernel_rfl) (fun _ _ _ h=>h) (Or.inl ⟨by rfl, ?_⟩) trivial ?_
   ·rintro u _
    go_simp
   simp only[Act.put,List.setIfInBounds_toArray]
   refine wpAnyH_take (i:=2) (v:=.string g.ins[k]) rfl (by kernel_rfl) (by kernel_rfl) (by kernel_rfl) (fun _ _ _ h=>h) (Or.inl ⟨by rfl, ?_⟩) trivial ?_
   ·rintro u _
    go_simp
   simp only[Act.put]
   have hclone:∀u,Calls Tryz.prog 79 #[.string g.ins[k]] u fun e w'=>e=.returned (.string g.ins[k])/\Below u.heap.size u w':=fun u=>qI g.ins[k] u (by omega)
   refine wpAnyH_ready (rs:=[1,3]) (by kernel_rfl) (by simp) ?_
   refine AllReadyH.cons rfl (fun K hK=>?_) (AllReadyH.cons rfl (fun K hK=>?_) AllReadyH.nil)
   rw[if_pos (by rfl)]
   go_simp
   refine hK.out _ _ trivial (fun _=>?_)
   clear hK K
   refine wpAnyH_ready (rs:=[3]) (by kernel_rfl) (by simp) ?_
   refine AllReadyH.cons rfl (fun K hK=>?_) AllReadyH.nil
   rw[if_pos (by rfl)]
   go_simp
   refine(hclone _).mono ?_
   rintro e w2 ⟨rfl,b2⟩
   have b2':Below wr.heap.size wr w2:=hbd.trans (b2.mono hbd.size)
   refine hK.out _ _ trivial (fun _=>?_)
   clear hK K
   refine wpAnyH_ready (rs:=[4]) (by kernel_rfl) (by simp) ?_
   refine AllReadyH.cons rfl (fun K hK=>?_) AllReadyH.nil
   rw[if_pos (by rfl)]
   go_simp
   refine hK.out _ _ trivial (fun _=>?_)
   clear hK K
   rotate_left
   rw[if_pos (by rfl)]
   go_simp
   refine(hclone _).mono ?_
   rintro e w2 ⟨rfl,b2⟩
   have b2':Below wr.heap.size wr w2:=hbd.trans (b2.mono hbd.size)
   have y2:=(tT.keep b2').c0
   have hbx2:Below w2.heap.size w2 (w2.alloc (.cells #[.string g.ins[k]] 9)):=(Below.refl _ _).alloc (Nat.le_refl _) _
   have y3:=((tT.keep b2').keep hbx2).c0
   refine hK.out _ _ trivial (fun _=>?_)
   clear hK K
   refine wpAnyH_ready (rs:=[1,4]) (by kernel_rfl) (by simp) ?_
   refine AllReadyH.cons rfl (fun K hK=>?_) (AllReadyH.cons rfl (fun K hK=>?_) AllReadyH.nil)
   rw[if_pos (by rfl)]
   go_simp
   refine hK.out _ _ trivial (fun _=>?_)
   clear hK K
   refine wpAnyH_ready (rs:=[4]) (by kernel_rfl) (by simp) ?_
   refine AllReadyH.cons rfl (fun K hK=>?_) AllReadyH.nil
   rw[if_pos (by rfl)]
   go_simp
   refine hK.out _ _ trivial (fun _=>?_)
   clear hK K y2 y3 hbx2
   rotate_left
   rw[if_pos (by rfl)]
   go_simp
   refine hK.out _ _ trivial (fun _=>?_)
   clear hK K
   refine wpAnyH_ready (rs:=[1]) (by kernel_rfl) (by simp) ?_
   refine AllReadyH.cons rfl (fun K hK=>?_) AllReadyH.nil
   rw[if_pos (by rfl)]
   go_simp
   refine hK.out _ _ trivial (fun _=>?_)
   clear hK K y2 y3 hbx2
   all_goals
    have hbx:Below wr.heap.size wr (w2.alloc (.cells #[.string g.ins[k]] 9)):=b2'.alloc b2'.size _
    have htl:(g.ins.take k).length<=1048576:=by rw[List.length_take];omega
    refine wpAnyH_ready (rs:=[5]) (by kernel_rfl) (by simp) ?_
    refine AllReadyH.cons rfl (fun K hK=>?_) AllReadyH.nil
    rw[if_pos (by rfl)]
    refine yB _ _ rfl (w1.heap.size+1) vi (g.ins.take k) rfl (hgs.keep hbx) (by have:=hbx.size;omega) w2.heap.size g.ins[k] rfl (by simp[go_sem]) htl ?_
    intro vi' w5 hgs5 hgr5 hloc5
    have hfar:∀q,q<w1.heap.size+1->some q≠vi.ownBlock:=fun q hq e=>by have:=aN hgs q e.symm;omega
    have tP5:=(tP.keep hbx).grown hgr5 (hfar _ (by omega))
    have tR5:=(tR.keep hbx).grown hgr5 (hfar _ (by omega))
    have tT5:=(tT.keep hbx).grown hgr5 (hfar _ (by omega))
    have hom5:=sN (hom.below hbx) hgr5 (hfar _ (by omega))
    have hgy5:=(hgy.keep hbx).grown hgr5 ((dm (show World.ownsRow _ _ _ _ _ _ _ from hgs) hgy.own jY).symm.elim (fun h=>by
     cases hb:vw.ownBlock with
     |none=>exact .inl rfl
     |some q=>exact .inr (fun e=>h (by rw[<- e,hb]))) (fun h=>by
     cases hb:vw.ownBlock with
     |none=>exact .inl rfl
     |some q=>exact .inr (fun e=>by rw[h]at e;cases e))) HF.out
    have B5:Below w.heap.size w w5:=(hbl.trans (hbx.mono hbl.size)).grown hgr5 (by have:=hbx.size;have:=hbl.size;omega) (fun q hq=>by have:=aN hgs q hq;omega)
    have z5:=hgr5.size
    have HF5:Hid (∀p∈L,∀q,vi'.ownBlock=some q->q<p.lo∨p.hi<=q):=fun p hp q hq=>by
     rcases hloc5 with e|e
     ·exact HF.out p hp q (by rw[<- e];exact hq)
     ·rw[e]at hq
      cases hq
      have:=(hgy.at_ p hp).2.2.2
      have:=hbx.size
      exact .inr (by omega)
    obtain⟨via,vic,rfl,_⟩:=hgs5.shape
    generalize (g.ins.take k++[g.ins[k]]).length=n5 at hgs5 HF5 hloc5 ⊢
    have HT:Hid (g.ins.take (k+1)=g.ins.take k++[g.ins[k]]):=List.take_succ_eq_append_getElem hlt
    refine hK.out _ _ trivial (fun _=>?_)
    clear hK K
    have q0:=tT5.c0
    have q1:=tT5.f0
    refine wpAnyH_ready (rs:=[6]) (by kernel_rfl) (by simp) ?_
    refine AllReadyH.cons rfl (fun K hK=>?_) AllReadyH.nil
    rw[if_pos (by rfl)]
    go_simp
    refine hK.out _ _ trivial (fun _=>?_)
    clear hK K
    refine wpAnyH_ready (rs:=[7]) (by kernel_rfl) (by simp) ?_
    refine AllReadyH.cons rfl (fun K hK=>?_) AllReadyH.nil
    rw[if_pos (by rfl)]
    go_simp
    refine hK.out _ _ trivial (fun _=>?_)
    clear hK K
    refine wpAnyH_done (by kernel_rfl) ?_ _
    have tP6:=tP5.far (q:=w1.heap.size) (by omega) 0 (.slice via n5 vic)
    have tR6:=tR5.far (q:=w1.heap.size) (by omega) 0 (.slice via n5 vic)
    have tT6:=tT5.set0 (.slice via n5 vic)
    have hom6:=hom5.setOther (q:=w1.heap.size) (by omega) 0 (.slice via n5 vic)
    have hgy6:=hgy5.set (q:=w1.heap.size) (by omega) 0 (.slice via n5 vic)
    have hgs6:aI (w5.setCell ⟨w1.heap.size,0,none⟩ (.slice via n5 vic)) (w1.heap.size+1) (.slice via n5 vic) (g.ins.take k++[g.ins[k]]):=df hgs5 (by omega) 0 _
    have B6:=B5.setCell (p:=⟨w1.heap.size,0,none⟩) (by simp only;omega) (.slice via n5 vic)
    have z6:w1.heap.size+1<=(w5.setCell ⟨w1.heap.size,0,none⟩ (.slice via n5 vic)).heap.size:=by
     have:=hbx.size
     simp only[World.size_setCell]
     omega
    clear tP5 tR5 tT5 hom5 hgy5 hgs5 B5 tP tR tT hom hgy hgs hbl hbx b2 b2' q0 q1 hbd tT0 x0 n0' HF hclone
    go_wp2_with fail
    generalize w5.setCell ⟨w1.heap.size,0,none⟩ (.slice via n5 vic)=W6 at *
    generalize hvi:(Value.slice via n5 vic)=vi6 at *
    clear hvi
    have m6:=ae B6 hbw m0
    have hbd6:Below W6.heap.size W6 W6.drew:=(Below.refl _ _).drew
    have SW:(W6.drew).cell? ⟨w.heap.size,1,none⟩=some (.slice (some ⟨bw,ow,none⟩) g.wins.length c1)/\(W6.drew).cell? ⟨bw,ow+k,none⟩=some (.slice sw g.wins[k].length tw):=⟨tP6.c1,m6⟩
    have hpw:w.heap.size<W6.heap.size:=block_lt_of_cell tP6.c1
    have hbw6:bw<W6.heap.size:=Nat.lt_of_lt_of_le hbw B6.size
    have hfi:∀u,Below W6.heap.size W6 u->Calls Tryz.prog 80 #[.slice sw g.wins[k].length tw] u fun e w'=>(∃v,e=.returned v/\bD w' u.heap.size v g.wins[k])/\Below u.heap.size u w':=fun u hu=>wG sw tw g.wins[k] u (hrw.below (B6.trans (hu.mono B6.size))) (by have:=(hw k hkw).1;omega) (fun j hj=>((hw k hkw).2.1 j hj).1)
    have x1:=tT6.c1
    refine wp_region_held_drew (S:=fun u=>u.cell? ⟨w.heap.size,1,none⟩=some (.slice (some ⟨bw,ow,none⟩) g.wins.length c1)/\u.cell? ⟨bw,ow+k,none⟩=some (.slice sw g.wins[k].length tw)) (by kernel_rfl) SW (fun _=>?_)
    refine wpAnyH_take (i:=0) (v:=.pointer (some ⟨w1.heap.size,1,none⟩)) rfl (by kernel_rfl) (by kernel_rfl) (by kernel_rfl) (fun _ _ _ h=>h) (Or.inl ⟨by rfl, ?_⟩) SW ?_
    ·rintro u ⟨q1,q2⟩
     go_simp
    simp only[Act.put,List.setIfInBounds_toArray]
    refine wpAnyH_take (i:=2) (v:=.pointer (some ⟨w.heap.size,1,none⟩)) rfl (by kernel_rfl) (by kernel_rfl) (by kernel_rfl) (fun _ _ _ h=>h) (Or.inl ⟨by rfl, ?_⟩) SW ?_
    ·rintro u ⟨q1,q2⟩
     go_simp
    simp only[Act.put]
    refine wpAnyH_take (i:=3) (v:=.slice (some ⟨bw,ow,none⟩) g.wins.length c1) rfl (by kernel_rfl) (by kernel_rfl) (by kernel_rfl) (fun _ _ _ h=>h) (Or.inl ⟨by rfl, ?_⟩) SW ?_
    ·rintro u ⟨q1,q2⟩
     go_simp
    simp only[Act.put]
    refine wpAnyH_take (i:=4) (v:=.int .i64 k) rfl (by kernel_rfl) (by kernel_rfl) (by kernel_rfl) (fun _ _ _ h=>h) (Or.inl ⟨by rfl, ?_⟩) SW ?_
    ·rintro u ⟨q1,q2⟩
     go_simp
    simp only[Act.put]
    refine wpAnyH_take (i:=5) (v:=.pointer (some ⟨bw,ow+k,none⟩)) rfl (by kernel_rfl) (by kernel_rfl) (by kernel_rfl) (fun _ _ _ h=>h) (Or.inl ⟨by rfl, ?_⟩) SW ?_
    ·rintro u ⟨q1,q2⟩
     go_simp
    simp only[Act.put]
    refine wpAnyH_take (i:=6) (v:=.slice sw g.wins[k].length tw) rfl (by kernel_rfl) (by kernel_rfl) (by kernel_rfl) (fun _ _ _ h=>h) (Or.inl ⟨by rfl, ?_⟩) SW ?_
    ·rintro u ⟨q1,q2⟩
     go_simp
    simp only[Act.put]
    refine wpAnyH_ready (rs:=[1,7]) (by kernel_rfl) (by simp) ?_
    refine AllReadyH.cons rfl (fun K hK=>?_) (AllReadyH.cons rfl (fun K hK=>?_) AllReadyH.nil)
    rw[if_pos (by rfl)]
    go_simp
    refine hK.out _ _ SW (fun _=>?_)
    clear hK K
    refine wpAnyH_ready (rs:=[7]) (by kernel_rfl) (by simp) ?_
    refine AllReadyH.cons rfl (fun K hK=>?_) AllReadyH.nil
    rw[if_pos (by rfl)]
    go_simp
    refine(hfi _ hbd6).mono ?_
    rintro e w7 ⟨⟨v7,rfl,hg7⟩,b7⟩
    have b7':Below W6.heap.size W6 w7:=hbd6.trans (b7.mono hbd6.size)
    have S7:w7.cell? ⟨w.heap.size,1,none⟩=some (.slice (some ⟨bw,ow,none⟩) g.wins.length c1)/\w7.cell? ⟨bw,ow+k,none⟩=some (.slice sw g.wins[k].length tw):=⟨ae b7' hpw tP6.c1,ae b7' hbw6 m6⟩
    refine hK.out _ _ S7 (fun _=>?_)
    clear hK K
    obtain⟨v7a,v7c,rfl,h7c,_⟩:=hg7.safe
    refine wpAnyH_ready (rs:=[8]) (by kernel_rfl) (by simp) ?_
    refine AllReadyH.cons rfl (fun K hK=>?_) AllReadyH.nil
    rw[if_pos (by rfl)]
    go_simp
    have b8:Below W6.heap.size W6 (w7.alloc (.cells #[.slice v7a g.wins[k].length v7c] 129)):=b7'.alloc b7'.size _
    have S8:(w7.alloc (.cells #[.slice v7a g.wins[k].length v7c] 129)).cell? ⟨w.heap.size,1,none⟩=some (.slice (some ⟨bw,ow,none⟩) g.wins.length c1)/\(w7.alloc (.cells #[.slice v7a g.wins[k].length v7c] 129)).cell? ⟨bw,ow+k,none⟩=some (.slice sw g.wins[k].length tw):=⟨ae b8 hpw tP6.c1,ae b8 hbw6 m6⟩
    refine hK.out _ _ S8 (fun _=>?_)
    clear hK K
    rotate_left
    rw[if_pos (by rfl)]
    go_simp
    refine(hfi _ hbd6).mono ?_
    rintro e w7 ⟨⟨v7,rfl,hg7⟩,b7⟩
    have b7':Below W6.heap.size W6 w7:=hbd6.trans (b7.mono hbd6.size)
    have S7:w7.cell? ⟨w.heap.size,1,none⟩=some (.slice (some ⟨bw,ow,none⟩) g.wins.length c1)/\w7.cell? ⟨bw,ow+k,none⟩=some (.slice sw g.wins[k].length tw):=⟨ae b7' hpw tP6.c1,ae b7' hbw6 m6⟩
    refine hK.out _ _ S7 (fun _=>?_)
    clear hK K
    obtain⟨v7a,v7c,rfl,h7c,_⟩:=hg7.safe
    have b8:Below W6.heap.size W6 (w7.alloc (.cells #[.slice v7a g.wins[k].length v7c] 129)):=b7'.alloc b7'.size _
    have S8:(w7.alloc (.cells #[.slice v7a g.wins[k].length v7c] 129)).cell? ⟨w.heap.size,1,none⟩=some (.slice (some ⟨bw,ow,none⟩) g.wins.length c1)/\(w7.alloc (.cells #[.slice v7a g.wins[k].length v7c] 129)).cell? ⟨bw,ow+k,none⟩=some (.slice sw g.wins[k].length tw):=⟨ae b8 hpw tP6.c1,ae b8 hbw6 m6⟩
    have y7:=(tT6.keep b7').c1
    have y8:=(tT6.keep b8).c1
    refine wpAnyH_ready (rs:=[1,8]) (by kernel_rfl) (by simp) ?_
    refine AllReadyH.cons rfl (fun K hK=>?_) (AllReadyH.cons rfl (fun K hK=>?_) AllReadyH.nil)
    rw[if_pos (by rfl)]
    go_simp
    refine hK.out _ _ S7 (fun _=>?_)
    clear hK K
    refine wpAnyH_ready (rs:=[8]) (by kernel_rfl) (by simp) ?_
    refine AllReadyH.cons rfl (fun K hK=>?_) AllReadyH.nil
    rw[if_pos (by rfl)]
    go_simp
    refine hK.out _ _ S8 (fun _=>?_)
    clear hK K y7 y8
    rotate_left
    rw[if_pos (by rfl)]
    go_simp
    refine hK.out _ _ S8 (fun _=>?_)
    clear hK K
    refine wpAnyH_ready (rs:=[1]) (by kernel_rfl) (by simp) ?_
    refine AllReadyH.cons rfl (fun K hK=>?_) AllReadyH.nil
    rw[if_pos (by rfl)]
    go_simp
    refine hK.out _ _ S8 (fun _=>?_)
    clear hK K y7 y8
    all_goals
     have hzd:W6.drew.heap.size=W6.heap.size:=rfl
     have hin0:=hg7.winY b7.size
     have hin:(aS.mk g.wins[k] (.slice v7a g.wins[k].length v7c) W6.drew.heap.size w7.heap.size).In w7 (w1.heap.size+1):=⟨hin0.1,by show w1.heap.size+1<=W6.drew.heap.size;omega,hin0.2.2.1,hin0.2.2.2⟩
     have hbx8:Below w7.heap.size w7 (w7.alloc (.cells #[.slice v7a g.wins[k].length v7c] 129)):=(Below.refl _ _).alloc (Nat.le_refl _) _
     have hlL:L.length<=1048576:=by have:=congrArg List.length HL.out;rw[List.length_map,List.length_take]at this;omega
     refine wpAnyH_ready (rs:=[9]) (by kernel_rfl) (by simp) ?_
     refine AllReadyH.cons rfl (fun K hK=>?_) AllReadyH.nil
     rw[if_pos (by rfl)]
     refine kX _ _ rfl (w1.heap.size+1) vw L rfl (hgy6.keep b8) (by have:=b8.size;omega) w7.heap.size (aS.mk g.wins[k] (.slice v7a g.wins[k].length v7c) W6.drew.heap.size w7.heap.size) (fun q hq=>by have:=(hgy6.at_ q hq).2.2.2;exact this) (hin.below hbx8) (fun q hq=>.inl (by have:=(World.ownsRow.lt hgy6.own q hq).2;exact this)) rfl (by simp[go_sem]) hlL ?_
     intro vw' w9 hgy9 hgr9 hloc9
     have hfar9:∀q,q<w1.heap.size+1->some q≠vw.ownBlock:=fun q hq e=>by have:=aT hgy6.own q e.symm;omega
     have tP9:=(tP6.keep b8).grown hgr9 (hfar9 _ (by omega))
     have tR9:=(tR6.keep b8).grown hgr9 (hfar9 _ (by omega))
     have tT9:=(tT6.keep b8).grown hgr9 (hfar9 _ (by omega))
     have hom9:=sN (hom6.below b8) hgr9 (hfar9 _ (by omega))
     have hgs9:aI w9 (w1.heap.size+1) vi6 (g.ins.take k++[g.ins[k]]):=World.ownsRow.kept (hgs6.keep b8) hgr9 (dm (show World.ownsRow _ _ _ _ _ _ _ from hgs6) hgy6.own jY)
     have z9:=hgr9.size
     have z8:=b8.size
     have B9:Below w.heap.size w w9:=(B6.trans (b8.mono B6.size)).grown hgr9 (by have:=B6.size;omega) (fun q hq=>by have:=aT hgy6.own q hq;omega)
     have HF9:Hid (∀p∈L++[(aS.mk g.wins[k] (.slice v7a g.wins[k].length v7c) W6.drew.heap.size w7.heap.size)],∀q,vi6.ownBlock=some q->q<p.lo∨p.hi<=q):=fun p hp q hq=>by
      rcases List.mem_append.1 hp with hp|hp
      ·exact HF5.out p hp q hq
      ·obtain rfl:p=_:=by simpa using hp
       exact .inl ((World.ownsRow.lt hgs6 q hq).2)
     have HL9:Hid ((L++[(aS.mk g.wins[k] (.slice v7a g.wins[k].length v7c) W6.drew.heap.size w7.heap.size)]).map (·.l)=g.wins.take (k+1)):=by
      unfold Hid
      rw[List.map_append,HL.out,List.take_succ_eq_append_getElem hkw]
      rfl
     have S9:w9.cell? ⟨w.heap.size,1,none⟩=some (.slice (some ⟨bw,ow,none⟩) g.wins.length c1)/\w9.cell? ⟨bw,ow+k,none⟩=some (.slice sw g.wins[k].length tw):=⟨tP9.c1,dn hgr9 (hfar9 _ (by omega)) S8.2⟩
     obtain⟨vwa,vwc,rfl,_,_⟩:=hgy9.row
     generalize (L++[(aS.mk g.wins[k] (.slice v7a g.wins[k].length v7c) W6.drew.heap.size w7.heap.size)])=L9 at *
     generalize L9.length=n9 at hgy9 hloc9 ⊢
     refine hK.out _ _ S9 (fun _=>?_)
     clear hK K
     have q0:=tT9.c1
     have q1:=tT9.f1
     refine wpAnyH_ready (rs:=[10]) (by kernel_rfl) (by simp) ?_
     refine AllReadyH.cons rfl (fun K hK=>?_) AllReadyH.nil
     rw[if_pos (by rfl)]
     go_simp
     refine hK.out _ _ S9 (fun _=>?_)
     clear hK K
     have tPf:=tP9.far (q:=w1.heap.size) (by omega) 1 (.slice vwa n9 vwc)
     have S10:(w9.setCell ⟨w1.heap.size,1,none⟩ (.slice vwa n9 vwc)).cell? ⟨w.heap.size,1,none⟩=some (.slice (some ⟨bw,ow,none⟩) g.wins.length c1)/\(w9.setCell ⟨w1.heap.size,1,none⟩ (.slice vwa n9 vwc)).cell? ⟨bw,ow+k,none⟩=some (.slice sw g.wins[k].length tw):=⟨tPf.c1,by rw[aV _ _ _ _ (by omega)];exact S9.2⟩
     refine wpAnyH_ready (rs:=[11]) (by kernel_rfl) (by simp) ?_
     refine AllReadyH.cons rfl (fun K hK=>?_) AllReadyH.nil
     rw[if_pos (by rfl)]
     go_simp
     refine hK.out _ _ S10 (fun _=>?_)
     clear hK K
     refine wpAnyH_done (by kernel_rfl) ?_ _
     go_wp2_with fail
     exact⟨⟨k+1,vi6,_,L9,by omega,by go_num,by rw[HT.out];exact df hgs9 (by omega) 1 _,hgy9.set (by omega) 1 _,HL9,HF9,tPf,tR9.far (by omega) 1 _,tT9.set1 _,hom9.setOther (by omega) 1 _,by simp only[World.size_setCell];omega,B9.setCell (by simp only;omega) _⟩,by simp[intOf];omega⟩
  ·obtain rfl:k=g.ins.length:=by omega
   have hf1:g.ins.take g.ins.length=g.ins:=List.take_of_length_le (Nat.le_refl _)
   have hf2:g.wins.take g.ins.length=g.wins:=List.take_of_length_le (by rw[HLEN.out];exact Nat.le_refl _)
   rw[hf1]at hgs
   rw[hf2]at HL
   obtain⟨d0,d1,d2,_,_,_⟩:=id tT
   obtain⟨r0',r1',r2',f0,f1,f2⟩:=id tR
   obtain⟨sia,sic,rfl,_⟩:=hgs.shape
   obtain⟨swa,swc,rfl,_,_⟩:=hgy.row
   clear hf1 hf2
   go_wp2_with fail
   have e0:(((wr.setCell ⟨w.heap.size+1,0,none⟩ (.slice sia g.ins.length sic)).setCell ⟨w.heap.size+1,1,none⟩ (.slice swa L.length swc)).setCell ⟨w.heap.size+1,2,none⟩ (.slice (some ⟨gm,0,none⟩) g.shown.length cm)).cell? ⟨w.heap.size+1,0,none⟩=some (.slice sia g.ins.length sic):=by simp[go_sem,r0']
   have e1:(((wr.setCell ⟨w.heap.size+1,0,none⟩ (.slice sia g.ins.length sic)).setCell ⟨w.heap.size+1,1,none⟩ (.slice swa L.length swc)).setCell ⟨w.heap.size+1,2,none⟩ (.slice (some ⟨gm,0,none⟩) g.shown.length cm)).cell? ⟨w.heap.size+1,1,none⟩=some (.slice swa L.length swc):=by simp[go_sem,r1']
   have e2:(((wr.setCell ⟨w.heap.size+1,0,none⟩ (.slice sia g.ins.length sic)).setCell ⟨w.heap.size+1,1,none⟩ (.slice swa L.length swc)).setCell ⟨w.heap.size+1,2,none⟩ (.slice (some ⟨gm,0,none⟩) g.shown.length cm)).cell? ⟨w.heap.size+1,2,none⟩=some (.slice (some ⟨gm,0,none⟩) g.shown.length cm):=by simp[go_sem,r2']
   have g1:=(((show World.ownsRow _ _ _ _ _ _ _ from hgs) |> (df · (q:=w.heap.size+1) (by omega) 0 (.slice sia g.ins.length sic))) |> (df · (q:=w.heap.size+1) (by omega) 1 (.slice swa L.length swc))) |> (df · (q:=w.heap.size+1) (by omega) 2 (.slice (some ⟨gm,0,none⟩) g.shown.length cm))
   have g2:=((hgy.set (q:=w.heap.size+1) (by omega) 0 (.slice sia g.ins.length sic)).set (q:=w.heap.size+1) (by omega) 1 (.slice swa L.length swc)).set (q:=w.heap.size+1) (by omega) 2 (.slice (some ⟨gm,0,none⟩) g.shown.length cm)
   have g3:=((hom.setOther (q:=w.heap.size+1) (by omega) 0 (.slice sia g.ins.length sic)).setOther (q:=w.heap.size+1) (by omega) 1 (.slice swa L.length swc)).setOther (q:=w.heap.size+1) (by omega) 2 (.slice (some ⟨gm,0,none⟩) g.shown.length cm)
   have B9:=((hbl.setCell (p:=⟨w.heap.size+1,0,none⟩) (by simp only;omega) (.slice sia g.ins.length sic)).setCell (p:=⟨w.heap.size+1,1,none⟩) (by simp only;omega) (.slice swa L.length swc)).setCell (p:=⟨w.heap.size+1,2,none⟩) (by simp only;omega) (.slice (some ⟨gm,0,none⟩) g.shown.length cm)
   exact bodyPost_ret (v:=.agg #[.slice sia g.ins.length sic,.slice swa L.length swc,.slice (some ⟨gm,0,none⟩) g.shown.length cm]) (by simp[results,Tryz.results47,go_sem,e0,e1,e2]) rfl ⟨⟨w1.heap.size+1,_,_,L,gm,cm,by omega,rfl,g1,g2,HL.out,HF.out,by omega,by omega,hcm,g3⟩,B9⟩
def bJ (ins:List ByteArray):aB:=⟨ins,List.replicate ins.length [],[]⟩
def IC (w w':World)(ins:List ByteArray)(e:Ending):Prop:=(∃B v0 v1 L v2,w.heap.size<=B/\e=.returned (.tuple #[.agg #[v0,v1,v2],.bool true])/\fG ins/\aI w' B v0 ins/\ed w' B v1 L/\L.map (·.l)=List.replicate ins.length []/\(∃a c,v2=.slice a 0 c))∨(e=.returned (.tuple #[.agg #[.slice none 0 0,.slice none 0 0,.slice none 0 0],.bool false])/\¬fG ins)
set_option maxHeartbeats 1600000 in
theorem xU (a:Option Addr)(cap:Nat)(ins:List ByteArray)(w:World)(hl:ins.length<=1048576)(hc:ins.length<=cap)(hc2:cap<=maxLen)(hr:dQ w a ins)(hs:∀j,(h:j<ins.length)->ins[j].size<=maxLen) :
  Calls Tryz.prog 27 #[.slice a ins.length cap] w fun e w'=>IC w w' ins e/\Below w.heap.size w w':=by
 obtain⟨i0,hi,hz0,hz1,hz2⟩:=info_parts Tryz.infoW
 have hmk:∀u:World,(Instr.makeSlice 27 (.int .i64 (ins.length:Int)) (.int .i64 (ins.length:Int))).run Tryz.prog u =
   .ok (.slice (some ⟨u.heap.size,0,none⟩) ins.length ins.length) (u.alloc (.cells (madeCells #[.slice none 0 0] ins.length) 129)):=fun u=>by
  have h:=run_make (P:=Tryz.prog) u 27 129 i0 (.slice none 0 0) Tryz.underlying27 hi hz0 .i64 .i64 (ins.length:Int) (ins.length:Int) (by omega) (Int.le_refl _) (by rw[hz2];omega) (by omega)
  simpa[hz1,Value.cells]using h
 have hb0:Below w.heap.size w (w.alloc (.cells #[.slice none 0 0,.slice none 0 0,.slice none 0 0] 30)):=(Below.refl _ _).alloc (Nat.le_refl _) _
 have tR:=aQ w (.slice none 0 0) (.slice none 0 0) (.slice none 0 0) 30
 go_enter Tryz.func27,Tryz.ntmps27
 go_wp2_with fail
 generalize w.alloc (.cells #[.slice none 0 0,.slice none 0 0,.slice none 0 0] 30)=W0 at *
 refine(zy a cap ins _ hl hc hc2 (hr.below hb0) hs).mono ?_
 rintro e w1 ⟨⟨r,rfl,hr1⟩,rfl⟩
 have HR:Hid (r=true↔fG ins):=hr1
 clear hr1
 cases r with
 |false=>
  have HN:Hid (¬fG ins):=fun h=>by have:=HR.out.2 h;simp at this
  obtain⟨r0,r1,r2,f0,f1,f2⟩:=id tR
  go_wp2_with fail
  have e0:(((w1.setCell ⟨w.heap.size,0,none⟩ (.slice none 0 0)).setCell ⟨w.heap.size,1,none⟩ (.slice none 0 0)).setCell ⟨w.heap.size,2,none⟩ (.slice none 0 0)).cell? ⟨w.heap.size,0,none⟩=some (.slice none 0 0):=by simp[go_sem,r0]
  have e1:(((w1.setCell ⟨w.heap.size,0,none⟩ (.slice none 0 0)).setCell ⟨w.heap.size,1,none⟩ (.slice none 0 0)).setCell ⟨w.heap.size,2,none⟩ (.slice none 0 0)).cell? ⟨w.heap.size,1,none⟩=some (.slice none 0 0):=by simp[go_sem,r1]
  have e2:(((w1.setCell ⟨w.heap.size,0,none⟩ (.slice none 0 0)).setCell ⟨w.heap.size,1,none⟩ (.slice none 0 0)).setCell ⟨w.heap.size,2,none⟩ (.slice none 0 0)).cell? ⟨w.heap.size,2,none⟩=some (.slice none 0 0):=by simp[go_sem,r2]
  exact bodyPost_ret (v:=.tuple #[.agg #[.slice none 0 0,.slice none 0 0,.slice none 0 0],.bool false]) (by simp[results,Tryz.results27,go_sem,e0,e1,e2]) rfl ⟨.inr ⟨rfl,HN.out⟩,((hb0.setCell (Nat.le_refl _) _).setCell (Nat.le_refl _) _).setCell (Nat.le_refl _) _⟩
 |true=>
  have HP:Hid (fG ins):=HR.out.1 rfl
  clear HR
  obtain⟨r0,r1,r2,f0,f1,f2⟩:=id tR
  have bM:Below w1.heap.size w1 (w1.alloc (.cells (madeCells #[.slice none 0 0] ins.length) 129)):=(Below.refl _ _).alloc (Nat.le_refl _) _
  have bG0:Below (w1.alloc (.cells (madeCells #[.slice none 0 0] ins.length) 129)).heap.size (w1.alloc (.cells (madeCells #[.slice none 0 0] ins.length) 129)) ((w1.alloc (.cells (madeCells #[.slice none 0 0] ins.length) 129)).alloc (.cells #[.slice a ins.length cap,.slice (some ⟨w1.heap.size,0,none⟩) ins.length ins.length,.slice none 0 0] 30)):=(Below.refl _ _).alloc (Nat.le_refl _) _
  have bG:Below w1.heap.size w1 ((w1.alloc (.cells (madeCells #[.slice none 0 0] ins.length) 129)).alloc (.cells #[.slice a ins.length cap,.slice (some ⟨w1.heap.size,0,none⟩) ins.length ins.length,.slice none 0 0] 30)):=bM.trans (bG0.mono bM.size)
  have hrw:iF (w1.alloc (.cells (madeCells #[.slice none 0 0] ins.length) 129)) (some ⟨w1.heap.size,0,none⟩) (bJ ins).wins:=fun k hk=>by
   have hk':k<ins.length:=by simpa[bJ]using hk
   refine⟨w1.heap.size,0,rfl,bP _ _,none,0, ?_,by simp[bJ],fun j hj=>by simp[bJ]at hj⟩
   rw[Nat.zero_add,World.cell?_alloc_new]
   simp[bJ,madeCells,hk',Nat.mod_one]
  have h6:=HP.out.2.1
  have BG:Below w.heap.size w ((w1.alloc (.cells (madeCells #[.slice none 0 0] ins.length) 129)).alloc (.cells #[.slice a ins.length cap,.slice (some ⟨w1.heap.size,0,none⟩) ins.length ins.length,.slice none 0 0] 30)):=hb0.trans (bG.mono hb0.size)
  have hfr:=qc a (some ⟨w1.heap.size,0,none⟩) none cap ins.length 0 (bJ ins) ((w1.alloc (.cells (madeCells #[.slice none 0 0] ins.length) 129)).alloc (.cells #[.slice a ins.length cap,.slice (some ⟨w1.heap.size,0,none⟩) ins.length ins.length,.slice none 0 0] 30)) h6 (by simp[bJ]) (hr.below BG) (hrw.below bG0) (fun k hk=>absurd hk (Nat.not_lt_zero k)) (fun j hj=>(HP.out.2.2 j hj).1.2.1) (fun j hj=>by
   have e:(bJ ins).wins[j]=[]:=by simp[bJ]
   rw[e]
   exact⟨by simp,fun i hi=>by simp at hi,fun i hi=>by simp at hi⟩) ⟨by simp[bJ],fun j hj=>by simp[bJ]at hj,fun j hj=>by simp[bJ]at hj⟩
  simp only[bJ,List.length_replicate,List.length_nil]at hfr
  go_wp2_with fail
  refine hfr.mono ?_
  rintro e w2 ⟨⟨B,v0,v1,L,gm,cm,hB,rfl,hg0,hg1,hLL,hfar,hgm,hgB,_,hom⟩,b2⟩
  have hLL':L.map (·.l)=List.replicate ins.length []:=hLL
  obtain⟨sia,sic,rfl,_⟩:=hg0.shape
  obtain⟨swa,swc,rfl,_,_⟩:=hg1.row
  have tR2:=(tR.keep bG).keep b2
  have zB:w.heap.size<B:=by have h1:w.heap.size<w1.heap.size:=block_lt_of_cell r0;have:=bG.size;omega
  have B2:Below w.heap.size w w2:=BG.trans (b2.mono BG.size)
  have HLL:Hid (L.map (·.l)=List.replicate ins.length []):=hLL'
  clear r0 r1 r2 f0 f1 f2 hLL hLL' hfr
  obtain⟨r0,r1,r2,f0,f1,f2⟩:=id tR2
  go_wp2_with fail
  have e0:(((w2.setCell ⟨w.heap.size,0,none⟩ (.slice sia ins.length sic)).setCell ⟨w.heap.size,1,none⟩ (.slice swa L.length swc)).setCell ⟨w.heap.size,2,none⟩ (.slice (some ⟨gm,0,none⟩) 0 cm)).cell? ⟨w.heap.size,0,none⟩=some (.slice sia ins.length sic):=by simp[go_sem,r0]
  have e1:(((w2.setCell ⟨w.heap.size,0,none⟩ (.slice sia ins.length sic)).setCell ⟨w.heap.size,1,none⟩ (.slice swa L.length swc)).setCell ⟨w.heap.size,2,none⟩ (.slice (some ⟨gm,0,none⟩) 0 cm)).cell? ⟨w.heap.size,1,none⟩=some (.slice swa L.length swc):=by simp[go_sem,r1]
  have e2:(((w2.setCell ⟨w.heap.size,0,none⟩ (.slice sia ins.length sic)).setCell ⟨w.heap.size,1,none⟩ (.slice swa L.length swc)).setCell ⟨w.heap.size,2,none⟩ (.slice (some ⟨gm,0,none⟩) 0 cm)).cell? ⟨w.heap.size,2,none⟩=some (.slice (some ⟨gm,0,none⟩) 0 cm):=by simp[go_sem,r2]
  have g1:aI (((w2.setCell ⟨w.heap.size,0,none⟩ (.slice sia ins.length sic)).setCell ⟨w.heap.size,1,none⟩ (.slice swa L.length swc)).setCell ⟨w.heap.size,2,none⟩ (.slice (some ⟨gm,0,none⟩) 0 cm)) B (.slice sia ins.length sic) ins:=df (df (df (show World.ownsRow _ _ _ _ _ _ _ from hg0) zB 0 _) zB 1 _) zB 2 _
  have g2:=((hg1.set zB 0 (.slice sia ins.length sic)).set zB 1 (.slice swa L.length swc)).set zB 2 (.slice (some ⟨gm,0,none⟩) 0 cm)
  exact bodyPost_ret (v:=.tuple #[.agg #[.slice sia ins.length sic,.slice swa L.length swc,.slice (some ⟨gm,0,none⟩) 0 cm],.bool true]) (by simp[results,Tryz.results27,go_sem,e0,e1,e2]) rfl ⟨.inl ⟨B,_,_,L,_,by omega,rfl,HP.out,g1,g2,HLL.out,⟨_,_,rfl⟩⟩,((B2.setCell (Nat.le_refl _) _).setCell (Nat.le_refl _) _).setCell (Nat.le_refl _) _⟩
end Go.Proofs.YtpfhegengmlkmabGreatDoor
