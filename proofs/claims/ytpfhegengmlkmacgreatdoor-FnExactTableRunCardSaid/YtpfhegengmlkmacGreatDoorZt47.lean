/- Texts of this claim. -/
import Derived.Test.YtpfhegengmlkmacGreatDoorZt46
namespace Go.Proofs.YtpfhegengmlkmacGreatDoor
open Go.RowKit Go.BigFrame
set_option maxRecDepth 100000
set_option maxHeartbeats 1600000 in
theorem l5Do_count (a0 a1 a2 a:Option Addr) (c0 c1 c2 cap:Nat) (g:GatL) (u0:ByteArray) (w:World) (hg:NiceV g) (r1:RowW w a1 g.wins) (hw:Wds w a cap [u0]) (h:bl u0=cCount) :
  Calls Tryz.prog 68 #[.agg #[.slice a0 g.ins.length c0,.slice a1 g.wins.length c1,.slice a2 g.shown.length c2],.slice a (([]:List ByteArray).length + 1) cap] w fun e w'=>DoE w w' g a0 a1 a2 c0 c1 c2 (TellT g (bl u0) ([]:List ByteArray)) e∧Below w.heap.size w w':=by
 have hf:=hw.few
 have hcp:=hw.room
 have hcp2:=hw.room2
 unfold maxLen at hcp2
 obtain ⟨b,o,rfl,hlt,cw⟩:=hw.row 0 (by simp)
 have cw:w.cell? ⟨b,o,none⟩=some (.string u0):=cw
 have hD:=doW_new w (.slice a0 g.ins.length c0) (.slice a1 g.wins.length c1) (.slice a2 g.shown.length c2) 36
 obtain ⟨W0,hW0⟩:∃ W0,(w.alloc (.cells #[.slice a0 g.ins.length c0,.slice a1 g.wins.length c1,.slice a2 g.shown.length c2] 36)).alloc (.cells #[.slice none 0 0,.slice none 0 0,.slice none 0 0] 36)=W0:=⟨_,rfl⟩
 rw [hW0] at hD
 have HW0:Hid ((w.alloc (.cells #[.slice a0 g.ins.length c0,.slice a1 g.wins.length c1,.slice a2 g.shown.length c2] 36)).alloc (.cells #[.slice none 0 0,.slice none 0 0,.slice none 0 0] 36)=W0):=hW0
 clear hW0
 have B0:=hD.bel
 have z0:=hD.z0
 have z1:=hD.z1
 have dw:=cell_on B0 hlt cw
 obtain ⟨g0,g1,g2,_,_,_⟩:=id hD.tG
 have k1:(u0.toList == [105,110,115])=false:=by rw [word_is h];rfl
 have k2:(u0.toList == [112,117,116])=false:=by rw [word_is h];rfl
 have k3:(u0.toList == [111,114,100,101,114])=false:=by rw [word_is h];rfl
 have k4:(u0.toList == [106,111,105,110])=false:=by rw [word_is h];rfl
 have k5:(u0.toList == [108,97,115,116])=false:=by rw [word_is h];rfl
 have k6:(u0.toList == [99,111,117,110,116])=true:=by rw [word_is h];rfl
 have k7:(u0.toList == [98,101,115,116])=false:=by rw [word_is h];rfl
 have HO:Hid (bl u0=cCount):=h
 have dx:=dw
 have y0:=z0
 have cL:=fun W hW=>specCC_any a1 c1 g.wins W (stamps_fitW hg.nice.wins hg.nice.items) (r1.below (w':=W) hW)
 clear h
 go_enter Tryz.func68,Tryz.ntmps68
 go_wp2_with (first | rw [HW0.out] | fail)
 have hbd:Below W0.heap.size W0 W0.drew:=(Below.refl _ _).drew
 have SW:(W0.drew).cell? ⟨w.heap.size,0,none⟩=some (.slice a0 g.ins.length c0)∧(W0.drew).cell? ⟨w.heap.size,1,none⟩=some (.slice a1 g.wins.length c1)∧(W0.drew).cell? ⟨w.heap.size,2,none⟩=some (.slice a2 g.shown.length c2)∧(W0.drew).cell? ⟨b,o,none⟩=some (.string u0):=⟨g0,g1,g2,dx⟩
 refine wp_region_held_drew (S:=fun u=>(u).cell? ⟨w.heap.size,0,none⟩=some (.slice a0 g.ins.length c0)∧(u).cell? ⟨w.heap.size,1,none⟩=some (.slice a1 g.wins.length c1)∧(u).cell? ⟨w.heap.size,2,none⟩=some (.slice a2 g.shown.length c2)∧(u).cell? ⟨b,o,none⟩=some (.string u0)) (by kernel_rfl) SW (fun _=>?_)
 refine wpAnyH_take (i:=0) (v:=.agg #[.slice a0 g.ins.length c0,.slice a1 g.wins.length c1,.slice a2 g.shown.length c2]) rfl (by kernel_rfl) (by kernel_rfl) (by kernel_rfl) (fun _ _ _ h=>h) (Or.inl ⟨by rfl, ?_⟩) SW ?_
 ·rintro u ⟨q1,q2,q3,q4⟩
  go_simp
 simp only [Act.put,List.setIfInBounds_toArray]
 refine wpAnyH_take (i:=1) (v:=.pointer (some ⟨w.heap.size,1,none⟩)) rfl (by kernel_rfl) (by kernel_rfl) (by kernel_rfl) (fun _ _ _ h=>h) (Or.inl ⟨by rfl, ?_⟩) SW ?_
 ·rintro u ⟨q1,q2,q3,q4⟩
  go_simp
 simp only [Act.put]
 refine wpAnyH_take (i:=2) (v:=.slice a1 g.wins.length c1) rfl (by kernel_rfl) (by kernel_rfl) (by kernel_rfl) (fun _ _ _ h=>h) (Or.inl ⟨by rfl, ?_⟩) SW ?_
 ·rintro u ⟨q1,q2,q3,q4⟩
  go_simp
 simp only [Act.put]
 refine wpAnyH_ready (rs:=[3]) (by kernel_rfl) (by simp) ?_
 refine AllReadyH.cons rfl (fun K hK=>?_) AllReadyH.nil
 rw [if_pos (by rfl)]
 go_simp
 refine (cL _ (B0.trans (hbd.mono B0.size))).mono ?_
 rintro e w0 ⟨⟨n,rfl,hn⟩,bq⟩
 have b0d:=hbd.trans (bq.mono hbd.size)
 have hle:=hn.le
 have HV:Hid (CouT g [] (Lib.itoa (n:Int))):=.inl ⟨rfl,n,hn,rfl⟩
 have cI:=l1Dec_full (n:Int) w0 ⟨by omega,by omega⟩
 obtain ⟨D,hDD⟩:∃ D:ByteArray,(⟨(Lib.itoa (n:Int)).toArray⟩:ByteArray)=D:=⟨_,rfl⟩
 have HDL:Hid (bl D=Lib.itoa (n:Int)):=by rw [Hid,<- hDD];simp [bl]
 rw [hDD] at cI
 clear hn hDD
 have Sw0:(w0).cell? ⟨w.heap.size,0,none⟩=some (.slice a0 g.ins.length c0)∧(w0).cell? ⟨w.heap.size,1,none⟩=some (.slice a1 g.wins.length c1)∧(w0).cell? ⟨w.heap.size,2,none⟩=some (.slice a2 g.shown.length c2)∧(w0).cell? ⟨b,o,none⟩=some (.string u0):=⟨cell_on b0d y0 g0,cell_on b0d y0 g1,cell_on b0d y0 g2,cell_on b0d (by omega) dx⟩
 refine hK.out _ _ Sw0 (fun _=>?_)
 clear hK K
 refine wpAnyH_ready (rs:=[4]) (by kernel_rfl) (by simp) ?_
 refine AllReadyH.cons rfl (fun K hK=>?_) AllReadyH.nil
 rw [if_pos (by rfl)]
 go_simp
 refine cI.mono ?_
 rintro e w1 ⟨rfl,b1⟩
 have b1d:=b0d.trans (b1.mono b0d.size)
 have HT:Hid (TellT g (bl u0) [] g (bl D)):=by rw [Hid,HO.out,HDL.out];exact tellT_count HV.out
 have Sw1:(w1).cell? ⟨w.heap.size,0,none⟩=some (.slice a0 g.ins.length c0)∧(w1).cell? ⟨w.heap.size,1,none⟩=some (.slice a1 g.wins.length c1)∧(w1).cell? ⟨w.heap.size,2,none⟩=some (.slice a2 g.shown.length c2)∧(w1).cell? ⟨b,o,none⟩=some (.string u0):=⟨cell_on b1d y0 g0,cell_on b1d y0 g1,cell_on b1d y0 g2,cell_on b1d (by omega) dx⟩
 refine hK.out _ _ Sw1 (fun _=>?_)
 clear hK K
 have tRx:=hD.tR.keep b1d
 obtain ⟨x0,x1,x2,o0,o1,o2⟩:=id tRx
 refine wpAnyH_ready (rs:=[5]) (by kernel_rfl) (by simp) ?_
 refine AllReadyH.cons rfl (fun K hK=>?_) AllReadyH.nil
 rw [if_pos (by rfl)]
 go_simp
 have sp:=span_set3 w1 (w.heap.size + 1) (.slice a0 g.ins.length c0) (.slice a1 g.wins.length c1) (.slice a2 g.shown.length c2)
 have tZ:=tRx.set3 (.slice a0 g.ins.length c0) (.slice a1 g.wins.length c1) (.slice a2 g.shown.length c2)
 have tG8:=(hD.tG.keep b1d).span sp (by omega)
 have B7:Below w.heap.size w w1:=B0.trans (b1d.mono B0.size)
 have B8:Below w.heap.size w (((w1.setCell ⟨w.heap.size + 1,0,none⟩ (.slice a0 g.ins.length c0)).setCell ⟨w.heap.size + 1,1,none⟩ (.slice a1 g.wins.length c1)).setCell ⟨w.heap.size + 1,2,none⟩ (.slice a2 g.shown.length c2)):=below_set3 B7 (Nat.le_succ _) (.slice a0 g.ins.length c0) (.slice a1 g.wins.length c1) (.slice a2 g.shown.length c2)
 have d8:(((w1.setCell ⟨w.heap.size + 1,0,none⟩ (.slice a0 g.ins.length c0)).setCell ⟨w.heap.size + 1,1,none⟩ (.slice a1 g.wins.length c1)).setCell ⟨w.heap.size + 1,2,none⟩ (.slice a2 g.shown.length c2)).cell? ⟨b,o,none⟩=some (.string u0):=by rw [World.cell?_of_block (sp.block b (by have:=B7.size;omega) (.inl (by omega)))];exact Sw1.2.2.2
 generalize ((w1.setCell ⟨w.heap.size + 1,0,none⟩ (.slice a0 g.ins.length c0)).setCell ⟨w.heap.size + 1,1,none⟩ (.slice a1 g.wins.length c1)).setCell ⟨w.heap.size + 1,2,none⟩ (.slice a2 g.shown.length c2)=w8 at *
 have S8:(w8).cell? ⟨w.heap.size,0,none⟩=some (.slice a0 g.ins.length c0)∧(w8).cell? ⟨w.heap.size,1,none⟩=some (.slice a1 g.wins.length c1)∧(w8).cell? ⟨w.heap.size,2,none⟩=some (.slice a2 g.shown.length c2)∧(w8).cell? ⟨b,o,none⟩=some (.string u0):=⟨tG8.c0,tG8.c1,tG8.c2,d8⟩
 refine hK.out _ _ S8 (fun _=>?_)
 clear hK K
 refine wpAnyH_ready (rs:=[6]) (by kernel_rfl) (by simp) ?_
 refine AllReadyH.cons rfl (fun K hK=>?_) AllReadyH.nil
 rw [if_pos (by rfl)]
 go_simp
 refine hK.out _ _ S8 (fun _=>?_)
 clear hK K
 refine wpAnyH_done (by kernel_rfl) ?_ _
 obtain ⟨n0,n1,n2,_,_,_⟩:=id tZ
 go_wp2_with fail
 exact bodyPost_ret (v:=.tuple #[.agg #[.slice a0 g.ins.length c0,.slice a1 g.wins.length c1,.slice a2 g.shown.length c2],.string D]) (by simp [results,Tryz.results68,go_sem,n0,n1,n2]) rfl ⟨DoE.old (HT.out),B8⟩
set_option maxHeartbeats 1600000 in
theorem l5Do_best (a0 a1 a2 a:Option Addr) (c0 c1 c2 cap:Nat) (g:GatL) (u0:ByteArray) (w:World) (hg:NiceV g) (r1:RowW w a1 g.wins) (hw:Wds w a cap [u0]) (h:bl u0=cBest) :
  Calls Tryz.prog 68 #[.agg #[.slice a0 g.ins.length c0,.slice a1 g.wins.length c1,.slice a2 g.shown.length c2],.slice a (([]:List ByteArray).length + 1) cap] w fun e w'=>DoE w w' g a0 a1 a2 c0 c1 c2 (TellT g (bl u0) ([]:List ByteArray)) e∧Below w.heap.size w w':=by
 have hf:=hw.few
 have hcp:=hw.room
 have hcp2:=hw.room2
 unfold maxLen at hcp2
 obtain ⟨b,o,rfl,hlt,cw⟩:=hw.row 0 (by simp)
 have cw:w.cell? ⟨b,o,none⟩=some (.string u0):=cw
 have hD:=doW_new w (.slice a0 g.ins.length c0) (.slice a1 g.wins.length c1) (.slice a2 g.shown.length c2) 36
 obtain ⟨W0,hW0⟩:∃ W0,(w.alloc (.cells #[.slice a0 g.ins.length c0,.slice a1 g.wins.length c1,.slice a2 g.shown.length c2] 36)).alloc (.cells #[.slice none 0 0,.slice none 0 0,.slice none 0 0] 36)=W0:=⟨_,rfl⟩
 rw [hW0] at hD
 have HW0:Hid ((w.alloc (.cells #[.slice a0 g.ins.length c0,.slice a1 g.wins.length c1,.slice a2 g.shown.length c2] 36)).alloc (.cells #[.slice none 0 0,.slice none 0 0,.slice none 0 0] 36)=W0):=hW0
 clear hW0
 have B0:=hD.bel
 have z0:=hD.z0
 have z1:=hD.z1
 have dw:=cell_on B0 hlt cw
 obtain ⟨g0,g1,g2,_,_,_⟩:=id hD.tG
 have k1:(u0.toList == [105,110,115])=false:=by rw [word_is h];rfl
 have k2:(u0.toList == [112,117,116])=false:=by rw [word_is h];rfl
 have k3:(u0.toList == [111,114,100,101,114])=false:=by rw [word_is h];rfl
 have k4:(u0.toList == [106,111,105,110])=false:=by rw [word_is h];rfl
 have k5:(u0.toList == [108,97,115,116])=false:=by rw [word_is h];rfl
 have k6:(u0.toList == [99,111,117,110,116])=false:=by rw [word_is h];rfl
 have k7:(u0.toList == [98,101,115,116])=true:=by rw [word_is h];rfl
 have HO:Hid (bl u0=cBest):=h
 have cL:=specCB_any a1 c1 g.wins W0 (stamps_fitW hg.nice.wins hg.nice.items) (r1.below B0)
 clear h
 go_enter Tryz.func68,Tryz.ntmps68
 go_wp2_with (first | rw [HW0.out] | (go_at_call 44;refine hid_hold ?_))
 unfold Hid
 refine cL.mono ?_
 rintro e w0 ⟨⟨q,c,out,rfl,hb,hq,hn⟩ | ⟨rfl,hb⟩,b0⟩
 ·have HV:Hid (BesT g [] (numsB out)):=.inl ⟨rfl,out,true,hb,.inr ⟨rfl,rfl⟩⟩
  have hz:RowZ w0 (some ⟨q,0,none⟩) out:=hn.row
  have cI:=fun W hW=>l5Numbers_any (some ⟨q,0,none⟩) c out W hb.facts.1 hb.facts.2 (hz.below (w':=W) hW)
  obtain ⟨D,hDD⟩:∃ D:ByteArray,(⟨(numsB out).toArray⟩:ByteArray)=D:=⟨_,rfl⟩
  have HDL:Hid (bl D=numsB out):=by rw [Hid,<- hDD];simp [bl]
  rw [hDD] at cI
  have Bq:Below w.heap.size w w0:=B0.trans (b0.mono B0.size)
  have tGq:=hD.tG.keep b0
  have tRq:=hD.tR.keep b0
  have dx:=cell_on b0 (by have:=B0.size;omega) dw
  have y0:=Nat.lt_of_lt_of_le z0 b0.size
  have y1:=b0.size
  clear hb hDD hn hz g0 g1 g2
  obtain ⟨g0,g1,g2,_,_,_⟩:=id tGq
  go_wp2_with fail
  have hbd:Below w0.heap.size w0 w0.drew:=(Below.refl _ _).drew
  have SW:(w0.drew).cell? ⟨w.heap.size,0,none⟩=some (.slice a0 g.ins.length c0)∧(w0.drew).cell? ⟨w.heap.size,1,none⟩=some (.slice a1 g.wins.length c1)∧(w0.drew).cell? ⟨w.heap.size,2,none⟩=some (.slice a2 g.shown.length c2)∧(w0.drew).cell? ⟨b,o,none⟩=some (.string u0):=⟨g0,g1,g2,dx⟩
  refine wp_region_held_drew (S:=fun u=>(u).cell? ⟨w.heap.size,0,none⟩=some (.slice a0 g.ins.length c0)∧(u).cell? ⟨w.heap.size,1,none⟩=some (.slice a1 g.wins.length c1)∧(u).cell? ⟨w.heap.size,2,none⟩=some (.slice a2 g.shown.length c2)∧(u).cell? ⟨b,o,none⟩=some (.string u0)) (by kernel_rfl) SW (fun _=>?_)
  refine wpAnyH_take (i:=0) (v:=.agg #[.slice a0 g.ins.length c0,.slice a1 g.wins.length c1,.slice a2 g.shown.length c2]) rfl (by kernel_rfl) (by kernel_rfl) (by kernel_rfl) (fun _ _ _ h=>h) (Or.inl ⟨by rfl, ?_⟩) SW ?_
  ·rintro u ⟨q1,q2,q3,q4⟩
   go_simp
  simp only [Act.put,List.setIfInBounds_toArray]
  refine wpAnyH_take (i:=1) (v:=.slice (some ⟨q,0,none⟩) out.length c) rfl (by kernel_rfl) (by kernel_rfl) (by kernel_rfl) (fun _ _ _ h=>h) (Or.inl ⟨by rfl, ?_⟩) SW ?_
  ·rintro u ⟨q1,q2,q3,q4⟩
   go_simp
  simp only [Act.put]
  refine wpAnyH_ready (rs:=[2]) (by kernel_rfl) (by simp) ?_
  refine AllReadyH.cons rfl (fun K hK=>?_) AllReadyH.nil
  rw [if_pos (by rfl)]
  go_simp
  refine (cI _ hbd).mono ?_
  rintro e w1 ⟨rfl,b1⟩
  have b1d:=hbd.trans (b1.mono hbd.size)
  have HT:Hid (TellT g (bl u0) [] g (bl D)):=by rw [Hid,HO.out,HDL.out];exact tellT_best HV.out
  have Sw1:(w1).cell? ⟨w.heap.size,0,none⟩=some (.slice a0 g.ins.length c0)∧(w1).cell? ⟨w.heap.size,1,none⟩=some (.slice a1 g.wins.length c1)∧(w1).cell? ⟨w.heap.size,2,none⟩=some (.slice a2 g.shown.length c2)∧(w1).cell? ⟨b,o,none⟩=some (.string u0):=⟨cell_on b1d y0 g0,cell_on b1d y0 g1,cell_on b1d y0 g2,cell_on b1d (by omega) dx⟩
  refine hK.out _ _ Sw1 (fun _=>?_)
  clear hK K
  have tRx:=tRq.keep b1d
  obtain ⟨x0,x1,x2,o0,o1,o2⟩:=id tRx
  refine wpAnyH_ready (rs:=[3]) (by kernel_rfl) (by simp) ?_
  refine AllReadyH.cons rfl (fun K hK=>?_) AllReadyH.nil
  rw [if_pos (by rfl)]
  go_simp
  have sp:=span_set3 w1 (w.heap.size + 1) (.slice a0 g.ins.length c0) (.slice a1 g.wins.length c1) (.slice a2 g.shown.length c2)
  have tZ:=tRx.set3 (.slice a0 g.ins.length c0) (.slice a1 g.wins.length c1) (.slice a2 g.shown.length c2)
  have tG8:=(tGq.keep b1d).span sp (by omega)
  have B7:Below w.heap.size w w1:=Bq.trans (b1d.mono Bq.size)
  have B8:Below w.heap.size w (((w1.setCell ⟨w.heap.size + 1,0,none⟩ (.slice a0 g.ins.length c0)).setCell ⟨w.heap.size + 1,1,none⟩ (.slice a1 g.wins.length c1)).setCell ⟨w.heap.size + 1,2,none⟩ (.slice a2 g.shown.length c2)):=below_set3 B7 (Nat.le_succ _) (.slice a0 g.ins.length c0) (.slice a1 g.wins.length c1) (.slice a2 g.shown.length c2)
  have d8:(((w1.setCell ⟨w.heap.size + 1,0,none⟩ (.slice a0 g.ins.length c0)).setCell ⟨w.heap.size + 1,1,none⟩ (.slice a1 g.wins.length c1)).setCell ⟨w.heap.size + 1,2,none⟩ (.slice a2 g.shown.length c2)).cell? ⟨b,o,none⟩=some (.string u0):=by rw [World.cell?_of_block (sp.block b (by have:=B7.size;omega) (.inl (by omega)))];exact Sw1.2.2.2
  generalize ((w1.setCell ⟨w.heap.size + 1,0,none⟩ (.slice a0 g.ins.length c0)).setCell ⟨w.heap.size + 1,1,none⟩ (.slice a1 g.wins.length c1)).setCell ⟨w.heap.size + 1,2,none⟩ (.slice a2 g.shown.length c2)=w8 at *
  have S8:(w8).cell? ⟨w.heap.size,0,none⟩=some (.slice a0 g.ins.length c0)∧(w8).cell? ⟨w.heap.size,1,none⟩=some (.slice a1 g.wins.length c1)∧(w8).cell? ⟨w.heap.size,2,none⟩=some (.slice a2 g.shown.length c2)∧(w8).cell? ⟨b,o,none⟩=some (.string u0):=⟨tG8.c0,tG8.c1,tG8.c2,d8⟩
  refine hK.out _ _ S8 (fun _=>?_)
  clear hK K
  refine wpAnyH_ready (rs:=[4]) (by kernel_rfl) (by simp) ?_
  refine AllReadyH.cons rfl (fun K hK=>?_) AllReadyH.nil
  rw [if_pos (by rfl)]
  go_simp
  refine hK.out _ _ S8 (fun _=>?_)
  clear hK K
  refine wpAnyH_done (by kernel_rfl) ?_ _
  obtain ⟨n0,n1,n2,_,_,_⟩:=id tZ
  go_wp2_with fail
  exact bodyPost_ret (v:=.tuple #[.agg #[.slice a0 g.ins.length c0,.slice a1 g.wins.length c1,.slice a2 g.shown.length c2],.string D]) (by simp [results,Tryz.results68,go_sem,n0,n1,n2]) rfl ⟨DoE.old (HT.out),B8⟩
 ·have HT:Hid (TellT g (bl u0) [] g tNone):=by rw [Hid,HO.out];exact tellT_best (.inl ⟨rfl,[],false,hb,.inl ⟨rfl,rfl⟩⟩)
  have Bq:Below w.heap.size w w0:=B0.trans (b0.mono B0.size)
  have tGq:=hD.tG.keep b0
  have tRq:=hD.tR.keep b0
  clear hb g0 g1 g2
  obtain ⟨g0,g1,g2,_,_,_⟩:=id tGq
  obtain ⟨x0,x1,x2,o0,o1,o2⟩:=id tRq
  have HB:Hid (Below w.heap.size w _):=below_set3 Bq (Nat.le_succ _) (.slice a0 g.ins.length c0) (.slice a1 g.wins.length c1) (.slice a2 g.shown.length c2)
  have ⟨n0,n1,n2,_,_,_⟩:=tRq.set3 (.slice a0 g.ins.length c0) (.slice a1 g.wins.length c1) (.slice a2 g.shown.length c2)
  go_wp2_with fail
  exact bodyPost_ret (v:=.tuple #[.agg #[.slice a0 g.ins.length c0,.slice a1 g.wins.length c1,.slice a2 g.shown.length c2],.string ⟨#[110,111,110,101]⟩]) (by simp [results,Tryz.results68,go_sem,n0,n1,n2]) rfl ⟨DoE.old HT.out,HB.out⟩
set_option maxHeartbeats 1600000 in
theorem l5Do_put (a0 a1 a2 a:Option Addr) (c0 c1 c2 cap:Nat) (g:GatL) (u0:ByteArray) (r:List ByteArray) (w:World) (hg:NiceV g) (r0:RowS w a0 g.ins) (r1:RowW w a1 g.wins) (r2:Row w a2 g.shown) (hw:Wds w a cap (u0 :: r)) (h:bl u0=cPut) :
  Calls Tryz.prog 68 #[.agg #[.slice a0 g.ins.length c0,.slice a1 g.wins.length c1,.slice a2 g.shown.length c2],.slice a (r.length + 1) cap] w fun e w'=>DoE w w' g a0 a1 a2 c0 c1 c2 (TellT g (bl u0) r) e∧Below w.heap.size w w':=by
 have hf:=hw.few
 have hcp:=hw.room
 have hcp2:=hw.room2
 unfold maxLen at hcp2
 simp only [List.length_cons] at hf hcp
 obtain ⟨b,o,rfl,hlt,cw⟩:=hw.row 0 (by simp)
 have cw:w.cell? ⟨b,o,none⟩=some (.string u0):=cw
 have hD:=doW_new w (.slice a0 g.ins.length c0) (.slice a1 g.wins.length c1) (.slice a2 g.shown.length c2) 36
 obtain ⟨W0,hW0⟩:∃ W0,(w.alloc (.cells #[.slice a0 g.ins.length c0,.slice a1 g.wins.length c1,.slice a2 g.shown.length c2] 36)).alloc (.cells #[.slice none 0 0,.slice none 0 0,.slice none 0 0] 36)=W0:=⟨_,rfl⟩
 rw [hW0] at hD
 have HW0:Hid ((w.alloc (.cells #[.slice a0 g.ins.length c0,.slice a1 g.wins.length c1,.slice a2 g.shown.length c2] 36)).alloc (.cells #[.slice none 0 0,.slice none 0 0,.slice none 0 0] 36)=W0):=hW0
 clear hW0
 have B0:=hD.bel
 have z0:=hD.z0
 have z1:=hD.z1
 have dw:=cell_on B0 hlt cw
 obtain ⟨g0,g1,g2,_,_,_⟩:=id hD.tG
 have hpos:(0:Int) < (r.length:Int) + 1:=by omega
 have k1:(u0.toList == [105,110,115])=false:=by rw [word_is h];rfl
 have k2:(u0.toList == [112,117,116])=true:=by rw [word_is h];rfl
 have k3:(u0.toList == [111,114,100,101,114])=false:=by rw [word_is h];rfl
 have k4:(u0.toList == [106,111,105,110])=false:=by rw [word_is h];rfl
 have k5:(u0.toList == [108,97,115,116])=false:=by rw [word_is h];rfl
 have k6:(u0.toList == [99,111,117,110,116])=false:=by rw [word_is h];rfl
 have k7:(u0.toList == [98,101,115,116])=false:=by rw [word_is h];rfl
 have HO:Hid (bl u0=cPut):=h
 have cP:=l5Put_any a0 a1 a2 (some ⟨b,o,none⟩) c0 c1 c2 cap g u0 r W0 hg (r0.below B0) (r1.below B0) (r2.below B0) (hw.below B0)
 clear h
 go_enter Tryz.func68,Tryz.ntmps68
 go_wp2_with (first | rw [HW0.out] | (go_at_call 106;refine hid_hold ?_))
 unfold Hid
 refine cP.mono ?_
 rintro e w1 ⟨⟨s,g',b0,b1,b2,d0,d1,d2,rfl,hT,hrs⟩,bb⟩
 have HT:Hid (TellT g (bl u0) r g' (bl s)):=by rw [Hid,HO.out];exact tellT_put hT
 have B1:Below w.heap.size w w1:=B0.trans (bb.mono B0.size)
 have tR1:=hD.tR.keep bb
 obtain ⟨x0,x1,x2,o0,o1,o2⟩:=id tR1
 have sp:=span_set3 w1 (w.heap.size + 1) (.slice b0 g'.ins.length d0) (.slice b1 g'.wins.length d1) (.slice b2 g'.shown.length d2)
 have HB:Hid (Below w.heap.size w _):=below_set3 B1 (Nat.le_succ _) (.slice b0 g'.ins.length d0) (.slice b1 g'.wins.length d1) (.slice b2 g'.shown.length d2)
 have ⟨n0,n1,n2,_,_,_⟩:=tR1.set3 (.slice b0 g'.ins.length d0) (.slice b1 g'.wins.length d1) (.slice b2 g'.shown.length d2)
 have HE:Hid (DoE w (((w1.setCell ⟨w.heap.size + 1,0,none⟩ (.slice b0 g'.ins.length d0)).setCell ⟨w.heap.size + 1,1,none⟩ (.slice b1 g'.wins.length d1)).setCell ⟨w.heap.size + 1,2,none⟩ (.slice b2 g'.shown.length d2)) g a0 a1 a2 c0 c1 c2 (TellT g (bl u0) r) (.returned (.tuple #[.agg #[.slice b0 g'.ins.length d0,.slice b1 g'.wins.length d1,.slice b2 g'.shown.length d2],.string s]))):=by
  rcases hrs with ⟨rfl,rfl,rfl,rfl,rfl,rfl,rfl⟩ | ⟨hr,hn,hc,hc2⟩
  ·exact DoE.old HT.out
  ·exact DoE.new (hr.agree (sp.agree (by omega))) (by omega) sp.size hn hc hc2 HT.out
 clear hT hrs cP sp
 go_wp2_with fail
 exact bodyPost_ret (v:=.tuple #[.agg #[.slice b0 g'.ins.length d0,.slice b1 g'.wins.length d1,.slice b2 g'.shown.length d2],.string s]) (by simp [results,Tryz.results68,go_sem,n0,n1,n2]) rfl ⟨HE.out,HB.out⟩
set_option maxHeartbeats 1600000 in
theorem l5Do_ins (a0 a1 a2 a:Option Addr) (c0 c1 c2 cap:Nat) (g:GatL) (u0:ByteArray) (r:List ByteArray) (w:World) (hw:Wds w a cap (u0 :: r)) (h:bl u0=cIns) (hne:r≠[]) :
  Calls Tryz.prog 68 #[.agg #[.slice a0 g.ins.length c0,.slice a1 g.wins.length c1,.slice a2 g.shown.length c2],.slice a (r.length + 1) cap] w fun e w'=>DoE w w' g a0 a1 a2 c0 c1 c2 (TellT g (bl u0) r) e∧Below w.heap.size w w':=by
 have hf:=hw.few
 have hcp:=hw.room
 have hcp2:=hw.room2
 unfold maxLen at hcp2
 simp only [List.length_cons] at hf hcp
 obtain ⟨b,o,rfl,hlt,cw⟩:=hw.row 0 (by simp)
 have cw:w.cell? ⟨b,o,none⟩=some (.string u0):=cw
 have hD:=doW_new w (.slice a0 g.ins.length c0) (.slice a1 g.wins.length c1) (.slice a2 g.shown.length c2) 36
 obtain ⟨W0,hW0⟩:∃ W0,(w.alloc (.cells #[.slice a0 g.ins.length c0,.slice a1 g.wins.length c1,.slice a2 g.shown.length c2] 36)).alloc (.cells #[.slice none 0 0,.slice none 0 0,.slice none 0 0] 36)=W0:=⟨_,rfl⟩
 rw [hW0] at hD
 have HW0:Hid ((w.alloc (.cells #[.slice a0 g.ins.length c0,.slice a1 g.wins.length c1,.slice a2 g.shown.length c2] 36)).alloc (.cells #[.slice none 0 0,.slice none 0 0,.slice none 0 0] 36)=W0):=hW0
 clear hW0
 have B0:=hD.bel
 have z0:=hD.z0
 have z1:=hD.z1
 have dw:=cell_on B0 hlt cw
 obtain ⟨g0,g1,g2,_,_,_⟩:=id hD.tG
 have hpos:(0:Int) < (r.length:Int) + 1:=by omega
 have k1:(u0.toList == [105,110,115])=true:=by rw [word_is h];rfl
 have k2:(u0.toList == [112,117,116])=false:=by rw [word_is h];rfl
 have k3:(u0.toList == [111,114,100,101,114])=false:=by rw [word_is h];rfl
 have k4:(u0.toList == [106,111,105,110])=false:=by rw [word_is h];rfl
 have k5:(u0.toList == [108,97,115,116])=false:=by rw [word_is h];rfl
 have k6:(u0.toList == [99,111,117,110,116])=false:=by rw [word_is h];rfl
 have k7:(u0.toList == [98,101,115,116])=false:=by rw [word_is h];rfl
 have HO:Hid (bl u0=cIns):=h
 have HNE:Hid (r≠[]):=hne
 have hr1:=List.length_pos_iff.2 hne
 have hl:(1:Int) < (r.length:Int) + 1:=by omega
 have hl2:(1:Int)<=(r.length:Int) + 1:=by omega
 have hc1:¬ cap=1:=by omega
 have hc2:¬ cap - 1=0:=by omega
 have cN:=specGN_any (some ⟨b,o + 1,none⟩) (cap - 1) r W0 (by omega) ((hw.row.drop 1).below B0) (fun j hj=>by have:=hw.short _ (List.mem_cons_of_mem _ (List.getElem_mem hj));unfold maxLen;omega)
 clear h hne
 go_enter Tryz.func68,Tryz.ntmps68
 go_wp2_with (first | rw [HW0.out] | (go_at_call 64;refine hid_hold ?_))
 unfold Hid
 refine cN.mono ?_
 rintro e w1 ⟨hE,b1⟩
 have B1:Below w.heap.size w w1:=B0.trans (b1.mono B0.size)
 have tR1:=hD.tR.keep b1
 have tG1:=hD.tG.keep b1
 rcases hE.start with ⟨e0,p0,e1,p1,e2,p2,L,rfl,hN,hm,hS,hc0,hc1'⟩ | ⟨rfl,hN⟩
 ·have hP:InsP r:=by
   rcases hN with ⟨_,h,_⟩ | ⟨h,_⟩
   ·exact h
   ·cases h
  have hLl:L.length=(newG r).wins.length:=by rw [<- hm];simp
  have hrows:=hS.rowsIn (g:=newG r) hm
  rw [hLl]
  have hv:=newG_v hP
  have HT:Hid (TellT g (bl u0) r (newG r) tOk):=by rw [Hid,HO.out];exact tellT_ins (.inr (.inl ⟨HNE.out,hP,rfl,rfl⟩))
  have bx:Below w1.heap.size w1 (w1.alloc (.cells #[.slice e0 r.length p0,.slice e1 (newG r).wins.length p1,.slice e2 0 p2] 36)):=(Below.refl _ _).alloc (Nat.le_refl _) _
  have tx:=tri_new w1 (.slice e0 r.length p0) (.slice e1 (newG r).wins.length p1) (.slice e2 0 p2) 36
  have tR2:=tR1.keep bx
  have B2:=B1.trans (bx.mono B1.size)
  have hrows2:=hrows.agree (u:=w1.alloc (.cells #[.slice e0 r.length p0,.slice e1 (newG r).wins.length p1,.slice e2 0 p2] 36)) (below_agree bx)
  have z2:=bx.size
  clear hE hN hm hS hLl hrows hP
  obtain ⟨W2,hW2⟩:∃ W2,w1.alloc (.cells #[.slice e0 r.length p0,.slice e1 (newG r).wins.length p1,.slice e2 0 p2] 36)=W2:=⟨_,rfl⟩
  rw [hW2] at bx tx tR2 B2 hrows2 z2
  have HW2:Hid (w1.alloc (.cells #[.slice e0 r.length p0,.slice e1 (newG r).wins.length p1,.slice e2 0 p2] 36)=W2):=hW2
  clear hW2
  obtain ⟨y0,y1,y2,_,_,_⟩:=id tx
  obtain ⟨x0,x1,x2,o0,o1,o2⟩:=id tR2
  have sp:=span_set3 W2 (w.heap.size + 1) (.slice e0 r.length p0) (.slice e1 (newG r).wins.length p1) (.slice e2 0 p2)
  have HB:Hid (Below w.heap.size w _):=below_set3 B2 (Nat.le_succ _) (.slice e0 r.length p0) (.slice e1 (newG r).wins.length p1) (.slice e2 0 p2)
  have ⟨n0,n1,n2,_,_,_⟩:=tR2.set3 (.slice e0 r.length p0) (.slice e1 (newG r).wins.length p1) (.slice e2 0 p2)
  have HR:Hid (RowsIn W0.heap.size w1.heap.size _ (newG r) e0 e1 e2):=hrows2.agree (sp.agree (by omega))
  have HZ:Hid (w1.heap.size<=(((W2.setCell ⟨w.heap.size + 1,0,none⟩ (.slice e0 r.length p0)).setCell ⟨w.heap.size + 1,1,none⟩ (.slice e1 (newG r).wins.length p1)).setCell ⟨w.heap.size + 1,2,none⟩ (.slice e2 0 p2)).heap.size):=Nat.le_trans z2 sp.size
  clear hrows2 sp
  go_wp2_with (first | rw [HW2.out] | fail)
  exact bodyPost_ret (v:=.tuple #[.agg #[.slice e0 r.length p0,.slice e1 (newG r).wins.length p1,.slice e2 0 p2],.string ⟨#[111,107]⟩]) (by simp [results,Tryz.results68,go_sem,n0,n1,n2]) rfl ⟨DoE.new (g':=newG r) HR.out (by omega) HZ.out hv hc0 hc1' HT.out,HB.out⟩
 ·have hP:¬ InsP r:=by
   rcases hN with ⟨h,_⟩ | ⟨_,h,_⟩
   ·cases h
   ·exact h
  have HT:Hid (TellT g (bl u0) r g tNo):=by rw [Hid,HO.out];exact tellT_ins (.inr (.inr ⟨HNE.out,hP,rfl,rfl⟩))
  clear hE hN hP g0 g1 g2
  obtain ⟨g0,g1,g2,_,_,_⟩:=id tG1
  obtain ⟨x0,x1,x2,o0,o1,o2⟩:=id tR1
  have y0:=Nat.lt_of_lt_of_le z0 b1.size
  have y1:=Nat.lt_of_lt_of_le z1 b1.size
  have hb3:=below_set3 B1 (b:=w.heap.size + 1) (Nat.le_succ _) (.slice a0 g.ins.length c0) (.slice a1 g.wins.length c1) (.slice a2 g.shown.length c2)
  have HB:Hid (Below w.heap.size w _):=hb3.alloc hb3.size (.cells #[.slice none 0 0,.slice none 0 0,.slice none 0 0] 36)
  clear hb3
  have ⟨n0,n1,n2,_,_,_⟩:=(tR1.set3 (.slice a0 g.ins.length c0) (.slice a1 g.wins.length c1) (.slice a2 g.shown.length c2)).keep ((Below.refl _ _).alloc (Nat.le_refl _) (.cells #[.slice none 0 0,.slice none 0 0,.slice none 0 0] 36))
  go_wp2_with fail
  exact bodyPost_ret (v:=.tuple #[.agg #[.slice a0 g.ins.length c0,.slice a1 g.wins.length c1,.slice a2 g.shown.length c2],.string ⟨#[110,111]⟩]) (by simp [results,Tryz.results68,go_sem,n0,n1,n2]) rfl ⟨DoE.old HT.out,HB.out⟩
theorem l5Do_any (a0 a1 a2 a:Option Addr) (c0 c1 c2 cap:Nat) (g:GatL) (u0:ByteArray) (r:List ByteArray) (w:World) (hg:NiceV g) (r0:RowS w a0 g.ins) (r1:RowW w a1 g.wins) (r2:Row w a2 g.shown) (hw:Wds w a cap (u0 :: r)) :
  Calls Tryz.prog 68 #[.agg #[.slice a0 g.ins.length c0,.slice a1 g.wins.length c1,.slice a2 g.shown.length c2],.slice a (r.length + 1) cap] w fun e w'=>DoE w w' g a0 a1 a2 c0 c1 c2 (TellT g (bl u0) r) e∧Below w.heap.size w w':=by
 by_cases h1:bl u0=cIns
 ·by_cases hr:r=[]
  ·exact l5Do_q a0 a1 a2 a c0 c1 c2 cap g u0 r w hw (.inl ⟨h1,hr⟩)
  ·exact l5Do_ins a0 a1 a2 a c0 c1 c2 cap g u0 r w hw h1 hr
 by_cases h2:bl u0=cPut
 ·exact l5Do_put a0 a1 a2 a c0 c1 c2 cap g u0 r w hg r0 r1 r2 hw h2
 by_cases h3:bl u0=cOrder
 ·exact l5Do_order a0 a1 a2 a c0 c1 c2 cap g u0 r w hw h3
 by_cases h4:bl u0=cJoin
 ·exact l5Do_join a0 a1 a2 a c0 c1 c2 cap g u0 r w hw h4
 by_cases h5:bl u0=cLast
 ·by_cases hr:r.length=1
  ·obtain ⟨nm,rfl⟩:=List.length_eq_one_iff.1 hr
   exact l5Do_last a0 a1 a2 a c0 c1 c2 cap g u0 nm w hg r0 r1 hw h5
  ·exact l5Do_q a0 a1 a2 a c0 c1 c2 cap g u0 r w hw (.inr (.inl ⟨h5,hr⟩))
 by_cases h6:bl u0=cCount
 ·by_cases hr:r=[]
  ·subst hr
   exact l5Do_count a0 a1 a2 a c0 c1 c2 cap g u0 w hg r1 hw h6
  ·exact l5Do_q a0 a1 a2 a c0 c1 c2 cap g u0 r w hw (.inr (.inr (.inl ⟨h6,hr⟩)))
 by_cases h7:bl u0=cBest
 ·by_cases hr:r=[]
  ·subst hr
   exact l5Do_best a0 a1 a2 a c0 c1 c2 cap g u0 w hg r1 hw h7
  ·exact l5Do_q a0 a1 a2 a c0 c1 c2 cap g u0 r w hw (.inr (.inr (.inr (.inl ⟨h7,hr⟩))))
 exact l5Do_q a0 a1 a2 a c0 c1 c2 cap g u0 r w hw (.inr (.inr (.inr (.inr ⟨h1,h2,h3,h4,h5,h6,h7⟩))))
set_option maxHeartbeats 1600000 in
theorem l1Split_big (t:ByteArray) (c:UInt8) (w:World) (ht:t.size<=2000000) :
  Calls Tryz.prog 67 #[.string t,.int .u8 (c.toNat:Int)] w fun e w'=>(∃ v us,e=.returned v∧GathS w' w.heap.size v us∧us.map bl=splitL c (bl t))∧Below w.heap.size w w':=by
 obtain ⟨i0,hi,hz0,hz1,hz2⟩:=info_parts Tryz.infoS
 go_enter Tryz.func67,Tryz.ntmps67
 go_wp2_with fail
 go_loopw [5,6,7] (fun out av iv wr=>∃ a i:Nat,a<=i∧i<=t.size∧av=.int .i64 a∧iv=.int .i64 i∧∃ o,GathS wr w.heap.size out o∧o.length<=i∧o.map bl ++ splitL c ((bl t).drop a)=splitL c (bl t)∧c∉((bl t).take i).drop a∧Below w.heap.size w wr) (fun _ _ iv _=>t.size - (intOf iv).toNat)
 case atStart=>exact ⟨0,0,Nat.le_refl _,Nat.zero_le _,rfl,rfl,[],gathS_none _ _,by simp,by simp,by simp,Below.refl _ _⟩
 case round=>
  obtain ⟨a,i,hai,hit,rfl,rfl,o,hg,hol,hsp,hno,hbl⟩:=hrel
  have hzr:=hbl.size
  by_cases hlt:i < t.size
  ·have hat:=bl_at t i hlt
   by_cases hc:t[i]=c
   ·have hc':((t[i].toNat:Int) == (c.toNat:Int))=true:=by rw [hc];simp
    have HS:Hid (splitL c ((bl t).drop a)=((bl t).take i).drop a :: splitL c ((bl t).drop (i + 1))):=split_mid hai (by rw [hat,hc]) hno
    have HSP:Hid (o.map bl ++ splitL c ((bl t).drop a)=splitL c (bl t)):=hsp
    have hg4:wr.ownsRow w.heap.size 9 1 _ o.length (o.map .string):=hg
    clear hsp hno hat
    go_wp2_with (at_builtin;refine wpList_append_lies _ rfl _ _ 22 rfl w.heap.size 9 i0 (.string .empty) 1 16 Tryz.underlying22 hi hz0 hz1 hz2 rfl (by decide) _ _ _ rfl (hg4.alloc _) ⟨wr.heap.size,0,none⟩ 1 1 [.string (t.extract a i)] rfl rfl (one_new wr _ _) (by simp [Value.oneCell']) (by decide) (by unfold maxLen;omega) (by omega) (by simp;omega) _ rfl ?_;intro g' cap' w5 hown' hgrow _ _)
    have hob:=ownsRow_block hg4
    refine ⟨⟨i + 1,i + 1,Nat.le_refl _,by omega,by go_num,by go_num,o ++ [t.extract a i],GathS.snoc hown',by simp;omega, ?_,by simp,(hbl.alloc hzr _).grown hgrow (by simp;omega) hob⟩,by simp [intOf];omega⟩
    rw [<- HSP.out,HS.out,List.map_append,List.append_assoc,List.map_singleton,bl_extract]
    rfl
   ·have hc':((t[i].toNat:Int) == (c.toNat:Int))=false:=by
     rw [beq_eq_false_iff_ne]
     exact fun e=>hc (UInt8.toNat_inj.1 (by omega))
    have HN:Hid (c∉((bl t).take (i + 1)).drop a):=take_step hai hat hc hno
    have HSP:Hid (o.map bl ++ splitL c ((bl t).drop a)=splitL c (bl t)):=hsp
    clear hsp hno hat
    go_wp2_with fail
    exact ⟨⟨a,i + 1,by omega,by omega,rfl,by go_num,o,hg,by omega,HSP.out,HN.out,hbl⟩,by simp [intOf];omega⟩
  ·have HS:Hid (splitL c ((bl t).drop a)=[(bl t).drop a]):=splitL_no (by rw [List.take_of_length_le (by rw [bl_length];omega)] at hno;exact hno)
   have HSP:Hid (o.map bl ++ splitL c ((bl t).drop a)=splitL c (bl t)):=hsp
   have hg4:wr.ownsRow w.heap.size 9 1 _ o.length (o.map .string):=hg
   clear hsp hno
   go_wp2_with (at_builtin;refine wpList_append_lies _ rfl _ _ 22 rfl w.heap.size 9 i0 (.string .empty) 1 16 Tryz.underlying22 hi hz0 hz1 hz2 rfl (by decide) _ _ _ rfl (hg4.alloc _) ⟨wr.heap.size,0,none⟩ 1 1 [.string (t.extract a t.size)] rfl rfl (one_new wr _ _) (by simp [Value.oneCell']) (by decide) (by unfold maxLen;omega) (by omega) (by simp;omega) _ rfl ?_;intro g' cap' w5 hown' hgrow _ _)
   have hob:=ownsRow_block hg4
   go_ret
   refine ⟨⟨_,o ++ [t.extract a t.size],rfl,GathS.snoc hown', ?_⟩,(hbl.alloc hzr _).grown hgrow (by simp;omega) hob⟩
   rw [<- HSP.out,HS.out,List.map_append,List.map_singleton,bl_extract,List.take_of_length_le (by rw [bl_length];omega)]
end Go.Proofs.YtpfhegengmlkmacGreatDoor
