/- Texts of this claim. -/
import Derived.Test.YtpfhegengmlkmacGreatDoorZt45
namespace Go.Proofs.YtpfhegengmlkmacGreatDoor
open Go.RowKit Go.BigFrame
set_option maxRecDepth 100000
set_option maxHeartbeats 3200000 in
theorem l5Do_q (a0 a1 a2 a:Option Addr) (c0 c1 c2 cap:Nat) (g:GatL) (u0:ByteArray) (r:List ByteArray) (w:World) (hw:Wds w a cap (u0 :: r))
  (hq:(bl u0=cIns∧r=[])∨(bl u0=cLast∧r.length≠1)∨(bl u0=cCount∧r≠[])∨(bl u0=cBest∧r≠[])∨(bl u0≠cIns∧bl u0≠cPut∧bl u0≠cOrder∧bl u0≠cJoin∧bl u0≠cLast∧bl u0≠cCount∧bl u0≠cBest)) :
  Calls Tryz.prog 68 #[.agg #[.slice a0 g.ins.length c0,.slice a1 g.wins.length c1,.slice a2 g.shown.length c2],.slice a (r.length + 1) cap] w fun e w'=>DoE w w' g a0 a1 a2 c0 c1 c2 (TellT g (bl u0) r) e∧Below w.heap.size w w':=by
 have HT:Hid (TellT g (bl u0) r g tQ):=by
  unfold TellT Hid
  rcases hq with ⟨h,rfl⟩ | ⟨h,h2⟩ | ⟨h,h2⟩ | ⟨h,h2⟩ | ⟨h1,h2,h3,h4,h5,h6,h7⟩
  ·rw [if_pos h];exact .inl ⟨rfl,rfl,rfl⟩
  ·rw [h,if_neg (by decide),if_neg (by decide),if_neg (by decide),if_neg (by decide),if_pos rfl];exact ⟨rfl,.inr ⟨h2,rfl⟩⟩
  ·rw [h,if_neg (by decide),if_neg (by decide),if_neg (by decide),if_neg (by decide),if_neg (by decide),if_pos rfl];exact ⟨rfl,.inr ⟨h2,rfl⟩⟩
  ·rw [h,if_neg (by decide),if_neg (by decide),if_neg (by decide),if_neg (by decide),if_neg (by decide),if_neg (by decide),if_pos rfl];exact ⟨rfl,.inr ⟨h2,rfl⟩⟩
  ·rw [if_neg h1,if_neg h2,if_neg h3,if_neg h4,if_neg h5,if_neg h6,if_neg h7];exact ⟨rfl,rfl⟩
 have hf:=hw.few
 have hcp:=hw.room
 have hcp2:=hw.room2
 unfold maxLen at hcp2
 simp only [List.length_cons] at hf hcp
 obtain ⟨b,o,rfl,hlt,cw⟩:=hw.row 0 (by simp)
 have cw:w.cell? ⟨b,o,none⟩=some (.string u0):=cw
 have hD:=doW_new w (.slice a0 g.ins.length c0) (.slice a1 g.wins.length c1) (.slice a2 g.shown.length c2) 36
 have dw:=cell_on hD.bel hlt cw
 obtain ⟨g0,g1,g2,_,_,_⟩:=id hD.tG
 obtain ⟨x0,x1,x2,o0,o1,o2⟩:=id hD.tR
 have hpos:(0:Int) < (r.length:Int) + 1:=by omega
 clear hD cw hw
 rcases hq with ⟨h,h2⟩ | ⟨h,h2⟩ | ⟨h,h2⟩ | ⟨h,h2⟩ | ⟨h1,h2,h3,h4,h5,h6,h7⟩
 ·have k1:(u0.toList == [105,110,115])=true:=by rw [word_is h];rfl
  have k2:(u0.toList == [112,117,116])=false:=by rw [word_is h];rfl
  have k3:(u0.toList == [111,114,100,101,114])=false:=by rw [word_is h];rfl
  have k4:(u0.toList == [106,111,105,110])=false:=by rw [word_is h];rfl
  have k5:(u0.toList == [108,97,115,116])=false:=by rw [word_is h];rfl
  have k6:(u0.toList == [99,111,117,110,116])=false:=by rw [word_is h];rfl
  have k7:(u0.toList == [98,101,115,116])=false:=by rw [word_is h];rfl
  have hl:¬ (1:Int) < (r.length:Int) + 1:=by rw [h2];decide
  clear h h2
  go_enter Tryz.func68,Tryz.ntmps68
  go_wp2_with fail
  exact bodyPost_ret (v:=.tuple #[.agg #[.slice a0 g.ins.length c0,.slice a1 g.wins.length c1,.slice a2 g.shown.length c2],.string ⟨#[63]⟩]) (by simp [results,Tryz.results68,go_sem]) rfl ⟨DoE.old HT.out,((Below.refl _ _).alloc (Nat.le_refl _) _).alloc (by simp) _⟩
 ·have k1:(u0.toList == [105,110,115])=false:=by rw [word_is h];rfl
  have k2:(u0.toList == [112,117,116])=false:=by rw [word_is h];rfl
  have k3:(u0.toList == [111,114,100,101,114])=false:=by rw [word_is h];rfl
  have k4:(u0.toList == [106,111,105,110])=false:=by rw [word_is h];rfl
  have k5:(u0.toList == [108,97,115,116])=true:=by rw [word_is h];rfl
  have k6:(u0.toList == [99,111,117,110,116])=false:=by rw [word_is h];rfl
  have k7:(u0.toList == [98,101,115,116])=false:=by rw [word_is h];rfl
  have hl:((r.length:Int) + 1 == 2)=false:=by rw [beq_eq_false_iff_ne];omega
  clear h h2
  go_enter Tryz.func68,Tryz.ntmps68
  go_wp2_with fail
  exact bodyPost_ret (v:=.tuple #[.agg #[.slice a0 g.ins.length c0,.slice a1 g.wins.length c1,.slice a2 g.shown.length c2],.string ⟨#[63]⟩]) (by simp [results,Tryz.results68,go_sem]) rfl ⟨DoE.old HT.out,((Below.refl _ _).alloc (Nat.le_refl _) _).alloc (by simp) _⟩
 ·have k1:(u0.toList == [105,110,115])=false:=by rw [word_is h];rfl
  have k2:(u0.toList == [112,117,116])=false:=by rw [word_is h];rfl
  have k3:(u0.toList == [111,114,100,101,114])=false:=by rw [word_is h];rfl
  have k4:(u0.toList == [106,111,105,110])=false:=by rw [word_is h];rfl
  have k5:(u0.toList == [108,97,115,116])=false:=by rw [word_is h];rfl
  have k6:(u0.toList == [99,111,117,110,116])=true:=by rw [word_is h];rfl
  have k7:(u0.toList == [98,101,115,116])=false:=by rw [word_is h];rfl
  have hl:((r.length:Int) + 1 == 1)=false:=by have:=List.length_pos_iff.2 h2;rw [beq_eq_false_iff_ne];omega
  clear h h2
  go_enter Tryz.func68,Tryz.ntmps68
  go_wp2_with fail
  exact bodyPost_ret (v:=.tuple #[.agg #[.slice a0 g.ins.length c0,.slice a1 g.wins.length c1,.slice a2 g.shown.length c2],.string ⟨#[63]⟩]) (by simp [results,Tryz.results68,go_sem]) rfl ⟨DoE.old HT.out,((Below.refl _ _).alloc (Nat.le_refl _) _).alloc (by simp) _⟩
 ·have k1:(u0.toList == [105,110,115])=false:=by rw [word_is h];rfl
  have k2:(u0.toList == [112,117,116])=false:=by rw [word_is h];rfl
  have k3:(u0.toList == [111,114,100,101,114])=false:=by rw [word_is h];rfl
  have k4:(u0.toList == [106,111,105,110])=false:=by rw [word_is h];rfl
  have k5:(u0.toList == [108,97,115,116])=false:=by rw [word_is h];rfl
  have k6:(u0.toList == [99,111,117,110,116])=false:=by rw [word_is h];rfl
  have k7:(u0.toList == [98,101,115,116])=true:=by rw [word_is h];rfl
  have hl:((r.length:Int) + 1 == 1)=false:=by have:=List.length_pos_iff.2 h2;rw [beq_eq_false_iff_ne];omega
  clear h h2
  go_enter Tryz.func68,Tryz.ntmps68
  go_wp2_with fail
  exact bodyPost_ret (v:=.tuple #[.agg #[.slice a0 g.ins.length c0,.slice a1 g.wins.length c1,.slice a2 g.shown.length c2],.string ⟨#[63]⟩]) (by simp [results,Tryz.results68,go_sem]) rfl ⟨DoE.old HT.out,((Below.refl _ _).alloc (Nat.le_refl _) _).alloc (by simp) _⟩
 ·have k1:(u0.toList == [105,110,115])=false:=word_not h1
  have k2:(u0.toList == [112,117,116])=false:=word_not h2
  have k3:(u0.toList == [111,114,100,101,114])=false:=word_not h3
  have k4:(u0.toList == [106,111,105,110])=false:=word_not h4
  have k5:(u0.toList == [108,97,115,116])=false:=word_not h5
  have k6:(u0.toList == [99,111,117,110,116])=false:=word_not h6
  have k7:(u0.toList == [98,101,115,116])=false:=word_not h7
  clear h1 h2 h3 h4 h5 h6 h7
  go_enter Tryz.func68,Tryz.ntmps68
  go_wp2_with fail
  exact bodyPost_ret (v:=.tuple #[.agg #[.slice a0 g.ins.length c0,.slice a1 g.wins.length c1,.slice a2 g.shown.length c2],.string ⟨#[63]⟩]) (by simp [results,Tryz.results68,go_sem]) rfl ⟨DoE.old HT.out,((Below.refl _ _).alloc (Nat.le_refl _) _).alloc (by simp) _⟩
set_option maxHeartbeats 1600000 in
theorem l5Do_order (a0 a1 a2 a:Option Addr) (c0 c1 c2 cap:Nat) (g:GatL) (u0:ByteArray) (r:List ByteArray) (w:World) (hw:Wds w a cap (u0 :: r)) (h:bl u0=cOrder) :
  Calls Tryz.prog 68 #[.agg #[.slice a0 g.ins.length c0,.slice a1 g.wins.length c1,.slice a2 g.shown.length c2],.slice a (r.length + 1) cap] w fun e w'=>DoE w w' g a0 a1 a2 c0 c1 c2 (TellT g (bl u0) r) e∧Below w.heap.size w w':=by
 have cS:=fun W hW=>l5Stamps_any a cap u0 r W (hw.below (w':=W) hW)
 have hf:=hw.few
 have hcp:=hw.room
 have hcp2:=hw.room2
 unfold maxLen at hcp2
 simp only [List.length_cons] at hf hcp
 obtain ⟨b,o,rfl,hlt,cw⟩:=hw.row 0 (by simp)
 have cw:w.cell? ⟨b,o,none⟩=some (.string u0):=cw
 have hD:=doW_new w (.slice a0 g.ins.length c0) (.slice a1 g.wins.length c1) (.slice a2 g.shown.length c2) 36
 obtain ⟨W0,hW0⟩:∃ W0,(w.alloc (.cells #[.slice a0 g.ins.length c0,.slice a1 g.wins.length c1,.slice a2 g.shown.length c2] 36)).alloc (.cells #[.slice none 0 0,.slice none 0 0,.slice none 0 0] 36)=W0:=⟨_,rfl⟩
 rw [hW0] at hD
 have HW0:Hid ((w.alloc (.cells #[.slice a0 g.ins.length c0,.slice a1 g.wins.length c1,.slice a2 g.shown.length c2] 36)).alloc (.cells #[.slice none 0 0,.slice none 0 0,.slice none 0 0] 36)=W0):=hW0
 clear hW0
 have B0:=hD.bel
 have z0:=hD.z0
 have z1:=hD.z1
 have dw:=cell_on B0 hlt cw
 obtain ⟨g0,g1,g2,_,_,_⟩:=id hD.tG
 have hpos:(0:Int) < (r.length:Int) + 1:=by omega
 have k1:(u0.toList == [105,110,115])=false:=by rw [word_is h];rfl
 have k2:(u0.toList == [112,117,116])=false:=by rw [word_is h];rfl
 have k3:(u0.toList == [111,114,100,101,114])=true:=by rw [word_is h];rfl
 have k4:(u0.toList == [106,111,105,110])=false:=by rw [word_is h];rfl
 have k5:(u0.toList == [108,97,115,116])=false:=by rw [word_is h];rfl
 have k6:(u0.toList == [99,111,117,110,116])=false:=by rw [word_is h];rfl
 have k7:(u0.toList == [98,101,115,116])=false:=by rw [word_is h];rfl
 have HO:Hid (bl u0=cOrder):=h
 have dx:=dw
 have y0:=z0
 clear h
 go_enter Tryz.func68,Tryz.ntmps68
 go_wp2_with (first | rw [HW0.out] | fail)
 have hbd:Below W0.heap.size W0 W0.drew:=(Below.refl _ _).drew
 have SW:(W0.drew).cell? ⟨w.heap.size,0,none⟩=some (.slice a0 g.ins.length c0)∧(W0.drew).cell? ⟨w.heap.size,1,none⟩=some (.slice a1 g.wins.length c1)∧(W0.drew).cell? ⟨w.heap.size,2,none⟩=some (.slice a2 g.shown.length c2)∧(W0.drew).cell? ⟨b,o,none⟩=some (.string u0):=⟨g0,g1,g2,dx⟩
 refine wp_region_held_drew (S:=fun u=>(u).cell? ⟨w.heap.size,0,none⟩=some (.slice a0 g.ins.length c0)∧(u).cell? ⟨w.heap.size,1,none⟩=some (.slice a1 g.wins.length c1)∧(u).cell? ⟨w.heap.size,2,none⟩=some (.slice a2 g.shown.length c2)∧(u).cell? ⟨b,o,none⟩=some (.string u0)) (by kernel_rfl) SW (fun _=>?_)
 refine wpAnyH_take (i:=0) (v:=.agg #[.slice a0 g.ins.length c0,.slice a1 g.wins.length c1,.slice a2 g.shown.length c2]) rfl (by kernel_rfl) (by kernel_rfl) (by kernel_rfl) (fun _ _ _ h=>h) (Or.inl ⟨by rfl, ?_⟩) SW ?_
 ·rintro u ⟨q1,q2,q3,q4⟩
  go_simp
 simp only [Act.put,List.setIfInBounds_toArray]
 refine wpAnyH_take (i:=1) (v:=.slice (some ⟨b,o,none⟩) (r.length + 1) cap) rfl (by kernel_rfl) (by kernel_rfl) (by kernel_rfl) (fun _ _ _ h=>h) (Or.inl ⟨by rfl, ?_⟩) SW ?_
 ·rintro u ⟨q1,q2,q3,q4⟩
  go_simp
 simp only [Act.put]
 refine wpAnyH_ready (rs:=[2]) (by kernel_rfl) (by simp) ?_
 refine AllReadyH.cons rfl (fun K hK=>?_) AllReadyH.nil
 rw [if_pos (by rfl)]
 go_simp
 refine (cS _ (B0.trans (hbd.mono B0.size))).mono ?_
 rintro e w1 ⟨⟨s,rfl,hs⟩,b1⟩
 have HT:Hid (TellT g (bl u0) r g (bl s)):=by
  rcases hs with ⟨h1,h2⟩ | ⟨h1,h2⟩
  ·rw [Hid,h1];exact tellT_order h2
  ·exact absurd HO.out h1
 have b1d:=hbd.trans (b1.mono hbd.size)
 have Sw1:(w1).cell? ⟨w.heap.size,0,none⟩=some (.slice a0 g.ins.length c0)∧(w1).cell? ⟨w.heap.size,1,none⟩=some (.slice a1 g.wins.length c1)∧(w1).cell? ⟨w.heap.size,2,none⟩=some (.slice a2 g.shown.length c2)∧(w1).cell? ⟨b,o,none⟩=some (.string u0):=⟨cell_on b1d y0 g0,cell_on b1d y0 g1,cell_on b1d y0 g2,cell_on b1d (by omega) dx⟩
 refine hK.out _ _ Sw1 (fun _=>?_)
 clear hK K
 have tRx:=hD.tR.keep b1d
 obtain ⟨x0,x1,x2,o0,o1,o2⟩:=id tRx
 refine wpAnyH_ready (rs:=[3]) (by kernel_rfl) (by simp) ?_
 refine AllReadyH.cons rfl (fun K hK=>?_) AllReadyH.nil
 rw [if_pos (by rfl)]
 go_simp
 have sp:=span_set3 w1 (w.heap.size + 1) (.slice a0 g.ins.length c0) (.slice a1 g.wins.length c1) (.slice a2 g.shown.length c2)
 have tZ:=tRx.set3 (.slice a0 g.ins.length c0) (.slice a1 g.wins.length c1) (.slice a2 g.shown.length c2)
 have tG8:=(hD.tG.keep b1d).span sp (by omega)
 have B7:Below w.heap.size w w1:=B0.trans (b1d.mono B0.size)
 have B8:Below w.heap.size w (((w1.setCell ⟨w.heap.size + 1,0,none⟩ (.slice a0 g.ins.length c0)).setCell ⟨w.heap.size + 1,1,none⟩ (.slice a1 g.wins.length c1)).setCell ⟨w.heap.size + 1,2,none⟩ (.slice a2 g.shown.length c2)):=below_set3 B7 (Nat.le_succ _) (.slice a0 g.ins.length c0) (.slice a1 g.wins.length c1) (.slice a2 g.shown.length c2)
 have d8:(((w1.setCell ⟨w.heap.size + 1,0,none⟩ (.slice a0 g.ins.length c0)).setCell ⟨w.heap.size + 1,1,none⟩ (.slice a1 g.wins.length c1)).setCell ⟨w.heap.size + 1,2,none⟩ (.slice a2 g.shown.length c2)).cell? ⟨b,o,none⟩=some (.string u0):=by rw [World.cell?_of_block (sp.block b (by have:=B7.size;omega) (.inl (by omega)))];exact Sw1.2.2.2
 generalize ((w1.setCell ⟨w.heap.size + 1,0,none⟩ (.slice a0 g.ins.length c0)).setCell ⟨w.heap.size + 1,1,none⟩ (.slice a1 g.wins.length c1)).setCell ⟨w.heap.size + 1,2,none⟩ (.slice a2 g.shown.length c2)=w8 at *
 have S8:(w8).cell? ⟨w.heap.size,0,none⟩=some (.slice a0 g.ins.length c0)∧(w8).cell? ⟨w.heap.size,1,none⟩=some (.slice a1 g.wins.length c1)∧(w8).cell? ⟨w.heap.size,2,none⟩=some (.slice a2 g.shown.length c2)∧(w8).cell? ⟨b,o,none⟩=some (.string u0):=⟨tG8.c0,tG8.c1,tG8.c2,d8⟩
 refine hK.out _ _ S8 (fun _=>?_)
 clear hK K
 refine wpAnyH_ready (rs:=[4]) (by kernel_rfl) (by simp) ?_
 refine AllReadyH.cons rfl (fun K hK=>?_) AllReadyH.nil
 rw [if_pos (by rfl)]
 go_simp
 refine hK.out _ _ S8 (fun _=>?_)
 clear hK K
 refine wpAnyH_done (by kernel_rfl) ?_ _
 obtain ⟨n0,n1,n2,_,_,_⟩:=id tZ
 go_wp2_with fail
 exact bodyPost_ret (v:=.tuple #[.agg #[.slice a0 g.ins.length c0,.slice a1 g.wins.length c1,.slice a2 g.shown.length c2],.string s]) (by simp [results,Tryz.results68,go_sem,n0,n1,n2]) rfl ⟨DoE.old (HT.out),B8⟩
set_option maxHeartbeats 1600000 in
theorem l5Do_join (a0 a1 a2 a:Option Addr) (c0 c1 c2 cap:Nat) (g:GatL) (u0:ByteArray) (r:List ByteArray) (w:World) (hw:Wds w a cap (u0 :: r)) (h:bl u0=cJoin) :
  Calls Tryz.prog 68 #[.agg #[.slice a0 g.ins.length c0,.slice a1 g.wins.length c1,.slice a2 g.shown.length c2],.slice a (r.length + 1) cap] w fun e w'=>DoE w w' g a0 a1 a2 c0 c1 c2 (TellT g (bl u0) r) e∧Below w.heap.size w w':=by
 have cS:=fun W hW=>l5Stamps_any a cap u0 r W (hw.below (w':=W) hW)
 have hf:=hw.few
 have hcp:=hw.room
 have hcp2:=hw.room2
 unfold maxLen at hcp2
 simp only [List.length_cons] at hf hcp
 obtain ⟨b,o,rfl,hlt,cw⟩:=hw.row 0 (by simp)
 have cw:w.cell? ⟨b,o,none⟩=some (.string u0):=cw
 have hD:=doW_new w (.slice a0 g.ins.length c0) (.slice a1 g.wins.length c1) (.slice a2 g.shown.length c2) 36
 obtain ⟨W0,hW0⟩:∃ W0,(w.alloc (.cells #[.slice a0 g.ins.length c0,.slice a1 g.wins.length c1,.slice a2 g.shown.length c2] 36)).alloc (.cells #[.slice none 0 0,.slice none 0 0,.slice none 0 0] 36)=W0:=⟨_,rfl⟩
 rw [hW0] at hD
 have HW0:Hid ((w.alloc (.cells #[.slice a0 g.ins.length c0,.slice a1 g.wins.length c1,.slice a2 g.shown.length c2] 36)).alloc (.cells #[.slice none 0 0,.slice none 0 0,.slice none 0 0] 36)=W0):=hW0
 clear hW0
 have B0:=hD.bel
 have z0:=hD.z0
 have z1:=hD.z1
 have dw:=cell_on B0 hlt cw
 obtain ⟨g0,g1,g2,_,_,_⟩:=id hD.tG
 have hpos:(0:Int) < (r.length:Int) + 1:=by omega
 have k1:(u0.toList == [105,110,115])=false:=by rw [word_is h];rfl
 have k2:(u0.toList == [112,117,116])=false:=by rw [word_is h];rfl
 have k3:(u0.toList == [111,114,100,101,114])=false:=by rw [word_is h];rfl
 have k4:(u0.toList == [106,111,105,110])=true:=by rw [word_is h];rfl
 have k5:(u0.toList == [108,97,115,116])=false:=by rw [word_is h];rfl
 have k6:(u0.toList == [99,111,117,110,116])=false:=by rw [word_is h];rfl
 have k7:(u0.toList == [98,101,115,116])=false:=by rw [word_is h];rfl
 have HO:Hid (bl u0=cJoin):=h
 have dx:=dw
 have y0:=z0
 clear h
 go_enter Tryz.func68,Tryz.ntmps68
 go_wp2_with (first | rw [HW0.out] | fail)
 have hbd:Below W0.heap.size W0 W0.drew:=(Below.refl _ _).drew
 have SW:(W0.drew).cell? ⟨w.heap.size,0,none⟩=some (.slice a0 g.ins.length c0)∧(W0.drew).cell? ⟨w.heap.size,1,none⟩=some (.slice a1 g.wins.length c1)∧(W0.drew).cell? ⟨w.heap.size,2,none⟩=some (.slice a2 g.shown.length c2)∧(W0.drew).cell? ⟨b,o,none⟩=some (.string u0):=⟨g0,g1,g2,dx⟩
 refine wp_region_held_drew (S:=fun u=>(u).cell? ⟨w.heap.size,0,none⟩=some (.slice a0 g.ins.length c0)∧(u).cell? ⟨w.heap.size,1,none⟩=some (.slice a1 g.wins.length c1)∧(u).cell? ⟨w.heap.size,2,none⟩=some (.slice a2 g.shown.length c2)∧(u).cell? ⟨b,o,none⟩=some (.string u0)) (by kernel_rfl) SW (fun _=>?_)
 refine wpAnyH_take (i:=0) (v:=.agg #[.slice a0 g.ins.length c0,.slice a1 g.wins.length c1,.slice a2 g.shown.length c2]) rfl (by kernel_rfl) (by kernel_rfl) (by kernel_rfl) (fun _ _ _ h=>h) (Or.inl ⟨by rfl, ?_⟩) SW ?_
 ·rintro u ⟨q1,q2,q3,q4⟩
  go_simp
 simp only [Act.put,List.setIfInBounds_toArray]
 refine wpAnyH_take (i:=1) (v:=.slice (some ⟨b,o,none⟩) (r.length + 1) cap) rfl (by kernel_rfl) (by kernel_rfl) (by kernel_rfl) (fun _ _ _ h=>h) (Or.inl ⟨by rfl, ?_⟩) SW ?_
 ·rintro u ⟨q1,q2,q3,q4⟩
  go_simp
 simp only [Act.put]
 refine wpAnyH_ready (rs:=[2]) (by kernel_rfl) (by simp) ?_
 refine AllReadyH.cons rfl (fun K hK=>?_) AllReadyH.nil
 rw [if_pos (by rfl)]
 go_simp
 refine (cS _ (B0.trans (hbd.mono B0.size))).mono ?_
 rintro e w1 ⟨⟨s,rfl,hs⟩,b1⟩
 have HT:Hid (TellT g (bl u0) r g (bl s)):=by
  rcases hs with ⟨h1,h2⟩ | ⟨h1,h2⟩
  ·rw [HO.out] at h1;exact absurd h1 (by decide)
  ·rw [Hid,HO.out];exact tellT_join h2
 have b1d:=hbd.trans (b1.mono hbd.size)
 have Sw1:(w1).cell? ⟨w.heap.size,0,none⟩=some (.slice a0 g.ins.length c0)∧(w1).cell? ⟨w.heap.size,1,none⟩=some (.slice a1 g.wins.length c1)∧(w1).cell? ⟨w.heap.size,2,none⟩=some (.slice a2 g.shown.length c2)∧(w1).cell? ⟨b,o,none⟩=some (.string u0):=⟨cell_on b1d y0 g0,cell_on b1d y0 g1,cell_on b1d y0 g2,cell_on b1d (by omega) dx⟩
 refine hK.out _ _ Sw1 (fun _=>?_)
 clear hK K
 have tRx:=hD.tR.keep b1d
 obtain ⟨x0,x1,x2,o0,o1,o2⟩:=id tRx
 refine wpAnyH_ready (rs:=[3]) (by kernel_rfl) (by simp) ?_
 refine AllReadyH.cons rfl (fun K hK=>?_) AllReadyH.nil
 rw [if_pos (by rfl)]
 go_simp
 have sp:=span_set3 w1 (w.heap.size + 1) (.slice a0 g.ins.length c0) (.slice a1 g.wins.length c1) (.slice a2 g.shown.length c2)
 have tZ:=tRx.set3 (.slice a0 g.ins.length c0) (.slice a1 g.wins.length c1) (.slice a2 g.shown.length c2)
 have tG8:=(hD.tG.keep b1d).span sp (by omega)
 have B7:Below w.heap.size w w1:=B0.trans (b1d.mono B0.size)
 have B8:Below w.heap.size w (((w1.setCell ⟨w.heap.size + 1,0,none⟩ (.slice a0 g.ins.length c0)).setCell ⟨w.heap.size + 1,1,none⟩ (.slice a1 g.wins.length c1)).setCell ⟨w.heap.size + 1,2,none⟩ (.slice a2 g.shown.length c2)):=below_set3 B7 (Nat.le_succ _) (.slice a0 g.ins.length c0) (.slice a1 g.wins.length c1) (.slice a2 g.shown.length c2)
 have d8:(((w1.setCell ⟨w.heap.size + 1,0,none⟩ (.slice a0 g.ins.length c0)).setCell ⟨w.heap.size + 1,1,none⟩ (.slice a1 g.wins.length c1)).setCell ⟨w.heap.size + 1,2,none⟩ (.slice a2 g.shown.length c2)).cell? ⟨b,o,none⟩=some (.string u0):=by rw [World.cell?_of_block (sp.block b (by have:=B7.size;omega) (.inl (by omega)))];exact Sw1.2.2.2
 generalize ((w1.setCell ⟨w.heap.size + 1,0,none⟩ (.slice a0 g.ins.length c0)).setCell ⟨w.heap.size + 1,1,none⟩ (.slice a1 g.wins.length c1)).setCell ⟨w.heap.size + 1,2,none⟩ (.slice a2 g.shown.length c2)=w8 at *
 have S8:(w8).cell? ⟨w.heap.size,0,none⟩=some (.slice a0 g.ins.length c0)∧(w8).cell? ⟨w.heap.size,1,none⟩=some (.slice a1 g.wins.length c1)∧(w8).cell? ⟨w.heap.size,2,none⟩=some (.slice a2 g.shown.length c2)∧(w8).cell? ⟨b,o,none⟩=some (.string u0):=⟨tG8.c0,tG8.c1,tG8.c2,d8⟩
 refine hK.out _ _ S8 (fun _=>?_)
 clear hK K
 refine wpAnyH_ready (rs:=[4]) (by kernel_rfl) (by simp) ?_
 refine AllReadyH.cons rfl (fun K hK=>?_) AllReadyH.nil
 rw [if_pos (by rfl)]
 go_simp
 refine hK.out _ _ S8 (fun _=>?_)
 clear hK K
 refine wpAnyH_done (by kernel_rfl) ?_ _
 obtain ⟨n0,n1,n2,_,_,_⟩:=id tZ
 go_wp2_with fail
 exact bodyPost_ret (v:=.tuple #[.agg #[.slice a0 g.ins.length c0,.slice a1 g.wins.length c1,.slice a2 g.shown.length c2],.string s]) (by simp [results,Tryz.results68,go_sem,n0,n1,n2]) rfl ⟨DoE.old (HT.out),B8⟩
set_option maxHeartbeats 1600000 in
theorem l5Do_last (a0 a1 a2 a:Option Addr) (c0 c1 c2 cap:Nat) (g:GatL) (u0:ByteArray) (nm:ByteArray) (w:World) (hg:NiceV g) (r0:RowS w a0 g.ins) (r1:RowW w a1 g.wins) (hw:Wds w a cap [u0,nm]) (h:bl u0=cLast) :
  Calls Tryz.prog 68 #[.agg #[.slice a0 g.ins.length c0,.slice a1 g.wins.length c1,.slice a2 g.shown.length c2],.slice a ([nm].length + 1) cap] w fun e w'=>DoE w w' g a0 a1 a2 c0 c1 c2 (TellT g (bl u0) [nm]) e∧Below w.heap.size w w':=by
 obtain ⟨b9,o9,e9,hlt9,cw9⟩:=hw.row 1 (by simp)
 have hf:=hw.few
 have hcp:=hw.room
 have hcp2:=hw.room2
 unfold maxLen at hcp2
 obtain ⟨b,o,rfl,hlt,cw⟩:=hw.row 0 (by simp)
 have cw:w.cell? ⟨b,o,none⟩=some (.string u0):=cw
 have hD:=doW_new w (.slice a0 g.ins.length c0) (.slice a1 g.wins.length c1) (.slice a2 g.shown.length c2) 36
 simp only [Option.some.injEq,Addr.mk.injEq,and_true] at e9
 obtain ⟨rfl,rfl⟩:=e9
 have cw9:w.cell? ⟨b,o + 1,none⟩=some (.string nm):=cw9
 obtain ⟨W0,hW0⟩:∃ W0,(w.alloc (.cells #[.slice a0 g.ins.length c0,.slice a1 g.wins.length c1,.slice a2 g.shown.length c2] 36)).alloc (.cells #[.slice none 0 0,.slice none 0 0,.slice none 0 0] 36)=W0:=⟨_,rfl⟩
 rw [hW0] at hD
 have HW0:Hid ((w.alloc (.cells #[.slice a0 g.ins.length c0,.slice a1 g.wins.length c1,.slice a2 g.shown.length c2] 36)).alloc (.cells #[.slice none 0 0,.slice none 0 0,.slice none 0 0] 36)=W0):=hW0
 clear hW0
 have B0:=hD.bel
 have z0:=hD.z0
 have z1:=hD.z1
 have dw:=cell_on B0 hlt cw
 obtain ⟨g0,g1,g2,_,_,_⟩:=id hD.tG
 have k1:(u0.toList == [105,110,115])=false:=by rw [word_is h];rfl
 have k2:(u0.toList == [112,117,116])=false:=by rw [word_is h];rfl
 have k3:(u0.toList == [111,114,100,101,114])=false:=by rw [word_is h];rfl
 have k4:(u0.toList == [106,111,105,110])=false:=by rw [word_is h];rfl
 have k5:(u0.toList == [108,97,115,116])=true:=by rw [word_is h];rfl
 have k6:(u0.toList == [99,111,117,110,116])=false:=by rw [word_is h];rfl
 have k7:(u0.toList == [98,101,115,116])=false:=by rw [word_is h];rfl
 have HO:Hid (bl u0=cLast):=h
 have dx:=cell_on B0 hlt cw9
 have y0:=z0
 have cL:=fun W hW=>l5Last_any a0 a1 a2 c0 c1 c2 g nm W hg (r0.below (w':=W) hW) (r1.below (w':=W) hW)
 clear h
 go_enter Tryz.func68,Tryz.ntmps68
 go_wp2_with (first | rw [HW0.out] | fail)
 have hbd:Below W0.heap.size W0 W0.drew:=(Below.refl _ _).drew
 have SW:(W0.drew).cell? ⟨w.heap.size,0,none⟩=some (.slice a0 g.ins.length c0)∧(W0.drew).cell? ⟨w.heap.size,1,none⟩=some (.slice a1 g.wins.length c1)∧(W0.drew).cell? ⟨w.heap.size,2,none⟩=some (.slice a2 g.shown.length c2)∧(W0.drew).cell? ⟨b,o + 1,none⟩=some (.string nm):=⟨g0,g1,g2,dx⟩
 refine wp_region_held_drew (S:=fun u=>(u).cell? ⟨w.heap.size,0,none⟩=some (.slice a0 g.ins.length c0)∧(u).cell? ⟨w.heap.size,1,none⟩=some (.slice a1 g.wins.length c1)∧(u).cell? ⟨w.heap.size,2,none⟩=some (.slice a2 g.shown.length c2)∧(u).cell? ⟨b,o + 1,none⟩=some (.string nm)) (by kernel_rfl) SW (fun _=>?_)
 refine wpAnyH_take (i:=0) (v:=.agg #[.slice a0 g.ins.length c0,.slice a1 g.wins.length c1,.slice a2 g.shown.length c2]) rfl (by kernel_rfl) (by kernel_rfl) (by kernel_rfl) (fun _ _ _ h=>h) (Or.inl ⟨by rfl, ?_⟩) SW ?_
 ·rintro u ⟨q1,q2,q3,q4⟩
  go_simp
 simp only [Act.put,List.setIfInBounds_toArray]
 refine wpAnyH_take (i:=1) (v:=.agg #[.slice a0 g.ins.length c0,.slice a1 g.wins.length c1,.slice a2 g.shown.length c2]) rfl (by kernel_rfl) (by kernel_rfl) (by kernel_rfl) (fun _ _ _ h=>h) (Or.inl ⟨by rfl, ?_⟩) SW ?_
 ·rintro u ⟨q1,q2,q3,q4⟩
  go_simp
 simp only [Act.put]
 refine wpAnyH_take (i:=2) (v:=.slice (some ⟨b,o,none⟩) 2 cap) rfl (by kernel_rfl) (by kernel_rfl) (by kernel_rfl) (fun _ _ _ h=>h) (Or.inl ⟨by rfl, ?_⟩) SW ?_
 ·rintro u ⟨q1,q2,q3,q4⟩
  go_simp
 simp only [Act.put]
 refine wpAnyH_take (i:=3) (v:=.pointer (some ⟨b,o + 1,none⟩)) rfl (by kernel_rfl) (by kernel_rfl) (by kernel_rfl) (fun _ _ _ h=>h) (Or.inl ⟨by rfl, ?_⟩) SW ?_
 ·rintro u ⟨q1,q2,q3,q4⟩
  go_simp
 simp only [Act.put]
 refine wpAnyH_take (i:=4) (v:=.string nm) rfl (by kernel_rfl) (by kernel_rfl) (by kernel_rfl) (fun _ _ _ h=>h) (Or.inl ⟨by rfl, ?_⟩) SW ?_
 ·rintro u ⟨q1,q2,q3,q4⟩
  go_simp
 simp only [Act.put]
 refine wpAnyH_ready (rs:=[5]) (by kernel_rfl) (by simp) ?_
 refine AllReadyH.cons rfl (fun K hK=>?_) AllReadyH.nil
 rw [if_pos (by rfl)]
 go_simp
 refine (cL _ (B0.trans (hbd.mono B0.size))).mono ?_
 rintro e w1 ⟨⟨s,rfl,hs⟩,b1⟩
 have HT:Hid (TellT g (bl u0) [nm] g (bl s)):=by rw [Hid,HO.out];exact tellT_last hs
 have b1d:=hbd.trans (b1.mono hbd.size)
 have Sw1:(w1).cell? ⟨w.heap.size,0,none⟩=some (.slice a0 g.ins.length c0)∧(w1).cell? ⟨w.heap.size,1,none⟩=some (.slice a1 g.wins.length c1)∧(w1).cell? ⟨w.heap.size,2,none⟩=some (.slice a2 g.shown.length c2)∧(w1).cell? ⟨b,o + 1,none⟩=some (.string nm):=⟨cell_on b1d y0 g0,cell_on b1d y0 g1,cell_on b1d y0 g2,cell_on b1d (by omega) dx⟩
 refine hK.out _ _ Sw1 (fun _=>?_)
 clear hK K
 have tRx:=hD.tR.keep b1d
 obtain ⟨x0,x1,x2,o0,o1,o2⟩:=id tRx
 refine wpAnyH_ready (rs:=[6]) (by kernel_rfl) (by simp) ?_
 refine AllReadyH.cons rfl (fun K hK=>?_) AllReadyH.nil
 rw [if_pos (by rfl)]
 go_simp
 have sp:=span_set3 w1 (w.heap.size + 1) (.slice a0 g.ins.length c0) (.slice a1 g.wins.length c1) (.slice a2 g.shown.length c2)
 have tZ:=tRx.set3 (.slice a0 g.ins.length c0) (.slice a1 g.wins.length c1) (.slice a2 g.shown.length c2)
 have tG8:=(hD.tG.keep b1d).span sp (by omega)
 have B7:Below w.heap.size w w1:=B0.trans (b1d.mono B0.size)
 have B8:Below w.heap.size w (((w1.setCell ⟨w.heap.size + 1,0,none⟩ (.slice a0 g.ins.length c0)).setCell ⟨w.heap.size + 1,1,none⟩ (.slice a1 g.wins.length c1)).setCell ⟨w.heap.size + 1,2,none⟩ (.slice a2 g.shown.length c2)):=below_set3 B7 (Nat.le_succ _) (.slice a0 g.ins.length c0) (.slice a1 g.wins.length c1) (.slice a2 g.shown.length c2)
 have d8:(((w1.setCell ⟨w.heap.size + 1,0,none⟩ (.slice a0 g.ins.length c0)).setCell ⟨w.heap.size + 1,1,none⟩ (.slice a1 g.wins.length c1)).setCell ⟨w.heap.size + 1,2,none⟩ (.slice a2 g.shown.length c2)).cell? ⟨b,o + 1,none⟩=some (.string nm):=by rw [World.cell?_of_block (sp.block b (by have:=B7.size;omega) (.inl (by omega)))];exact Sw1.2.2.2
 generalize ((w1.setCell ⟨w.heap.size + 1,0,none⟩ (.slice a0 g.ins.length c0)).setCell ⟨w.heap.size + 1,1,none⟩ (.slice a1 g.wins.length c1)).setCell ⟨w.heap.size + 1,2,none⟩ (.slice a2 g.shown.length c2)=w8 at *
 have S8:(w8).cell? ⟨w.heap.size,0,none⟩=some (.slice a0 g.ins.length c0)∧(w8).cell? ⟨w.heap.size,1,none⟩=some (.slice a1 g.wins.length c1)∧(w8).cell? ⟨w.heap.size,2,none⟩=some (.slice a2 g.shown.length c2)∧(w8).cell? ⟨b,o + 1,none⟩=some (.string nm):=⟨tG8.c0,tG8.c1,tG8.c2,d8⟩
 refine hK.out _ _ S8 (fun _=>?_)
 clear hK K
 refine wpAnyH_ready (rs:=[7]) (by kernel_rfl) (by simp) ?_
 refine AllReadyH.cons rfl (fun K hK=>?_) AllReadyH.nil
 rw [if_pos (by rfl)]
 go_simp
 refine hK.out _ _ S8 (fun _=>?_)
 clear hK K
 refine wpAnyH_done (by kernel_rfl) ?_ _
 obtain ⟨n0,n1,n2,_,_,_⟩:=id tZ
 go_wp2_with fail
 exact bodyPost_ret (v:=.tuple #[.agg #[.slice a0 g.ins.length c0,.slice a1 g.wins.length c1,.slice a2 g.shown.length c2],.string s]) (by simp [results,Tryz.results68,go_sem,n0,n1,n2]) rfl ⟨DoE.old (HT.out),B8⟩
end Go.Proofs.YtpfhegengmlkmacGreatDoor
