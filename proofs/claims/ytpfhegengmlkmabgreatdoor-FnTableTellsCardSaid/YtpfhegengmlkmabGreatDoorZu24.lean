/- Texts of this claim. -/
import Derived.Test.YtpfhegengmlkmabGreatDoorZu20
namespace Go.Proofs.YtpfhegengmlkmabGreatDoor
open Go.RowKit Go.BigFrame
set_option maxRecDepth 100000
set_option maxHeartbeats 1600000 in
theorem kE (a:Option Addr)(c:Nat)(l:List (ByteArray×Int))(w:World)(hr:Row w a l)(hl:l.length<=1048576)(hs:∀j,(h:j<l.length)->l[j].1.size<=281474976710656) :
  Calls Tryz.prog 78 #[.slice a l.length c] w fun e w'=>(∃g cap,e=.returned (.slice (some ⟨g,0,none⟩) l.length cap)/\w.heap.size<=g/\l.length<=cap/\Own w' g l)/\Below w.heap.size w w':=by
 obtain⟨i0,hi,hz0,hz1,hz2⟩:=info_parts Tryz.infoM
 have hmk:∀u:World,(Instr.makeSlice 28 (.int .i64 0) (.int .i64 (l.length:Int))).run Tryz.prog u =
   .ok (.slice (some ⟨u.heap.size,0,none⟩) 0 l.length) (u.alloc (.cells (madeCells #[.string .empty,.int .i64 0] (l.length*2)) 54)):=fun u=>by
  have h:=run_make (P:=Tryz.prog) u 28 54 i0 (.agg #[.string .empty,.int .i64 0]) Tryz.underlying28 hi hz0 .i64 .i64 0 (l.length:Int) (by omega) (by omega) (by rw[hz2];omega) (by omega)
  simpa[hz1,Value.cells]using h
 go_enter Tryz.func78,Tryz.ntmps78
 go_wp2_with fail
 have hg0:az (w.alloc (.cells (madeCells #[.string .empty,.int .i64 0] (l.length*2)) 54)) w.heap.size (.slice (some ⟨w.heap.size,0,none⟩) 0 l.length) []:=
  ⟨rfl,.inr ⟨w.heap.size,l.length,madeCells #[.string .empty,.int .i64 0] (l.length*2),rfl,Nat.le_refl _,heap_alloc_new w _,Nat.zero_le _,by unfold maxLen;omega,size_madeCells _ _,rfl⟩⟩
 have hb0:Below w.heap.size w (w.alloc (.cells (madeCells #[.string .empty,.int .i64 0] (l.length*2)) 54)):=(Below.refl _ _).alloc (Nat.le_refl _) _
 generalize (w.alloc (.cells (madeCells #[.string .empty,.int .i64 0] (l.length*2)) 54))=WA at *
 clear hmk
 go_loopw [3,11] (fun out i wr=>∃k:Nat,k<=l.length/\i=.int .i64 k/\(∃g cap,out=.slice (some ⟨g,0,none⟩) k cap/\az wr w.heap.size (.slice (some ⟨g,0,none⟩) k cap) (l.take k))/\Below w.heap.size w wr) (fun _ i _=>l.length-(intOf i).toNat)
 case atStart=>exact⟨0,Nat.zero_le _,rfl,⟨_,_,rfl,hg0⟩,hb0⟩
 case round=>
  obtain⟨k,hk,rfl,⟨g,cap,rfl,hg⟩,hb⟩:=hrel
  have hz:=hb.size
  by_cases hlt:k<l.length
  ·obtain⟨b,o,rfl,hblt,e0,e1⟩:=hr k hlt
   have x0:=ae hb hblt e0
   have x1:=ae hb hblt e1
   have k0:(0:Int)<=(k:Int):=by omega
   have k1:(k:Int)<(l.length:Int):=by omega
   have hsk:=hs k hlt
   have HT:Hid (l.take (k+1)=l.take k++[(l[k].1,l[k].2)]):=List.take_succ_eq_append_getElem hlt
   have htl:(l.take k).length=k:=by rw[List.length_take];omega
   clear e0 e1
   go_wp2_with fail
   have hbx:Below wr.heap.size wr (wr.alloc (.cells #[.string l[k].1,.int .i64 l[k].2] 54)):=(Below.refl _ _).alloc (Nat.le_refl _) _
   refine(oU l[k].1 l[k].2 _ hsk).mono ?_
   rintro e w2 ⟨rfl,b2⟩
   have b2':Below wr.heap.size wr w2:=hbx.trans (b2.mono hbx.size)
   have hg2:=hg.keep b2'
   have z2:=b2'.size
   have B2:Below w.heap.size w w2:=hb.trans (b2'.mono hz)
   clear hg b2 b2' hbx hb x0 x1
   go_wp2_with (at_builtin;refine wpList_append_lies _ rfl _ _ 28 rfl w.heap.size 54 i0 (.agg #[.string .empty,.int .i64 0]) 2 24 Tryz.underlying28 hi hz0 hz1 hz2 rfl (by decide) _ _ _ rfl (hg2.alloc _) ⟨w2.heap.size,0,none⟩ 1 1 [.string l[k].1,.int .i64 l[k].2] rfl rfl (jy w2 _ _ _) (by simp[Value.oneCell']) (by decide) (by unfold maxLen;omega) (by omega) (by simp;omega) _ rfl ?_;intro g' cap' wx hown' hgrow _ _)
   have hb10:=az.grown (W:=w) (B:=w.heap.size) (w:=w2.alloc (.cells #[.string l[k].1,.int .i64 l[k].2] 54)) (hg2.alloc _) (B2.alloc (by omega) _) (by simp;omega) hgrow
   have hg10:=az.snoc hown'
   rw[htl]at hg10
   exact⟨⟨k+1,by omega,by go_num,⟨_,_,rfl,by rw[HT.out];exact hg10⟩,hb10⟩,by simp[intOf];omega⟩
  ·obtain rfl:k=l.length:=by omega
   rw[List.take_of_length_le (Nat.le_refl _)]at hg
   obtain⟨hgB,hgc,ho⟩:=yf hg
   go_wp2_with fail
   go_ret
   exact⟨⟨g,cap,rfl,hgB,hgc,ho⟩,hb⟩
set_option maxHeartbeats 1600000 in
theorem pz (x:Int)(a:Option Addr)(c:Nat)(l:List (ByteArray×Int))(w:World)(hr:Row w a l)(hl:l.length<=1048576)(hs:∀j,(h:j<l.length)->l[j].1.size<=281474976710656) :
  Calls Tryz.prog 123 #[.agg #[.int .i64 x,.slice a l.length c]] w fun e w'=>(∃g cap,e=.returned (.agg #[.int .i64 x,.slice (some ⟨g,0,none⟩) l.length cap])/\w.heap.size<=g/\l.length<=cap/\Own w' g l)/\Below w.heap.size w w':=by
 go_enter Tryz.func123,Tryz.ntmps123
 go_wp2_with fail
 have hb0:Below w.heap.size w ((w.alloc (.cells #[.int .i64 x,.slice a l.length c] 34)).alloc (.cells #[.int .i64 0,.slice none 0 0] 34)):=((Below.refl _ _).alloc (Nat.le_refl _) _).alloc (by simp) _
 have hsz:((w.alloc (.cells #[.int .i64 x,.slice a l.length c] 34)).alloc (.cells #[.int .i64 0,.slice none 0 0] 34)).heap.size=w.heap.size+2:=by simp
 have c0:((w.alloc (.cells #[.int .i64 x,.slice a l.length c] 34)).alloc (.cells #[.int .i64 0,.slice none 0 0] 34)).cell? ⟨w.heap.size,0,none⟩=some (.int .i64 x):=by simp[go_sem]
 have c1:((w.alloc (.cells #[.int .i64 x,.slice a l.length c] 34)).alloc (.cells #[.int .i64 0,.slice none 0 0] 34)).cell? ⟨w.heap.size,1,none⟩=some (.slice a l.length c):=by simp[go_sem]
 have d0:((w.alloc (.cells #[.int .i64 x,.slice a l.length c] 34)).alloc (.cells #[.int .i64 0,.slice none 0 0] 34)).cell? ⟨w.heap.size+1,0,none⟩=some (.int .i64 0):=by simp[go_sem]
 have d1:((w.alloc (.cells #[.int .i64 x,.slice a l.length c] 34)).alloc (.cells #[.int .i64 0,.slice none 0 0] 34)).cell? ⟨w.heap.size+1,1,none⟩=some (.slice none 0 0):=by simp[go_sem]
 have f0:((w.alloc (.cells #[.int .i64 x,.slice a l.length c] 34)).alloc (.cells #[.int .i64 0,.slice none 0 0] 34)).frozen? ⟨w.heap.size+1,0,none⟩=false:=by simp[go_sem]
 have f1:((w.alloc (.cells #[.int .i64 x,.slice a l.length c] 34)).alloc (.cells #[.int .i64 0,.slice none 0 0] 34)).frozen? ⟨w.heap.size+1,1,none⟩=false:=by simp[go_sem]
 generalize ((w.alloc (.cells #[.int .i64 x,.slice a l.length c] 34)).alloc (.cells #[.int .i64 0,.slice none 0 0] 34))=WA at *
 have SW:WA.drew.cell? ⟨w.heap.size,0,none⟩=some (.int .i64 x)/\WA.drew.cell? ⟨w.heap.size,1,none⟩=some (.slice a l.length c):=⟨c0,c1⟩
 refine wp_region_held_drew (S:=fun u=>u.cell? ⟨w.heap.size,0,none⟩=some (.int .i64 x)/\u.cell? ⟨w.heap.size,1,none⟩=some (.slice a l.length c)) (by kernel_rfl) SW (fun _=>?_)
 refine wpAnyH_take (i:=0) (v:=.pointer (some ⟨w.heap.size,0,none⟩)) rfl (by kernel_rfl) (by kernel_rfl) (by kernel_rfl) (fun _ _ _ h=>h) (Or.inl ⟨by rfl, ?_⟩) SW ?_
 ·rintro u ⟨q1,q2⟩
  go_simp
 simp only[Act.put,List.setIfInBounds_toArray]
 refine wpAnyH_take (i:=1) (v:=.int .i64 x) rfl (by kernel_rfl) (by kernel_rfl) (by kernel_rfl) (fun _ _ _ h=>h) (Or.inl ⟨by rfl, ?_⟩) SW ?_
 ·rintro u ⟨q1,q2⟩
  go_simp
 simp only[Act.put]
 refine wpAnyH_take (i:=2) (v:=.pointer (some ⟨w.heap.size,1,none⟩)) rfl (by kernel_rfl) (by kernel_rfl) (by kernel_rfl) (fun _ _ _ h=>h) (Or.inl ⟨by rfl, ?_⟩) SW ?_
 ·rintro u ⟨q1,q2⟩
  go_simp
 simp only[Act.put]
 refine wpAnyH_take (i:=3) (v:=.slice a l.length c) rfl (by kernel_rfl) (by kernel_rfl) (by kernel_rfl) (fun _ _ _ h=>h) (Or.inl ⟨by rfl, ?_⟩) SW ?_
 ·rintro u ⟨q1,q2⟩
  go_simp
 simp only[Act.put]
 refine wpAnyH_ready (rs:=[4]) (by kernel_rfl) (by simp) ?_
 refine AllReadyH.cons rfl (fun K hK=>?_) AllReadyH.nil
 rw[if_pos (by rfl)]
 go_simp
 have hbd:Below w.heap.size w WA.drew:=hb0.drew
 refine(kE a c l _ (hr.below hbd) hl hs).mono ?_
 rintro e w2 ⟨⟨g,cap,rfl,hg,hcap,ho⟩,b2⟩
 have b2':Below WA.heap.size WA w2:=((Below.refl _ _).drew).trans b2
 have hgl:w.heap.size+2<=g:=by have:WA.drew.heap.size=WA.heap.size:=rfl;omega
 have S2:w2.cell? ⟨w.heap.size,0,none⟩=some (.int .i64 x)/\w2.cell? ⟨w.heap.size,1,none⟩=some (.slice a l.length c):=⟨ae b2' (by omega) c0,ae b2' (by omega) c1⟩
 have B2:Below w.heap.size w w2:=hb0.trans (b2'.mono (by omega))
 have x0:=ae b2' (by omega) d0
 have x1:=ae b2' (by omega) d1
 have y0:w2.frozen? ⟨w.heap.size+1,0,none⟩=false:=(b2'.frozen (p:=⟨w.heap.size+1,0,none⟩) (by simp only;omega)).trans f0
 have y1:w2.frozen? ⟨w.heap.size+1,1,none⟩=false:=(b2'.frozen (p:=⟨w.heap.size+1,1,none⟩) (by simp only;omega)).trans f1
 refine hK.out _ _ S2 (fun _=>?_)
 clear hK K b2 SW hbd c0 c1 d0 d1 f0 f1 hb0 b2'
 refine wpAnyH_take (i:=5) (v:=.agg #[.int .i64 x,.slice (some ⟨g,0,none⟩) l.length cap]) rfl (by kernel_rfl) (by kernel_rfl) (by kernel_rfl) (fun _ _ _ h=>h) (Or.inl ⟨by rfl, ?_⟩) S2 ?_
 ·rintro u ⟨q1,q2⟩
  go_simp
 simp only[Act.put,List.setIfInBounds_toArray]
 refine wpAnyH_ready (rs:=[6]) (by kernel_rfl) (by simp) ?_
 refine AllReadyH.cons rfl (fun K hK=>?_) AllReadyH.nil
 rw[if_pos (by rfl)]
 go_simp
 have S3:((w2.setCell ⟨w.heap.size+1,0,none⟩ (.int .i64 x)).setCell ⟨w.heap.size+1,1,none⟩ (.slice (some ⟨g,0,none⟩) l.length cap)).cell? ⟨w.heap.size,0,none⟩=some (.int .i64 x)/\((w2.setCell ⟨w.heap.size+1,0,none⟩ (.int .i64 x)).setCell ⟨w.heap.size+1,1,none⟩ (.slice (some ⟨g,0,none⟩) l.length cap)).cell? ⟨w.heap.size,1,none⟩=some (.slice a l.length c):=by
  simp only[aV _ _ _ _ (show w.heap.size≠w.heap.size+1 by omega)]
  exact S2
 refine hK.out _ _ S3 (fun _=>?_)
 clear hK K
 refine wpAnyH_done (by kernel_rfl) ?_ _
 go_wp2_with fail
 have z0:((w2.setCell ⟨w.heap.size+1,0,none⟩ (.int .i64 x)).setCell ⟨w.heap.size+1,1,none⟩ (.slice (some ⟨g,0,none⟩) l.length cap)).cell? ⟨w.heap.size+1,0,none⟩=some (.int .i64 x):=by simp[go_sem,x0]
 have z1:((w2.setCell ⟨w.heap.size+1,0,none⟩ (.int .i64 x)).setCell ⟨w.heap.size+1,1,none⟩ (.slice (some ⟨g,0,none⟩) l.length cap)).cell? ⟨w.heap.size+1,1,none⟩=some (.slice (some ⟨g,0,none⟩) l.length cap):=by simp[go_sem,x1]
 exact bodyPost_ret (v:=.agg #[.int .i64 x,.slice (some ⟨g,0,none⟩) l.length cap]) (by simp[results,Tryz.results123,go_sem,z0,z1]) rfl
  ⟨⟨g,cap,rfl,by omega,hcap,(ho.setOther (by omega) _ _).setOther (by omega) _ _⟩,(B2.setCell (by simp only;omega) _).setCell (by simp only;omega) _⟩
set_option maxHeartbeats 1600000 in
theorem tY (W0 w:World)(b s:Nat)(l:List af)(h:gY W0 w b s l)(hW:Below W0.heap.size W0 w)(hl:∀k,(h:k<l.length)->ah l[k].2) :
  Calls Tryz.prog 129 #[.pointer (some ⟨b,0,none⟩)] w fun e w'=>(∃v,e=.returned v/\bD w' w.heap.size v l)/\Below w.heap.size w w':=by
 obtain⟨i0,hi,hz0,hz1,hz2⟩:=info_parts Tryz.infoI
 have h4:=h.2.2.1
 have hmk:∀u:World,(Instr.makeSlice 129 (.int .i64 0) (.int .i64 (l.length:Int))).run Tryz.prog u =
   .ok (.slice (some ⟨u.heap.size,0,none⟩) 0 l.length) (u.alloc (.cells (madeCells #[.int .i64 0,.slice none 0 0] (l.length*2)) 34)):=fun u=>by
  have h:=run_make (P:=Tryz.prog) u 129 34 i0 (.agg #[.int .i64 0,.slice none 0 0]) Tryz.underlying129 hi hz0 .i64 .i64 0 (l.length:Int) (by omega) (by omega) (by rw[hz2];omega) (by omega)
  simpa[hz1,Value.cells]using h
 go_enter Tryz.func129,Tryz.ntmps129
 go_wp2_with fail
 refine(size_any W0 w b s l h).mono ?_
 rintro e w1 ⟨rfl,rfl⟩
 go_wp2_with fail
 have hb0:Below w1.heap.size w1 (w1.alloc (.cells (madeCells #[.int .i64 0,.slice none 0 0] (l.length*2)) 34)):=(Below.refl _ _).alloc (Nat.le_refl _) _
 have hsz:(w1.alloc (.cells (madeCells #[.int .i64 0,.slice none 0 0] (l.length*2)) 34)).heap.size=w1.heap.size+1:=by simp
 have hg0:bD (w1.alloc (.cells (madeCells #[.int .i64 0,.slice none 0 0] (l.length*2)) 34)) w1.heap.size (.slice (some ⟨w1.heap.size,0,none⟩) 0 l.length) []:=
  ⟨[],rfl,⟨rfl,.inr ⟨w1.heap.size,l.length,madeCells #[.int .i64 0,.slice none 0 0] (l.length*2),rfl,Nat.le_refl _,heap_alloc_new w1 _,Nat.zero_le _,by unfold maxLen;omega,size_madeCells _ _,rfl⟩⟩,by simp,List.Pairwise.nil⟩
 have hW1:=h.below hb0
 have hWl:=h.lt
 generalize (w1.alloc (.cells (madeCells #[.int .i64 0,.slice none 0 0] (l.length*2)) 34))=W1 at *
 refine(size_any W0 W1 b s l hW1).mono ?_
 rintro e w2 ⟨rfl,rfl⟩
 clear hmk
 go_wp2_with fail
 have hzW:=hW.size
 go_loopw [3,14] (fun out i wr=>∃k:Nat,k<=l.length/\i=.int .i64 k/\bD wr w1.heap.size out (l.take k)/\Below w1.heap.size w1 wr) (fun _ i _=>l.length-(intOf i).toNat)
 case atStart=>exact⟨0,Nat.zero_le _,rfl,hg0,hb0⟩
 case round=>
  obtain⟨k,hk,rfl,hg,hb⟩:=hrel
  clear hg0 hb0 hW1
  by_cases hlt:k<l.length
  ·have k0:(0:Int)<=(k:Int):=by omega
   have k1:(k:Int)<(l.length:Int):=by omega
   have HT:Hid (l.take (k+1)=l.take k++[(l[k].1,l[k].2)]):=List.take_succ_eq_append_getElem hlt
   have htl:(l.take k).length<=1048576:=by rw[List.length_take];omega
   have hzr:=hb.size
   have hst:=hl k hlt
   have hfk:=dH hst
   have hlk:l[k].2.length<=1048576:=by have:=hst.1;omega
   have hsk:∀j,(h:j<l[k].2.length)->l[k].2[j].1.size<=281474976710656:=fun j hj=>by have:=(hst.2.1 j hj).1.2.1;omega
   have HL:Hid (∀j,(h:j<l[k].2.length)->l[k].2[j].1.size<=281474976710656):=hsk
   clear hsk hst hfk
   go_wp2_with fail
   refine(KA W0 wr b s l k (h.below hb) hlt).mono ?_
   rintro e w3 ⟨⟨v,rfl,sa,sc,rfl,hcap,hrow⟩,b3⟩
   have B3:Below w1.heap.size w1 w3:=hb.trans (b3.mono hzr)
   have hrow3:=hrow.below (hW.trans (B3.mono hzW))
   go_wp2_with fail
   refine(pz l[k].1 sa sc l[k].2 _ hrow3 hlk HL.out).mono ?_
   rintro e w4 ⟨⟨gm,cm,rfl,hgm,hcm,ho⟩,b4⟩
   have b4':Below wr.heap.size wr w4:=b3.trans (b4.mono b3.size)
   have z3:=b3.size
   have z4:=b4'.size
   have b5:Below wr.heap.size wr (w4.alloc (.cells #[.int .i64 l[k].1,.slice (some ⟨gm,0,none⟩) l[k].2.length cm] 34)):=b4'.alloc b4'.size _
   have hbx:Below w4.heap.size w4 (w4.alloc (.cells #[.int .i64 l[k].1,.slice (some ⟨gm,0,none⟩) l[k].2.length cm] 34)):=(Below.refl _ _).alloc (Nat.le_refl _) _
   have ho5:=ho.below hbx
   have B5:Below w1.heap.size w1 (w4.alloc (.cells #[.int .i64 l[k].1,.slice (some ⟨gm,0,none⟩) l[k].2.length cm] 34)):=hb.trans (b5.mono hzr)
   clear b3 b4 b4' B3 hrow3 hrow hbx ho
   go_wp2_with (at_builtin;refine jU rfl _ _ rfl wr w1.heap.size _ (l.take k) rfl hg b5 hzr w4.heap.size l[k].1 l[k].2 gm cm rfl (box0 _ _ _ _) (box1 _ _ _ _) ho5 (by omega) hcm htl ?_;intro v' w6 hg6 b6)
   exact⟨⟨k+1,by omega,by go_num,by rw[HT.out];exact hg6,B5.trans b6⟩,by simp[intOf];omega⟩
  ·rw[List.take_of_length_le (by omega)]at hg
   go_wp2_with fail
   go_ret
   exact⟨⟨_,rfl,hg⟩,hb⟩
set_option maxHeartbeats 1600000 in
theorem wG (a:Option Addr)(c:Nat)(l:List af)(w:World)(hr:pg w a l)(hn:l.length<=1048576)(hl:∀k,(h:k<l.length)->ah l[k].2) :
  Calls Tryz.prog 80 #[.slice a l.length c] w fun e w'=>(∃v,e=.returned v/\bD w' w.heap.size v l)/\Below w.heap.size w w':=by
 obtain⟨i0,hi,hz0,hz1,hz2⟩:=info_parts Tryz.infoI
 have hmk:∀u:World,(Instr.makeSlice 129 (.int .i64 0) (.int .i64 (l.length:Int))).run Tryz.prog u =
   .ok (.slice (some ⟨u.heap.size,0,none⟩) 0 l.length) (u.alloc (.cells (madeCells #[.int .i64 0,.slice none 0 0] (l.length*2)) 34)):=fun u=>by
  have h:=run_make (P:=Tryz.prog) u 129 34 i0 (.agg #[.int .i64 0,.slice none 0 0]) Tryz.underlying129 hi hz0 .i64 .i64 0 (l.length:Int) (by omega) (by omega) (by rw[hz2];omega) (by omega)
  simpa[hz1,Value.cells]using h
 have hb0:Below w.heap.size w (w.alloc (.cells (madeCells #[.int .i64 0,.slice none 0 0] (l.length*2)) 34)):=(Below.refl _ _).alloc (Nat.le_refl _) _
 have hg0:bD (w.alloc (.cells (madeCells #[.int .i64 0,.slice none 0 0] (l.length*2)) 34)) w.heap.size (.slice (some ⟨w.heap.size,0,none⟩) 0 l.length) []:=
  ⟨[],rfl,⟨rfl,.inr ⟨w.heap.size,l.length,madeCells #[.int .i64 0,.slice none 0 0] (l.length*2),rfl,Nat.le_refl _,heap_alloc_new w _,Nat.zero_le _,by unfold maxLen;omega,size_madeCells _ _,rfl⟩⟩,by simp,List.Pairwise.nil⟩
 have HSL:Hid (∀k,(h:k<l.length)->ah l[k].2):=hl
 clear hl
 go_enter Tryz.func80,Tryz.ntmps80
 go_wp2_with fail
 generalize (w.alloc (.cells (madeCells #[.int .i64 0,.slice none 0 0] (l.length*2)) 34))=W1 at *
 clear hmk
 go_loopw [3,11] (fun out i wr=>∃k:Nat,k<=l.length/\i=.int .i64 k/\bD wr w.heap.size out (l.take k)/\Below w.heap.size w wr) (fun _ i _=>l.length-(intOf i).toNat)
 case atStart=>exact⟨0,Nat.zero_le _,rfl,hg0,hb0⟩
 case round=>
  obtain⟨k,hk,rfl,hg,hb⟩:=hrel
  clear hg0 hb0
  by_cases hlt:k<l.length
  ·obtain⟨b,o,rfl,hblt,c0,v,c1,⟨sa,sc,rfl,hcap,hrow⟩⟩:=hr.below hb k hlt
   have k0:(0:Int)<=(k:Int):=by omega
   have k1:(k:Int)<(l.length:Int):=by omega
   have HT:Hid (l.take (k+1)=l.take k++[(l[k].1,l[k].2)]):=List.take_succ_eq_append_getElem hlt
   have htl:(l.take k).length<=1048576:=by rw[List.length_take];omega
   have hzr:=hb.size
   have hst:=HSL.out k hlt
   have hlk:l[k].2.length<=1048576:=by have:=hst.1;omega
   have HL:Hid (∀j,(h:j<l[k].2.length)->l[k].2[j].1.size<=281474976710656):=fun j hj=>by have:=(hst.2.1 j hj).1.2.1;omega
   clear hst
   go_wp2_with fail
   have b3:Below wr.heap.size wr (wr.alloc (.cells #[.int .i64 l[k].1,.slice sa l[k].2.length sc] 34)):=(Below.refl _ _).alloc (Nat.le_refl _) _
   refine(pz l[k].1 sa sc l[k].2 _ (hrow.below b3) hlk HL.out).mono ?_
   rintro e w4 ⟨⟨gm,cm,rfl,hgm,hcm,ho⟩,b4⟩
   have b4':Below wr.heap.size wr w4:=b3.trans (b4.mono b3.size)
   have z3:=b3.size
   have z4:=b4'.size
   have b5:Below wr.heap.size wr (w4.alloc (.cells #[.int .i64 l[k].1,.slice (some ⟨gm,0,none⟩) l[k].2.length cm] 34)):=b4'.alloc b4'.size _
   have hbx:Below w4.heap.size w4 (w4.alloc (.cells #[.int .i64 l[k].1,.slice (some ⟨gm,0,none⟩) l[k].2.length cm] 34)):=(Below.refl _ _).alloc (Nat.le_refl _) _
   have ho5:=ho.below hbx
   have B5:Below w.heap.size w (w4.alloc (.cells #[.int .i64 l[k].1,.slice (some ⟨gm,0,none⟩) l[k].2.length cm] 34)):=hb.trans (b5.mono hzr)
   clear b3 b4 b4' hrow hbx ho
   go_wp2_with (at_builtin;refine jU rfl _ _ rfl wr w.heap.size _ (l.take k) rfl hg b5 hzr w4.heap.size l[k].1 l[k].2 gm cm rfl (box0 _ _ _ _) (box1 _ _ _ _) ho5 (by omega) hcm htl ?_;intro v' w6 hg6 b6)
   exact⟨⟨k+1,by omega,by go_num,by rw[HT.out];exact hg6,B5.trans b6⟩,by simp[intOf];omega⟩
  ·rw[List.take_of_length_le (by omega)]at hg
   go_wp2_with fail
   go_ret
   exact⟨⟨_,rfl,hg⟩,hb⟩
end Go.Proofs.YtpfhegengmlkmabGreatDoor
