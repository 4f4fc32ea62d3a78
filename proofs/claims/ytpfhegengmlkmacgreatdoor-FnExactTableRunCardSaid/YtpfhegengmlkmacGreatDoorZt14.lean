/- Texts of this claim. -/
import Derived.Test.YtpfhegengmlkmacGreatDoorZt13
namespace Go.Proofs.YtpfhegengmlkmacGreatDoor
open Go.RowKit Go.BigFrame
set_option maxRecDepth 100000
set_option maxHeartbeats 800000 in
theorem l2Marks_any (a:Option Addr) (c:Nat) (l:List (ByteArray×Int)) (w:World) (hr:Row w a l) (hl:l.length<=1048576) :
  Calls Tryz.prog 47 #[.slice a l.length c] w fun e w'=>(∃ g cap,e=.returned (.slice (some ⟨g,0,none⟩) l.length cap)∧w.heap.size<=g∧l.length<=cap∧Own w' g l)∧Below w.heap.size w w':=by
 have hba:Below w.heap.size w (w.alloc (.cells #[] 144)):=(Below.refl _ _).alloc (Nat.le_refl _) _
 by_cases hl0:l.length=0
 ·obtain rfl:l=[]:=List.length_eq_zero_iff.1 hl0
  have HE:Hid (Own (w.alloc (.cells #[] 144)) w.heap.size []):=⟨0,fun _=>undef,⟨#[],heap_alloc_new w _,rfl,fun i hi=>absurd hi (Nat.not_lt_zero i)⟩,by simp,fun k hk=>absurd hk (Nat.not_lt_zero k)⟩
  cases a with
  | none=>
   go_enter Tryz.func47,Tryz.ntmps47
   go_wp2_with fail
   go_ret
   exact ⟨⟨_,0,rfl,Nat.le_refl _,Nat.le_refl _,HE.out⟩,hba⟩
  | some ad=>
   go_enter Tryz.func47,Tryz.ntmps47
   go_wp2_with fail
   go_ret
   exact ⟨⟨_,0,rfl,Nat.le_refl _,Nat.le_refl _,HE.out⟩,hba⟩
 ·obtain ⟨b,o,rfl,_⟩:=hr 0 (by omega)
  have hra:=hr.below hba
  go_enter Tryz.func47,Tryz.ntmps47
  go_wp2_with (at_builtin;refine wpList_append_copy rfl _ _ rfl w.heap.size w.heap.size b o c l rfl (heap_alloc_new w _) (Nat.le_refl _) rfl hra (by omega) hl ?_;intro g' cap' w4 hg4 hgrow)
  go_ret
  obtain ⟨h1,h2,h3⟩:=gath_own hg4
  exact ⟨⟨g',cap',rfl,h1,h2,h3⟩,hba.grown hgrow (by simp) (fun k e=>by simp at e;omega)⟩
set_option maxHeartbeats 1600000 in
theorem l2Items_any (a:Option Addr) (cap:Nat) (l:List ItemL) (w:World) (hn:Small1 l) (hr:RowI w a l) :
  Calls Tryz.prog 81 #[.slice a l.length cap] w fun e w'=>(∃ v,e=.returned v∧GathI w' w.heap.size v l)∧Below w.heap.size w w':=by
 obtain ⟨i0,hi,hz0,hz1,hz2⟩:=info_parts Tryz.infoI
 have hl:=hn.1
 go_enter Tryz.func81,Tryz.ntmps81
 go_wp2_with fail
 go_loopw [3,4] (fun out i wr=>∃ k:Nat,k<=l.length∧i=.int .i64 k∧GathI wr w.heap.size out (l.take k)∧Below w.heap.size w wr) (fun _ i _=>l.length - (intOf i).toNat)
 case atStart=>exact ⟨0,Nat.zero_le _,rfl,gathI_none _ _,Below.refl _ _⟩
 case round=>
  obtain ⟨k,hk,rfl,hg,hb⟩:=hrel
  by_cases hlt:k < l.length
  ·obtain ⟨b,o,rfl,hbw,cw0,v,cw1,hv⟩:=hr k hlt
   obtain ⟨sa,sc,rfl,hcap,hrow⟩:=hv
   replace hrow:=hrow.below hb
   have c0:=cell_on hb hbw cw0
   have c1:=cell_on hb hbw cw1
   have hblt:b < wr.heap.size:=Nat.lt_of_lt_of_le hbw hb.size
   have k0:(0:Int)<=(k:Int):=by omega
   have k1:(k:Int) < (l.length:Int):=by omega
   have hlk:=hn.2 k hlt
   have HT:Hid (l.take (k + 1)=l.take k ++ [(l[k].1,l[k].2)]):=List.take_succ_eq_append_getElem hlt
   have hzr:=hb.size
   have htl:(l.take k).length<=1048576:=by rw [List.length_take];omega
   have SW:(wr.drew).cell? ⟨b,o + k * 2,none⟩=some (.int .i64 l[k].1)∧(wr.drew).cell? ⟨b,o + k * 2 + 1,none⟩=some (.slice sa l[k].2.length sc):=⟨c0,c1⟩
   obtain ⟨oa,oc,rfl,_⟩:=hg.len
   have hkl:(l.take k).length=k:=by rw [List.length_take];omega
   rw [hkl] at hg
   clear hkl hcap
   go_wp2_with fail
   refine wp_region_held_drew (S:=fun u=>u.cell? ⟨b,o + k * 2,none⟩=some (.int .i64 l[k].1)∧u.cell? ⟨b,o + k * 2 + 1,none⟩=some (.slice sa l[k].2.length sc)) (by kernel_rfl) SW (fun _=>?_)
   refine wpAnyH_take (i:=0) (v:=.slice oa k oc) rfl (by kernel_rfl) (by kernel_rfl) (by kernel_rfl) (fun _ _ _ h=>h) (Or.inl ⟨by rfl, ?_⟩) SW ?_
   ·rintro u ⟨q1,q2⟩
    go_simp
   simp only [Act.put,List.setIfInBounds_toArray]
   refine wpAnyH_take (i:=1) (v:=.slice (some ⟨b,o,none⟩) l.length cap) rfl (by kernel_rfl) (by kernel_rfl) (by kernel_rfl) (fun _ _ _ h=>h) (Or.inl ⟨by rfl, ?_⟩) SW ?_
   ·rintro u ⟨q1,q2⟩
    go_simp
   simp only [Act.put]
   refine wpAnyH_take (i:=2) (v:=.int .i64 k) rfl (by kernel_rfl) (by kernel_rfl) (by kernel_rfl) (fun _ _ _ h=>h) (Or.inl ⟨by rfl, ?_⟩) SW ?_
   ·rintro u ⟨q1,q2⟩
    go_simp
   simp only [Act.put]
   refine wpAnyH_take (i:=3) (v:=.pointer (some ⟨b,o + k * 2,none⟩)) rfl (by kernel_rfl) (by kernel_rfl) (by kernel_rfl) (fun _ _ _ h=>h) (Or.inl ⟨by rfl, ?_⟩) SW ?_
   ·rintro u ⟨q1,q2⟩
    go_simp
   simp only [Act.put]
   refine wpAnyH_take (i:=4) (v:=.pointer (some ⟨b,o + k * 2,none⟩)) rfl (by kernel_rfl) (by kernel_rfl) (by kernel_rfl) (fun _ _ _ h=>h) (Or.inl ⟨by rfl, ?_⟩) SW ?_
   ·rintro u ⟨q1,q2⟩
    go_simp
   simp only [Act.put]
   refine wpAnyH_take (i:=5) (v:=.int .i64 l[k].1) rfl (by kernel_rfl) (by kernel_rfl) (by kernel_rfl) (fun _ _ _ h=>h) (Or.inl ⟨by rfl, ?_⟩) SW ?_
   ·rintro u ⟨q1,q2⟩
    go_simp
   simp only [Act.put]
   refine wpAnyH_take (i:=6) (v:=.slice (some ⟨b,o,none⟩) l.length cap) rfl (by kernel_rfl) (by kernel_rfl) (by kernel_rfl) (fun _ _ _ h=>h) (Or.inl ⟨by rfl, ?_⟩) SW ?_
   ·rintro u ⟨q1,q2⟩
    go_simp
   simp only [Act.put]
   refine wpAnyH_take (i:=7) (v:=.int .i64 k) rfl (by kernel_rfl) (by kernel_rfl) (by kernel_rfl) (fun _ _ _ h=>h) (Or.inl ⟨by rfl, ?_⟩) SW ?_
   ·rintro u ⟨q1,q2⟩
    go_simp
   simp only [Act.put]
   refine wpAnyH_take (i:=8) (v:=.pointer (some ⟨b,o + k * 2,none⟩)) rfl (by kernel_rfl) (by kernel_rfl) (by kernel_rfl) (fun _ _ _ h=>h) (Or.inl ⟨by rfl, ?_⟩) SW ?_
   ·rintro u ⟨q1,q2⟩
    go_simp
   simp only [Act.put]
   refine wpAnyH_take (i:=9) (v:=.pointer (some ⟨b,o + k * 2 + 1,none⟩)) rfl (by kernel_rfl) (by kernel_rfl) (by kernel_rfl) (fun _ _ _ h=>h) (Or.inl ⟨by rfl, ?_⟩) SW ?_
   ·rintro u ⟨q1,q2⟩
    go_simp
   simp only [Act.put]
   refine wpAnyH_take (i:=10) (v:=.slice sa l[k].2.length sc) rfl (by kernel_rfl) (by kernel_rfl) (by kernel_rfl) (fun _ _ _ h=>h) (Or.inl ⟨by rfl, ?_⟩) SW ?_
   ·rintro u ⟨q1,q2⟩
    go_simp
   simp only [Act.put]
   refine wpAnyH_ready (rs:=[11]) (by kernel_rfl) (by simp) ?_
   refine AllReadyH.cons rfl (fun K hK=>?_) AllReadyH.nil
   rw [if_pos (by rfl)]
   go_simp
   have hbd:Below wr.heap.size wr wr.drew:=(Below.refl _ _).drew
   refine (l2Marks_any sa sc l[k].2 _ (hrow.below hbd) hlk).mono ?_
   rintro e w2 ⟨⟨gm,cm,rfl,hgm,hcm,ho⟩,b2⟩
   have b2':Below wr.heap.size wr w2:=hbd.trans (b2.mono hbd.size)
   have hgm':wr.heap.size<=gm:=hgm
   have S2:w2.cell? ⟨b,o + k * 2,none⟩=some (.int .i64 l[k].1)∧w2.cell? ⟨b,o + k * 2 + 1,none⟩=some (.slice sa l[k].2.length sc):=⟨cell_on b2' hblt c0,cell_on b2' hblt c1⟩
   refine hK.out _ _ S2 (fun _=>?_)
   clear hK K b2 SW hbd
   refine wpAnyH_take (i:=12) (v:=.agg #[.int .i64 l[k].1,.slice (some ⟨gm,0,none⟩) l[k].2.length cm]) rfl (by kernel_rfl) (by kernel_rfl) (by kernel_rfl) (fun _ _ _ h=>h) (Or.inl ⟨by rfl, ?_⟩) S2 ?_
   ·rintro u ⟨q1,q2⟩
    go_simp
   simp only [Act.put,List.setIfInBounds_toArray]
   refine wpAnyH_ready (rs:=[13]) (by kernel_rfl) (by simp) ?_
   refine AllReadyH.cons rfl (fun K hK=>?_) AllReadyH.nil
   rw [if_pos (by rfl)]
   go_simp
   have b3:Below wr.heap.size wr (w2.alloc (.cells #[.int .i64 l[k].1,.slice (some ⟨gm,0,none⟩) l[k].2.length cm] 44)):=b2'.alloc b2'.size _
   have S3:(w2.alloc (.cells #[.int .i64 l[k].1,.slice (some ⟨gm,0,none⟩) l[k].2.length cm] 44)).cell? ⟨b,o + k * 2,none⟩=some (.int .i64 l[k].1)∧(w2.alloc (.cells #[.int .i64 l[k].1,.slice (some ⟨gm,0,none⟩) l[k].2.length cm] 44)).cell? ⟨b,o + k * 2 + 1,none⟩=some (.slice sa l[k].2.length sc):=⟨cell_on b3 hblt c0,cell_on b3 hblt c1⟩
   have hbx:Below w2.heap.size w2 (w2.alloc (.cells #[.int .i64 l[k].1,.slice (some ⟨gm,0,none⟩) l[k].2.length cm] 44)):=(Below.refl _ _).alloc (Nat.le_refl _) _
   refine hK.out _ _ S3 (fun _=>?_)
   clear hK K
   refine wpAnyH_ready (rs:=[14]) (by kernel_rfl) (by simp) ?_
   refine AllReadyH.cons rfl (fun K hK=>?_) AllReadyH.nil
   rw [if_pos (by rfl)]
   refine wp_append_item _ _ rfl wr w.heap.size _ (l.take k) rfl hg b3 hzr w2.heap.size l[k].1 l[k].2 gm cm rfl (box0 _ _ _ _) (box1 _ _ _ _) (ho.below hbx) hgm' hcm htl ?_
   intro v' w4 hg4 b4
   have B4:Below w.heap.size w w4:=(hb.trans (b3.mono hzr)).trans b4
   have S4:w4.cell? ⟨b,o + k * 2,none⟩=some (.int .i64 l[k].1)∧w4.cell? ⟨b,o + k * 2 + 1,none⟩=some (.slice sa l[k].2.length sc):=⟨cell_on B4 hbw cw0,cell_on B4 hbw cw1⟩
   refine hK.out _ _ S4 (fun _=>?_)
   clear hK K
   refine wpAnyH_ready (rs:=[15]) (by kernel_rfl) (by simp) ?_
   refine AllReadyH.cons rfl (fun K hK=>?_) AllReadyH.nil
   rw [if_pos (by rfl)]
   go_simp
   refine hK.out _ _ S4 (fun _=>?_)
   clear hK K
   refine wpAnyH_done (by kernel_rfl) ?_ _
   go_wp2_with fail
   exact ⟨⟨k + 1,by omega,by go_num,by rw [HT.out];exact hg4,B4⟩,by simp [intOf];omega⟩
  ·go_wp2_with fail
   go_ret
   rw [List.take_of_length_le (by omega)] at hg
   exact ⟨⟨_,rfl,hg⟩,hb⟩
set_option maxHeartbeats 1600000 in
theorem freshMarks_any (a:Option Addr) (c:Nat) (l:List (ByteArray×Int)) (w:World) (hr:Row w a l) (hl:l.length<=1048576) (hs:∀ j,(h:j < l.length)->l[j].1.size<=281474976710656) :
  Calls Tryz.prog 100 #[.slice a l.length c] w fun e w'=>(∃ g cap,e=.returned (.slice (some ⟨g,0,none⟩) l.length cap)∧w.heap.size<=g∧l.length<=cap∧Own w' g l)∧Below w.heap.size w w':=by
 obtain ⟨i0,hi,hz0,hz1,hz2⟩:=info_parts Tryz.infoM
 have hmk:∀ u:World,(Instr.makeSlice 34 (.int .i64 0) (.int .i64 (l.length:Int))).run Tryz.prog u =
   .ok (.slice (some ⟨u.heap.size,0,none⟩) 0 l.length) (u.alloc (.cells (madeCells #[.string .empty,.int .i64 0] (l.length * 2)) 144)):=fun u=>by
  have h:=run_make (P:=Tryz.prog) u 34 144 i0 (.agg #[.string .empty,.int .i64 0]) Tryz.underlying34 hi hz0 .i64 .i64 0 (l.length:Int) (by omega) (by omega) (by rw [hz2];omega) (by omega)
  simpa [hz1,Value.cells] using h
 go_enter Tryz.func100,Tryz.ntmps100
 go_wp2_with fail
 have hg0:Gath (w.alloc (.cells (madeCells #[.string .empty,.int .i64 0] (l.length * 2)) 144)) w.heap.size (.slice (some ⟨w.heap.size,0,none⟩) 0 l.length) []:=
  ⟨rfl,.inr ⟨w.heap.size,l.length,madeCells #[.string .empty,.int .i64 0] (l.length * 2),rfl,Nat.le_refl _,heap_alloc_new w _,Nat.zero_le _,by unfold maxLen;omega,size_madeCells _ _,rfl⟩⟩
 have hb0:Below w.heap.size w (w.alloc (.cells (madeCells #[.string .empty,.int .i64 0] (l.length * 2)) 144)):=(Below.refl _ _).alloc (Nat.le_refl _) _
 generalize (w.alloc (.cells (madeCells #[.string .empty,.int .i64 0] (l.length * 2)) 144))=WA at *
 clear hmk
 go_loopw [3,11] (fun out i wr=>∃ k:Nat,k<=l.length∧i=.int .i64 k∧(∃ g cap,out=.slice (some ⟨g,0,none⟩) k cap∧Gath wr w.heap.size (.slice (some ⟨g,0,none⟩) k cap) (l.take k))∧Below w.heap.size w wr) (fun _ i _=>l.length - (intOf i).toNat)
 case atStart=>exact ⟨0,Nat.zero_le _,rfl,⟨_,_,rfl,hg0⟩,hb0⟩
 case round=>
  obtain ⟨k,hk,rfl,⟨g,cap,rfl,hg⟩,hb⟩:=hrel
  have hz:=hb.size
  by_cases hlt:k < l.length
  ·obtain ⟨b,o,rfl,hblt,e0,e1⟩:=hr k hlt
   have x0:=cell_on hb hblt e0
   have x1:=cell_on hb hblt e1
   have k0:(0:Int)<=(k:Int):=by omega
   have k1:(k:Int) < (l.length:Int):=by omega
   have hsk:=hs k hlt
   have HT:Hid (l.take (k + 1)=l.take k ++ [(l[k].1,l[k].2)]):=List.take_succ_eq_append_getElem hlt
   have htl:(l.take k).length=k:=by rw [List.length_take];omega
   clear e0 e1
   go_wp2_with fail
   have hbx:Below wr.heap.size wr (wr.alloc (.cells #[.string l[k].1,.int .i64 l[k].2] 144)):=(Below.refl _ _).alloc (Nat.le_refl _) _
   refine (fresh_any l[k].1 l[k].2 _ hsk).mono ?_
   rintro e w2 ⟨rfl,b2⟩
   have b2':Below wr.heap.size wr w2:=hbx.trans (b2.mono hbx.size)
   have hg2:=hg.keep b2'
   have z2:=b2'.size
   have B2:Below w.heap.size w w2:=hb.trans (b2'.mono hz)
   clear hg b2 b2' hbx hb x0 x1
   go_wp2_with (at_builtin;refine wpList_append_lies _ rfl _ _ 34 rfl w.heap.size 144 i0 (.agg #[.string .empty,.int .i64 0]) 2 24 Tryz.underlying34 hi hz0 hz1 hz2 rfl (by decide) _ _ _ rfl (hg2.alloc _) ⟨w2.heap.size,0,none⟩ 1 1 [.string l[k].1,.int .i64 l[k].2] rfl rfl (two_new w2 _ _ _) (by simp [Value.oneCell']) (by decide) (by unfold maxLen;omega) (by omega) (by simp;omega) _ rfl ?_;intro g' cap' wx hown' hgrow _ _)
   have hb10:=Gath.grown (W:=w) (B:=w.heap.size) (w:=w2.alloc (.cells #[.string l[k].1,.int .i64 l[k].2] 144)) (hg2.alloc _) (B2.alloc (by omega) _) (by simp;omega) hgrow
   have hg10:=Gath.snoc hown'
   rw [htl] at hg10
   exact ⟨⟨k + 1,by omega,by go_num,⟨_,_,rfl,by rw [HT.out];exact hg10⟩,hb10⟩,by simp [intOf];omega⟩
  ·obtain rfl:k=l.length:=by omega
   rw [List.take_of_length_le (Nat.le_refl _)] at hg
   obtain ⟨hgB,hgc,ho⟩:=gath_own hg
   go_wp2_with fail
   go_ret
   exact ⟨⟨g,cap,rfl,hgB,hgc,ho⟩,hb⟩
set_option maxHeartbeats 1600000 in
theorem freshItem_any (x:Int) (a:Option Addr) (c:Nat) (l:List (ByteArray×Int)) (w:World) (hr:Row w a l) (hl:l.length<=1048576) (hs:∀ j,(h:j < l.length)->l[j].1.size<=281474976710656) :
  Calls Tryz.prog 170 #[.agg #[.int .i64 x,.slice a l.length c]] w fun e w'=>(∃ g cap,e=.returned (.agg #[.int .i64 x,.slice (some ⟨g,0,none⟩) l.length cap])∧w.heap.size<=g∧l.length<=cap∧Own w' g l)∧Below w.heap.size w w':=by
 go_enter Tryz.func170,Tryz.ntmps170
 go_wp2_with fail
 have hb0:Below w.heap.size w ((w.alloc (.cells #[.int .i64 x,.slice a l.length c] 44)).alloc (.cells #[.int .i64 0,.slice none 0 0] 44)):=((Below.refl _ _).alloc (Nat.le_refl _) _).alloc (by simp) _
 have hsz:((w.alloc (.cells #[.int .i64 x,.slice a l.length c] 44)).alloc (.cells #[.int .i64 0,.slice none 0 0] 44)).heap.size=w.heap.size + 2:=by simp
 have c0:((w.alloc (.cells #[.int .i64 x,.slice a l.length c] 44)).alloc (.cells #[.int .i64 0,.slice none 0 0] 44)).cell? ⟨w.heap.size,0,none⟩=some (.int .i64 x):=by simp [go_sem]
 have c1:((w.alloc (.cells #[.int .i64 x,.slice a l.length c] 44)).alloc (.cells #[.int .i64 0,.slice none 0 0] 44)).cell? ⟨w.heap.size,1,none⟩=some (.slice a l.length c):=by simp [go_sem]
 have d0:((w.alloc (.cells #[.int .i64 x,.slice a l.length c] 44)).alloc (.cells #[.int .i64 0,.slice none 0 0] 44)).cell? ⟨w.heap.size + 1,0,none⟩=some (.int .i64 0):=by simp [go_sem]
 have d1:((w.alloc (.cells #[.int .i64 x,.slice a l.length c] 44)).alloc (.cells #[.int .i64 0,.slice none 0 0] 44)).cell? ⟨w.heap.size + 1,1,none⟩=some (.slice none 0 0):=by simp [go_sem]
 have f0:((w.alloc (.cells #[.int .i64 x,.slice a l.length c] 44)).alloc (.cells #[.int .i64 0,.slice none 0 0] 44)).frozen? ⟨w.heap.size + 1,0,none⟩=false:=by simp [go_sem]
 have f1:((w.alloc (.cells #[.int .i64 x,.slice a l.length c] 44)).alloc (.cells #[.int .i64 0,.slice none 0 0] 44)).frozen? ⟨w.heap.size + 1,1,none⟩=false:=by simp [go_sem]
 generalize ((w.alloc (.cells #[.int .i64 x,.slice a l.length c] 44)).alloc (.cells #[.int .i64 0,.slice none 0 0] 44))=WA at *
 have SW:WA.drew.cell? ⟨w.heap.size,0,none⟩=some (.int .i64 x)∧WA.drew.cell? ⟨w.heap.size,1,none⟩=some (.slice a l.length c):=⟨c0,c1⟩
 refine wp_region_held_drew (S:=fun u=>u.cell? ⟨w.heap.size,0,none⟩=some (.int .i64 x)∧u.cell? ⟨w.heap.size,1,none⟩=some (.slice a l.length c)) (by kernel_rfl) SW (fun _=>?_)
 refine wpAnyH_take (i:=0) (v:=.pointer (some ⟨w.heap.size,0,none⟩)) rfl (by kernel_rfl) (by kernel_rfl) (by kernel_rfl) (fun _ _ _ h=>h) (Or.inl ⟨by rfl, ?_⟩) SW ?_
 ·rintro u ⟨q1,q2⟩
  go_simp
 simp only [Act.put,List.setIfInBounds_toArray]
 refine wpAnyH_take (i:=1) (v:=.int .i64 x) rfl (by kernel_rfl) (by kernel_rfl) (by kernel_rfl) (fun _ _ _ h=>h) (Or.inl ⟨by rfl, ?_⟩) SW ?_
 ·rintro u ⟨q1,q2⟩
  go_simp
 simp only [Act.put]
 refine wpAnyH_take (i:=2) (v:=.pointer (some ⟨w.heap.size,1,none⟩)) rfl (by kernel_rfl) (by kernel_rfl) (by kernel_rfl) (fun _ _ _ h=>h) (Or.inl ⟨by rfl, ?_⟩) SW ?_
 ·rintro u ⟨q1,q2⟩
  go_simp
 simp only [Act.put]
 refine wpAnyH_take (i:=3) (v:=.slice a l.length c) rfl (by kernel_rfl) (by kernel_rfl) (by kernel_rfl) (fun _ _ _ h=>h) (Or.inl ⟨by rfl, ?_⟩) SW ?_
 ·rintro u ⟨q1,q2⟩
  go_simp
 simp only [Act.put]
 refine wpAnyH_ready (rs:=[4]) (by kernel_rfl) (by simp) ?_
 refine AllReadyH.cons rfl (fun K hK=>?_) AllReadyH.nil
 rw [if_pos (by rfl)]
 go_simp
 have hbd:Below w.heap.size w WA.drew:=hb0.drew
 refine (freshMarks_any a c l _ (hr.below hbd) hl hs).mono ?_
 rintro e w2 ⟨⟨g,cap,rfl,hg,hcap,ho⟩,b2⟩
 have b2':Below WA.heap.size WA w2:=((Below.refl _ _).drew).trans b2
 have hgl:w.heap.size + 2<=g:=by have:WA.drew.heap.size=WA.heap.size:=rfl;omega
 have S2:w2.cell? ⟨w.heap.size,0,none⟩=some (.int .i64 x)∧w2.cell? ⟨w.heap.size,1,none⟩=some (.slice a l.length c):=⟨cell_on b2' (by omega) c0,cell_on b2' (by omega) c1⟩
 have B2:Below w.heap.size w w2:=hb0.trans (b2'.mono (by omega))
 have x0:=cell_on b2' (by omega) d0
 have x1:=cell_on b2' (by omega) d1
 have y0:w2.frozen? ⟨w.heap.size + 1,0,none⟩=false:=(b2'.frozen (p:=⟨w.heap.size + 1,0,none⟩) (by simp only;omega)).trans f0
 have y1:w2.frozen? ⟨w.heap.size + 1,1,none⟩=false:=(b2'.frozen (p:=⟨w.heap.size + 1,1,none⟩) (by simp only;omega)).trans f1
 refine hK.out _ _ S2 (fun _=>?_)
 clear hK K b2 SW hbd c0 c1 d0 d1 f0 f1 hb0 b2'
 refine wpAnyH_take (i:=5) (v:=.agg #[.int .i64 x,.slice (some ⟨g,0,none⟩) l.length cap]) rfl (by kernel_rfl) (by kernel_rfl) (by kernel_rfl) (fun _ _ _ h=>h) (Or.inl ⟨by rfl, ?_⟩) S2 ?_
 ·rintro u ⟨q1,q2⟩
  go_simp
 simp only [Act.put,List.setIfInBounds_toArray]
 refine wpAnyH_ready (rs:=[6]) (by kernel_rfl) (by simp) ?_
 refine AllReadyH.cons rfl (fun K hK=>?_) AllReadyH.nil
 rw [if_pos (by rfl)]
 go_simp
 have S3:((w2.setCell ⟨w.heap.size + 1,0,none⟩ (.int .i64 x)).setCell ⟨w.heap.size + 1,1,none⟩ (.slice (some ⟨g,0,none⟩) l.length cap)).cell? ⟨w.heap.size,0,none⟩=some (.int .i64 x)∧((w2.setCell ⟨w.heap.size + 1,0,none⟩ (.int .i64 x)).setCell ⟨w.heap.size + 1,1,none⟩ (.slice (some ⟨g,0,none⟩) l.length cap)).cell? ⟨w.heap.size,1,none⟩=some (.slice a l.length c):=by
  simp only [set_far _ _ _ _ (show w.heap.size≠w.heap.size + 1 by omega)]
  exact S2
 refine hK.out _ _ S3 (fun _=>?_)
 clear hK K
 refine wpAnyH_done (by kernel_rfl) ?_ _
 go_wp2_with fail
 have z0:((w2.setCell ⟨w.heap.size + 1,0,none⟩ (.int .i64 x)).setCell ⟨w.heap.size + 1,1,none⟩ (.slice (some ⟨g,0,none⟩) l.length cap)).cell? ⟨w.heap.size + 1,0,none⟩=some (.int .i64 x):=by simp [go_sem,x0]
 have z1:((w2.setCell ⟨w.heap.size + 1,0,none⟩ (.int .i64 x)).setCell ⟨w.heap.size + 1,1,none⟩ (.slice (some ⟨g,0,none⟩) l.length cap)).cell? ⟨w.heap.size + 1,1,none⟩=some (.slice (some ⟨g,0,none⟩) l.length cap):=by simp [go_sem,x1]
 exact bodyPost_ret (v:=.agg #[.int .i64 x,.slice (some ⟨g,0,none⟩) l.length cap]) (by simp [results,Tryz.results170,go_sem,z0,z1]) rfl
  ⟨⟨g,cap,rfl,by omega,hcap,(ho.setOther (by omega) _ _).setOther (by omega) _ _⟩,(B2.setCell (by simp only;omega) _).setCell (by simp only;omega) _⟩
set_option maxHeartbeats 1600000 in
theorem items_any (W0 w:World) (b s:Nat) (l:List ItemL) (h:WinB W0 w b s l) (hW:Below W0.heap.size W0 w) (hl:∀ k,(h:k < l.length)->StampP l[k].2) :
  Calls Tryz.prog 130 #[.pointer (some ⟨b,0,none⟩)] w fun e w'=>(∃ v,e=.returned v∧GathI w' w.heap.size v l)∧Below w.heap.size w w':=by
 obtain ⟨i0,hi,hz0,hz1,hz2⟩:=info_parts Tryz.infoI
 have h4:=h.2.2.1
 have hmk:∀ u:World,(Instr.makeSlice 78 (.int .i64 0) (.int .i64 (l.length:Int))).run Tryz.prog u =
   .ok (.slice (some ⟨u.heap.size,0,none⟩) 0 l.length) (u.alloc (.cells (madeCells #[.int .i64 0,.slice none 0 0] (l.length * 2)) 44)):=fun u=>by
  have h:=run_make (P:=Tryz.prog) u 78 44 i0 (.agg #[.int .i64 0,.slice none 0 0]) Tryz.underlying78 hi hz0 .i64 .i64 0 (l.length:Int) (by omega) (by omega) (by rw [hz2];omega) (by omega)
  simpa [hz1,Value.cells] using h
 go_enter Tryz.func130,Tryz.ntmps130
 go_wp2_with fail
 refine (size_any W0 w b s l h).mono ?_
 rintro e w1 ⟨rfl,rfl⟩
 go_wp2_with fail
 have hb0:Below w1.heap.size w1 (w1.alloc (.cells (madeCells #[.int .i64 0,.slice none 0 0] (l.length * 2)) 44)):=(Below.refl _ _).alloc (Nat.le_refl _) _
 have hsz:(w1.alloc (.cells (madeCells #[.int .i64 0,.slice none 0 0] (l.length * 2)) 44)).heap.size=w1.heap.size + 1:=by simp
 have hg0:GathI (w1.alloc (.cells (madeCells #[.int .i64 0,.slice none 0 0] (l.length * 2)) 44)) w1.heap.size (.slice (some ⟨w1.heap.size,0,none⟩) 0 l.length) []:=
  ⟨[],rfl,⟨rfl,.inr ⟨w1.heap.size,l.length,madeCells #[.int .i64 0,.slice none 0 0] (l.length * 2),rfl,Nat.le_refl _,heap_alloc_new w1 _,Nat.zero_le _,by unfold maxLen;omega,size_madeCells _ _,rfl⟩⟩,by simp,List.Pairwise.nil⟩
 have hW1:=h.below hb0
 have hWl:=h.lt
 generalize (w1.alloc (.cells (madeCells #[.int .i64 0,.slice none 0 0] (l.length * 2)) 44))=W1 at *
 refine (size_any W0 W1 b s l hW1).mono ?_
 rintro e w2 ⟨rfl,rfl⟩
 clear hmk
 go_wp2_with fail
 have hzW:=hW.size
 go_loopw [3,14] (fun out i wr=>∃ k:Nat,k<=l.length∧i=.int .i64 k∧GathI wr w1.heap.size out (l.take k)∧Below w1.heap.size w1 wr) (fun _ i _=>l.length - (intOf i).toNat)
 case atStart=>exact ⟨0,Nat.zero_le _,rfl,hg0,hb0⟩
 case round=>
  obtain ⟨k,hk,rfl,hg,hb⟩:=hrel
  clear hg0 hb0 hW1
  by_cases hlt:k < l.length
  ·have k0:(0:Int)<=(k:Int):=by omega
   have k1:(k:Int) < (l.length:Int):=by omega
   have HT:Hid (l.take (k + 1)=l.take k ++ [(l[k].1,l[k].2)]):=List.take_succ_eq_append_getElem hlt
   have htl:(l.take k).length<=1048576:=by rw [List.length_take];omega
   have hzr:=hb.size
   have hst:=hl k hlt
   have hfk:=stamp_fit hst
   have hlk:l[k].2.length<=1048576:=by have:=hst.1;omega
   have hsk:∀ j,(h:j < l[k].2.length)->l[k].2[j].1.size<=281474976710656:=fun j hj=>by have:=(hst.2.1 j hj).1.2.1;omega
   have HL:Hid (∀ j,(h:j < l[k].2.length)->l[k].2[j].1.size<=281474976710656):=hsk
   clear hsk hst hfk
   go_wp2_with fail
   refine (at_any W0 wr b s l k (h.below hb) hlt).mono ?_
   rintro e w3 ⟨⟨v,rfl,sa,sc,rfl,hcap,hrow⟩,b3⟩
   have B3:Below w1.heap.size w1 w3:=hb.trans (b3.mono hzr)
   have hrow3:=hrow.below (hW.trans (B3.mono hzW))
   go_wp2_with fail
   refine (freshItem_any l[k].1 sa sc l[k].2 _ hrow3 hlk HL.out).mono ?_
   rintro e w4 ⟨⟨gm,cm,rfl,hgm,hcm,ho⟩,b4⟩
   have b4':Below wr.heap.size wr w4:=b3.trans (b4.mono b3.size)
   have z3:=b3.size
   have z4:=b4'.size
   have b5:Below wr.heap.size wr (w4.alloc (.cells #[.int .i64 l[k].1,.slice (some ⟨gm,0,none⟩) l[k].2.length cm] 44)):=b4'.alloc b4'.size _
   have hbx:Below w4.heap.size w4 (w4.alloc (.cells #[.int .i64 l[k].1,.slice (some ⟨gm,0,none⟩) l[k].2.length cm] 44)):=(Below.refl _ _).alloc (Nat.le_refl _) _
   have ho5:=ho.below hbx
   have B5:Below w1.heap.size w1 (w4.alloc (.cells #[.int .i64 l[k].1,.slice (some ⟨gm,0,none⟩) l[k].2.length cm] 44)):=hb.trans (b5.mono hzr)
   clear b3 b4 b4' B3 hrow3 hrow hbx ho
   go_wp2_with (at_builtin;refine wpList_append_item rfl _ _ rfl wr w1.heap.size _ (l.take k) rfl hg b5 hzr w4.heap.size l[k].1 l[k].2 gm cm rfl (box0 _ _ _ _) (box1 _ _ _ _) ho5 (by omega) hcm htl ?_;intro v' w6 hg6 b6)
   exact ⟨⟨k + 1,by omega,by go_num,by rw [HT.out];exact hg6,B5.trans b6⟩,by simp [intOf];omega⟩
  ·rw [List.take_of_length_le (by omega)] at hg
   go_wp2_with fail
   go_ret
   exact ⟨⟨_,rfl,hg⟩,hb⟩
end Go.Proofs.YtpfhegengmlkmacGreatDoor
