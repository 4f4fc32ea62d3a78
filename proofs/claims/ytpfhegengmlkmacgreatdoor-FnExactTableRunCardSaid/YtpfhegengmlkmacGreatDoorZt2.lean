/- Texts of this claim. -/
import Derived.Deep.RegionHeld3
import Derived.Test.YtpfhegengmlkmacGreatDoorZt1
namespace Go.Proofs.YtpfhegengmlkmacGreatDoor
open Go.RowKit Go.BigFrame
def Shp (f:Nat->Value):Prop:=∀ i,i < 4->∃ x a n c,f (i * 2)=.int .i64 x∧f (i * 2 + 1)=.slice a n c
theorem Shp.far {f:Nat->Value} (h:Shp f) {i:Nat} (hi:8<=i) (v:Value):Shp (fun j=>if j=i then v else f j):=fun k hk=>by
 obtain ⟨x,a,n,c,h1,h2⟩:=h k hk
 exact ⟨x,a,n,c,(if_neg (by omega)).trans h1,(if_neg (by omega)).trans h2⟩
theorem Shp.put {f:Nat->Value} (h:Shp f) {q:Nat} (x:Int) (a:Option Addr) (n c:Nat):Shp (fun j=>if j=q * 2 + 1 then .slice a n c else if j=q * 2 then .int .i64 x else f j):=fun k hk=>by
 by_cases e:k=q
 ·subst e
  exact ⟨x,a,n,c,(if_neg (by omega)).trans (if_pos rfl),if_pos rfl⟩
 ·obtain ⟨x,a,n,c,h1,h2⟩:=h k hk
  exact ⟨x,a,n,c,(if_neg (by omega)).trans ((if_neg (by omega)).trans h1),(if_neg (by omega)).trans ((if_neg (by omega)).trans h2)⟩
def WinB (W0 w:World) (b s:Nat) (l:List ItemL):Prop:=
 W0.heap.size<=b∧s < 4∧l.length<=4∧∃ f,(w.rowIs b 190 10 f∧Shp f)∧f 8=.int .i64 s∧f 9=.int .i64 l.length ∧
  ∀ k,(h:k < l.length)->f ((s + k) % 4 * 2)=.int .i64 l[k].1∧∃ v,f ((s + k) % 4 * 2 + 1)=v∧IsSl W0 v l[k].2
theorem set_far (w:World) {b q:Nat} (i:Nat) (v:Value) (o:Nat) (h:b≠q):(w.setCell ⟨q,i,none⟩ v).cell? ⟨b,o,none⟩=w.cell? ⟨b,o,none⟩:=World.cell?_of_block (Below.heap_setCell _ _ _ _ h)
theorem WinB.lt {W0 w:World} {b s:Nat} {l:List ItemL} (h:WinB W0 w b s l):b < w.heap.size:=by
 obtain ⟨_,_,_,f,⟨h,_⟩,_⟩:=h
 exact h.lt
theorem WinB.below {W0 w w':World} {b s:Nat} {l:List ItemL} (h:WinB W0 w b s l) (hb:Below w.heap.size w w'):WinB W0 w' b s l:=by
 have hlt:=h.lt
 obtain ⟨h0,h1,h2,f,⟨h,sh⟩,r⟩:=h
 exact ⟨h0,h1,h2,f,⟨h.of_block (hb.block b hlt),sh⟩,r⟩
theorem WinB.cells {W0 w:World} {b s:Nat} {l:List ItemL} (h:WinB W0 w b s l):w.cell? ⟨b,8,none⟩=some (.int .i64 s)∧w.cell? ⟨b,9,none⟩=some (.int .i64 l.length):=by
 obtain ⟨h0,h1,h2,f,⟨h,_⟩,e8,e9,_⟩:=h
 exact ⟨by rw [h.cell (by omega),e8],by rw [h.cell (by omega),e9]⟩
theorem WinB.item {W0 w:World} {b s:Nat} {l:List ItemL} (h:WinB W0 w b s l) {k:Nat} (hk:k < l.length):∃ v,w.cell? ⟨b,(s + k) % 4 * 2,none⟩=some (.int .i64 l[k].1)∧w.cell? ⟨b,(s + k) % 4 * 2 + 1,none⟩=some v∧IsSl W0 v l[k].2:=by
 obtain ⟨h0,h1,h2,f,⟨h,_⟩,e8,e9,hf⟩:=h
 obtain ⟨a1,v,a2,a3⟩:=hf k hk
 exact ⟨v,by rw [h.cell (by omega),a1],by rw [h.cell (by omega),a2],a3⟩
theorem WinB.free {W0 w:World} {b s:Nat} {l:List ItemL} (h:WinB W0 w b s l) (i:Nat):w.frozen? ⟨b,i,none⟩=false:=by
 obtain ⟨h0,h1,h2,f,⟨h,_⟩,_⟩:=h
 exact h.frozen i
set_option maxHeartbeats 400000 in
theorem slot_any (w:World) (b s k:Nat) (c8:w.cell? ⟨b,8,none⟩=some (.int .i64 s)) (hs:s < 4) (hk:k < 4) :
  Calls Tryz.prog 171 #[.pointer (some ⟨b,0,none⟩),.int .i64 k] w fun e w'=>e=.returned (.int .i64 (((s + k) % 4:Nat):Int))∧w'=w:=by
 have hm:(((s + k) % 4:Nat):Int)=((s:Int) + (k:Int)) % 4:=by omega
 have HM:Hid ((((s + k) % 4:Nat):Int)=((s:Int) + (k:Int)) % 4):=hm
 clear hm
 go_enter Tryz.func171,Tryz.ntmps171
 go_wp2_with fail
 go_ret
 exact ⟨by rw [HM.out];rfl,rfl⟩
set_option maxHeartbeats 400000 in
theorem size_any (W0 w:World) (b s:Nat) (l:List ItemL) (h:WinB W0 w b s l) :
  Calls Tryz.prog 167 #[.pointer (some ⟨b,0,none⟩)] w fun e w'=>e=.returned (.int .i64 (l.length:Int))∧w'=w:=by
 obtain ⟨c8,c9⟩:=h.cells
 go_enter Tryz.func167,Tryz.ntmps167
 go_wp2_with fail
 go_ret
 exact ⟨rfl,rfl⟩
set_option maxHeartbeats 400000 in
theorem at_any (W0 w:World) (b s:Nat) (l:List ItemL) (k:Nat) (h:WinB W0 w b s l) (hk:k < l.length) :
  Calls Tryz.prog 142 #[.pointer (some ⟨b,0,none⟩),.int .i64 k] w fun e w'=>(∃ v,e=.returned (.agg #[.int .i64 l[k].1,v])∧IsSl W0 v l[k].2)∧Below w.heap.size w w':=by
 have h4:=h.2.2.1
 obtain ⟨v,c0,c1,hv⟩:=h.item hk
 obtain ⟨sa,sc,rfl,hcap,hrow⟩:=hv
 have hwl:=h.lt
 have HW:=h.below ((Below.refl w.heap.size w).alloc (Nat.le_refl _) (.cells #[.int .i64 0,.slice none 0 0] 44))
 have e0:=cell_on ((Below.refl w.heap.size w).alloc (Nat.le_refl _) (.cells #[.int .i64 0,.slice none 0 0] 44)) hwl c0
 have e1:=cell_on ((Below.refl w.heap.size w).alloc (Nat.le_refl _) (.cells #[.int .i64 0,.slice none 0 0] 44)) hwl c1
 have d0:(w.alloc (.cells #[.int .i64 0,.slice none 0 0] 44)).cell? ⟨w.heap.size,0,none⟩=some (.int .i64 0):=box0 _ _ _ _
 have d1:(w.alloc (.cells #[.int .i64 0,.slice none 0 0] 44)).cell? ⟨w.heap.size,1,none⟩=some (.slice none 0 0):=box1 _ _ _ _
 have f0:(w.alloc (.cells #[.int .i64 0,.slice none 0 0] 44)).frozen? ⟨w.heap.size,0,none⟩=false:=by simp [go_sem]
 have f1:(w.alloc (.cells #[.int .i64 0,.slice none 0 0] 44)).frozen? ⟨w.heap.size,1,none⟩=false:=by simp [go_sem]
 have hb0:Below w.heap.size w (w.alloc (.cells #[.int .i64 0,.slice none 0 0] 44)):=(Below.refl w.heap.size w).alloc (Nat.le_refl _) _
 have hm1:(0:Int)<=(((s + k) % 4:Nat):Int):=by omega
 have hm2:(((s + k) % 4:Nat):Int) < 4:=by omega
 go_enter Tryz.func142,Tryz.ntmps142
 go_wp2_with fail
 generalize hW:w.alloc (.cells #[.int .i64 0,.slice none 0 0] 44)=W at *
 clear hW
 have HS:∀ u,Below W.heap.size W u->Calls Tryz.prog 171 #[.pointer (some ⟨b,0,none⟩),.int .i64 k] u fun e w'=>e=.returned (.int .i64 (((s + k) % 4:Nat):Int))∧w'=u:=fun u hu=>slot_any u b s k (HW.below hu).cells.1 (HW.2.1) (by omega)
 clear c0 c1
 generalize hq:(s + k) % 4=q at *
 clear hq
 have hne:b≠w.heap.size:=by omega
 go_region_held3 (fun w'=>w'.cell? ⟨b,q * 2,none⟩=some (.int .i64 l[k].1)∧w'.cell? ⟨b,q * 2 + 1,none⟩=some (.slice sa l[k].2.length sc)) (first | exact ⟨e0,e1⟩ | (simp only [World.cell?_drew,set_far _ _ _ _ hne,e0,e1,and_self];done))
  (first | (go_at_call 171;refine (HS _ (by first | exact Below.refl _ _ | exact (Below.refl _ _).drew | exact below_drewN (Below.refl _ _) _)).mono ?_;rintro e w1 ⟨rfl,rfl⟩))
 go_wp2_with fail
 exact bodyPost_ret (v:=.agg #[.int .i64 l[k].1,.slice sa l[k].2.length sc]) (by simp [results,Tryz.results142,go_sem,d0,d1]) rfl ⟨⟨_,rfl,sa,sc,rfl,hcap,hrow⟩,((hb0.setCell (Nat.le_refl _) _).setCell (Nat.le_refl _) _).drew⟩
set_option maxHeartbeats 400000 in
theorem last_any (W0 w:World) (b s:Nat) (l:List ItemL) (h:WinB W0 w b s l) (h0:0 < l.length) :
  Calls Tryz.prog 168 #[.pointer (some ⟨b,0,none⟩)] w fun e w'=>(∃ v,e=.returned (.agg #[.int .i64 (l[l.length - 1]'(by omega)).1,v])∧IsSl W0 v (l[l.length - 1]'(by omega)).2)∧Below w.heap.size w w':=by
 have h4:=h.2.2.1
 obtain ⟨c8,c9⟩:=h.cells
 have hwl:=h.lt
 have d0:(w.alloc (.cells #[.int .i64 0,.slice none 0 0] 44)).cell? ⟨w.heap.size,0,none⟩=some (.int .i64 0):=box0 _ _ _ _
 have d1:(w.alloc (.cells #[.int .i64 0,.slice none 0 0] 44)).cell? ⟨w.heap.size,1,none⟩=some (.slice none 0 0):=box1 _ _ _ _
 have f0:(w.alloc (.cells #[.int .i64 0,.slice none 0 0] 44)).frozen? ⟨w.heap.size,0,none⟩=false:=by simp [go_sem]
 have f1:(w.alloc (.cells #[.int .i64 0,.slice none 0 0] 44)).frozen? ⟨w.heap.size,1,none⟩=false:=by simp [go_sem]
 have hb0:Below w.heap.size w (w.alloc (.cells #[.int .i64 0,.slice none 0 0] 44)):=(Below.refl w.heap.size w).alloc (Nat.le_refl _) _
 have hWl:w.heap.size < (w.alloc (.cells #[.int .i64 0,.slice none 0 0] 44)).heap.size:=box_lt _ _
 have hkm:((l.length:Int) - 1)=((l.length - 1:Nat):Int):=by omega
 go_enter Tryz.func168,Tryz.ntmps168
 go_wp2_with fail
 generalize hW:w.alloc (.cells #[.int .i64 0,.slice none 0 0] 44)=W at *
 clear hW
 refine (at_any W0 W b s l (l.length - 1) (h.below hb0) (by omega)).mono ?_
 rintro e w1 ⟨⟨v,rfl,hv⟩,b1⟩
 obtain ⟨sa,sc,rfl,hcap,hrow⟩:=hv
 replace d0:=cell_on b1 hWl d0
 replace d1:=cell_on b1 hWl d1
 replace f0:=(b1.frozen (p:=⟨w.heap.size,0,none⟩) hWl).trans f0
 replace f1:=(b1.frozen (p:=⟨w.heap.size,1,none⟩) hWl).trans f1
 have B1:Below w.heap.size w w1:=hb0.trans (b1.mono hb0.size)
 clear b1 hb0 c8 c9
 go_wp2_with fail
 exact bodyPost_ret (v:=.agg #[.int .i64 (l[l.length - 1]'(by omega)).1,.slice sa (l[l.length - 1]'(by omega)).2.length sc]) (by simp [results,Tryz.results168,go_sem,d0,d1]) rfl ⟨⟨_,rfl,sa,sc,rfl,hcap,hrow⟩,(B1.setCell (Nat.le_refl _) _).setCell (Nat.le_refl _) _⟩
theorem wrap_small {n:Int} (h0:0<=n) (h1:n<=1000000):IntKind.i64.wrap n=n:=by
 rw [IntKind.wrap_i64]
 omega
theorem WinB.put {W0 w:World} {b s:Nat} {l:List ItemL} {f:Nat->Value} {x:Int} {sa:Option Addr} {sc:Nat} {m:List (ByteArray×Int)} (hB:W0.heap.size<=b) (hs:s < 4) (h4:l.length < 4) (hr:w.rowIs b 190 10 f) (hsh:Shp f) (e8:f 8=.int .i64 s) (e9:f 9=.int .i64 ((l.length:Int) + 1))
  (hf:∀ k,(h:k < l.length)->f ((s + k) % 4 * 2)=.int .i64 l[k].1∧∃ v,f ((s + k) % 4 * 2 + 1)=v∧IsSl W0 v l[k].2) (hcap:m.length<=sc) (hrow:Row W0 sa m) :
  WinB W0 ((w.setCell ⟨b,(s + l.length) % 4 * 2,none⟩ (.int .i64 x)).setCell ⟨b,(s + l.length) % 4 * 2 + 1,none⟩ (.slice sa m.length sc)) b s (l ++ [(x,m)]):=by
 have hlen:(l ++ [(x,m)]).length=l.length + 1:=by simp
 refine ⟨hB,hs,by omega,_,⟨(hr.set _ _).set _ _,hsh.put _ _ _ _⟩, ?_, ?_,fun k hk=>?_⟩
 ·rw [if_neg (by omega),if_neg (by omega)];exact e8
 ·rw [if_neg (by omega),if_neg (by omega),e9,hlen]
  congr 1
 ·by_cases e:k=l.length
  ·subst e
   rw [List.getElem_concat_length rfl]
   refine ⟨by rw [if_neg (by omega),if_pos rfl],.slice sa m.length sc,by rw [if_pos rfl],sa,sc,rfl,hcap,hrow⟩
  ·have hk':k < l.length:=by omega
   obtain ⟨h1,v,h2,h3⟩:=hf k hk'
   rw [List.getElem_append_left hk']
   refine ⟨by rw [if_neg (by omega),if_neg (by omega)];exact h1,v,by rw [if_neg (by omega),if_neg (by omega)];exact h2,h3⟩
set_option maxHeartbeats 800000 in
theorem push_room (W0 w:World) (b s:Nat) (l:List ItemL) (x:Int) (v:Value) (m:List (ByteArray×Int)) (h:WinB W0 w b s l) (hv:IsSl W0 v m) (h4:l.length < 4) :
  Calls Tryz.prog 131 #[.pointer (some ⟨b,0,none⟩),.agg #[.int .i64 x,v]] w fun e w'=>e=.returned (.tuple #[])∧WinB W0 w' b s (l ++ [(x,m)])∧But b w w':=by
 obtain ⟨c8,c9⟩:=h.cells
 have f9:=h.free 9
 have hwl:=h.lt
 have hs:=h.2.1
 obtain ⟨sa,sc,rfl,hcap,hrow⟩:=hv
 have hne:b≠w.heap.size:=by omega
 obtain ⟨hB,_,_,f,⟨hr,hsh⟩,e8,e9,hf⟩:=h
 have hb0:But b w ((w.setCell ⟨b,9,none⟩ (.int .i64 ((l.length:Int) + 1))).alloc (.cells #[.int .i64 x,.slice sa m.length sc] 44)):=((But.refl b w).setCell _ _).trans (But.of_below ((Below.refl _ _).alloc (Nat.le_refl _) _))
 have R1:=(hr.set 9 (.int .i64 ((l.length:Int) + 1))).alloc (.cells #[.int .i64 x,.slice sa m.length sc] 44)
 have d0:((w.setCell ⟨b,9,none⟩ (.int .i64 ((l.length:Int) + 1))).alloc (.cells #[.int .i64 x,.slice sa m.length sc] 44)).cell? ⟨w.heap.size,0,none⟩=some (.int .i64 x):=by have h:=box0 (w.setCell ⟨b,9,none⟩ (.int .i64 ((l.length:Int) + 1))) (.int .i64 x) (.slice sa m.length sc) 44;simpa [World.setCell] using h
 have d1:((w.setCell ⟨b,9,none⟩ (.int .i64 ((l.length:Int) + 1))).alloc (.cells #[.int .i64 x,.slice sa m.length sc] 44)).cell? ⟨w.heap.size,1,none⟩=some (.slice sa m.length sc):=by have h:=box1 (w.setCell ⟨b,9,none⟩ (.int .i64 ((l.length:Int) + 1))) (.int .i64 x) (.slice sa m.length sc) 44;simpa [World.setCell] using h
 go_enter Tryz.func131,Tryz.ntmps131
 go_wp2_with fail
 generalize hW:(w.setCell ⟨b,9,none⟩ (.int .i64 ((l.length:Int) + 1))).alloc (.cells #[.int .i64 x,.slice sa m.length sc] 44)=W at *
 clear hW
 have g8:W.cell? ⟨b,8,none⟩=some (.int .i64 s):=by rw [R1.cell (by omega),if_neg (by omega),e8]
 have g9:W.cell? ⟨b,9,none⟩=some (.int .i64 ((l.length:Int) + 1)):=by rw [R1.cell (by omega),if_pos rfl]
 have HP:Hid (WinB W0 ((W.setCell ⟨b,(s + l.length) % 4 * 2,none⟩ (.int .i64 x)).setCell ⟨b,(s + l.length) % 4 * 2 + 1,none⟩ (.slice sa m.length sc)) b s (l ++ [(x,m)])):=WinB.put hB hs h4 R1 (hsh.far (by omega) _) (by rw [if_neg (by omega),e8]) (by rw [if_pos rfl]) (fun k hk=>by
  obtain ⟨h1,v,h2,h3⟩:=hf k hk
  exact ⟨by rw [if_neg (by omega),h1],v,by rw [if_neg (by omega),h2],h3⟩) hcap hrow
 have HS:∀ u,Below W.heap.size W u->Calls Tryz.prog 171 #[.pointer (some ⟨b,0,none⟩),.int .i64 l.length] u fun e w'=>e=.returned (.int .i64 (((s + l.length) % 4:Nat):Int))∧w'=u:=fun u hu=>slot_any u b s l.length (cell_on hu (block_lt_of_cell g8) g8) hs h4
 have hq4:(s + l.length) % 4 < 4:=Nat.mod_lt _ (by omega)
 generalize hq:(s + l.length) % 4=q at *
 clear hq c8 c9
 have R2:=(R1.set (q * 2) (.int .i64 x)).set (q * 2 + 1) (.slice sa m.length sc)
 have k9:((W.setCell ⟨b,q * 2,none⟩ (.int .i64 x)).setCell ⟨b,q * 2 + 1,none⟩ (.slice sa m.length sc)).cell? ⟨b,9,none⟩=some (.int .i64 ((l.length:Int) + 1)):=by rw [R2.cell (by omega),if_neg (by omega),if_neg (by omega),if_pos rfl]
 have k0:((W.setCell ⟨b,q * 2,none⟩ (.int .i64 x)).setCell ⟨b,q * 2 + 1,none⟩ (.slice sa m.length sc)).cell? ⟨w.heap.size,0,none⟩=some (.int .i64 x):=by rw [set_far _ _ _ _ (Ne.symm hne),set_far _ _ _ _ (Ne.symm hne)];exact d0
 have k1:((W.setCell ⟨b,q * 2,none⟩ (.int .i64 x)).setCell ⟨b,q * 2 + 1,none⟩ (.slice sa m.length sc)).cell? ⟨w.heap.size,1,none⟩=some (.slice sa m.length sc):=by rw [set_far _ _ _ _ (Ne.symm hne),set_far _ _ _ _ (Ne.symm hne)];exact d1
 obtain ⟨u0,x0⟩:∃ u,W.cell? ⟨b,q * 2,none⟩=some u:=⟨_,R1.cell (by omega)⟩
 obtain ⟨u1,x1⟩:∃ u,W.cell? ⟨b,q * 2 + 1,none⟩=some u:=⟨_,R1.cell (by omega)⟩
 have y0:=R1.frozen (q * 2)
 have y1:=R1.frozen (q * 2 + 1)
 have hm1:(0:Int)<=(q:Int):=by omega
 have hm2:(q:Int) < 4:=by omega
 clear R1 R2 hr e8 e9 hf
 have SW:(W.drew).cell? ⟨b,9,none⟩=some (.int .i64 ((l.length:Int) + 1))∧(W.drew).cell? ⟨w.heap.size,0,none⟩=some (.int .i64 x)∧(W.drew).cell? ⟨w.heap.size,1,none⟩=some (.slice sa m.length sc):=⟨g9,d0,d1⟩
 refine wp_region_held_drew (S:=fun u=>u.cell? ⟨b,9,none⟩=some (.int .i64 ((l.length:Int) + 1))∧u.cell? ⟨w.heap.size,0,none⟩=some (.int .i64 x)∧u.cell? ⟨w.heap.size,1,none⟩=some (.slice sa m.length sc)) (by kernel_rfl) SW (fun _=>?_)
 refine wpAnyH_take (i:=0) (v:=.pointer (some ⟨b,0,none⟩)) rfl (by kernel_rfl) (by kernel_rfl) (by kernel_rfl) (fun _ _ _ h=>h) (Or.inl ⟨by rfl, ?_⟩) SW ?_
 ·rintro u ⟨q1,q2,q3⟩
  go_simp
 simp only [Act.put,List.setIfInBounds_toArray]
 refine wpAnyH_take (i:=1) (v:=.pointer (some ⟨b,0,none⟩)) rfl (by kernel_rfl) (by kernel_rfl) (by kernel_rfl) (fun _ _ _ h=>h) (Or.inl ⟨by rfl, ?_⟩) SW ?_
 ·rintro u ⟨q1,q2,q3⟩
  go_simp
 simp only [Act.put]
 refine wpAnyH_take (i:=2) (v:=.pointer (some ⟨b,0,none⟩)) rfl (by kernel_rfl) (by kernel_rfl) (by kernel_rfl) (fun _ _ _ h=>h) (Or.inl ⟨by rfl, ?_⟩) SW ?_
 ·rintro u ⟨q1,q2,q3⟩
  go_simp
 simp only [Act.put]
 refine wpAnyH_take (i:=3) (v:=.pointer (some ⟨b,0,none⟩)) rfl (by kernel_rfl) (by kernel_rfl) (by kernel_rfl) (fun _ _ _ h=>h) (Or.inl ⟨by rfl, ?_⟩) SW ?_
 ·rintro u ⟨q1,q2,q3⟩
  go_simp
 simp only [Act.put]
 refine wpAnyH_take (i:=4) (v:=.pointer (some ⟨b,9,none⟩)) rfl (by kernel_rfl) (by kernel_rfl) (by kernel_rfl) (fun _ _ _ h=>h) (Or.inl ⟨by rfl, ?_⟩) SW ?_
 ·rintro u ⟨q1,q2,q3⟩
  go_simp
 simp only [Act.put]
 refine wpAnyH_take (i:=5) (v:=.int .i64 ((l.length:Int) + 1)) rfl (by kernel_rfl) (by kernel_rfl) (by kernel_rfl) (fun _ _ _ h=>h) (Or.inl ⟨by rfl, ?_⟩) SW ?_
 ·rintro u ⟨q1,q2,q3⟩
  go_simp
 simp only [Act.put]
 refine wpAnyH_take (i:=6) (v:=.int .i64 (l.length:Int)) rfl (by kernel_rfl) (by kernel_rfl) (by kernel_rfl) (fun _ _ _ h=>h) (Or.inl ⟨by rfl, ?_⟩) SW ?_
 ·rintro u ⟨q1,q2,q3⟩
  go_simp
  exact wrap_small (by omega) (by omega)
 simp only [Act.put]
 refine wpAnyH_take (i:=8) (v:=.agg #[.int .i64 x,.slice sa m.length sc]) rfl (by kernel_rfl) (by kernel_rfl) (by kernel_rfl) (fun _ _ _ h=>h) (Or.inl ⟨by rfl, ?_⟩) SW ?_
 ·rintro u ⟨q1,q2,q3⟩
  go_simp
 simp only [Act.put]
 refine wpAnyH_take (i:=9) (v:=.pointer (some ⟨b,0,none⟩)) rfl (by kernel_rfl) (by kernel_rfl) (by kernel_rfl) (fun _ _ _ h=>h) (Or.inl ⟨by rfl, ?_⟩) SW ?_
 ·rintro u ⟨q1,q2,q3⟩
  go_simp
 simp only [Act.put]
 refine wpAnyH_take (i:=10) (v:=.pointer (some ⟨b,0,none⟩)) rfl (by kernel_rfl) (by kernel_rfl) (by kernel_rfl) (fun _ _ _ h=>h) (Or.inl ⟨by rfl, ?_⟩) SW ?_
 ·rintro u ⟨q1,q2,q3⟩
  go_simp
 simp only [Act.put]
 refine wpAnyH_ready (rs:=[7]) (by kernel_rfl) (by simp) ?_
 refine AllReadyH.cons rfl (fun K hK=>?_) AllReadyH.nil
 rw [if_pos (by rfl)]
 go_simp
 refine (HS _ (Below.refl _ _).drew).mono ?_
 rintro e w1 ⟨rfl,rfl⟩
 refine hK.out _ _ SW (fun _=>?_)
 clear hK K
 refine wpAnyH_ready (rs:=[11]) (by kernel_rfl) (by simp) ?_
 refine AllReadyH.cons rfl (fun K hK=>?_) AllReadyH.nil
 rw [if_pos (by rfl)]
 go_simp
 refine hK.out _ _ SW (fun _=>?_)
 clear hK K
 refine wpAnyH_ready (rs:=[12]) (by kernel_rfl) (by simp) ?_
 refine AllReadyH.cons rfl (fun K hK=>?_) AllReadyH.nil
 rw [if_pos (by rfl)]
 go_simp
 refine hK.out _ _ ⟨k9,k0,k1⟩ (fun _=>?_)
 clear hK K
 refine wpAnyH_done (by kernel_rfl) ?_ _
 go_wp2_with fail
 exact bodyPost_end (results_none rfl _ _ _) rfl ⟨rfl,HP.out.below (Below.refl _ _).drew,((hb0.setCell _ _).setCell _ _).trans (But.of_below (Below.refl _ _).drew)⟩
set_option maxHeartbeats 800000 in
theorem push_full (W0 w:World) (b s:Nat) (l:List ItemL) (x:Int) (v:Value) (m:List (ByteArray×Int)) (h:WinB W0 w b s l) (hv:IsSl W0 v m) (h4:l.length=4) :
  Calls Tryz.prog 131 #[.pointer (some ⟨b,0,none⟩),.agg #[.int .i64 x,v]] w fun e w'=>e=.returned (.tuple #[])∧WinB W0 w' b ((s + 1) % 4) (l.tail ++ [(x,m)])∧But b w w':=by
 obtain ⟨c8,c9⟩:=h.cells
 have f8:=h.free 8
 have hwl:=h.lt
 have hs:=h.2.1
 obtain ⟨sa,sc,rfl,hcap,hrow⟩:=hv
 have hne:b≠w.heap.size:=by omega
 obtain ⟨hB,_,_,f,⟨hr,hsh⟩,e8,e9,hf⟩:=h
 have hb0:But b w ((w.setCell ⟨b,8,none⟩ (.int .i64 (((s + 1) % 4:Nat):Int))).alloc (.cells #[.int .i64 x,.slice sa m.length sc] 44)):=((But.refl b w).setCell _ _).trans (But.of_below ((Below.refl _ _).alloc (Nat.le_refl _) _))
 have R1:=(hr.set 8 (.int .i64 (((s + 1) % 4:Nat):Int))).alloc (.cells #[.int .i64 x,.slice sa m.length sc] 44)
 have d0:((w.setCell ⟨b,8,none⟩ (.int .i64 (((s + 1) % 4:Nat):Int))).alloc (.cells #[.int .i64 x,.slice sa m.length sc] 44)).cell? ⟨w.heap.size,0,none⟩=some (.int .i64 x):=by have h:=box0 (w.setCell ⟨b,8,none⟩ (.int .i64 (((s + 1) % 4:Nat):Int))) (.int .i64 x) (.slice sa m.length sc) 44;simpa [World.setCell] using h
 have d1:((w.setCell ⟨b,8,none⟩ (.int .i64 (((s + 1) % 4:Nat):Int))).alloc (.cells #[.int .i64 x,.slice sa m.length sc] 44)).cell? ⟨w.heap.size,1,none⟩=some (.slice sa m.length sc):=by have h:=box1 (w.setCell ⟨b,8,none⟩ (.int .i64 (((s + 1) % 4:Nat):Int))) (.int .i64 x) (.slice sa m.length sc) 44;simpa [World.setCell] using h
 have hl4:(l.length:Int)=4:=by omega
 have HM:Hid ((((s + 1) % 4:Nat):Int)=((s:Int) + 1) % 4):=by unfold Hid;omega
 rw [hl4] at c9
 go_enter Tryz.func131,Tryz.ntmps131
 go_wp2_with fail
 rw [<- HM.out]
 generalize hW:(w.setCell ⟨b,8,none⟩ (.int .i64 (((s + 1) % 4:Nat):Int))).alloc (.cells #[.int .i64 x,.slice sa m.length sc] 44)=W at *
 clear hW
 have g8:W.cell? ⟨b,8,none⟩=some (.int .i64 (((s + 1) % 4:Nat):Int)):=by rw [R1.cell (by omega),if_pos rfl]
 have g9:W.cell? ⟨b,9,none⟩=some (.int .i64 4):=by rw [R1.cell (by omega),if_neg (by omega),e9,h4];rfl
 have ht:l.tail.length=3:=by rw [List.length_tail];omega
 have HP:Hid (WinB W0 ((W.setCell ⟨b,((s + 1) % 4 + 3) % 4 * 2,none⟩ (.int .i64 x)).setCell ⟨b,((s + 1) % 4 + 3) % 4 * 2 + 1,none⟩ (.slice sa m.length sc)) b ((s + 1) % 4) (l.tail ++ [(x,m)])):=by
  have h:=WinB.put (W0:=W0) (l:=l.tail) (x:=x) hB (Nat.mod_lt (s + 1) (by omega:4 > 0)) (by omega) R1 (hsh.far (by omega) _) (by rw [if_pos rfl]) (by rw [if_neg (by omega),e9,ht,h4];rfl) (fun k hk=>by
   obtain ⟨h1,v,h2,h3⟩:=hf (k + 1) (by omega)
   have hm:((s + 1) % 4 + k) % 4=(s + (k + 1)) % 4:=by omega
   rw [hm,List.getElem_tail]
   exact ⟨by rw [if_neg (by omega),h1],v,by rw [if_neg (by omega),h2],h3⟩) hcap hrow
  rw [ht] at h
  exact h
 have HS:∀ u,Below W.heap.size W u->Calls Tryz.prog 171 #[.pointer (some ⟨b,0,none⟩),.int .i64 3] u fun e w'=>e=.returned (.int .i64 ((((s + 1) % 4 + 3) % 4:Nat):Int))∧w'=u:=fun u hu=>slot_any u b ((s + 1) % 4) 3 (cell_on hu (block_lt_of_cell g8) g8) (Nat.mod_lt _ (by omega)) (by omega)
 have hq4:((s + 1) % 4 + 3) % 4 < 4:=Nat.mod_lt _ (by omega)
 generalize hq:((s + 1) % 4 + 3) % 4=q at *
 clear hq c8 c9
 have R2:=(R1.set (q * 2) (.int .i64 x)).set (q * 2 + 1) (.slice sa m.length sc)
 have k9:((W.setCell ⟨b,q * 2,none⟩ (.int .i64 x)).setCell ⟨b,q * 2 + 1,none⟩ (.slice sa m.length sc)).cell? ⟨b,9,none⟩=some (.int .i64 4):=by rw [R2.cell (by omega),if_neg (by omega),if_neg (by omega),if_neg (by omega),e9,h4];rfl
 have k0:((W.setCell ⟨b,q * 2,none⟩ (.int .i64 x)).setCell ⟨b,q * 2 + 1,none⟩ (.slice sa m.length sc)).cell? ⟨w.heap.size,0,none⟩=some (.int .i64 x):=by rw [set_far _ _ _ _ (Ne.symm hne),set_far _ _ _ _ (Ne.symm hne)];exact d0
 have k1:((W.setCell ⟨b,q * 2,none⟩ (.int .i64 x)).setCell ⟨b,q * 2 + 1,none⟩ (.slice sa m.length sc)).cell? ⟨w.heap.size,1,none⟩=some (.slice sa m.length sc):=by rw [set_far _ _ _ _ (Ne.symm hne),set_far _ _ _ _ (Ne.symm hne)];exact d1
 obtain ⟨u0,x0⟩:∃ u,W.cell? ⟨b,q * 2,none⟩=some u:=⟨_,R1.cell (by omega)⟩
 obtain ⟨u1,x1⟩:∃ u,W.cell? ⟨b,q * 2 + 1,none⟩=some u:=⟨_,R1.cell (by omega)⟩
 have y0:=R1.frozen (q * 2)
 have y1:=R1.frozen (q * 2 + 1)
 have hm1:(0:Int)<=(q:Int):=by omega
 have hm2:(q:Int) < 4:=by omega
 clear R1 R2 hr e8 e9 hf
 have SW:(W.drew).cell? ⟨b,9,none⟩=some (.int .i64 4)∧(W.drew).cell? ⟨w.heap.size,0,none⟩=some (.int .i64 x)∧(W.drew).cell? ⟨w.heap.size,1,none⟩=some (.slice sa m.length sc):=⟨g9,d0,d1⟩
 refine wp_region_held_drew (S:=fun u=>u.cell? ⟨b,9,none⟩=some (.int .i64 4)∧u.cell? ⟨w.heap.size,0,none⟩=some (.int .i64 x)∧u.cell? ⟨w.heap.size,1,none⟩=some (.slice sa m.length sc)) (by kernel_rfl) SW (fun _=>?_)
 refine wpAnyH_take (i:=0) (v:=.pointer (some ⟨b,0,none⟩)) rfl (by kernel_rfl) (by kernel_rfl) (by kernel_rfl) (fun _ _ _ h=>h) (Or.inl ⟨by rfl, ?_⟩) SW ?_
 ·rintro u ⟨q1,q2,q3⟩
  go_simp
 simp only [Act.put,List.setIfInBounds_toArray]
 refine wpAnyH_take (i:=1) (v:=.pointer (some ⟨b,0,none⟩)) rfl (by kernel_rfl) (by kernel_rfl) (by kernel_rfl) (fun _ _ _ h=>h) (Or.inl ⟨by rfl, ?_⟩) SW ?_
 ·rintro u ⟨q1,q2,q3⟩
  go_simp
 simp only [Act.put]
 refine wpAnyH_take (i:=2) (v:=.pointer (some ⟨b,0,none⟩)) rfl (by kernel_rfl) (by kernel_rfl) (by kernel_rfl) (fun _ _ _ h=>h) (Or.inl ⟨by rfl, ?_⟩) SW ?_
 ·rintro u ⟨q1,q2,q3⟩
  go_simp
 simp only [Act.put]
 refine wpAnyH_take (i:=3) (v:=.pointer (some ⟨b,0,none⟩)) rfl (by kernel_rfl) (by kernel_rfl) (by kernel_rfl) (fun _ _ _ h=>h) (Or.inl ⟨by rfl, ?_⟩) SW ?_
 ·rintro u ⟨q1,q2,q3⟩
  go_simp
 simp only [Act.put]
 refine wpAnyH_take (i:=4) (v:=.pointer (some ⟨b,9,none⟩)) rfl (by kernel_rfl) (by kernel_rfl) (by kernel_rfl) (fun _ _ _ h=>h) (Or.inl ⟨by rfl, ?_⟩) SW ?_
 ·rintro u ⟨q1,q2,q3⟩
  go_simp
 simp only [Act.put]
 refine wpAnyH_take (i:=5) (v:=.int .i64 4) rfl (by kernel_rfl) (by kernel_rfl) (by kernel_rfl) (fun _ _ _ h=>h) (Or.inl ⟨by rfl, ?_⟩) SW ?_
 ·rintro u ⟨q1,q2,q3⟩
  go_simp
 simp only [Act.put]
 refine wpAnyH_take (i:=6) (v:=.int .i64 3) rfl (by kernel_rfl) (by kernel_rfl) (by kernel_rfl) (fun _ _ _ h=>h) (Or.inl ⟨by rfl, ?_⟩) SW ?_
 ·rintro u ⟨q1,q2,q3⟩
  go_simp
  exact wrap_small (by omega) (by omega)
 simp only [Act.put]
 refine wpAnyH_take (i:=8) (v:=.agg #[.int .i64 x,.slice sa m.length sc]) rfl (by kernel_rfl) (by kernel_rfl) (by kernel_rfl) (fun _ _ _ h=>h) (Or.inl ⟨by rfl, ?_⟩) SW ?_
 ·rintro u ⟨q1,q2,q3⟩
  go_simp
 simp only [Act.put]
 refine wpAnyH_take (i:=9) (v:=.pointer (some ⟨b,0,none⟩)) rfl (by kernel_rfl) (by kernel_rfl) (by kernel_rfl) (fun _ _ _ h=>h) (Or.inl ⟨by rfl, ?_⟩) SW ?_
 ·rintro u ⟨q1,q2,q3⟩
  go_simp
 simp only [Act.put]
 refine wpAnyH_take (i:=10) (v:=.pointer (some ⟨b,0,none⟩)) rfl (by kernel_rfl) (by kernel_rfl) (by kernel_rfl) (fun _ _ _ h=>h) (Or.inl ⟨by rfl, ?_⟩) SW ?_
 ·rintro u ⟨q1,q2,q3⟩
  go_simp
 simp only [Act.put]
 refine wpAnyH_ready (rs:=[7]) (by kernel_rfl) (by simp) ?_
 refine AllReadyH.cons rfl (fun K hK=>?_) AllReadyH.nil
 rw [if_pos (by rfl)]
 go_simp
 refine (HS _ (Below.refl _ _).drew).mono ?_
 rintro e w1 ⟨rfl,rfl⟩
 refine hK.out _ _ SW (fun _=>?_)
 clear hK K
 refine wpAnyH_ready (rs:=[11]) (by kernel_rfl) (by simp) ?_
 refine AllReadyH.cons rfl (fun K hK=>?_) AllReadyH.nil
 rw [if_pos (by rfl)]
 go_simp
 refine hK.out _ _ SW (fun _=>?_)
 clear hK K
 refine wpAnyH_ready (rs:=[12]) (by kernel_rfl) (by simp) ?_
 refine AllReadyH.cons rfl (fun K hK=>?_) AllReadyH.nil
 rw [if_pos (by rfl)]
 go_simp
 refine hK.out _ _ ⟨k9,k0,k1⟩ (fun _=>?_)
 clear hK K
 refine wpAnyH_done (by kernel_rfl) ?_ _
 go_wp2_with fail
 exact bodyPost_end (results_none rfl _ _ _) rfl ⟨rfl,HP.out.below (Below.refl _ _).drew,((hb0.setCell _ _).setCell _ _).trans (But.of_below (Below.refl _ _).drew)⟩
end Go.Proofs.YtpfhegengmlkmacGreatDoor
namespace Go.Proofs.YtpfhegengmlkmacGreatDoor
theorem bl_irrefl:∀ x:List UInt8,Op.bytesLess x x=false
 | []=>rfl
 | a :: x=>by simp [Op.bytesLess,bl_irrefl x]
theorem bl_trans:∀ {x y z:List UInt8},Op.bytesLess x y=true->Op.bytesLess y z=true->Op.bytesLess x z=true
 | [],[],_,h,_=>by simp [Op.bytesLess] at h
 | [],_ :: _,[],_,h=>by simp [Op.bytesLess] at h
 | [],_ :: _,_ :: _,_,_=>by simp [Op.bytesLess]
 | _ :: _,[],_,h,_=>by simp [Op.bytesLess] at h
 | _ :: _,_ :: _,[],_,h=>by simp [Op.bytesLess] at h
 | a :: x,b :: y,c :: z,h1,h2=>by
  simp only [Op.bytesLess,Bool.or_eq_true,Bool.and_eq_true,decide_eq_true_eq,beq_iff_eq] at h1 h2 ⊢
  rcases h1 with h1 | ⟨rfl,h1⟩
  ·rcases h2 with h2 | ⟨rfl,h2⟩
   ·exact .inl (UInt8.lt_trans h1 h2)
   ·exact .inl h1
  ·rcases h2 with h2 | ⟨rfl,h2⟩
   ·exact .inl h2
   ·exact .inr ⟨rfl,bl_trans h1 h2⟩
theorem bl_tri:∀ {x y:List UInt8},Op.bytesLess x y=false->Op.bytesLess y x=false->x=y
 | [],[],_,_=>rfl
 | [],_ :: _,h,_=>by simp [Op.bytesLess] at h
 | _ :: _,[],_,h=>by simp [Op.bytesLess] at h
 | a :: x,b :: y,h1,h2=>by
  simp only [Op.bytesLess,Bool.or_eq_false_iff,Bool.and_eq_false_iff,decide_eq_false_iff_not,beq_eq_false_iff_ne] at h1 h2
  have hab:a=b:=UInt8.le_antisymm (UInt8.not_lt.1 h2.1) (UInt8.not_lt.1 h1.1)
  subst hab
  have e1:Op.bytesLess x y=false:=h1.2.resolve_left (fun h=>h rfl)
  have e2:Op.bytesLess y x=false:=h2.2.resolve_left (fun h=>h rfl)
  rw [bl_tri e1 e2]
theorem asc_irrefl (s:ByteArray):¬ Asc s s:=by unfold Asc;rw [bl_irrefl];simp
theorem asc_trans {s t u:ByteArray} (h:Asc s t) (k:Asc t u):Asc s u:=bl_trans h k
theorem asc_tri {s t:ByteArray} (h:¬ Asc s t) (k:¬ Asc t s):s=t:=
 toList_inj (bl_tri (by simpa [Asc] using h) (by simpa [Asc] using k))
theorem asc_ne {s t:ByteArray} (h:Asc s t):s≠t:=fun e=>asc_irrefl t (e ▸ h)
theorem asc_not {s t:ByteArray} (h:Asc s t):¬ Asc t s:=fun k=>asc_irrefl s (asc_trans h k)
def Sorted (l:List (ByteArray×Int)):Prop:=l.Pairwise (fun x y=>Asc x.1 y.1)∧∀ m∈l,1<=m.2
theorem sorted_nil:Sorted []:=⟨List.Pairwise.nil,by simp⟩
theorem sorted_tail {m:ByteArray×Int} {l:List (ByteArray×Int)} (h:Sorted (m :: l)):Sorted l:=⟨(List.pairwise_cons.1 h.1).2,fun x hx=>h.2 x (List.mem_cons_of_mem _ hx)⟩
theorem sorted_head {m:ByteArray×Int} {l:List (ByteArray×Int)} (h:Sorted (m :: l)):1<=m.2:=h.2 m (by simp)
theorem sorted_above {m:ByteArray×Int} {l:List (ByteArray×Int)} (h:Sorted (m :: l)) {x:ByteArray×Int} (hx:x∈l):Asc m.1 x.1:=(List.pairwise_cons.1 h.1).1 x hx
theorem pairwise_of_adj:∀ {l:List (ByteArray×Int)},(∀ j,(h:j + 1 < l.length)->Asc l[j].1 l[j + 1].1)->l.Pairwise (fun x y=>Asc x.1 y.1)
 | [],_=>List.Pairwise.nil
 | [m],_=>List.pairwise_singleton _ _
 | m :: n :: r,h=>by
  have ih:(n :: r).Pairwise (fun x y=>Asc x.1 y.1):=pairwise_of_adj fun j hj=>h (j + 1) (by simpa using hj)
  refine List.pairwise_cons.2 ⟨fun x hx=>?_,ih⟩
  have h0:Asc m.1 n.1:=h 0 (by simp)
  rcases List.mem_cons.1 hx with rfl | hx
  ·exact h0
  ·exact asc_trans h0 ((List.pairwise_cons.1 ih).1 x hx)
theorem stamp_sorted {l:List (ByteArray×Int)} (h:StampP l):Sorted l:=
 ⟨pairwise_of_adj h.2.2,fun m hm=>by
  obtain ⟨j,hj,rfl⟩:=List.mem_iff_getElem.1 hm
  exact (h.2.1 j hj).2.1⟩
theorem getM_not_mem {s:ByteArray}:∀ {l:List (ByteArray×Int)},(∀ m∈l,m.1≠s)->getM l s=0
 | [],_=>rfl
 | m :: r,h=>by rw [getM,if_neg (h m (by simp))];exact getM_not_mem fun x hx=>h x (List.mem_cons_of_mem _ hx)
theorem getM_mem {m:ByteArray×Int}:∀ {l:List (ByteArray×Int)},Sorted l->m∈l->getM l m.1=m.2
 | x :: r,h,hm=>by
  rcases List.mem_cons.1 hm with rfl | hm
  ·rw [getM,if_pos rfl]
  ·rw [getM,if_neg (asc_ne (sorted_above h hm))]
   exact getM_mem (sorted_tail h) hm
theorem getM_pos {s:ByteArray}:∀ {l:List (ByteArray×Int)},0 < getM l s->(s,getM l s)∈l
 | [],h=>by simp [getM] at h
 | m :: r,h=>by
  by_cases e:m.1=s
  ·rw [getM,if_pos e]
   have:(s,m.2)=m:=by rw [<- e]
   rw [this];simp
  ·rw [getM,if_neg e] at h ⊢
   exact List.mem_cons_of_mem _ (getM_pos h)
theorem getM_nonneg {s:ByteArray}:∀ {l:List (ByteArray×Int)},Sorted l->0<=getM l s
 | [],_=>by simp [getM]
 | m :: r,h=>by
  rw [getM]
  split
  ·have:=sorted_head h;omega
  ·exact getM_nonneg (sorted_tail h)
theorem sorted_ext:∀ {k l:List (ByteArray×Int)},Sorted k->Sorted l->(∀ s,getM k s=getM l s)->k=l
 | [],[],_,_,_=>rfl
 | [],m :: l,_,hl,h=>by
  have:=h m.1
  rw [getM_mem hl (by simp)] at this
  have:=sorted_head hl
  simp [getM] at *
  omega
 | m :: k,[],hk,_,h=>by
  have:=h m.1
  rw [getM_mem hk (by simp)] at this
  have:=sorted_head hk
  simp [getM] at *
  omega
 | m :: k,n :: l,hk,hl,h=>by
  have e:m.1=n.1:=by
   refine asc_tri (fun hlt=>?_) (fun hlt=>?_)
   ·have h1:=h m.1
    rw [getM_mem hk (by simp),getM,if_neg (Ne.symm (asc_ne hlt)),getM_not_mem (fun x hx=>Ne.symm (asc_ne (asc_trans hlt (sorted_above hl hx))))] at h1
    have:=sorted_head hk
    omega
   ·have h1:=h n.1
    rw [getM_mem hl (by simp),getM,if_neg (Ne.symm (asc_ne hlt)),getM_not_mem (fun x hx=>Ne.symm (asc_ne (asc_trans hlt (sorted_above hk hx))))] at h1
    have:=sorted_head hl
    omega
  have e2:m.2=n.2:=by
   have h1:=h m.1
   rw [getM_mem hk (by simp),getM,if_pos e.symm] at h1
   exact h1
  have em:m=n:=Prod.ext e e2
  subst em
  rw [sorted_ext (sorted_tail hk) (sorted_tail hl) fun s=>?_]
  by_cases hs:m.1=s
  ·subst hs
   rw [getM_not_mem (fun x hx=>Ne.symm (asc_ne (sorted_above hk hx))),getM_not_mem (fun x hx=>Ne.symm (asc_ne (sorted_above hl hx)))]
  ·have h1:=h s
   rwa [getM,if_neg hs,getM,if_neg hs] at h1
def headP:List (ByteArray×Int)->List (ByteArray×Int)->Option ((ByteArray×Int)×(ByteArray×Int))
 | [],[]=>none
 | m :: _,[]=>some (m,(m.1,0))
 | [],m :: _=>some ((m.1,0),m)
 | x :: _,y :: _=>if Op.bytesLess x.1.toList y.1.toList then some (x,(x.1,0)) else if Op.bytesLess y.1.toList x.1.toList then some ((y.1,0),y) else some (x,y)
def pairsF:Nat->List (ByteArray×Int)->List (ByteArray×Int)->List ((ByteArray×Int)×(ByteArray×Int))
 | 0,_,_=>[]
 | n + 1,a,b=>match headP a b with
  | none=>[]
  | some p=>p :: pairsF n (if 0 < p.1.2 then a.tail else a) (if 0 < p.2.2 then b.tail else b)
end Go.Proofs.YtpfhegengmlkmacGreatDoor
