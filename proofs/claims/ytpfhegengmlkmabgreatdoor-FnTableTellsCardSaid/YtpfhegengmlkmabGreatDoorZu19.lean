/- Texts of this claim. -/
import Derived.Test.YtpfhegengmlkmabGreatDoorZu11
namespace Go.Proofs.YtpfhegengmlkmabGreatDoor
open Go.RowKit Go.BigFrame
def LZ (f:Nat->Value):Prop:=∀i,i<4->∃x a n c,f (i*2)=.int .i64 x/\f (i*2+1)=.slice a n c
theorem LZ.far {f:Nat->Value}(h:LZ f){i:Nat}(hi:8<=i)(v:Value):LZ (fun j=>if j=i then v else f j):=fun k hk=>by
 obtain⟨x,a,n,c,h1,h2⟩:=h k hk
 exact⟨x,a,n,c,(if_neg (by omega)).trans h1,(if_neg (by omega)).trans h2⟩
theorem LZ.put {f:Nat->Value}(h:LZ f){q:Nat}(x:Int)(a:Option Addr)(n c:Nat):LZ (fun j=>if j=q*2+1 then .slice a n c else if j=q*2 then .int .i64 x else f j):=fun k hk=>by
 by_cases e:k=q
 ·subst e
  exact⟨x,a,n,c,(if_neg (by omega)).trans (if_pos rfl),if_pos rfl⟩
 ·obtain⟨x,a,n,c,h1,h2⟩:=h k hk
  exact⟨x,a,n,c,(if_neg (by omega)).trans ((if_neg (by omega)).trans h1),(if_neg (by omega)).trans ((if_neg (by omega)).trans h2)⟩
def gY (W0 w:World)(b s:Nat)(l:List af):Prop:=
 W0.heap.size<=b/\s<4/\l.length<=4/\∃f,(w.rowIs b 181 10 f/\LZ f)/\f 8=.int .i64 s/\f 9=.int .i64 l.length /\
  ∀k,(h:k<l.length)->f ((s+k) % 4*2)=.int .i64 l[k].1/\∃v,f ((s+k) % 4*2+1)=v/\lN W0 v l[k].2
theorem aV (w:World){b q:Nat}(i:Nat)(v:Value)(o:Nat)(h:b≠q):(w.setCell ⟨q,i,none⟩ v).cell? ⟨b,o,none⟩=w.cell? ⟨b,o,none⟩:=World.cell?_of_block (Below.heap_setCell _ _ _ _ h)
theorem gY.lt {W0 w:World}{b s:Nat}{l:List af}(h:gY W0 w b s l):b<w.heap.size:=by
 obtain⟨_,_,_,f,⟨h,_⟩,_⟩:=h
 exact h.lt
theorem gY.below {W0 w w':World}{b s:Nat}{l:List af}(h:gY W0 w b s l)(hb:Below w.heap.size w w'):gY W0 w' b s l:=by
 have hlt:=h.lt
 obtain⟨h0,h1,h2,f,⟨h,sh⟩,r⟩:=h
 exact⟨h0,h1,h2,f,⟨h.of_block (hb.block b hlt),sh⟩,r⟩
theorem gY.cells {W0 w:World}{b s:Nat}{l:List af}(h:gY W0 w b s l):w.cell? ⟨b,8,none⟩=some (.int .i64 s)/\w.cell? ⟨b,9,none⟩=some (.int .i64 l.length):=by
 obtain⟨h0,h1,h2,f,⟨h,_⟩,e8,e9,_⟩:=h
 exact⟨by rw[h.cell (by omega),e8],by rw[h.cell (by omega),e9]⟩
theorem gY.item {W0 w:World}{b s:Nat}{l:List af}(h:gY W0 w b s l){k:Nat}(hk:k<l.length):∃v,w.cell? ⟨b,(s+k) % 4*2,none⟩=some (.int .i64 l[k].1)/\w.cell? ⟨b,(s+k) % 4*2+1,none⟩=some v/\lN W0 v l[k].2:=by
 obtain⟨h0,h1,h2,f,⟨h,_⟩,e8,e9,hf⟩:=h
 obtain⟨a1,v,a2,a3⟩:=hf k hk
 exact⟨v,by rw[h.cell (by omega),a1],by rw[h.cell (by omega),a2],a3⟩
theorem gY.free {W0 w:World}{b s:Nat}{l:List af}(h:gY W0 w b s l)(i:Nat):w.frozen? ⟨b,i,none⟩=false:=by
 obtain⟨h0,h1,h2,f,⟨h,_⟩,_⟩:=h
 exact h.frozen i
set_option maxHeartbeats 400000 in
theorem wu (w:World)(b s k:Nat)(c8:w.cell? ⟨b,8,none⟩=some (.int .i64 s))(hs:s<4)(hk:k<4) :
  Calls Tryz.prog 159 #[.pointer (some ⟨b,0,none⟩),.int .i64 k] w fun e w'=>e=.returned (.int .i64 (((s+k) % 4:Nat):Int))/\w'=w:=by
 have hm:(((s+k) % 4:Nat):Int)=((s:Int)+(k:Int)) % 4:=by omega
 have HM:Hid ((((s+k) % 4:Nat):Int)=((s:Int)+(k:Int)) % 4):=hm
 clear hm
 go_enter Tryz.func159,Tryz.ntmps159
 go_wp2_with fail
 go_ret
 exact⟨by rw[HM.out];rfl,rfl⟩
set_option maxHeartbeats 400000 in
theorem size_any (W0 w:World)(b s:Nat)(l:List af)(h:gY W0 w b s l) :
  Calls Tryz.prog 150 #[.pointer (some ⟨b,0,none⟩)] w fun e w'=>e=.returned (.int .i64 (l.length:Int))/\w'=w:=by
 obtain⟨c8,c9⟩:=h.cells
 go_enter Tryz.func150,Tryz.ntmps150
 go_wp2_with fail
 go_ret
 exact⟨rfl,rfl⟩
set_option maxHeartbeats 400000 in
theorem KA (W0 w:World)(b s:Nat)(l:List af)(k:Nat)(h:gY W0 w b s l)(hk:k<l.length) :
  Calls Tryz.prog 138 #[.pointer (some ⟨b,0,none⟩),.int .i64 k] w fun e w'=>(∃v,e=.returned (.agg #[.int .i64 l[k].1,v])/\lN W0 v l[k].2)/\Below w.heap.size w w':=by
 have h4:=h.2.2.1
 obtain⟨v,c0,c1,hv⟩:=h.item hk
 obtain⟨sa,sc,rfl,hcap,hrow⟩:=hv
 have hwl:=h.lt
 have HW:=h.below ((Below.refl w.heap.size w).alloc (Nat.le_refl _) (.cells #[.int .i64 0,.slice none 0 0] 34))
 have e0:=ae ((Below.refl w.heap.size w).alloc (Nat.le_refl _) (.cells #[.int .i64 0,.slice none 0 0] 34)) hwl c0
 have e1:=ae ((Below.refl w.heap.size w).alloc (Nat.le_refl _) (.cells #[.int .i64 0,.slice none 0 0] 34)) hwl c1
 have d0:(w.alloc (.cells #[.int .i64 0,.slice none 0 0] 34)).cell? ⟨w.heap.size,0,none⟩=some (.int .i64 0):=box0 _ _ _ _
 have d1:(w.alloc (.cells #[.int .i64 0,.slice none 0 0] 34)).cell? ⟨w.heap.size,1,none⟩=some (.slice none 0 0):=box1 _ _ _ _
 have f0:(w.alloc (.cells #[.int .i64 0,.slice none 0 0] 34)).frozen? ⟨w.heap.size,0,none⟩=false:=by simp[go_sem]
 have f1:(w.alloc (.cells #[.int .i64 0,.slice none 0 0] 34)).frozen? ⟨w.heap.size,1,none⟩=false:=by simp[go_sem]
 have hb0:Below w.heap.size w (w.alloc (.cells #[.int .i64 0,.slice none 0 0] 34)):=(Below.refl w.heap.size w).alloc (Nat.le_refl _) _
 have hm1:(0:Int)<=(((s+k) % 4:Nat):Int):=by omega
 have hm2:(((s+k) % 4:Nat):Int)<4:=by omega
 go_enter Tryz.func138,Tryz.ntmps138
 go_wp2_with fail
 generalize hW:w.alloc (.cells #[.int .i64 0,.slice none 0 0] 34)=W at *
 clear hW
 have HS:∀u,Below W.heap.size W u->Calls Tryz.prog 159 #[.pointer (some ⟨b,0,none⟩),.int .i64 k] u fun e w'=>e=.returned (.int .i64 (((s+k) % 4:Nat):Int))/\w'=u:=fun u hu=>wu u b s k (HW.below hu).cells.1 (HW.2.1) (by omega)
 clear c0 c1
 generalize hq:(s+k) % 4=q at *
 clear hq
 have hne:b≠w.heap.size:=by omega
 go_region_held3 (fun w'=>w'.cell? ⟨b,q*2,none⟩=some (.int .i64 l[k].1)/\w'.cell? ⟨b,q*2+1,none⟩=some (.slice sa l[k].2.length sc)) (first|exact⟨e0,e1⟩|(simp only[World.cell?_drew,aV _ _ _ _ hne,e0,e1,and_self];done))
  (first|(go_at_call 159;refine(HS _ (by first|exact Below.refl _ _|exact(Below.refl _ _).drew|exact below_drewN (Below.refl _ _) _)).mono ?_;rintro e w1 ⟨rfl,rfl⟩))
 go_wp2_with fail
 exact bodyPost_ret (v:=.agg #[.int .i64 l[k].1,.slice sa l[k].2.length sc]) (by simp[results,Tryz.results138,go_sem,d0,d1]) rfl ⟨⟨_,rfl,sa,sc,rfl,hcap,hrow⟩,((hb0.setCell (Nat.le_refl _) _).setCell (Nat.le_refl _) _).drew⟩
set_option maxHeartbeats 400000 in
theorem last_any (W0 w:World)(b s:Nat)(l:List af)(h:gY W0 w b s l)(h0:0<l.length) :
  Calls Tryz.prog 151 #[.pointer (some ⟨b,0,none⟩)] w fun e w'=>(∃v,e=.returned (.agg #[.int .i64 (l[l.length-1]'(by omega)).1,v])/\lN W0 v (l[l.length-1]'(by omega)).2)/\Below w.heap.size w w':=by
 have h4:=h.2.2.1
 obtain⟨c8,c9⟩:=h.cells
 have hwl:=h.lt
 have d0:(w.alloc (.cells #[.int .i64 0,.slice none 0 0] 34)).cell? ⟨w.heap.size,0,none⟩=some (.int .i64 0):=box0 _ _ _ _
 have d1:(w.alloc (.cells #[.int .i64 0,.slice none 0 0] 34)).cell? ⟨w.heap.size,1,none⟩=some (.slice none 0 0):=box1 _ _ _ _
 have f0:(w.alloc (.cells #[.int .i64 0,.slice none 0 0] 34)).frozen? ⟨w.heap.size,0,none⟩=false:=by simp[go_sem]
 have f1:(w.alloc (.cells #[.int .i64 0,.slice none 0 0] 34)).frozen? ⟨w.heap.size,1,none⟩=false:=by simp[go_sem]
 have hb0:Below w.heap.size w (w.alloc (.cells #[.int .i64 0,.slice none 0 0] 34)):=(Below.refl w.heap.size w).alloc (Nat.le_refl _) _
 have hWl:w.heap.size<(w.alloc (.cells #[.int .i64 0,.slice none 0 0] 34)).heap.size:=bP _ _
 have hkm:((l.length:Int)-1)=((l.length-1:Nat):Int):=by omega
 go_enter Tryz.func151,Tryz.ntmps151
 go_wp2_with fail
 generalize hW:w.alloc (.cells #[.int .i64 0,.slice none 0 0] 34)=W at *
 clear hW
 refine(KA W0 W b s l (l.length-1) (h.below hb0) (by omega)).mono ?_
 rintro e w1 ⟨⟨v,rfl,hv⟩,b1⟩
 obtain⟨sa,sc,rfl,hcap,hrow⟩:=hv
 replace d0:=ae b1 hWl d0
 replace d1:=ae b1 hWl d1
 replace f0:=(b1.frozen (p:=⟨w.heap.size,0,none⟩) hWl).trans f0
 replace f1:=(b1.frozen (p:=⟨w.heap.size,1,none⟩) hWl).trans f1
 have B1:Below w.heap.size w w1:=hb0.trans (b1.mono hb0.size)
 clear b1 hb0 c8 c9
 go_wp2_with fail
 exact bodyPost_ret (v:=.agg #[.int .i64 (l[l.length-1]'(by omega)).1,.slice sa (l[l.length-1]'(by omega)).2.length sc]) (by simp[results,Tryz.results151,go_sem,d0,d1]) rfl ⟨⟨_,rfl,sa,sc,rfl,hcap,hrow⟩,(B1.setCell (Nat.le_refl _) _).setCell (Nat.le_refl _) _⟩
theorem wrap_small {n:Int}(h0:0<=n)(h1:n<=1000000):IntKind.i64.wrap n=n:=by
 rw[IntKind.wrap_i64]
 omega
theorem gY.put {W0 w:World}{b s:Nat}{l:List af}{f:Nat->Value}{x:Int}{sa:Option Addr}{sc:Nat}{m:List (ByteArray×Int)}(hB:W0.heap.size<=b)(hs:s<4)(h4:l.length<4)(hr:w.rowIs b 181 10 f)(hsh:LZ f)(e8:f 8=.int .i64 s)(e9:f 9=.int .i64 ((l.length:Int)+1))
  (hf:∀k,(h:k<l.length)->f ((s+k) % 4*2)=.int .i64 l[k].1/\∃v,f ((s+k) % 4*2+1)=v/\lN W0 v l[k].2) (hcap:m.length<=sc) (hrow:Row W0 sa m) :
  gY W0 ((w.setCell ⟨b,(s+l.length) % 4*2,none⟩ (.int .i64 x)).setCell ⟨b,(s+l.length) % 4*2+1,none⟩ (.slice sa m.length sc)) b s (l++[(x,m)]):=by
 have hlen:(l++[(x,m)]).length=l.length+1:=by simp
 refine⟨hB,hs,by omega,_,⟨(hr.set _ _).set _ _,hsh.put _ _ _ _⟩, ?_, ?_,fun k hk=>?_⟩
 ·rw[if_neg (by omega),if_neg (by omega)];exact e8
 ·rw[if_neg (by omega),if_neg (by omega),e9,hlen]
  congr 1
 ·by_cases e:k=l.length
  ·subst e
   rw[List.getElem_concat_length rfl]
   refine⟨by rw[if_neg (by omega),if_pos rfl],.slice sa m.length sc,by rw[if_pos rfl],sa,sc,rfl,hcap,hrow⟩
  ·have hk':k<l.length:=by omega
   obtain⟨h1,v,h2,h3⟩:=hf k hk'
   rw[List.getElem_append_left hk']
   refine⟨by rw[if_neg (by omega),if_neg (by omega)];exact h1,v,by rw[if_neg (by omega),if_neg (by omega)];exact h2,h3⟩
set_option maxHeartbeats 800000 in
theorem push_room (W0 w:World)(b s:Nat)(l:List af)(x:Int)(v:Value)(m:List (ByteArray×Int))(h:gY W0 w b s l)(hv:lN W0 v m)(h4:l.length<4) :
  Calls Tryz.prog 130 #[.pointer (some ⟨b,0,none⟩),.agg #[.int .i64 x,v]] w fun e w'=>e=.returned (.tuple #[])/\gY W0 w' b s (l++[(x,m)])/\But b w w':=by
 obtain⟨c8,c9⟩:=h.cells
 have f9:=h.free 9
 have hwl:=h.lt
 have hs:=h.2.1
 obtain⟨sa,sc,rfl,hcap,hrow⟩:=hv
 have hne:b≠w.heap.size:=by omega
 obtain⟨hB,_,_,f,⟨hr,hsh⟩,e8,e9,hf⟩:=h
 have hb0:But b w ((w.setCell ⟨b,9,none⟩ (.int .i64 ((l.length:Int)+1))).alloc (.cells #[.int .i64 x,.slice sa m.length sc] 34)):=((But.refl b w).setCell _ _).trans (But.of_below ((Below.refl _ _).alloc (Nat.le_refl _) _))
 have R1:=(hr.set 9 (.int .i64 ((l.length:Int)+1))).alloc (.cells #[.int .i64 x,.slice sa m.length sc] 34)
 have d0:((w.setCell ⟨b,9,none⟩ (.int .i64 ((l.length:Int)+1))).alloc (.cells #[.int .i64 x,.slice sa m.length sc] 34)).cell? ⟨w.heap.size,0,none⟩=some (.int .i64 x):=by have h:=box0 (w.setCell ⟨b,9,none⟩ (.int .i64 ((l.length:Int)+1))) (.int .i64 x) (.slice sa m.length sc) 34;simpa[World.setCell]using h
 have d1:((w.setCell ⟨b,9,none⟩ (.int .i64 ((l.length:Int)+1))).alloc (.cells #[.int .i64 x,.slice sa m.length sc] 34)).cell? ⟨w.heap.size,1,none⟩=some (.slice sa m.length sc):=by have h:=box1 (w.setCell ⟨b,9,none⟩ (.int .i64 ((l.length:Int)+1))) (.int .i64 x) (.slice sa m.length sc) 34;simpa[World.setCell]using h
 go_enter Tryz.func130,Tryz.ntmps130
 go_wp2_with fail
 generalize hW:(w.setCell ⟨b,9,none⟩ (.int .i64 ((l.length:Int)+1))).alloc (.cells #[.int .i64 x,.slice sa m.length sc] 34)=W at *
 clear hW
 have g8:W.cell? ⟨b,8,none⟩=some (.int .i64 s):=by rw[R1.cell (by omega),if_neg (by omega),e8]
 have g9:W.cell? ⟨b,9,none⟩=some (.int .i64 ((l.length:Int)+1)):=by rw[R1.cell (by omega),if_pos rfl]
 have HP:Hid (gY W0 ((W.setCell ⟨b,(s+l.length) % 4*2,none⟩ (.int .i64 x)).setCell ⟨b,(s+l.length) % 4*2+1,none⟩ (.slice sa m.length sc)) b s (l++[(x,m)])):=gY.put hB hs h4 R1 (hsh.far (by omega) _) (by rw[if_neg (by omega),e8]) (by rw[if_pos rfl]) (fun k hk=>by
  obtain⟨h1,v,h2,h3⟩:=hf k hk
  exact⟨by rw[if_neg (by omega),h1],v,by rw[if_neg (by omega),h2],h3⟩) hcap hrow
 have HS:∀u,Below W.heap.size W u->Calls Tryz.prog 159 #[.pointer (some ⟨b,0,none⟩),.int .i64 l.length] u fun e w'=>e=.returned (.int .i64 (((s+l.length) % 4:Nat):Int))/\w'=u:=fun u hu=>wu u b s l.length (ae hu (block_lt_of_cell g8) g8) hs h4
 have hq4:(s+l.length) % 4<4:=Nat.mod_lt _ (by omega)
 generalize hq:(s+l.length) % 4=q at *
 clear hq c8 c9
 have R2:=(R1.set (q*2) (.int .i64 x)).set (q*2+1) (.slice sa m.length sc)
 have k9:((W.setCell ⟨b,q*2,none⟩ (.int .i64 x)).setCell ⟨b,q*2+1,none⟩ (.slice sa m.length sc)).cell? ⟨b,9,none⟩=some (.int .i64 ((l.length:Int)+1)):=by rw[R2.cell (by omega),if_neg (by omega),if_neg (by omega),if_pos rfl]
 have k0:((W.setCell ⟨b,q*2,none⟩ (.int .i64 x)).setCell ⟨b,q*2+1,none⟩ (.slice sa m.length sc)).cell? ⟨w.heap.size,0,none⟩=some (.int .i64 x):=by rw[aV _ _ _ _ (Ne.symm hne),aV _ _ _ _ (Ne.symm hne)];exact d0
 have k1:((W.setCell ⟨b,q*2,none⟩ (.int .i64 x)).setCell ⟨b,q*2+1,none⟩ (.slice sa m.length sc)).cell? ⟨w.heap.size,1,none⟩=some (.slice sa m.length sc):=by rw[aV _ _ _ _ (Ne.symm hne),aV _ _ _ _ (Ne.symm hne)];exact d1
 obtain⟨u0,x0⟩:∃u,W.cell? ⟨b,q*2,none⟩=some u:=⟨_,R1.cell (by omega)⟩
 obtain⟨u1,x1⟩:∃u,W.cell? ⟨b,q*2+1,none⟩=some u:=⟨_,R1.cell (by omega)⟩
 have y0:=R1.frozen (q*2)
 have y1:=R1.frozen (q*2+1)
 have hm1:(0:Int)<=(q:Int):=by omega
 have hm2:(q:Int)<4:=by omega
 clear R1 R2 hr e8 e9 hf
 have SW:(W.drew).cell? ⟨b,9,none⟩=some (.int .i64 ((l.length:Int)+1))/\(W.drew).cell? ⟨w.heap.size,0,none⟩=some (.int .i64 x)/\(W.drew).cell? ⟨w.heap.size,1,none⟩=some (.slice sa m.length sc):=⟨g9,d0,d1⟩
 refine wp_region_held_drew (S:=fun u=>u.cell? ⟨b,9,none⟩=some (.int .i64 ((l.length:Int)+1))/\u.cell? ⟨w.heap.size,0,none⟩=some (.int .i64 x)/\u.cell? ⟨w.heap.size,1,none⟩=some (.slice sa m.length sc)) (by kernel_rfl) SW (fun _=>?_)
 refine wpAnyH_take (i:=0) (v:=.pointer (some ⟨b,0,none⟩)) rfl (by kernel_rfl) (by kernel_rfl) (by kernel_rfl) (fun _ _ _ h=>h) (Or.inl ⟨by rfl, ?_⟩) SW ?_
 ·rintro u ⟨q1,q2,q3⟩
  go_simp
 simp only[Act.put,List.setIfInBounds_toArray]
 refine wpAnyH_take (i:=1) (v:=.pointer (some ⟨b,0,none⟩)) rfl (by kernel_rfl) (by kernel_rfl) (by kernel_rfl) (fun _ _ _ h=>h) (Or.inl ⟨by rfl, ?_⟩) SW ?_
 ·rintro u ⟨q1,q2,q3⟩
  go_simp
 simp only[Act.put]
 refine wpAnyH_take (i:=2) (v:=.pointer (some ⟨b,0,none⟩)) rfl (by kernel_rfl) (by kernel_rfl) (by kernel_rfl) (fun _ _ _ h=>h) (Or.inl ⟨by rfl, ?_⟩) SW ?_
 ·rintro u ⟨q1,q2,q3⟩
  go_simp
 simp only[Act.put]
 refine wpAnyH_take (i:=3) (v:=.pointer (some ⟨b,0,none⟩)) rfl (by kernel_rfl) (by kernel_rfl) (by kernel_rfl) (fun _ _ _ h=>h) (Or.inl ⟨by rfl, ?_⟩) SW ?_
 ·rintro u ⟨q1,q2,q3⟩
  go_simp
 simp only[Act.put]
 refine wpAnyH_take (i:=4) (v:=.pointer (some ⟨b,9,none⟩)) rfl (by kernel_rfl) (by kernel_rfl) (by kernel_rfl) (fun _ _ _ h=>h) (Or.inl ⟨by rfl, ?_⟩) SW ?_
 ·rintro u ⟨q1,q2,q3⟩
  go_simp
 simp only[Act.put]
 refine wpAnyH_take (i:=5) (v:=.int .i64 ((l.length:Int)+1)) rfl (by kernel_rfl) (by kernel_rfl) (by kernel_rfl) (fun _ _ _ h=>h) (Or.inl ⟨by rfl, ?_⟩) SW ?_
 ·rintro u ⟨q1,q2,q3⟩
  go_simp
 simp only[Act.put]
 refine wpAnyH_take (i:=6) (v:=.int .i64 (l.length:Int)) rfl (by kernel_rfl) (by kernel_rfl) (by kernel_rfl) (fun _ _ _ h=>h) (Or.inl ⟨by rfl, ?_⟩) SW ?_
 ·rintro u ⟨q1,q2,q3⟩
  go_simp
  exact wrap_small (by omega) (by omega)
 simp only[Act.put]
 refine wpAnyH_take (i:=8) (v:=.agg #[.int .i64 x,.slice sa m.length sc]) rfl (by kernel_rfl) (by kernel_rfl) (by kernel_rfl) (fun _ _ _ h=>h) (Or.inl ⟨by rfl, ?_⟩) SW ?_
 ·rintro u ⟨q1,q2,q3⟩
  go_simp
 simp only[Act.put]
 refine wpAnyH_take (i:=9) (v:=.pointer (some ⟨b,0,none⟩)) rfl (by kernel_rfl) (by kernel_rfl) (by kernel_rfl) (fun _ _ _ h=>h) (Or.inl ⟨by rfl, ?_⟩) SW ?_
 ·rintro u ⟨q1,q2,q3⟩
  go_simp
 simp only[Act.put]
 refine wpAnyH_take (i:=10) (v:=.pointer (some ⟨b,0,none⟩)) rfl (by kernel_rfl) (by kernel_rfl) (by kernel_rfl) (fun _ _ _ h=>h) (Or.inl ⟨by rfl, ?_⟩) SW ?_
 ·rintro u ⟨q1,q2,q3⟩
  go_simp
 simp only[Act.put]
 refine wpAnyH_ready (rs:=[7]) (by kernel_rfl) (by simp) ?_
 refine AllReadyH.cons rfl (fun K hK=>?_) AllReadyH.nil
 rw[if_pos (by rfl)]
 go_simp
 refine(HS _ (Below.refl _ _).drew).mono ?_
 rintro e w1 ⟨rfl,rfl⟩
 refine hK.out _ _ SW (fun _=>?_)
 clear hK K
 refine wpAnyH_ready (rs:=[11]) (by kernel_rfl) (by simp) ?_
 refine AllReadyH.cons rfl (fun K hK=>?_) AllReadyH.nil
 rw[if_pos (by rfl)]
 go_simp
 refine hK.out _ _ SW (fun _=>?_)
 clear hK K
 refine wpAnyH_ready (rs:=[12]) (by kernel_rfl) (by simp) ?_
 refine AllReadyH.cons rfl (fun K hK=>?_) AllReadyH.nil
 rw[if_pos (by rfl)]
 go_simp
 refine hK.out _ _ ⟨k9,k0,k1⟩ (fun _=>?_)
 clear hK K
 refine wpAnyH_done (by kernel_rfl) ?_ _
 go_wp2_with fail
 exact bodyPost_end (results_none rfl _ _ _) rfl ⟨rfl,HP.out.below (Below.refl _ _).drew,((hb0.setCell _ _).setCell _ _).trans (But.of_below (Below.refl _ _).drew)⟩
set_option maxHeartbeats 800000 in
theorem push_full (W0 w:World)(b s:Nat)(l:List af)(x:Int)(v:Value)(m:List (ByteArray×Int))(h:gY W0 w b s l)(hv:lN W0 v m)(h4:l.length=4) :
  Calls Tryz.prog 130 #[.pointer (some ⟨b,0,none⟩),.agg #[.int .i64 x,v]] w fun e w'=>e=.returned (.tuple #[])/\gY W0 w' b ((s+1) % 4) (l.tail++[(x,m)])/\But b w w':=by
 obtain⟨c8,c9⟩:=h.cells
 have f8:=h.free 8
 have hwl:=h.lt
 have hs:=h.2.1
 obtain⟨sa,sc,rfl,hcap,hrow⟩:=hv
 have hne:b≠w.heap.size:=by omega
 obtain⟨hB,_,_,f,⟨hr,hsh⟩,e8,e9,hf⟩:=h
 have hb0:But b w ((w.setCell ⟨b,8,none⟩ (.int .i64 (((s+1) % 4:Nat):Int))).alloc (.cells #[.int .i64 x,.slice sa m.length sc] 34)):=((But.refl b w).setCell _ _).trans (But.of_below ((Below.refl _ _).alloc (Nat.le_refl _) _))
 have R1:=(hr.set 8 (.int .i64 (((s+1) % 4:Nat):Int))).alloc (.cells #[.int .i64 x,.slice sa m.length sc] 34)
 have d0:((w.setCell ⟨b,8,none⟩ (.int .i64 (((s+1) % 4:Nat):Int))).alloc (.cells #[.int .i64 x,.slice sa m.length sc] 34)).cell? ⟨w.heap.size,0,none⟩=some (.int .i64 x):=by have h:=box0 (w.setCell ⟨b,8,none⟩ (.int .i64 (((s+1) % 4:Nat):Int))) (.int .i64 x) (.slice sa m.length sc) 34;simpa[World.setCell]using h
 have d1:((w.setCell ⟨b,8,none⟩ (.int .i64 (((s+1) % 4:Nat):Int))).alloc (.cells #[.int .i64 x,.slice sa m.length sc] 34)).cell? ⟨w.heap.size,1,none⟩=some (.slice sa m.length sc):=by have h:=box1 (w.setCell ⟨b,8,none⟩ (.int .i64 (((s+1) % 4:Nat):Int))) (.int .i64 x) (.slice sa m.length sc) 34;simpa[World.setCell]using h
 have hl4:(l.length:Int)=4:=by omega
 have HM:Hid ((((s+1) % 4:Nat):Int)=((s:Int)+1) % 4):=by unfold Hid;omega
 rw[hl4]at c9
 go_enter Tryz.func130,Tryz.ntmps130
 go_wp2_with fail
 rw[<- HM.out]
 generalize hW:(w.setCell ⟨b,8,none⟩ (.int .i64 (((s+1) % 4:Nat):Int))).alloc (.cells #[.int .i64 x,.slice sa m.length sc] 34)=W at *
 clear hW
 have g8:W.cell? ⟨b,8,none⟩=some (.int .i64 (((s+1) % 4:Nat):Int)):=by rw[R1.cell (by omega),if_pos rfl]
 have g9:W.cell? ⟨b,9,none⟩=some (.int .i64 4):=by rw[R1.cell (by omega),if_neg (by omega),e9,h4];rfl
 have ht:l.tail.length=3:=by rw[List.length_tail];omega
 have HP:Hid (gY W0 ((W.setCell ⟨b,((s+1) % 4+3) % 4*2,none⟩ (.int .i64 x)).setCell ⟨b,((s+1) % 4+3) % 4*2+1,none⟩ (.slice sa m.length sc)) b ((s+1) % 4) (l.tail++[(x,m)])):=by
  have h:=gY.put (W0:=W0) (l:=l.tail) (x:=x) hB (Nat.mod_lt (s+1) (by omega:4 > 0)) (by omega) R1 (hsh.far (by omega) _) (by rw[if_pos rfl]) (by rw[if_neg (by omega),e9,ht,h4];rfl) (fun k hk=>by
   obtain⟨h1,v,h2,h3⟩:=hf (k+1) (by omega)
   have hm:((s+1) % 4+k) % 4=(s+(k+1)) % 4:=by omega
   rw[hm,List.getElem_tail]
   exact⟨by rw[if_neg (by omega),h1],v,by rw[if_neg (by omega),h2],h3⟩) hcap hrow
  rw[ht]at h
  exact h
 have HS:∀u,Below W.heap.size W u->Calls Tryz.prog 159 #[.pointer (some ⟨b,0,none⟩),.int .i64 3] u fun e w'=>e=.returned (.int .i64 ((((s+1) % 4+3) % 4:Nat):Int))/\w'=u:=fun u hu=>wu u b ((s+1) % 4) 3 (ae hu (block_lt_of_cell g8) g8) (Nat.mod_lt _ (by omega)) (by omega)
 have hq4:((s+1) % 4+3) % 4<4:=Nat.mod_lt _ (by omega)
 generalize hq:((s+1) % 4+3) % 4=q at *
 clear hq c8 c9
 have R2:=(R1.set (q*2) (.int .i64 x)).set (q*2+1) (.slice sa m.length sc)
 have k9:((W.setCell ⟨b,q*2,none⟩ (.int .i64 x)).setCell ⟨b,q*2+1,none⟩ (.slice sa m.length sc)).cell? ⟨b,9,none⟩=some (.int .i64 4):=by rw[R2.cell (by omega),if_neg (by omega),if_neg (by omega),if_neg (by omega),e9,h4];rfl
 have k0:((W.setCell ⟨b,q*2,none⟩ (.int .i64 x)).setCell ⟨b,q*2+1,none⟩ (.slice sa m.length sc)).cell? ⟨w.heap.size,0,none⟩=some (.int .i64 x):=by rw[aV _ _ _ _ (Ne.symm hne),aV _ _ _ _ (Ne.symm hne)];exact d0
 have k1:((W.setCell ⟨b,q*2,none⟩ (.int .i64 x)).setCell ⟨b,q*2+1,none⟩ (.slice sa m.length sc)).cell? ⟨w.heap.size,1,none⟩=some (.slice sa m.length sc):=by rw[aV _ _ _ _ (Ne.symm hne),aV _ _ _ _ (Ne.symm hne)];exact d1
 obtain⟨u0,x0⟩:∃u,W.cell? ⟨b,q*2,none⟩=some u:=⟨_,R1.cell (by omega)⟩
 obtain⟨u1,x1⟩:∃u,W.cell? ⟨b,q*2+1,none⟩=some u:=⟨_,R1.cell (by omega)⟩
 have y0:=R1.frozen (q*2)
 have y1:=R1.frozen (q*2+1)
 have hm1:(0:Int)<=(q:Int):=by omega
 have hm2:(q:Int)<4:=by omega
 clear R1 R2 hr e8 e9 hf
 have SW:(W.drew).cell? ⟨b,9,none⟩=some (.int .i64 4)/\(W.drew).cell? ⟨w.heap.size,0,none⟩=some (.int .i64 x)/\(W.drew).cell? ⟨w.heap.size,1,none⟩=some (.slice sa m.length sc):=⟨g9,d0,d1⟩
 refine wp_region_held_drew (S:=fun u=>u.cell? ⟨b,9,none⟩=some (.int .i64 4)/\u.cell? ⟨w.heap.size,0,none⟩=some (.int .i64 x)/\u.cell? ⟨w.heap.size,1,none⟩=some (.slice sa m.length sc)) (by kernel_rfl) SW (fun _=>?_)
 refine wpAnyH_take (i:=0) (v:=.pointer (some ⟨b,0,none⟩)) rfl (by kernel_rfl) (by kernel_rfl) (by kernel_rfl) (fun _ _ _ h=>h) (Or.inl ⟨by rfl, ?_⟩) SW ?_
 ·rintro u ⟨q1,q2,q3⟩
  go_simp
 simp only[Act.put,List.setIfInBounds_toArray]
 refine wpAnyH_take (i:=1) (v:=.pointer (some ⟨b,0,none⟩)) rfl (by kernel_rfl) (by kernel_rfl) (by kernel_rfl) (fun _ _ _ h=>h) (Or.inl ⟨by rfl, ?_⟩) SW ?_
 ·rintro u ⟨q1,q2,q3⟩
  go_simp
 simp only[Act.put]
 refine wpAnyH_take (i:=2) (v:=.pointer (some ⟨b,0,none⟩)) rfl (by kernel_rfl) (by kernel_rfl) (by kernel_rfl) (fun _ _ _ h=>h) (Or.inl ⟨by rfl, ?_⟩) SW ?_
 ·rintro u ⟨q1,q2,q3⟩
  go_simp
 simp only[Act.put]
 refine wpAnyH_take (i:=3) (v:=.pointer (some ⟨b,0,none⟩)) rfl (by kernel_rfl) (by kernel_rfl) (by kernel_rfl) (fun _ _ _ h=>h) (Or.inl ⟨by rfl, ?_⟩) SW ?_
 ·rintro u ⟨q1,q2,q3⟩
  go_simp
 simp only[Act.put]
 refine wpAnyH_take (i:=4) (v:=.pointer (some ⟨b,9,none⟩)) rfl (by kernel_rfl) (by kernel_rfl) (by kernel_rfl) (fun _ _ _ h=>h) (Or.inl ⟨by rfl, ?_⟩) SW ?_
 ·rintro u ⟨q1,q2,q3⟩
  go_simp
 simp only[Act.put]
 refine wpAnyH_take (i:=5) (v:=.int .i64 4) rfl (by kernel_rfl) (by kernel_rfl) (by kernel_rfl) (fun _ _ _ h=>h) (Or.inl ⟨by rfl, ?_⟩) SW ?_
 ·rintro u ⟨q1,q2,q3⟩
  go_simp
 simp only[Act.put]
 refine wpAnyH_take (i:=6) (v:=.int .i64 3) rfl (by kernel_rfl) (by kernel_rfl) (by kernel_rfl) (fun _ _ _ h=>h) (Or.inl ⟨by rfl, ?_⟩) SW ?_
 ·rintro u ⟨q1,q2,q3⟩
  go_simp
  exact wrap_small (by omega) (by omega)
 simp only[Act.put]
 refine wpAnyH_take (i:=8) (v:=.agg #[.int .i64 x,.slice sa m.length sc]) rfl (by kernel_rfl) (by kernel_rfl) (by kernel_rfl) (fun _ _ _ h=>h) (Or.inl ⟨by rfl, ?_⟩) SW ?_
 ·rintro u ⟨q1,q2,q3⟩
  go_simp
 simp only[Act.put]
 refine wpAnyH_take (i:=9) (v:=.pointer (some ⟨b,0,none⟩)) rfl (by kernel_rfl) (by kernel_rfl) (by kernel_rfl) (fun _ _ _ h=>h) (Or.inl ⟨by rfl, ?_⟩) SW ?_
 ·rintro u ⟨q1,q2,q3⟩
  go_simp
 simp only[Act.put]
 refine wpAnyH_take (i:=10) (v:=.pointer (some ⟨b,0,none⟩)) rfl (by kernel_rfl) (by kernel_rfl) (by kernel_rfl) (fun _ _ _ h=>h) (Or.inl ⟨by rfl, ?_⟩) SW ?_
 ·rintro u ⟨q1,q2,q3⟩
  go_simp
 simp only[Act.put]
 refine wpAnyH_ready (rs:=[7]) (by kernel_rfl) (by simp) ?_
 refine AllReadyH.cons rfl (fun K hK=>?_) AllReadyH.nil
 rw[if_pos (by rfl)]
 go_simp
 refine(HS _ (Below.refl _ _).drew).mono ?_
 rintro e w1 ⟨rfl,rfl⟩
 refine hK.out _ _ SW (fun _=>?_)
 clear hK K
 refine wpAnyH_ready (rs:=[11]) (by kernel_rfl) (by simp) ?_
 refine AllReadyH.cons rfl (fun K hK=>?_) AllReadyH.nil
 rw[if_pos (by rfl)]
 go_simp
 refine hK.out _ _ SW (fun _=>?_)
 clear hK K
 refine wpAnyH_ready (rs:=[12]) (by kernel_rfl) (by simp) ?_
 refine AllReadyH.cons rfl (fun K hK=>?_) AllReadyH.nil
 rw[if_pos (by rfl)]
 go_simp
 refine hK.out _ _ ⟨k9,k0,k1⟩ (fun _=>?_)
 clear hK K
 refine wpAnyH_done (by kernel_rfl) ?_ _
 go_wp2_with fail
 exact bodyPost_end (results_none rfl _ _ _) rfl ⟨rfl,HP.out.below (Below.refl _ _).drew,((hb0.setCell _ _).setCell _ _).trans (But.of_below (Below.refl _ _).drew)⟩
def Es (W0 w:World)(b o:Nat)(l:List af):Prop:=
 b<w.heap.size/\l.length<=4/\w.cell? ⟨b,o+8,none⟩=some (.int .i64 0)/\w.cell? ⟨b,o+9,none⟩=some (.int .i64 l.length) /\
  ∀k,(h:k<l.length)->w.cell? ⟨b,o+k*2,none⟩=some (.int .i64 l[k].1)/\∃v,w.cell? ⟨b,o+k*2+1,none⟩=some v/\lN W0 v l[k].2
theorem Es.below {W0 w w':World}{b o:Nat}{l:List af}(h:Es W0 w b o l)(hb:Below w.heap.size w w'):Es W0 w' b o l:=by
 obtain⟨h0,h1,h2,h3,h4⟩:=h
 refine⟨Nat.lt_of_lt_of_le h0 hb.size,h1,ae hb h0 h2,ae hb h0 h3,fun k hk=>?_⟩
 obtain⟨e1,v,e2,e3⟩:=h4 k hk
 exact⟨ae hb h0 e1,v,ae hb h0 e2,e3⟩
set_option maxHeartbeats 400000 in
theorem Jq (w:World)(b o k:Nat)(c8:w.cell? ⟨b,o+8,none⟩=some (.int .i64 0))(hk:k<4) :
  Calls Tryz.prog 159 #[.pointer (some ⟨b,o,none⟩),.int .i64 k] w fun e w'=>e=.returned (.int .i64 (k:Int))/\w'=w:=by
 have HM:Hid ((k:Int) % 4=(k:Int)):=by unfold Hid;omega
 go_enter Tryz.func159,Tryz.ntmps159
 go_wp2_with fail
 go_ret
 exact⟨by rw[HM.out];rfl,rfl⟩
set_option maxHeartbeats 400000 in
theorem vJ (W0 w:World)(b o:Nat)(l:List af)(h:Es W0 w b o l) :
  Calls Tryz.prog 150 #[.pointer (some ⟨b,o,none⟩)] w fun e w'=>e=.returned (.int .i64 (l.length:Int))/\w'=w:=by
 have c9:=h.2.2.2.1
 go_enter Tryz.func150,Tryz.ntmps150
 go_wp2_with fail
 go_ret
 exact⟨rfl,rfl⟩
set_option maxHeartbeats 400000 in
theorem Js (w:World)(b o k:Nat)(x:Int)(sa:Option Addr)(n sc:Nat)(hwl:b<w.heap.size)(hk:k<4)(c8:w.cell? ⟨b,o+8,none⟩=some (.int .i64 0))(c0:w.cell? ⟨b,o+k*2,none⟩=some (.int .i64 x))(c1:w.cell? ⟨b,o+k*2+1,none⟩=some (.slice sa n sc)) :
  Calls Tryz.prog 138 #[.pointer (some ⟨b,o,none⟩),.int .i64 k] w fun e w'=>e=.returned (.agg #[.int .i64 x,.slice sa n sc])/\Below w.heap.size w w':=by
 have e8:=ae ((Below.refl w.heap.size w).alloc (Nat.le_refl _) (.cells #[.int .i64 0,.slice none 0 0] 34)) hwl c8
 have e0:=ae ((Below.refl w.heap.size w).alloc (Nat.le_refl _) (.cells #[.int .i64 0,.slice none 0 0] 34)) hwl c0
 have e1:=ae ((Below.refl w.heap.size w).alloc (Nat.le_refl _) (.cells #[.int .i64 0,.slice none 0 0] 34)) hwl c1
 have d0:(w.alloc (.cells #[.int .i64 0,.slice none 0 0] 34)).cell? ⟨w.heap.size,0,none⟩=some (.int .i64 0):=box0 _ _ _ _
 have d1:(w.alloc (.cells #[.int .i64 0,.slice none 0 0] 34)).cell? ⟨w.heap.size,1,none⟩=some (.slice none 0 0):=box1 _ _ _ _
 have f0:(w.alloc (.cells #[.int .i64 0,.slice none 0 0] 34)).frozen? ⟨w.heap.size,0,none⟩=false:=by simp[go_sem]
 have f1:(w.alloc (.cells #[.int .i64 0,.slice none 0 0] 34)).frozen? ⟨w.heap.size,1,none⟩=false:=by simp[go_sem]
 have hb0:Below w.heap.size w (w.alloc (.cells #[.int .i64 0,.slice none 0 0] 34)):=(Below.refl w.heap.size w).alloc (Nat.le_refl _) _
 have hWl:b<(w.alloc (.cells #[.int .i64 0,.slice none 0 0] 34)).heap.size:=Nat.lt_of_lt_of_le hwl hb0.size
 have hm1:(0:Int)<=(k:Int):=by omega
 have hm2:(k:Int)<4:=by omega
 go_enter Tryz.func138,Tryz.ntmps138
 go_wp2_with fail
 generalize hW:w.alloc (.cells #[.int .i64 0,.slice none 0 0] 34)=W at *
 clear hW
 have HS:∀u,Below W.heap.size W u->Calls Tryz.prog 159 #[.pointer (some ⟨b,o,none⟩),.int .i64 k] u fun e w'=>e=.returned (.int .i64 (k:Int))/\w'=u:=fun u hu=>Jq u b o k (ae hu hWl e8) (by omega)
 clear c0 c1 c8 e8
 have hne:b≠w.heap.size:=by omega
 go_region_held3 (fun w'=>w'.cell? ⟨b,o+k*2,none⟩=some (.int .i64 x)/\w'.cell? ⟨b,o+k*2+1,none⟩=some (.slice sa n sc)) (first|exact⟨e0,e1⟩|(simp only[World.cell?_drew,aV _ _ _ _ hne,e0,e1,and_self];done))
  (first|(go_at_call 159;refine(HS _ (by first|exact Below.refl _ _|exact(Below.refl _ _).drew|exact below_drewN (Below.refl _ _) _)).mono ?_;rintro e w1 ⟨rfl,rfl⟩))
 go_wp2_with fail
 exact bodyPost_ret (v:=.agg #[.int .i64 x,.slice sa n sc]) (by simp[results,Tryz.results138,go_sem,d0,d1]) rfl ⟨rfl,((hb0.setCell (Nat.le_refl _) _).setCell (Nat.le_refl _) _).drew⟩
theorem JF (W0 w:World)(b o:Nat)(l:List af)(k:Nat)(h:Es W0 w b o l)(hk:k<l.length) :
  Calls Tryz.prog 138 #[.pointer (some ⟨b,o,none⟩),.int .i64 k] w fun e w'=>(∃v,e=.returned (.agg #[.int .i64 l[k].1,v])/\lN W0 v l[k].2)/\Below w.heap.size w w':=by
 have h4:=h.2.1
 obtain⟨c0,v,c1,hv⟩:=h.2.2.2.2 k hk
 obtain⟨sa,sc,rfl,hcap,hrow⟩:=hv
 exact(Js w b o k l[k].1 sa l[k].2.length sc h.1 (by omega) h.2.2.1 c0 c1).mono fun e w' ⟨he,hb⟩=>⟨⟨_,he,sa,sc,rfl,hcap,hrow⟩,hb⟩
set_option maxHeartbeats 400000 in
theorem Ky (W0 w:World)(b o:Nat)(l:List af)(h:Es W0 w b o l)(h0:0<l.length) :
  Calls Tryz.prog 151 #[.pointer (some ⟨b,o,none⟩)] w fun e w'=>(∃v,e=.returned (.agg #[.int .i64 (l[l.length-1]'(by omega)).1,v])/\lN W0 v (l[l.length-1]'(by omega)).2)/\Below w.heap.size w w':=by
 have h4:=h.2.1
 have c9:=h.2.2.2.1
 have hwl:=h.1
 have d0:(w.alloc (.cells #[.int .i64 0,.slice none 0 0] 34)).cell? ⟨w.heap.size,0,none⟩=some (.int .i64 0):=box0 _ _ _ _
 have d1:(w.alloc (.cells #[.int .i64 0,.slice none 0 0] 34)).cell? ⟨w.heap.size,1,none⟩=some (.slice none 0 0):=box1 _ _ _ _
 have f0:(w.alloc (.cells #[.int .i64 0,.slice none 0 0] 34)).frozen? ⟨w.heap.size,0,none⟩=false:=by simp[go_sem]
 have f1:(w.alloc (.cells #[.int .i64 0,.slice none 0 0] 34)).frozen? ⟨w.heap.size,1,none⟩=false:=by simp[go_sem]
 have hb0:Below w.heap.size w (w.alloc (.cells #[.int .i64 0,.slice none 0 0] 34)):=(Below.refl w.heap.size w).alloc (Nat.le_refl _) _
 have hWl:w.heap.size<(w.alloc (.cells #[.int .i64 0,.slice none 0 0] 34)).heap.size:=bP _ _
 have hkm:((l.length:Int)-1)=((l.length-1:Nat):Int):=by omega
 go_enter Tryz.func151,Tryz.ntmps151
 go_wp2_with fail
 generalize hW:w.alloc (.cells #[.int .i64 0,.slice none 0 0] 34)=W at *
 clear hW
 refine(JF W0 W b o l (l.length-1) (h.below hb0) (by omega)).mono ?_
 rintro e w1 ⟨⟨v,rfl,hv⟩,b1⟩
 obtain⟨sa,sc,rfl,hcap,hrow⟩:=hv
 replace d0:=ae b1 hWl d0
 replace d1:=ae b1 hWl d1
 replace f0:=(b1.frozen (p:=⟨w.heap.size,0,none⟩) hWl).trans f0
 replace f1:=(b1.frozen (p:=⟨w.heap.size,1,none⟩) hWl).trans f1
 have B1:Below w.heap.size w w1:=hb0.trans (b1.mono hb0.size)
 clear b1 hb0 c9
 go_wp2_with fail
 exact bodyPost_ret (v:=.agg #[.int .i64 (l[l.length-1]'(by omega)).1,.slice sa (l[l.length-1]'(by omega)).2.length sc]) (by simp[results,Tryz.results151,go_sem,d0,d1]) rfl ⟨⟨_,rfl,sa,sc,rfl,hcap,hrow⟩,(B1.setCell (Nat.le_refl _) _).setCell (Nat.le_refl _) _⟩
end Go.Proofs.YtpfhegengmlkmabGreatDoor
