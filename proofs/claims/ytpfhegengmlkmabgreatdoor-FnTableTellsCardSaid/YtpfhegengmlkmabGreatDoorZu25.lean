/- Texts of this claim. -/
import Derived.Test.YtpfhegengmlkmabGreatDoorZu22
import Derived.Test.YtpfhegengmlkmabGreatDoorZu23
import Derived.Test.YtpfhegengmlkmabGreatDoorZu24
namespace Go.Proofs.YtpfhegengmlkmabGreatDoor
open Go.RowKit Go.BigFrame
set_option maxRecDepth 100000
set_option maxHeartbeats 800000 in
theorem eQ (a:Option Addr)(c:Nat)(l:List (ByteArray×Int))(w:World)(hr:Row w a l)(hl:l.length<=1048576) :
  Calls Tryz.prog 114 #[.slice a l.length c] w fun e w'=>(∃g cap,e=.returned (.slice (some ⟨g,0,none⟩) l.length cap)/\w.heap.size<=g/\l.length<=cap/\Own w' g l)/\Below w.heap.size w w':=by
 have hba:Below w.heap.size w (w.alloc (.cells #[] 54)):=(Below.refl _ _).alloc (Nat.le_refl _) _
 by_cases hl0:l.length=0
 ·obtain rfl:l=[]:=List.length_eq_zero_iff.1 hl0
  have HE:Hid (Own (w.alloc (.cells #[] 54)) w.heap.size []):=⟨0,fun _=>undef,⟨#[],heap_alloc_new w _,rfl,fun i hi=>absurd hi (Nat.not_lt_zero i)⟩,by simp,fun k hk=>absurd hk (Nat.not_lt_zero k)⟩
  cases a with
  |none=>
   go_enter Tryz.func114,Tryz.ntmps114
   go_wp2_with fail
   go_ret
   exact⟨⟨_,0,rfl,Nat.le_refl _,Nat.le_refl _,HE.out⟩,hba⟩
  |some ad=>
   go_enter Tryz.func114,Tryz.ntmps114
   go_wp2_with fail
   go_ret
   exact⟨⟨_,0,rfl,Nat.le_refl _,Nat.le_refl _,HE.out⟩,hba⟩
 ·obtain⟨b,o,rfl,_⟩:=hr 0 (by omega)
  have hra:=hr.below hba
  go_enter Tryz.func114,Tryz.ntmps114
  go_wp2_with (at_builtin;refine qC rfl _ _ rfl w.heap.size w.heap.size b o c l rfl (heap_alloc_new w _) (Nat.le_refl _) rfl hra (by omega) hl ?_;intro g' cap' w4 hg4 hgrow)
  go_ret
  obtain⟨h1,h2,h3⟩:=yf hg4
  exact⟨⟨g',cap',rfl,h1,h2,h3⟩,hba.grown hgrow (by simp) (fun k e=>by simp at e;omega)⟩
set_option maxHeartbeats 1600000 in
theorem nD (a:Option Addr)(cap:Nat)(l:List af)(w:World)(hn:tC l)(hr:pg w a l) :
  Calls Tryz.prog 118 #[.slice a l.length cap] w fun e w'=>(∃v,e=.returned v/\bD w' w.heap.size v l)/\Below w.heap.size w w':=by
 obtain⟨i0,hi,hz0,hz1,hz2⟩:=info_parts Tryz.infoI
 have hl:=hn.1
 go_enter Tryz.func118,Tryz.ntmps118
 go_wp2_with fail
 go_loopw [3,4] (fun out i wr=>∃k:Nat,k<=l.length/\i=.int .i64 k/\bD wr w.heap.size out (l.take k)/\Below w.heap.size w wr) (fun _ i _=>l.length-(intOf i).toNat)
 case atStart=>exact⟨0,Nat.zero_le _,rfl,je _ _,Below.refl _ _⟩
 case round=>
  obtain⟨k,hk,rfl,hg,hb⟩:=hrel
  by_cases hlt:k<l.length
  ·obtain⟨b,o,rfl,hbw,cw0,v,cw1,hv⟩:=hr k hlt
   obtain⟨sa,sc,rfl,hcap,hrow⟩:=hv
   replace hrow:=hrow.below hb
   have c0:=ae hb hbw cw0
   have c1:=ae hb hbw cw1
   have hblt:b<wr.heap.size:=Nat.lt_of_lt_of_le hbw hb.size
   have k0:(0:Int)<=(k:Int):=by omega
   have k1:(k:Int)<(l.length:Int):=by omega
   have hlk:=hn.2 k hlt
   have HT:Hid (l.take (k+1)=l.take k++[(l[k].1,l[k].2)]):=List.take_succ_eq_append_getElem hlt
   have hzr:=hb.size
   have htl:(l.take k).length<=1048576:=by rw[List.length_take];omega
   have SW:(wr.drew).cell? ⟨b,o+k*2,none⟩=some (.int .i64 l[k].1)/\(wr.drew).cell? ⟨b,o+k*2+1,none⟩=some (.slice sa l[k].2.length sc):=⟨c0,c1⟩
   obtain⟨oa,oc,rfl,_⟩:=hg.len
   have hkl:(l.take k).length=k:=by rw[List.length_take];omega
   rw[hkl]at hg
   clear hkl hcap
   go_wp2_with fail
   refine wp_region_held_drew (S:=fun u=>u.cell? ⟨b,o+k*2,none⟩=some (.int .i64 l[k].1)/\u.cell? ⟨b,o+k*2+1,none⟩=some (.slice sa l[k].2.length sc)) (by kernel_rfl) SW (fun _=>?_)
   refine wpAnyH_take (i:=0) (v:=.slice oa k oc) rfl (by kernel_rfl) (by kernel_rfl) (by kernel_rfl) (fun _ _ _ h=>h) (Or.inl ⟨by rfl, ?_⟩) SW ?_
   ·rintro u ⟨q1,q2⟩
    go_simp
   simp only[Act.put,List.setIfInBounds_toArray]
   refine wpAnyH_take (i:=1) (v:=.slice (some ⟨b,o,none⟩) l.length cap) rfl (by kernel_rfl) (by kernel_rfl) (by kernel_rfl) (fun _ _ _ h=>h) (Or.inl ⟨by rfl, ?_⟩) SW ?_
   ·rintro u ⟨q1,q2⟩
    go_simp
   simp only[Act.put]
   refine wpAnyH_take (i:=2) (v:=.int .i64 k) rfl (by kernel_rfl) (by kernel_rfl) (by kernel_rfl) (fun _ _ _ h=>h) (Or.inl ⟨by rfl, ?_⟩) SW ?_
   ·rintro u ⟨q1,q2⟩
    go_simp
   simp only[Act.put]
   refine wpAnyH_take (i:=3) (v:=.pointer (some ⟨b,o+k*2,none⟩)) rfl (by kernel_rfl) (by kernel_rfl) (by kernel_rfl) (fun _ _ _ h=>h) (Or.inl ⟨by rfl, ?_⟩) SW ?_
   ·rintro u ⟨q1,q2⟩
    go_simp
   simp only[Act.put]
   refine wpAnyH_take (i:=4) (v:=.pointer (some ⟨b,o+k*2,none⟩)) rfl (by kernel_rfl) (by kernel_rfl) (by kernel_rfl) (fun _ _ _ h=>h) (Or.inl ⟨by rfl, ?_⟩) SW ?_
   ·rintro u ⟨q1,q2⟩
    go_simp
   simp only[Act.put]
   refine wpAnyH_take (i:=5) (v:=.int .i64 l[k].1) rfl (by kernel_rfl) (by kernel_rfl) (by kernel_rfl) (fun _ _ _ h=>h) (Or.inl ⟨by rfl, ?_⟩) SW ?_
   ·rintro u ⟨q1,q2⟩
    go_simp
   simp only[Act.put]
   refine wpAnyH_take (i:=6) (v:=.slice (some ⟨b,o,none⟩) l.length cap) rfl (by kernel_rfl) (by kernel_rfl) (by kernel_rfl) (fun _ _ _ h=>h) (Or.inl ⟨by rfl, ?_⟩) SW ?_
   ·rintro u ⟨q1,q2⟩
    go_simp
   simp only[Act.put]
   refine wpAnyH_take (i:=7) (v:=.int .i64 k) rfl (by kernel_rfl) (by kernel_rfl) (by kernel_rfl) (fun _ _ _ h=>h) (Or.inl ⟨by rfl, ?_⟩) SW ?_
   ·rintro u ⟨q1,q2⟩
    go_simp
   simp only[Act.put]
   refine wpAnyH_take (i:=8) (v:=.pointer (some ⟨b,o+k*2,none⟩)) rfl (by kernel_rfl) (by kernel_rfl) (by kernel_rfl) (fun _ _ _ h=>h) (Or.inl ⟨by rfl, ?_⟩) SW ?_
   ·rintro u ⟨q1,q2⟩
    go_simp
   simp only[Act.put]
   refine wpAnyH_take (i:=9) (v:=.pointer (some ⟨b,o+k*2+1,none⟩)) rfl (by kernel_rfl) (by kernel_rfl) (by kernel_rfl) (fun _ _ _ h=>h) (Or.inl ⟨by rfl, ?_⟩) SW ?_
   ·rintro u ⟨q1,q2⟩
    go_simp
   simp only[Act.put]
   refine wpAnyH_take (i:=10) (v:=.slice sa l[k].2.length sc) rfl (by kernel_rfl) (by kernel_rfl) (by kernel_rfl) (fun _ _ _ h=>h) (Or.inl ⟨by rfl, ?_⟩) SW ?_
   ·rintro u ⟨q1,q2⟩
    go_simp
   simp only[Act.put]
   refine wpAnyH_ready (rs:=[11]) (by kernel_rfl) (by simp) ?_
   refine AllReadyH.cons rfl (fun K hK=>?_) AllReadyH.nil
   rw[if_pos (by rfl)]
   go_simp
   have hbd:Below wr.heap.size wr wr.drew:=(Below.refl _ _).drew
   refine(eQ sa sc l[k].2 _ (hrow.below hbd) hlk).mono ?_
   rintro e w2 ⟨⟨gm,cm,rfl,hgm,hcm,ho⟩,b2⟩
   have b2':Below wr.heap.size wr w2:=hbd.trans (b2.mono hbd.size)
   have hgm':wr.heap.size<=gm:=hgm
   have S2:w2.cell? ⟨b,o+k*2,none⟩=some (.int .i64 l[k].1)/\w2.cell? ⟨b,o+k*2+1,none⟩=some (.slice sa l[k].2.length sc):=⟨ae b2' hblt c0,ae b2' hblt c1⟩
   refine hK.out _ _ S2 (fun _=>?_)
   clear hK K b2 SW hbd
   refine wpAnyH_take (i:=12) (v:=.agg #[.int .i64 l[k].1,.slice (some ⟨gm,0,none⟩) l[k].2.length cm]) rfl (by kernel_rfl) (by kernel_rfl) (by kernel_rfl) (fun _ _ _ h=>h) (Or.inl ⟨by rfl, ?_⟩) S2 ?_
   ·rintro u ⟨q1,q2⟩
    go_simp
   simp only[Act.put,List.setIfInBounds_toArray]
   refine wpAnyH_ready (rs:=[13]) (by kernel_rfl) (by simp) ?_
   refine AllReadyH.cons rfl (fun K hK=>?_) AllReadyH.nil
   rw[if_pos (by rfl)]
   go_simp
   have b3:Below wr.heap.size wr (w2.alloc (.cells #[.int .i64 l[k].1,.slice (some ⟨gm,0,none⟩) l[k].2.length cm] 34)):=b2'.alloc b2'.size _
   have S3:(w2.alloc (.cells #[.int .i64 l[k].1,.slice (some ⟨gm,0,none⟩) l[k].2.length cm] 34)).cell? ⟨b,o+k*2,none⟩=some (.int .i64 l[k].1)/\(w2.alloc (.cells #[.int .i64 l[k].1,.slice (some ⟨gm,0,none⟩) l[k].2.length cm] 34)).cell? ⟨b,o+k*2+1,none⟩=some (.slice sa l[k].2.length sc):=⟨ae b3 hblt c0,ae b3 hblt c1⟩
   have hbx:Below w2.heap.size w2 (w2.alloc (.cells #[.int .i64 l[k].1,.slice (some ⟨gm,0,none⟩) l[k].2.length cm] 34)):=(Below.refl _ _).alloc (Nat.le_refl _) _
   refine hK.out _ _ S3 (fun _=>?_)
   clear hK K
   refine wpAnyH_ready (rs:=[14]) (by kernel_rfl) (by simp) ?_
   refine AllReadyH.cons rfl (fun K hK=>?_) AllReadyH.nil
   rw[if_pos (by rfl)]
   refine iU _ _ rfl wr w.heap.size _ (l.take k) rfl hg b3 hzr w2.heap.size l[k].1 l[k].2 gm cm rfl (box0 _ _ _ _) (box1 _ _ _ _) (ho.below hbx) hgm' hcm htl ?_
   intro v' w4 hg4 b4
   have B4:Below w.heap.size w w4:=(hb.trans (b3.mono hzr)).trans b4
   have S4:w4.cell? ⟨b,o+k*2,none⟩=some (.int .i64 l[k].1)/\w4.cell? ⟨b,o+k*2+1,none⟩=some (.slice sa l[k].2.length sc):=⟨ae B4 hbw cw0,ae B4 hbw cw1⟩
   refine hK.out _ _ S4 (fun _=>?_)
   clear hK K
   refine wpAnyH_ready (rs:=[15]) (by kernel_rfl) (by simp) ?_
   refine AllReadyH.cons rfl (fun K hK=>?_) AllReadyH.nil
   rw[if_pos (by rfl)]
   go_simp
   refine hK.out _ _ S4 (fun _=>?_)
   clear hK K
   refine wpAnyH_done (by kernel_rfl) ?_ _
   go_wp2_with fail
   exact⟨⟨k+1,by omega,by go_num,by rw[HT.out];exact hg4,B4⟩,by simp[intOf];omega⟩
  ·go_wp2_with fail
   go_ret
   rw[List.take_of_length_le (by omega)]at hg
   exact⟨⟨_,rfl,hg⟩,hb⟩
def Nr (l:List af)(x:Int)(m:List (ByteArray×Int))(ok:Bool):Prop:=
 (∀h:aX l/\0<l.length,ok=true/\(x,m)=l[l.length-1]'(by omega))/\(¬(aX l/\0<l.length)->ok=false/\x=0/\m=[])
theorem Nr.one {l:List af}{x x':Int}{m m':List (ByteArray×Int)}{ok ok':Bool}(h:Nr l x m ok)(h':Nr l x' m' ok'):x=x'/\m=m'/\ok=ok':=by
 by_cases hp:aX l/\0<l.length
 ·have e:=(h.1 hp).2.trans (h'.1 hp).2.symm
  exact⟨(Prod.mk.inj e).1,(Prod.mk.inj e).2,(h.1 hp).1.trans (h'.1 hp).1.symm⟩
 ·obtain⟨h1,h2,h3⟩:=h.2 hp
  obtain⟨h1',h2',h3'⟩:=h'.2 hp
  exact⟨h2.trans h2'.symm,h3.trans h3'.symm,h1.trans h1'.symm⟩
theorem yM {l:List af}(h:aX l):tC l:=⟨by have:=h.1;omega,fun j hj=>by have:=(h.2.1 j hj).1.1;omega⟩
def vV (l:List af)(it:af):List af:=if l.length<4 then l++[it]else l.tail++[it]
def kz (l:List af)(m:List (ByteArray×Int)):Prop:=∀h:0<l.length,eU (l[l.length-1]'(by omega)).2 m
def zf (l:List af)(x:Int)(m:List (ByteArray×Int))(r:List af)(c:Int):Prop:=
 (¬(aX l/\ah m/\m≠[])->r=[]/\c=1)/\(aX l/\ah m/\m≠[]->¬kz l m->r=l/\c=2)/\(aX l/\ah m/\m≠[]->kz l m->r=vV l (x,m)/\c=0)
theorem zf.one {l:List af}{x:Int}{m:List (ByteArray×Int)}{r r':List af}{c c':Int}(h:zf l x m r c)(h':zf l x m r' c'):r=r'/\c=c':=by
 by_cases hp:aX l/\ah m/\m≠[]
 ·by_cases ht:kz l m
  ·exact⟨(h.2.2 hp ht).1.trans (h'.2.2 hp ht).1.symm,(h.2.2 hp ht).2.trans (h'.2.2 hp ht).2.symm⟩
  ·exact⟨(h.2.1 hp ht).1.trans (h'.2.1 hp ht).1.symm,(h.2.1 hp ht).2.trans (h'.2.1 hp ht).2.symm⟩
 ·exact⟨(h.1 hp).1.trans (h'.1 hp).1.symm,(h.1 hp).2.trans (h'.1 hp).2.symm⟩
theorem rJ {l:List af}{x:Int}{m:List (ByteArray×Int)}(h:¬(aX l/\ah m/\m≠[])):zf l x m [] 1:=⟨fun _=>⟨rfl,rfl⟩,fun q=>absurd q h,fun q=>absurd q h⟩
theorem Fj {l:List af}{x:Int}{m:List (ByteArray×Int)}(h:aX l/\ah m/\m≠[])(ht:¬kz l m):zf l x m l 2:=⟨fun q=>absurd h q,fun _ _=>⟨rfl,rfl⟩,fun _ q=>absurd q ht⟩
theorem lL {l:List af}{x:Int}{m:List (ByteArray×Int)}(h:aX l/\ah m/\m≠[])(ht:kz l m):zf l x m (vV l (x,m)) 0:=⟨fun q=>absurd h q,fun _ q=>absurd ht q,fun _ _=>⟨rfl,rfl⟩⟩
theorem sK {l:List af}{it:af}(h:l.length<4):vV l it=l++[it]:=if_pos h
theorem yV {l:List af}{it:af}(h:¬l.length<4):vV l it=l.tail++[it]:=if_neg h
theorem lX {l:List af}{x:Int}{m:List (ByteArray×Int)}(h:∀k,(h:k<l.length)->ah l[k].2)(hm:ah m):∀k,(hk:k<(l++[(x,m)]).length)->ah (l++[(x,m)])[k].2:=fun k hk=>by
 by_cases e:k<l.length
 ·rw[List.getElem_append_left e];exact h k e
 ·rw[List.getElem_append_right (by omega)]
  simp only[List.getElem_singleton]
  exact hm
theorem ul {l:List af}(h:∀k,(h:k<l.length)->ah l[k].2):∀k,(hk:k<l.tail.length)->ah l.tail[k].2:=fun k hk=>by
 rw[List.getElem_tail]
 exact h _ _
theorem bD.slice {w:World}{B:Nat}{v:Value}{l:List af}(h:bD w B v l):∃a n cap,v=.slice a n cap:=by
 obtain⟨a,cap,rfl,_⟩:=h.len
 exact⟨_,_,_,rfl⟩
theorem GL {w:World}{b o:Nat}{l:List af}{it:af}(h:pg w (some ⟨b,o,none⟩) (l++[it]))(h0:0<l.length):pg w (some ⟨b,o+2,none⟩) (l.tail++[it]):=fun k hk=>by
 cases l with
 |nil=>simp at h0
 |cons y t=>
  obtain⟨b',o',ha,hlt,c0,v,c1,hv⟩:=h (k+1) (by simpa using hk)
  obtain⟨rfl,rfl⟩:b=b'/\o=o':=by simpa using ha
  have e:o+(k+1)*2=o+2+k*2:=by omega
  rw[e]at c0 c1
  exact⟨b,_,rfl,hlt,by simpa using c0,v,by simpa using c1,by simpa using hv⟩
theorem EM {l:List af}{x:Int}{m:List (ByteArray×Int)}(h:tC l)(hm:m.length<=1048576)(h4:l.length=4):tC (l.tail++[(x,m)]):=⟨by simp;omega,fun j hj=>by
 by_cases e:j<l.tail.length
 ·rw[List.getElem_append_left e,List.getElem_tail];exact h.2 _ _
 ·rw[List.getElem_append_right (by omega)]
  simp only[List.getElem_singleton]
  exact hm⟩
def Nl (w':World)(B:Nat)(l:List af)(x:Int)(m:List (ByteArray×Int))(e:Ending):Prop:=∃v r c,e=.returned (.tuple #[v,.int .i64 c])/\zf l x m r c/\bD w' B v r
set_option maxHeartbeats 3200000 in
theorem Dw (a:Option Addr)(cap:Nat)(l:List af)(x:Int)(am:Option Addr)(cm:Nat)(m:List (ByteArray×Int))(w:World)(hf:Be l)(hr:pg w a l)(hfm:uO m)(hcm:m.length<=cm)(hrm:Row w am m) :
  Calls Tryz.prog 82 #[.slice a l.length cap,.agg #[.int .i64 x,.slice am m.length cm]] w fun e w'=>Nl w' w.heap.size l x m e/\Below w.heap.size w w':=by
 have hl:=hf.1
 unfold maxLen at hl
 have hb0:Below w.heap.size w (w.alloc (.cells #[.int .i64 x,.slice am m.length cm] 34)):=(Below.refl _ _).alloc (Nat.le_refl _) _
 have d0:=box0 w (.int .i64 x) (.slice am m.length cm) 34
 have d1:=box1 w (.int .i64 x) (.slice am m.length cm) 34
 have hlt:=bP w (.cells #[.int .i64 x,.slice am m.length cm] 34)
 go_enter Tryz.func82,Tryz.ntmps82
 go_wp2_with fail
 generalize w.alloc (.cells #[.int .i64 x,.slice am m.length cm] 34)=W1 at *
 refine(og a cap l _ hf (hr.below hb0)).mono ?_
 rintro e w2 ⟨hE,b2⟩
 have B2:Below w.heap.size w w2:=hb0.trans (b2.mono hb0.size)
 have BW:Below W1.heap.size W1 w2:=b2
 have hzW:=BW.size
 have hrm1:=hrm.below hb0
 have hz1:=hb0.size
 replace d0:=ae b2 hlt d0
 replace d1:=ae b2 hlt d1
 have hlt2:w.heap.size<w2.heap.size:=Nat.lt_of_lt_of_le hlt b2.size
 clear hb0 b2 hrm
 rcases hE with⟨v,rfl,hp,hv⟩|⟨v,rfl,hp,hv⟩
 ·have HP:Hid (aX l):=hp
  clear hp
  obtain⟨x0,x1,x2,x3,a0,a1,a2,a3,n0,n1,n2,n3,c0,c1,c2,c3,rfl,hw⟩:=hv.laid
  have hW:=hw w2 BW.size
  have hbx:Below w2.heap.size w2 (w2.alloc (.cells #[.int .i64 x0,.slice a0 n0 c0,.int .i64 x1,.slice a1 n1 c1,.int .i64 x2,.slice a2 n2 c2,.int .i64 x3,.slice a3 n3 c3,.int .i64 0,.int .i64 l.length] 181)):=(Below.refl _ _).alloc (Nat.le_refl _) _
  have B3:=B2.trans (hbx.mono B2.size)
  have BW3:=BW.trans (hbx.mono BW.size)
  have D0:Hid _:=ae hbx hlt2 d0
  have D1:Hid _:=ae hbx hlt2 d1
  have hlt3:w.heap.size<(w2.alloc (.cells #[.int .i64 x0,.slice a0 n0 c0,.int .i64 x1,.slice a1 n1 c1,.int .i64 x2,.slice a2 n2 c2,.int .i64 x3,.slice a3 n3 c3,.int .i64 0,.int .i64 l.length] 181)).heap.size:=Nat.lt_of_lt_of_le hlt2 hbx.size
  clear hw hv hbx
  go_wp2_with fail
  have e0:=D0.out
  have e1:=D1.out
  clear D0 D1 d0 d1
  generalize w2.alloc (.cells #[.int .i64 x0,.slice a0 n0 c0,.int .i64 x1,.slice a1 n1 c1,.int .i64 x2,.slice a2 n2 c2,.int .i64 x3,.slice a3 n3 c3,.int .i64 0,.int .i64 l.length] 181)=W3 at *
  clear B2 BW
  refine(qw x am cm m _ (hrm1.below BW3) hfm).mono ?_
  rintro e w4 ⟨⟨r,rfl,hr4⟩,b4⟩
  have HR4:Hid (r=true↔ah m/\m≠[]):=hr4
  have B4:Below w.heap.size w w4:=B3.trans (b4.mono B3.size)
  have BW4:Below W1.heap.size W1 w4:=BW3.trans (b4.mono BW3.size)
  replace e0:=ae b4 hlt3 e0
  replace e1:=ae b4 hlt3 e1
  replace hW:=hW.below b4
  have hlt4:w.heap.size<w4.heap.size:=Nat.lt_of_lt_of_le hlt3 b4.size
  clear hr4 b4 B3 BW3
  cases r
  ·have HN:Hid (¬(aX l/\ah m/\m≠[])):=fun h=>by simpa using HR4.out.2 h.2
   clear HR4
   go_wp2_with fail
   exact bodyPost_ret (v:=.tuple #[.slice none 0 0,.int .i64 1]) (by simp[results,Tryz.results82,go_sem]) rfl ⟨⟨_,[],1,rfl,rJ HN.out,je _ _⟩,B4⟩
  ·have HM:Hid (aX l/\ah m/\m≠[]):=⟨HP.out,HR4.out.1 rfl⟩
   have HSL:Hid (∀k,(h:k<l.length)->ah l[k].2):=fun k h=>(HP.out.2.1 k h).1
   clear HR4
   go_wp2_with fail
   refine(su W1 w4 _ 0 l x _ m hW BW4 HSL.out ⟨am,cm,rfl,hcm,hrm1⟩ HM.out.2.1).mono ?_
   rintro e w5 ⟨⟨r,rfl,hr5⟩,b5⟩
   have HR5:Hid (r=true↔kz l m):=hr5
   have B5:Below w.heap.size w w5:=B4.trans (b5.mono B4.size)
   have BW5:Below W1.heap.size W1 w5:=BW4.trans (b5.mono BW4.size)
   replace e0:=ae b5 hlt4 e0
   replace e1:=ae b5 hlt4 e1
   replace hW:=hW.below b5
   have hz5:=B5.size
   clear hr5 b5 B4 BW4
   cases r
   ·have HN:Hid (¬kz l m):=fun h=>by simpa using HR5.out.2 h
    clear HR5
    go_wp2_with fail
    refine(tY W1 w5 _ 0 l hW BW5 HSL.out).mono ?_
    rintro e w6 ⟨⟨v,rfl,hg⟩,b6⟩
    have B6:Below w.heap.size w w6:=B5.trans (b6.mono B5.size)
    obtain⟨ag,cg,rfl,_⟩:=hg.len
    have HG:Hid (bD w6 w5.heap.size (.slice ag l.length cg) l):=hg
    clear hg b6 B5 e0 e1 hW
    go_wp2_with fail
    exact bodyPost_ret (v:=.tuple #[.slice ag l.length cg,.int .i64 2]) (by simp[results,Tryz.results82,go_sem]) rfl ⟨⟨_,l,2,rfl,Fj HM.out HN.out,HG.out.lower hz5⟩,B6⟩
   ·have HT:Hid (kz l m):=HR5.out.1 (by trivial)
    clear HR5
    by_cases h4:l.length<4
    ·have HPL:Hid (vV l (x,m)=l++[(x,m)]):=sK h4
     have HS6:Hid (∀k,(h:k<(l++[(x,m)]).length)->ah (l++[(x,m)])[k].2):=lX HSL.out HM.out.2.1
     go_wp2_with fail
     refine(push_room W1 w5 _ 0 l x _ m hW ⟨am,cm,rfl,hcm,hrm1⟩ h4).mono ?_
     rintro e w6 ⟨rfl,hW6,b6⟩
     have B6:Below w.heap.size w w6:=B5.trans (b6.below (by omega) hz5)
     have BW6:Below W1.heap.size W1 w6:=BW5.trans (b6.below (by omega) BW5.size)
     have hz6:=B6.size
     clear b6 B5 BW5 e0 e1 hW
     go_wp2_with fail
     refine(tY W1 w6 _ 0 (l++[(x,m)]) hW6 BW6 HS6.out).mono ?_
     rintro e w7 ⟨⟨v,rfl,hg⟩,b7⟩
     have B7:Below w.heap.size w w7:=B6.trans (b7.mono B6.size)
     obtain⟨ag,q,cg,rfl⟩:=hg.slice
     have HG:Hid (bD w7 w6.heap.size (.slice ag q cg) (l++[(x,m)])):=hg
     clear hg b7 B6 hW6
     go_wp2_with fail
     exact bodyPost_ret (v:=.tuple #[.slice ag q cg,.int .i64 0]) (by simp[results,Tryz.results82,go_sem]) rfl ⟨⟨_,l++[(x,m)],0,rfl,by rw[<- HPL.out];exact lL HM.out HT.out,HG.out.lower hz6⟩,B7⟩
    ·have HPL:Hid (vV l (x,m)=l.tail++[(x,m)]):=yV h4
     have HS6:Hid (∀k,(h:k<(l.tail++[(x,m)]).length)->ah (l.tail++[(x,m)])[k].2):=lX (ul HSL.out) HM.out.2.1
     go_wp2_with fail
     refine(push_full W1 w5 _ 0 l x _ m hW ⟨am,cm,rfl,hcm,hrm1⟩ (by have:=HP.out.1;omega)).mono ?_
     rintro e w6 ⟨rfl,hW6,b6⟩
     have B6:Below w.heap.size w w6:=B5.trans (b6.below (by omega) hz5)
     have BW6:Below W1.heap.size W1 w6:=BW5.trans (b6.below (by omega) BW5.size)
     have hz6:=B6.size
     clear b6 B5 BW5 e0 e1 hW
     go_wp2_with fail
     refine(tY W1 w6 _ ((0+1) % 4) (l.tail++[(x,m)]) hW6 BW6 HS6.out).mono ?_
     rintro e w7 ⟨⟨v,rfl,hg⟩,b7⟩
     have B7:Below w.heap.size w w7:=B6.trans (b7.mono B6.size)
     obtain⟨ag,q,cg,rfl⟩:=hg.slice
     have HG:Hid (bD w7 w6.heap.size (.slice ag q cg) (l.tail++[(x,m)])):=hg
     clear hg b7 B6 hW6
     go_wp2_with fail
     exact bodyPost_ret (v:=.tuple #[.slice ag q cg,.int .i64 0]) (by simp[results,Tryz.results82,go_sem]) rfl ⟨⟨_,l.tail++[(x,m)],0,rfl,by rw[<- HPL.out];exact lL HM.out HT.out,HG.out.lower hz6⟩,B7⟩
 ·have HN:Hid (¬(aX l/\ah m/\m≠[])):=fun h=>hp h.1
  obtain⟨x0,x1,x2,x3,a0,a1,a2,a3,n0,n1,n2,n3,c0,c1,c2,c3,rfl,hw⟩:=hv.laid
  clear hp hv hw
  go_wp2_with fail
  exact bodyPost_ret (v:=.tuple #[.slice none 0 0,.int .i64 1]) (by simp[results,Tryz.results82,go_sem]) rfl ⟨⟨_,[],1,rfl,rJ HN.out,je _ _⟩,B2.alloc B2.size _⟩
set_option maxHeartbeats 3200000 in
theorem BK (a:Option Addr)(cap:Nat)(l:List af)(x:Int)(am:Option Addr)(cm:Nat)(m:List (ByteArray×Int))(w:World)(hf:Be l)(hr:pg w a l)(hfm:uO m)(hrm:Row w am m) :
  Calls Tryz.prog 111 #[.slice a l.length cap,.agg #[.int .i64 x,.slice am m.length cm]] w fun e w'=>Nl w' w.heap.size l x m e/\Below w.heap.size w w':=by
 have hl:=hf.1
 unfold maxLen at hl
 have hb0:Below w.heap.size w (w.alloc (.cells #[.int .i64 x,.slice am m.length cm] 34)):=(Below.refl _ _).alloc (Nat.le_refl _) _
 have d0:=box0 w (.int .i64 x) (.slice am m.length cm) 34
 have d1:=box1 w (.int .i64 x) (.slice am m.length cm) 34
 have hlt:=bP w (.cells #[.int .i64 x,.slice am m.length cm] 34)
 go_enter Tryz.func111,Tryz.ntmps111
 go_wp2_with fail
 generalize w.alloc (.cells #[.int .i64 x,.slice am m.length cm] 34)=W1 at *
 refine(pR a cap l _ hf (hr.below hb0)).mono ?_
 rintro e w2 ⟨⟨r,rfl,hr2⟩,b2⟩
 have HR2:Hid (r=true↔aX l):=hr2
 have B2:Below w.heap.size w w2:=hb0.trans (b2.mono hb0.size)
 replace d0:=ae b2 hlt d0
 replace d1:=ae b2 hlt d1
 have hlt2:w.heap.size<w2.heap.size:=Nat.lt_of_lt_of_le hlt b2.size
 clear hb0 b2 hr2 hlt
 cases r
 ·have HN:Hid (¬(aX l/\ah m/\m≠[])):=fun h=>by simpa using HR2.out.2 h.1
  clear HR2
  go_wp2_with fail
  exact bodyPost_ret (v:=.tuple #[.slice none 0 0,.int .i64 1]) (by simp[results,Tryz.results111,go_sem]) rfl ⟨⟨_,[],1,rfl,rJ HN.out,je _ _⟩,B2⟩
 have HP:Hid (aX l):=HR2.out.1 rfl
 clear HR2
 go_wp2_with fail
 refine(fZ am cm m _ hfm.1 (hrm.below B2) hfm.2).mono ?_
 rintro e w3 ⟨⟨r,rfl,hr3⟩,b3⟩
 have HR3:Hid (r=true↔ah m):=hr3
 have B3:Below w.heap.size w w3:=B2.trans (b3.mono B2.size)
 replace d0:=ae b3 hlt2 d0
 replace d1:=ae b3 hlt2 d1
 have hlt3:w.heap.size<w3.heap.size:=Nat.lt_of_lt_of_le hlt2 b3.size
 clear b3 hr3 hlt2 B2
 cases r
 ·have HN:Hid (¬(aX l/\ah m/\m≠[])):=fun h=>by simpa using HR3.out.2 h.2.1
  clear HR3
  go_wp2_with fail
  exact bodyPost_ret (v:=.tuple #[.slice none 0 0,.int .i64 1]) (by simp[results,Tryz.results111,go_sem]) rfl ⟨⟨_,[],1,rfl,rJ HN.out,je _ _⟩,B3⟩
 have HSM:Hid (ah m):=HR3.out.1 rfl
 clear HR3
 by_cases hz:m.length=0
 ·have hz':((m.length:Int)==0)=true:=by rw[beq_iff_eq];omega
  have HN:Hid (¬(aX l/\ah m/\m≠[])):=fun h=>h.2.2 (List.length_eq_zero_iff.1 hz)
  clear hz
  go_wp2_with fail
  exact bodyPost_ret (v:=.tuple #[.slice none 0 0,.int .i64 1]) (by simp[results,Tryz.results111,go_sem]) rfl ⟨⟨_,[],1,rfl,rJ HN.out,je _ _⟩,B3⟩
 have hz':((m.length:Int)==0)=false:=by rw[beq_eq_false_iff_ne];omega
 have HM:Hid (aX l/\ah m/\m≠[]):=⟨HP.out,HSM.out,fun e=>hz (by rw[e];rfl)⟩
 clear hz HSM
 go_wp2_with fail
 refine(nD a cap l _ (yM HP.out) (hr.below B3)).mono ?_
 rintro e w4 ⟨⟨v,rfl,hg⟩,b4⟩
 have B4:Below w.heap.size w w4:=B3.trans (b4.mono B3.size)
 replace d0:=ae b4 hlt3 d0
 replace d1:=ae b4 hlt3 d1
 have hlt4:w.heap.size<w4.heap.size:=Nat.lt_of_lt_of_le hlt3 b4.size
 have hz3:=B3.size
 have hz4:=b4.size
 obtain⟨ag,cg,rfl,hcg⟩:=hg.len
 clear b4 B3
 by_cases h0:0<l.length
 ·obtain⟨b,o,rfl,hblt,f0,v,f1,⟨s2,t2,rfl,_,r2⟩⟩:=hr (l.length-1) (by omega)
  have fk:=hf.2 (l.length-1) (by omega)
  have k3:(0:Int)<=(l.length:Int)-1:=by omega
  have hkm:((l.length:Int)-1)=((l.length-1:Nat):Int):=by omega
  obtain⟨q,hq⟩:∃q:Bool,q=true↔eU (l[l.length-1]'(by omega)).2 m:=D6 _
  have HQ:Hid (q=true↔kz l m):=⟨fun h _=>hq.1 h,fun h=>hq.2 (h h0)⟩
  have HQ':Hid (q=true↔eU (l[l.length-1]'(by omega)).2 m):=hq
  have g0:=ae B4 hblt f0
  have g1:=ae B4 hblt f1
  have hb4:b<w4.heap.size:=Nat.lt_of_lt_of_le hblt B4.size
  have hne:=dA.some w4
  have r4:=r2.below B4
  have rm4:=hrm.below B4
  have ce:∀n:dA w4,Calls Tryz.prog 153 #[.agg #[.int .i64 (l[l.length-1]'(by omega)).1,.slice s2 (l[l.length-1]'(by omega)).2.length t2],.agg #[.int .i64 x,.slice am m.length cm]] n.w fun e w''=>e=.returned (.bool q)/\Below n.w.heap.size n.w w'':=fun n=>
   (uj _ _ s2 am t2 cm _ _ n.w fk hfm (r4.below n.h) (rm4.below n.h)).mono fun _ _ ⟨⟨q',he,hq'⟩,hb'⟩=>⟨by rw[he,show q'=q by rw[Bool.eq_iff_iff,hq',HQ'.out]],hb'⟩
  have q0:∀n:dA w4,n.w.cell? ⟨b,o+(l.length-1)*2,none⟩=some (.int .i64 (l[l.length-1]'(by omega)).1):=fun n=>n.cell hb4 g0
  have q1:∀n:dA w4,n.w.cell? ⟨b,o+(l.length-1)*2+1,none⟩=some (.slice s2 (l[l.length-1]'(by omega)).2.length t2):=fun n=>n.cell hb4 g1
  have q2:∀n:dA w4,n.w.cell? ⟨w.heap.size,0,none⟩=some (.int .i64 x):=fun n=>n.cell hlt4 d0
  have q3:∀n:dA w4,n.w.cell? ⟨w.heap.size,1,none⟩=some (.slice am m.length cm):=fun n=>n.cell hlt4 d1
  clear hq f0 f1
  go_wp2_with fail
  refine aF (by kernel_rfl) (by kernel_rfl) ?_
  repeat (go_big_quiet_step ((go_at_call 153;exact Calls.lat_of (ce _))))
  refine wpQuiet_nil ?_
  rintro _ ⟨nq,rfl⟩
  have B5:Below w.heap.size w nq.w:=B4.trans (nq.h.mono B4.size)
  have hg5:=hg.keep nq.h
  have hz45:=nq.h.size
  have e0:=q2 nq
  have e1:=q3 nq
  clear ce q0 q1 q2 q3 hg g0 g1 HQ' r4 rm4
  cases q
  ·have HN:Hid (¬kz l m):=fun h=>by simpa using HQ.out.2 h
   have HG:Hid (bD nq.w w3.heap.size (.slice ag l.length cg) l):=hg5
   clear HQ hg5
   go_wp2_with fail
   exact bodyPost_ret (v:=.tuple #[.slice ag l.length cg,.int .i64 2]) (by simp[results,Tryz.results111,go_sem]) rfl ⟨⟨_,l,2,rfl,Fj HM.out HN.out,HG.out.lower hz3⟩,B5⟩
  ·have HT:Hid (kz l m):=HQ.out.1 rfl
   clear HQ
   go_wp2_with fail
   have SW:((nq.w).drew).cell? ⟨w.heap.size,0,none⟩=some (.int .i64 x)/\((nq.w).drew).cell? ⟨w.heap.size,1,none⟩=some (.slice am m.length cm):=⟨e0,e1⟩
   have hz5:=B5.size
   have rm5:=hrm.below B5
   have hbd:Below (nq.w).heap.size (nq.w) (nq.w).drew:=(Below.refl _ _).drew
   have hm12:m.length<=1048576:=by have:=HM.out.2.1.1;omega
   have hll:l.length<=1048576:=by have:=HP.out.1;omega
   refine wp_region_held_drew (S:=fun u=>u.cell? ⟨w.heap.size,0,none⟩=some (.int .i64 x)/\u.cell? ⟨w.heap.size,1,none⟩=some (.slice am m.length cm)) (by kernel_rfl) SW (fun _=>?_)
   refine wpAnyH_take (i:=0) (v:=.slice ag l.length cg) rfl (by kernel_rfl) (by kernel_rfl) (by kernel_rfl) (fun _ _ _ h=>h) (Or.inl ⟨by rfl, ?_⟩) SW ?_
   ·rintro u ⟨q1,q2⟩
    go_simp
   simp only[Act.put,List.setIfInBounds_toArray]
   refine wpAnyH_take (i:=1) (v:=.pointer (some ⟨w.heap.size,0,none⟩)) rfl (by kernel_rfl) (by kernel_rfl) (by kernel_rfl) (fun _ _ _ h=>h) (Or.inl ⟨by rfl, ?_⟩) SW ?_
   ·rintro u ⟨q1,q2⟩
    go_simp
   simp only[Act.put]
   refine wpAnyH_take (i:=2) (v:=.int .i64 x) rfl (by kernel_rfl) (by kernel_rfl) (by kernel_rfl) (fun _ _ _ h=>h) (Or.inl ⟨by rfl, ?_⟩) SW ?_
   ·rintro u ⟨q1,q2⟩
    go_simp
   simp only[Act.put]
   refine wpAnyH_take (i:=3) (v:=.pointer (some ⟨w.heap.size,1,none⟩)) rfl (by kernel_rfl) (by kernel_rfl) (by kernel_rfl) (fun _ _ _ h=>h) (Or.inl ⟨by rfl, ?_⟩) SW ?_
   ·rintro u ⟨q1,q2⟩
    go_simp
   simp only[Act.put]
   refine wpAnyH_take (i:=4) (v:=.slice am m.length cm) rfl (by kernel_rfl) (by kernel_rfl) (by kernel_rfl) (fun _ _ _ h=>h) (Or.inl ⟨by rfl, ?_⟩) SW ?_
   ·rintro u ⟨q1,q2⟩
    go_simp
   simp only[Act.put]
   refine wpAnyH_ready (rs:=[5]) (by kernel_rfl) (by simp) ?_
   refine AllReadyH.cons rfl (fun K hK=>?_) AllReadyH.nil
   rw[if_pos (by rfl)]
   go_simp
   refine(eQ am cm m _ (rm5.below hbd) hm12).mono ?_
   rintro e w6 ⟨⟨gm,cq,rfl,hgm,hcm,ho⟩,b6⟩
   have b6':Below (nq.w).heap.size (nq.w) w6:=hbd.trans (b6.mono hbd.size)
   have B6:Below w.heap.size w w6:=B5.trans (b6'.mono hz5)
   have hgm':(nq.w).heap.size<=gm:=hgm
   have hw5:w.heap.size<(nq.w).heap.size:=block_lt_of_cell e0
   have S2:w6.cell? ⟨w.heap.size,0,none⟩=some (.int .i64 x)/\w6.cell? ⟨w.heap.size,1,none⟩=some (.slice am m.length cm):=⟨ae b6' hw5 e0,ae b6' hw5 e1⟩
   refine hK.out _ _ S2 (fun _=>?_)
   clear hK K b6 SW hbd
   refine wpAnyH_take (i:=6) (v:=.agg #[.int .i64 x,.slice (some ⟨gm,0,none⟩) m.length cq]) rfl (by kernel_rfl) (by kernel_rfl) (by kernel_rfl) (fun _ _ _ h=>h) (Or.inl ⟨by rfl, ?_⟩) S2 ?_
   ·rintro u ⟨q1,q2⟩
    go_simp
   simp only[Act.put,List.setIfInBounds_toArray]
   refine wpAnyH_ready (rs:=[7]) (by kernel_rfl) (by simp) ?_
   refine AllReadyH.cons rfl (fun K hK=>?_) AllReadyH.nil
   rw[if_pos (by rfl)]
   go_simp
   have b7:Below (nq.w).heap.size (nq.w) (w6.alloc (.cells #[.int .i64 x,.slice (some ⟨gm,0,none⟩) m.length cq] 34)):=b6'.alloc b6'.size _
   have S3:(w6.alloc (.cells #[.int .i64 x,.slice (some ⟨gm,0,none⟩) m.length cq] 34)).cell? ⟨w.heap.size,0,none⟩=some (.int .i64 x)/\(w6.alloc (.cells #[.int .i64 x,.slice (some ⟨gm,0,none⟩) m.length cq] 34)).cell? ⟨w.heap.size,1,none⟩=some (.slice am m.length cm):=⟨ae b7 hw5 e0,ae b7 hw5 e1⟩
   have hbx:Below w6.heap.size w6 (w6.alloc (.cells #[.int .i64 x,.slice (some ⟨gm,0,none⟩) m.length cq] 34)):=(Below.refl _ _).alloc (Nat.le_refl _) _
   have B7:Below w.heap.size w (w6.alloc (.cells #[.int .i64 x,.slice (some ⟨gm,0,none⟩) m.length cq] 34)):=B6.trans (hbx.mono B6.size)
   refine hK.out _ _ S3 (fun _=>?_)
   clear hK K
   refine wpAnyH_ready (rs:=[8]) (by kernel_rfl) (by simp) ?_
   refine AllReadyH.cons rfl (fun K hK=>?_) AllReadyH.nil
   rw[if_pos (by rfl)]
   refine iU _ _ rfl (nq.w) w3.heap.size _ l rfl hg5 b7 (by omega) w6.heap.size x m gm cq rfl (box0 _ _ _ _) (box1 _ _ _ _) (ho.below hbx) hgm' hcm hll ?_
   intro v' w8 hg8 b8
   have B8:Below w.heap.size w w8:=B7.trans (b8.mono hz3)
   have S4:w8.cell? ⟨w.heap.size,0,none⟩=some (.int .i64 x)/\w8.cell? ⟨w.heap.size,1,none⟩=some (.slice am m.length cm):=⟨(b8.cell (p:=⟨w.heap.size,0,none⟩) hlt3).trans S3.1,(b8.cell (p:=⟨w.heap.size,1,none⟩) hlt3).trans S3.2⟩
   refine hK.out _ _ S4 (fun _=>?_)
   clear hK K
   refine wpAnyH_ready (rs:=[9]) (by kernel_rfl) (by simp) ?_
   refine AllReadyH.cons rfl (fun K hK=>?_) AllReadyH.nil
   rw[if_pos (by rfl)]
   go_simp
   refine hK.out _ _ S4 (fun _=>?_)
   clear hK K
   refine wpAnyH_done (by kernel_rfl) ?_ _
   obtain⟨a8,c8,rfl,hc8⟩:=hg8.len
   clear S2 S3 S4 b6' b7 b8 hbx B6 B7 ho e0 e1 hg5 rm5
   have hlen:(l++[(x,m)]).length=l.length+1:=by simp
   rw[hlen]at hg8
   rw[hlen]
   have hcl:(((l.length+1:Nat):Int))=(l.length:Int)+1:=by omega
   by_cases h4:l.length<4
   ·have HPL:Hid (vV l (x,m)=l++[(x,m)]):=sK h4
    have HG:Hid (bD w8 w3.heap.size (.slice a8 (l.length+1) c8) (l++[(x,m)])):=hg8
    clear hg8 hlen hc8
    go_wp2_with fail
    exact bodyPost_ret (v:=.tuple #[.slice a8 (l.length+1) c8,.int .i64 0]) (by simp[results,Tryz.results111,go_sem]) rfl ⟨⟨_,l++[(x,m)],0,rfl,by rw[<- HPL.out];exact lL HM.out HT.out,HG.out.lower hz3⟩,B8⟩
   ·have HPL:Hid (vV l (x,m)=l.tail++[(x,m)]):=yV h4
    have h4':l.length=4:=by have:=HP.out.1;omega
    obtain⟨ga,gc,hge,_,hsa⟩:=hg8.safe
    obtain⟨rfl,rfl⟩:a8=ga/\c8=gc:=by
     rw[hlen]at hge
     simpa using hge
    obtain⟨g8,rfl⟩:∃g8,a8=some ⟨g8,0,none⟩:=by
     rcases hsa with hs|⟨g,hg,_⟩
     ·simp at hs
     ·exact⟨g,hg⟩
    have hrt:=GL (l:=l) hsa.row (by omega)
    have hsm:tC (l.tail++[(x,m)]):=EM (yM HP.out) hm12 h4'
    have hlt':(l.tail++[(x,m)]).length=4:=by simp;omega
    rw[hlen]at hc8
    clear hg8 hlen hsa hge
    go_wp2_with fail
    have hcall:=nD (some ⟨g8,2,none⟩) (c8-1) (l.tail++[(x,m)]) w8 hsm hrt
    rw[hlt']at hcall
    refine hcall.mono ?_
    rintro e w9 ⟨⟨v,rfl,hg9⟩,b9⟩
    have B9:Below w.heap.size w w9:=B8.trans (b9.mono B8.size)
    have hz8:=B8.size
    obtain⟨a9,q9,c9,rfl⟩:=hg9.slice
    have HG:Hid (bD w9 w8.heap.size (.slice a9 q9 c9) (l.tail++[(x,m)])):=hg9
    clear hg9 b9 hcall hrt hsm
    go_wp2_with fail
    exact bodyPost_ret (v:=.tuple #[.slice a9 q9 c9,.int .i64 0]) (by simp[results,Tryz.results111,go_sem]) rfl ⟨⟨_,l.tail++[(x,m)],0,rfl,by rw[<- HPL.out];exact lL HM.out HT.out,HG.out.lower hz8⟩,B9⟩
 ·obtain rfl:l=[]:=List.length_eq_zero_iff.1 (by omega)
  have HT:Hid (kz [] m):=fun h=>absurd h (by simp)
  go_wp2_with fail
  go_quiet (fail)
  go_wp2_with fail
  have b5:Below w4.heap.size w4 (w4.drewN nq):=below_drewN (Below.refl _ _) _
  have e0:=ae b5 hlt4 d0
  have e1:=ae b5 hlt4 d1
  replace hg:=hg.keep b5
  replace B4:=B4.trans (b5.mono B4.size)
  have hz45:=b5.size
  generalize w4.drewN nq=W5 at *
  clear b5 d0 d1
  have SW:((W5).drew).cell? ⟨w.heap.size,0,none⟩=some (.int .i64 x)/\((W5).drew).cell? ⟨w.heap.size,1,none⟩=some (.slice am m.length cm):=⟨e0,e1⟩
  have hz5:=B4.size
  have rm5:=hrm.below B4
  have hbd:Below (W5).heap.size (W5) (W5).drew:=(Below.refl _ _).drew
  have hm12:m.length<=1048576:=by have:=HM.out.2.1.1;omega
  have hll:([]:List af).length<=1048576:=by simp
  refine wp_region_held_drew (S:=fun u=>u.cell? ⟨w.heap.size,0,none⟩=some (.int .i64 x)/\u.cell? ⟨w.heap.size,1,none⟩=some (.slice am m.length cm)) (by kernel_rfl) SW (fun _=>?_)
  refine wpAnyH_take (i:=0) (v:=.slice ag 0 cg) rfl (by kernel_rfl) (by kernel_rfl) (by kernel_rfl) (fun _ _ _ h=>h) (Or.inl ⟨by rfl, ?_⟩) SW ?_
  ·rintro u ⟨q1,q2⟩
   go_simp
  simp only[Act.put,List.setIfInBounds_toArray]
  refine wpAnyH_take (i:=1) (v:=.pointer (some ⟨w.heap.size,0,none⟩)) rfl (by kernel_rfl) (by kernel_rfl) (by kernel_rfl) (fun _ _ _ h=>h) (Or.inl ⟨by rfl, ?_⟩) SW ?_
  ·rintro u ⟨q1,q2⟩
   go_simp
  simp only[Act.put]
  refine wpAnyH_take (i:=2) (v:=.int .i64 x) rfl (by kernel_rfl) (by kernel_rfl) (by kernel_rfl) (fun _ _ _ h=>h) (Or.inl ⟨by rfl, ?_⟩) SW ?_
  ·rintro u ⟨q1,q2⟩
   go_simp
  simp only[Act.put]
  refine wpAnyH_take (i:=3) (v:=.pointer (some ⟨w.heap.size,1,none⟩)) rfl (by kernel_rfl) (by kernel_rfl) (by kernel_rfl) (fun _ _ _ h=>h) (Or.inl ⟨by rfl, ?_⟩) SW ?_
  ·rintro u ⟨q1,q2⟩
   go_simp
  simp only[Act.put]
  refine wpAnyH_take (i:=4) (v:=.slice am m.length cm) rfl (by kernel_rfl) (by kernel_rfl) (by kernel_rfl) (fun _ _ _ h=>h) (Or.inl ⟨by rfl, ?_⟩) SW ?_
  ·rintro u ⟨q1,q2⟩
   go_simp
  simp only[Act.put]
  refine wpAnyH_ready (rs:=[5]) (by kernel_rfl) (by simp) ?_
  refine AllReadyH.cons rfl (fun K hK=>?_) AllReadyH.nil
  rw[if_pos (by rfl)]
  go_simp
  refine(eQ am cm m _ (rm5.below hbd) hm12).mono ?_
  rintro e w6 ⟨⟨gm,cq,rfl,hgm,hcm,ho⟩,b6⟩
  have b6':Below (W5).heap.size (W5) w6:=hbd.trans (b6.mono hbd.size)
  have B6:Below w.heap.size w w6:=B4.trans (b6'.mono hz5)
  have hgm':(W5).heap.size<=gm:=hgm
  have hw5:w.heap.size<(W5).heap.size:=block_lt_of_cell e0
  have S2:w6.cell? ⟨w.heap.size,0,none⟩=some (.int .i64 x)/\w6.cell? ⟨w.heap.size,1,none⟩=some (.slice am m.length cm):=⟨ae b6' hw5 e0,ae b6' hw5 e1⟩
  refine hK.out _ _ S2 (fun _=>?_)
  clear hK K b6 SW hbd
  refine wpAnyH_take (i:=6) (v:=.agg #[.int .i64 x,.slice (some ⟨gm,0,none⟩) m.length cq]) rfl (by kernel_rfl) (by kernel_rfl) (by kernel_rfl) (fun _ _ _ h=>h) (Or.inl ⟨by rfl, ?_⟩) S2 ?_
  ·rintro u ⟨q1,q2⟩
   go_simp
  simp only[Act.put,List.setIfInBounds_toArray]
  refine wpAnyH_ready (rs:=[7]) (by kernel_rfl) (by simp) ?_
  refine AllReadyH.cons rfl (fun K hK=>?_) AllReadyH.nil
  rw[if_pos (by rfl)]
  go_simp
  have b7:Below (W5).heap.size (W5) (w6.alloc (.cells #[.int .i64 x,.slice (some ⟨gm,0,none⟩) m.length cq] 34)):=b6'.alloc b6'.size _
  have S3:(w6.alloc (.cells #[.int .i64 x,.slice (some ⟨gm,0,none⟩) m.length cq] 34)).cell? ⟨w.heap.size,0,none⟩=some (.int .i64 x)/\(w6.alloc (.cells #[.int .i64 x,.slice (some ⟨gm,0,none⟩) m.length cq] 34)).cell? ⟨w.heap.size,1,none⟩=some (.slice am m.length cm):=⟨ae b7 hw5 e0,ae b7 hw5 e1⟩
  have hbx:Below w6.heap.size w6 (w6.alloc (.cells #[.int .i64 x,.slice (some ⟨gm,0,none⟩) m.length cq] 34)):=(Below.refl _ _).alloc (Nat.le_refl _) _
  have B7:Below w.heap.size w (w6.alloc (.cells #[.int .i64 x,.slice (some ⟨gm,0,none⟩) m.length cq] 34)):=B6.trans (hbx.mono B6.size)
  refine hK.out _ _ S3 (fun _=>?_)
  clear hK K
  refine wpAnyH_ready (rs:=[8]) (by kernel_rfl) (by simp) ?_
  refine AllReadyH.cons rfl (fun K hK=>?_) AllReadyH.nil
  rw[if_pos (by rfl)]
  refine iU _ _ rfl (W5) w3.heap.size _ [] rfl hg b7 (by omega) w6.heap.size x m gm cq rfl (box0 _ _ _ _) (box1 _ _ _ _) (ho.below hbx) hgm' hcm hll ?_
  intro v' w8 hg8 b8
  have B8:Below w.heap.size w w8:=B7.trans (b8.mono hz3)
  have S4:w8.cell? ⟨w.heap.size,0,none⟩=some (.int .i64 x)/\w8.cell? ⟨w.heap.size,1,none⟩=some (.slice am m.length cm):=⟨(b8.cell (p:=⟨w.heap.size,0,none⟩) hlt3).trans S3.1,(b8.cell (p:=⟨w.heap.size,1,none⟩) hlt3).trans S3.2⟩
  refine hK.out _ _ S4 (fun _=>?_)
  clear hK K
  refine wpAnyH_ready (rs:=[9]) (by kernel_rfl) (by simp) ?_
  refine AllReadyH.cons rfl (fun K hK=>?_) AllReadyH.nil
  rw[if_pos (by rfl)]
  go_simp
  refine hK.out _ _ S4 (fun _=>?_)
  clear hK K
  refine wpAnyH_done (by kernel_rfl) ?_ _
  obtain⟨a8,c8,rfl,hc8⟩:=hg8.len
  clear S2 S3 S4 b6' b7 b8 hbx B6 B7 ho e0 e1 hg rm5
  have HPL:Hid (vV [] (x,m)=[]++[(x,m)]):=sK (by simp)
  have HG:Hid (bD w8 w3.heap.size (.slice a8 1 c8) ([]++[(x,m)])):=hg8
  clear hg8 hc8
  go_wp2_with fail
  exact bodyPost_ret (v:=.tuple #[.slice a8 1 c8,.int .i64 0]) (by simp[results,Tryz.results111,go_sem]) rfl ⟨⟨_,[]++[(x,m)],0,rfl,by rw[<- HPL.out];exact lL HM.out HT.out,HG.out.lower hz3⟩,B8⟩
def gu (l:List af):Prop:=l.length<=5/\∀j,(hj:j<l.length)->ah l[j].2
theorem gu.fit {l:List af}(h:gu l):Be l:=⟨by have:=h.1;unfold maxLen;omega,fun j hj=>dH (h.2 j hj)⟩
theorem gu.small {l:List af}(h:gu l):tC l:=⟨by have:=h.1;omega,fun j hj=>by have:=(h.2 j hj).1;omega⟩
theorem qm {l:List af}{x:Int}{m:List (ByteArray×Int)}{r:List af}{c:Int}(h:zf l x m r c):gu r:=by
 by_cases hp:aX l/\ah m/\m≠[]
 ·have hs:∀k,(h:k<l.length)->ah l[k].2:=fun k hk=>(hp.1.2.1 k hk).1
  have h4:=hp.1.1
  by_cases ht:kz l m
  ·rw[(h.2.2 hp ht).1]
   unfold vV
   split
   ·exact⟨by simp;omega,lX hs hp.2.1⟩
   ·exact⟨by simp;omega,lX (ul hs) hp.2.1⟩
  ·rw[(h.2.1 hp ht).1]
   exact⟨by omega,hs⟩
 ·rw[(h.1 hp).1]
  exact⟨by simp,fun j hj=>absurd hj (Nat.not_lt_zero j)⟩
end Go.Proofs.YtpfhegengmlkmabGreatDoor
namespace Go.Proofs.YtpfhegengmlkmabGreatDoor
def MM (ws:List (List af))(ps:List Int)(k:Nat):Int:=((ws.getD k []).getD (ps.getD k 0).toNat (0,[])).1
def bZ (ws:List (List af))(ps:List Int):List Int:=(List.range ps.length).map (MM ws ps)
theorem gX (ws:List (List af))(ps:List Int):(bZ ws ps).length=ps.length:=by simp[bZ]
def fF:aB:=⟨[],[],[]⟩
def DR (g:aB)(i:Int):Prop:=lS g/\0<=i/\i<(g.ins.length:Int)
def jJ (ws:List (List af))(sh:List (ByteArray×Int))(sh':List (ByteArray×Int))(sv:List Int)(ss:List (ByteArray×Int))(code:Int):Prop:=
 ∃out ok,fC ws out ok/\((ok=false/\sh'=sh/\sv=[]/\ss=[]/\code=0)∨(ok=true/\∃j okj,qf ws out j okj /\
  ((okj=false/\sh'=sh/\sv=[]/\ss=[]/\code=4)∨(okj=true/\∃o,kC sh j o /\
   ((o≠1/\sh'=sh/\sv=[]/\ss=[]/\code=0)∨(o=1/\sh'=j/\sv=bZ ws out/\ss=j/\code=1))))))
theorem jJ.one {ws:List (List af)}{sh s1 s2 t1 t2:List (ByteArray×Int)}{v1 v2:List Int}{c1 c2:Int}(h:jJ ws sh s1 v1 t1 c1)(k:jJ ws sh s2 v2 t2 c2):s1=s2/\v1=v2/\t1=t2/\c1=c2:=by
 obtain⟨o1,k1,b1,h⟩:=h
 obtain⟨o2,k2,b2,k⟩:=k
 obtain⟨rfl,rfl⟩:=b1.one b2
 rcases h with⟨rfl,rfl,rfl,rfl,rfl⟩|⟨rfl,j1,x1,i1,h⟩
 ·rcases k with⟨_,rfl,rfl,rfl,rfl⟩|⟨e,_⟩
  ·exact⟨rfl,rfl,rfl,rfl⟩
  ·cases e
 ·rcases k with⟨e,_⟩|⟨_,j2,x2,i2,k⟩
  ·cases e
  ·obtain⟨rfl,rfl⟩:=i1.one i2
   rcases h with⟨rfl,rfl,rfl,rfl,rfl⟩|⟨rfl,p1,q1,h⟩
   ·rcases k with⟨_,rfl,rfl,rfl,rfl⟩|⟨e,_⟩
    ·exact⟨rfl,rfl,rfl,rfl⟩
    ·cases e
   ·rcases k with⟨e,_⟩|⟨_,p2,q2,k⟩
    ·cases e
    ·obtain rfl:=q1.one q2
     rcases h with⟨h1,rfl,rfl,rfl,rfl⟩|⟨h1,rfl,rfl,rfl,rfl⟩
     ·rcases k with⟨_,rfl,rfl,rfl,rfl⟩|⟨k1,_⟩
      ·exact⟨rfl,rfl,rfl,rfl⟩
      ·exact absurd k1 h1
     ·rcases k with⟨k1,_⟩|⟨_,rfl,rfl,rfl,rfl⟩
      ·exact absurd h1 k1
      ·exact⟨rfl,rfl,rfl,rfl⟩
def mi (g:aB)(i x:Int)(m:List (ByteArray×Int))(g':aB)(sv:List Int)(ss:List (ByteArray×Int))(code:Int):Prop:=
 (¬DR g i/\g'=fF/\sv=[]/\ss=[]/\code=2)∨(DR g i/\∃r c,zf (g.wins.getD i.toNat []) x m r c /\
  ((c=1/\g'=fF/\sv=[]/\ss=[]/\code=2)∨(c=2/\g'=g/\sv=[]/\ss=[]/\code=3) ∨
   (c=0/\∃sh,jJ (g.wins.set i.toNat r) g.shown sh sv ss code/\g'=⟨g.ins,g.wins.set i.toNat r,sh⟩)))
theorem mi.one {g g1 g2:aB}{i x c1 c2:Int}{m s1 s2:List (ByteArray×Int)}{v1 v2:List Int}(h:mi g i x m g1 v1 s1 c1)(k:mi g i x m g2 v2 s2 c2):g1=g2/\v1=v2/\s1=s2/\c1=c2:=by
 rcases h with⟨h0,rfl,rfl,rfl,rfl⟩|⟨h0,r1,d1,p1,h⟩
 ·rcases k with⟨_,rfl,rfl,rfl,rfl⟩|⟨k0,_⟩
  ·exact⟨rfl,rfl,rfl,rfl⟩
  ·exact absurd k0 h0
 ·rcases k with⟨k0,_⟩|⟨_,r2,d2,p2,k⟩
  ·exact absurd h0 k0
  ·obtain⟨rfl,rfl⟩:=p1.one p2
   rcases h with⟨rfl,rfl,rfl,rfl,rfl⟩|⟨rfl,rfl,rfl,rfl,rfl⟩|⟨rfl,sh1,q1,rfl⟩
   ·rcases k with⟨_,rfl,rfl,rfl,rfl⟩|⟨e,_⟩|⟨e,_⟩
    ·exact⟨rfl,rfl,rfl,rfl⟩
    ·omega
    ·omega
   ·rcases k with⟨e,_⟩|⟨_,rfl,rfl,rfl,rfl⟩|⟨e,_⟩
    ·omega
    ·exact⟨rfl,rfl,rfl,rfl⟩
    ·omega
   ·rcases k with⟨e,_⟩|⟨e,_⟩|⟨_,sh2,q2,rfl⟩
    ·omega
    ·omega
    ·obtain⟨rfl,rfl,rfl,rfl⟩:=q1.one q2
     exact⟨rfl,rfl,rfl,rfl⟩
theorem ig {α:Type}(l:List α)(d:α){k:Nat}(h:k<l.length):l.getD k d=l[k]:=by simp[List.getD,h]
theorem uy {l:List af}(h:aX l):gu l:=⟨by have:=h.1;omega,fun j hj=>(h.2.1 j hj).1⟩
theorem qy {ws:List (List af)}{k:Nat}{r:List af}(h:∀l∈ws,gu l)(hr:gu r):∀l∈ws.set k r,gu l:=fun l hl=>by
 rcases List.mem_or_eq_of_mem_set hl with h1|h1
 ·exact h l h1
 ·exact h1 ▸ hr
theorem nV {ws:List (List af)}(h6:ws.length<=6)(h:∀l∈ws,gu l):wM ws:=⟨by unfold maxLen;omega,fun j hj=>(h _ (List.getElem_mem hj)).fit⟩
structure nS (g:aB):Prop where
 ins:g.ins.length<=6
 names:∀j,(h:j<g.ins.length)->g.ins[j].size<=8
 wins:g.wins.length<=6
 items:∀l∈g.wins,gu l
 shown:ah g.shown
theorem oz:nS fF:=⟨by simp[fF],fun j hj=>by simp[fF]at hj,by simp[fF],fun l hl=>by simp[fF]at hl,bK⟩
theorem lS.nice {g:aB}(h:lS g):nS g:=by
 refine⟨h.ins.2.1,fun j hj=>(h.ins.2.2 j hj).1.2.1, ?_,fun l hl=>?_,h.shown⟩
 ·have:=h.ins.2.1;have:=h.len;omega
 ·obtain⟨j,hj,rfl⟩:=List.mem_iff_getElem.1 hl
  exact uy (h.wins.2.2 j hj)
theorem Af {ws:List (List af)}{out:List Int}(h:fC ws out true):oQ ws out:=by
 rcases h with⟨_,h,_⟩|⟨e,_⟩
 ·exact h
 ·cases e
theorem jJ.nice {ws:List (List af)}{sh s1 t1:List (ByteArray×Int)}{v1:List Int}{c1:Int}(h:jJ ws sh s1 v1 t1 c1)(hs:ah sh):ah s1/\v1.length<=6/\ah t1:=by
 obtain⟨o1,k1,b1,h⟩:=h
 rcases h with⟨rfl,rfl,rfl,rfl,rfl⟩|⟨rfl,j1,x1,i1,h⟩
 ·exact⟨hs,by simp,bK⟩
 ·have hc:=Af b1
  have hl:o1.length<=6:=by have:=hc.2.1;have:=hc.1.2.1;omega
  rcases h with⟨rfl,rfl,rfl,rfl,rfl⟩|⟨rfl,p1,q1,h⟩
  ·exact⟨hs,by simp,bK⟩
  ·rcases h with⟨h1,rfl,rfl,rfl,rfl⟩|⟨h1,rfl,rfl,rfl,rfl⟩
   ·exact⟨hs,by simp,bK⟩
   ·exact⟨i1.stamp,by rw[gX];exact hl,i1.stamp⟩
theorem mi.nice {g g1:aB}{i x c1:Int}{m s1:List (ByteArray×Int)}{v1:List Int}(h:mi g i x m g1 v1 s1 c1):nS g1/\v1.length<=6/\ah s1:=by
 rcases h with⟨h0,rfl,rfl,rfl,rfl⟩|⟨h0,r1,d1,p1,h⟩
 ·exact⟨oz,by simp,bK⟩
 ·have hn:=h0.1.nice
  rcases h with⟨rfl,rfl,rfl,rfl,rfl⟩|⟨rfl,rfl,rfl,rfl,rfl⟩|⟨rfl,sh1,q1,rfl⟩
  ·exact⟨oz,by simp,bK⟩
  ·exact⟨hn,by simp,bK⟩
  ·have hc:=q1.nice hn.shown
   exact⟨⟨hn.ins,hn.names,by simpa using hn.wins,qy hn.items (qm p1),hc.1⟩,hc.2⟩
end Go.Proofs.YtpfhegengmlkmabGreatDoor
