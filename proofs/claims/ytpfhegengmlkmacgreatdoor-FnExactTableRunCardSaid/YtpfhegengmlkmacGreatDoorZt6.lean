/- Texts of this claim. -/
import Derived.Test.YtpfhegengmlkmacGreatDoorZt5
namespace Go.Proofs.YtpfhegengmlkmacGreatDoor
theorem pk_eq {ws:List (List ItemL)} {ps:List Int} (hin:InW ws ps) {i:Nat} (hi:i < ps.length) (hw:i < ws.length):∃ h:ps[i].toNat < ws[i].length,pkM ws ps i=(ws[i][ps[i].toNat]).2:=by
 obtain ⟨h0,h1⟩:=hin.2 i hi
 have e:ws.getD i []=ws[i]:=by simp [List.getD,hw]
 have e2:ps.getD i 0=ps[i]:=by simp [List.getD,hi]
 rw [e] at h1
 have h:ps[i].toNat < ws[i].length:=by omega
 refine ⟨h, ?_⟩
 unfold pkM
 rw [e,e2]
 simp [List.getD,h]
theorem chP_max {ws:List (List ItemL)} {a b:List Int} (ha:ChP ws a) (hb:ChP ws b):ChP ws (List.zipWith max a b):=by
 obtain ⟨hok,la,ia,ga⟩:=ha
 obtain ⟨_,lb,ib,gb⟩:=hb
 have hl:(List.zipWith max a b).length=ws.length:=by simp [la,lb]
 have hin:InW ws (List.zipWith max a b):=by
  refine ⟨by omega,fun i hi=>?_⟩
  have hia:i < a.length:=by omega
  have hib:i < b.length:=by omega
  have h1:=ia.2 i hia
  have h2:=ib.2 i hib
  rw [List.getElem_zipWith]
  omega
 refine ⟨hok,hl,hin,fun i k hk hi=>?_⟩
 rw [hl] at hi
 have hkw:k < ws.length:=by omega
 obtain ⟨p1,e1⟩:=pk_eq hin (i:=i) (by omega) hi
 obtain ⟨p2,e2⟩:=pk_eq hin (i:=k) (by omega) hkw
 obtain ⟨q1,f1⟩:=pk_eq ia (i:=i) (by omega) hi
 obtain ⟨q2,f2⟩:=pk_eq ia (i:=k) (by omega) hkw
 obtain ⟨r1,g1⟩:=pk_eq ib (i:=i) (by omega) hi
 obtain ⟨r2,g2⟩:=pk_eq ib (i:=k) (by omega) hkw
 have A:=ga i k hk (by omega)
 have B:=gb i k hk (by omega)
 rw [f1,f2] at A
 rw [g1,g2] at B
 have L:=later_agrees (hok.2.2 i hi) (hok.2.2 k hkw) q1 r1 q2 r2 A B
 rw [e1,e2]
 have m1:((List.zipWith max a b)[i]'(by omega)).toNat=max (a[i]'(by omega)).toNat (b[i]'(by omega)).toNat:=by
  have h1:=ia.2 i (by omega)
  have h2:=ib.2 i (by omega)
  rw [List.getElem_zipWith]
  omega
 have m2:((List.zipWith max a b)[k]'(by omega)).toNat=max (a[k]'(by omega)).toNat (b[k]'(by omega)).toNat:=by
  have h1:=ia.2 k (by omega)
  have h2:=ib.2 k (by omega)
  rw [List.getElem_zipWith]
  omega
 simp only [m1,m2]
 exact L
def BestP (ws:List (List ItemL)) (out:List Int) (ok:Bool):Prop:=
 (ok=true∧ChP ws out∧∀ q,ChP ws q->∀ i,(hq:i < q.length)->(ho:i < out.length)->q[i]<=out[i])∨(ok=false∧out=[]∧∀ q,¬ ChP ws q)
theorem BestP.one {ws:List (List ItemL)} {a b:List Int} {x y:Bool} (h:BestP ws a x) (k:BestP ws b y):a=b∧x=y:=by
 rcases h with ⟨rfl,h1,h2⟩ | ⟨rfl,rfl,h2⟩
 ·rcases k with ⟨rfl,k1,k2⟩ | ⟨rfl,rfl,k2⟩
  ·refine ⟨?_,rfl⟩
   have la:=h1.2.1
   have lb:=k1.2.1
   apply List.ext_getElem (by omega)
   intro i hi hi'
   have e1:=h2 b k1 i hi' hi
   have e2:=k2 a h1 i hi hi'
   omega
  ·exact absurd h1 (k2 a)
 ·rcases k with ⟨rfl,k1,k2⟩ | ⟨rfl,rfl,k2⟩
  ·exact absurd k1 (h2 b)
  ·exact ⟨rfl,rfl⟩
abbrev Spot:=Nat×Nat
def SpotOf (ws:List (List ItemL)) (s:ByteArray) (p:Spot):Prop:=∃ h:p.1 < ws.length,∃ h0:0 < ws[p.1].length,∃ h1:p.2 < (ws[p.1][ws[p.1].length - 1]).2.length,((ws[p.1][ws[p.1].length - 1]).2[p.2]).1=s
def SharedP (ws:List (List ItemL)) (sh:List (List Spot)):Prop:=
 (∀ src∈sh,∃ s,∀ p∈src,SpotOf ws s p) ∧
 ∀ s i k j l,i≠k->SpotOf ws s (i,j)->SpotOf ws s (k,l)->∃ src∈sh,(i,j)∈src∧(k,l)∈src
def verM (ws:List (List ItemL)) (ps:List Int) (p:Spot):Int:=((pkM ws ps p.1).getD p.2 (ByteArray.empty,0)).2
theorem names_pos {a b:List (ByteArray×Int)} (h:namesM a=namesM b) {j:Nat} (hj:j < a.length):∃ hb:j < b.length,a[j].1=b[j].1:=by
 have hl:a.length=b.length:=by
  have:=congrArg List.length h
  simpa [namesM] using this
 refine ⟨by omega, ?_⟩
 have e:(namesM a)[j]?=(namesM b)[j]?:=by rw [h]
 have hb:j < b.length:=by omega
 simpa [namesM,hj,hb] using e
theorem verM_eq {ws:List (List ItemL)} {ps:List Int} (hok:OkW ws) (hl:ps.length=ws.length) (hin:InW ws ps) {s:ByteArray} {p:Spot} (hp:SpotOf ws s p):∃ h:p.2 < (pkM ws ps p.1).length,((pkM ws ps p.1)[p.2]).1=s∧verM ws ps p=((pkM ws ps p.1)[p.2]).2∧verM ws ps p=getM (pkM ws ps p.1) s∧0 < verM ws ps p:=by
 obtain ⟨h,h0,h1,hs⟩:=hp
 obtain ⟨q,e⟩:=pk_eq hin (i:=p.1) (by omega) h
 have hw:=hok.2.2 p.1 h
 have hn:namesM (ws[p.1][ws[p.1].length - 1]).2=namesM (pkM ws ps p.1):=by
  rw [e]
  have:=hw.names (ws[p.1].length - 1 - (ps[p.1]'(by omega)).toNat) (ps[p.1]'(by omega)).toNat (by omega)
  rw [this]
  congr 2
  congr 1
  omega
 obtain ⟨hb,en⟩:=names_pos hn h1
 have hst:StampP (pkM ws ps p.1):=by rw [e];exact (hw.2.1 _ q).1
 have ss:=stamp_sorted hst
 have hv:verM ws ps p=((pkM ws ps p.1)[p.2]).2:=by
  unfold verM
  simp [List.getD,hb]
 have hm:=getM_mem ss (List.getElem_mem hb)
 have hpos:=ss.2 _ (List.getElem_mem hb)
 refine ⟨hb,by rw [<- en,hs],hv, ?_,by rw [hv];exact hpos⟩
 rw [hv,<- hm,<- en,hs]
theorem spot_of_get {ws:List (List ItemL)} {ps:List Int} (hok:OkW ws) (hl:ps.length=ws.length) (hin:InW ws ps) {i:Nat} (hi:i < ws.length) {s:ByteArray} (h:0 < getM (pkM ws ps i) s):∃ j,SpotOf ws s (i,j):=by
 obtain ⟨q,e⟩:=pk_eq hin (i:=i) (by omega) hi
 have hw:=hok.2.2 i hi
 have h0:0 < ws[i].length:=by omega
 rw [e,hw.same q (show ws[i].length - 1 < ws[i].length by omega) s] at h
 obtain ⟨j,hj,ej⟩:=List.mem_iff_getElem.1 (getM_pos h)
 exact ⟨j,hi,h0,hj,by simp only;rw [ej]⟩
theorem agW_iff {ws:List (List ItemL)} {ps:List Int} {sh:List (List Spot)} (hok:OkW ws) (hl:ps.length=ws.length) (hin:InW ws ps) (hsh:SharedP ws sh) :
  AgW ws ps↔∀ src∈sh,∀ p∈src,∀ q∈src,verM ws ps p=verM ws ps q:=by
 have hst:∀ i,i < ws.length->StampP (pkM ws ps i):=fun i hi=>by
  obtain ⟨q,e⟩:=pk_eq hin (i:=i) (by omega) hi
  rw [e]
  exact ((hok.2.2 i hi).2.1 _ q).1
 constructor
 ·intro h src hs p hp q hq
  obtain ⟨s,hall⟩:=hsh.1 src hs
  have p0:=hall p hp
  have q0:=hall q hq
  obtain ⟨_,_,_,e1,g1⟩:=verM_eq hok hl hin p0
  obtain ⟨_,_,_,e2,g2⟩:=verM_eq hok hl hin q0
  have hpw:=p0.1
  have hqw:=q0.1
  rcases Nat.lt_trichotomy p.1 q.1 with hlt | heq | hlt
  ·have:=(agree_get (hst _ hqw) (hst _ hpw)).1 (h q.1 p.1 hlt (by omega)) s (by omega) (by omega)
   omega
  ·rw [e1,e2,heq]
  ·have:=(agree_get (hst _ hpw) (hst _ hqw)).1 (h p.1 q.1 hlt (by omega)) s (by omega) (by omega)
   omega
 ·intro h i k hk hi
  rw [agree_get (hst i (by omega)) (hst k (by omega))]
  intro s h1 h2
  obtain ⟨j,hj⟩:=spot_of_get hok hl hin (i:=i) (by omega) h1
  obtain ⟨l,hl'⟩:=spot_of_get hok hl hin (i:=k) (by omega) h2
  obtain ⟨src,hm,m1,m2⟩:=hsh.2 s i k j l (by omega) hj hl'
  have e:=h src hm _ m1 _ m2
  obtain ⟨_,_,_,e1,_⟩:=verM_eq hok hl hin hj
  obtain ⟨_,_,_,e2,_⟩:=verM_eq hok hl hin hl'
  simp only at e1 e2
  omega
theorem step_back {ws:List (List ItemL)} {ps:List Int} {sh:List (List Spot)} (hok:OkW ws) (hl:ps.length=ws.length) (hin:InW ws ps) (hsh:SharedP ws sh) (hub:∀ q,ChP ws q->∀ i,(hq:i < q.length)->(ho:i < ps.length)->q[i]<=ps[i])
  {src:List Spot} (hs:src∈sh) {p r:Spot} (hp:p∈src) (hr:r∈src) (hlt:verM ws ps r < verM ws ps p):∀ q,ChP ws q->∀ (hq:p.1 < q.length) (ho:p.1 < ps.length),q[p.1] < ps[p.1]:=by
 intro q hc hq ho
 obtain ⟨s,hall⟩:=hsh.1 src hs
 have p0:=hall p hp
 have r0:=hall r hr
 have hpw:=p0.1
 have hrw:=r0.1
 obtain ⟨_,_,_,e1,_⟩:=verM_eq hok hl hin p0
 obtain ⟨_,_,_,e2,_⟩:=verM_eq hok hl hin r0
 obtain ⟨_,_,_,f1,_⟩:=verM_eq hok hc.2.1 hc.2.2.1 p0
 obtain ⟨_,_,_,f2,_⟩:=verM_eq hok hc.2.1 hc.2.2.1 r0
 have e:=(agW_iff hok hc.2.1 hc.2.2.1 hsh).1 hc.2.2.2 src hs p hp r hr
 obtain ⟨a1,b1⟩:=pk_eq hin (i:=r.1) (by omega) hrw
 obtain ⟨a2,b2⟩:=pk_eq hc.2.2.1 (i:=r.1) (by rw [hc.2.1];exact hrw) hrw
 obtain ⟨a3,b3⟩:=pk_eq hin (i:=p.1) (by omega) hpw
 obtain ⟨a4,b4⟩:=pk_eq hc.2.2.1 (i:=p.1) (by rw [hc.2.1];exact hpw) hpw
 have u1:=hub q hc r.1 (by rw [hc.2.1];exact hrw) (by omega)
 have l1:=(hok.2.2 r.1 hrw).le (i:=(q[r.1]'(by rw [hc.2.1];exact hrw)).toNat) (j:=(ps[r.1]'(by omega)).toNat) (by omega) a1 s
 rw [<- b1,<- b2] at l1
 have c0:=hin.2 p.1 ho
 have d0:=hc.2.2.1.2 p.1 hq
 by_cases hge:q[p.1] < ps[p.1]
 ·exact hge
 ·exfalso
  have l2:=(hok.2.2 p.1 hpw).le (i:=(ps[p.1]'(by omega)).toNat) (j:=(q[p.1]'(by rw [hc.2.1];exact hpw)).toNat) (by omega) a4 s
  rw [<- b3,<- b4] at l2
  omega
end Go.Proofs.YtpfhegengmlkmacGreatDoor
namespace Go.Proofs.YtpfhegengmlkmacGreatDoor
open Go.RowKit Go.BigFrame
def WinO (W0 w:World) (b o:Nat) (l:List ItemL):Prop:=
 b < w.heap.size∧l.length<=4∧w.cell? ⟨b,o + 8,none⟩=some (.int .i64 0)∧w.cell? ⟨b,o + 9,none⟩=some (.int .i64 l.length) ∧
  ∀ k,(h:k < l.length)->w.cell? ⟨b,o + k * 2,none⟩=some (.int .i64 l[k].1)∧∃ v,w.cell? ⟨b,o + k * 2 + 1,none⟩=some v∧IsSl W0 v l[k].2
theorem WinO.below {W0 w w':World} {b o:Nat} {l:List ItemL} (h:WinO W0 w b o l) (hb:Below w.heap.size w w'):WinO W0 w' b o l:=by
 obtain ⟨h0,h1,h2,h3,h4⟩:=h
 refine ⟨Nat.lt_of_lt_of_le h0 hb.size,h1,cell_on hb h0 h2,cell_on hb h0 h3,fun k hk=>?_⟩
 obtain ⟨e1,v,e2,e3⟩:=h4 k hk
 exact ⟨cell_on hb h0 e1,v,cell_on hb h0 e2,e3⟩
set_option maxHeartbeats 400000 in
theorem slot_off (w:World) (b o k:Nat) (c8:w.cell? ⟨b,o + 8,none⟩=some (.int .i64 0)) (hk:k < 4) :
  Calls Tryz.prog 171 #[.pointer (some ⟨b,o,none⟩),.int .i64 k] w fun e w'=>e=.returned (.int .i64 (k:Int))∧w'=w:=by
 have HM:Hid ((k:Int) % 4=(k:Int)):=by unfold Hid;omega
 go_enter Tryz.func171,Tryz.ntmps171
 go_wp2_with fail
 go_ret
 exact ⟨by rw [HM.out];rfl,rfl⟩
set_option maxHeartbeats 400000 in
theorem size_off (W0 w:World) (b o:Nat) (l:List ItemL) (h:WinO W0 w b o l) :
  Calls Tryz.prog 167 #[.pointer (some ⟨b,o,none⟩)] w fun e w'=>e=.returned (.int .i64 (l.length:Int))∧w'=w:=by
 have c9:=h.2.2.2.1
 go_enter Tryz.func167,Tryz.ntmps167
 go_wp2_with fail
 go_ret
 exact ⟨rfl,rfl⟩
set_option maxHeartbeats 400000 in
theorem at_val (w:World) (b o k:Nat) (x:Int) (sa:Option Addr) (n sc:Nat) (hwl:b < w.heap.size) (hk:k < 4) (c8:w.cell? ⟨b,o + 8,none⟩=some (.int .i64 0)) (c0:w.cell? ⟨b,o + k * 2,none⟩=some (.int .i64 x)) (c1:w.cell? ⟨b,o + k * 2 + 1,none⟩=some (.slice sa n sc)) :
  Calls Tryz.prog 142 #[.pointer (some ⟨b,o,none⟩),.int .i64 k] w fun e w'=>e=.returned (.agg #[.int .i64 x,.slice sa n sc])∧Below w.heap.size w w':=by
 have e8:=cell_on ((Below.refl w.heap.size w).alloc (Nat.le_refl _) (.cells #[.int .i64 0,.slice none 0 0] 44)) hwl c8
 have e0:=cell_on ((Below.refl w.heap.size w).alloc (Nat.le_refl _) (.cells #[.int .i64 0,.slice none 0 0] 44)) hwl c0
 have e1:=cell_on ((Below.refl w.heap.size w).alloc (Nat.le_refl _) (.cells #[.int .i64 0,.slice none 0 0] 44)) hwl c1
 have d0:(w.alloc (.cells #[.int .i64 0,.slice none 0 0] 44)).cell? ⟨w.heap.size,0,none⟩=some (.int .i64 0):=box0 _ _ _ _
 have d1:(w.alloc (.cells #[.int .i64 0,.slice none 0 0] 44)).cell? ⟨w.heap.size,1,none⟩=some (.slice none 0 0):=box1 _ _ _ _
 have f0:(w.alloc (.cells #[.int .i64 0,.slice none 0 0] 44)).frozen? ⟨w.heap.size,0,none⟩=false:=by simp [go_sem]
 have f1:(w.alloc (.cells #[.int .i64 0,.slice none 0 0] 44)).frozen? ⟨w.heap.size,1,none⟩=false:=by simp [go_sem]
 have hb0:Below w.heap.size w (w.alloc (.cells #[.int .i64 0,.slice none 0 0] 44)):=(Below.refl w.heap.size w).alloc (Nat.le_refl _) _
 have hWl:b < (w.alloc (.cells #[.int .i64 0,.slice none 0 0] 44)).heap.size:=Nat.lt_of_lt_of_le hwl hb0.size
 have hm1:(0:Int)<=(k:Int):=by omega
 have hm2:(k:Int) < 4:=by omega
 go_enter Tryz.func142,Tryz.ntmps142
 go_wp2_with fail
 generalize hW:w.alloc (.cells #[.int .i64 0,.slice none 0 0] 44)=W at *
 clear hW
 have HS:∀ u,Below W.heap.size W u->Calls Tryz.prog 171 #[.pointer (some ⟨b,o,none⟩),.int .i64 k] u fun e w'=>e=.returned (.int .i64 (k:Int))∧w'=u:=fun u hu=>slot_off u b o k (cell_on hu hWl e8) (by omega)
 clear c0 c1 c8 e8
 have hne:b≠w.heap.size:=by omega
 go_region_held3 (fun w'=>w'.cell? ⟨b,o + k * 2,none⟩=some (.int .i64 x)∧w'.cell? ⟨b,o + k * 2 + 1,none⟩=some (.slice sa n sc)) (first | exact ⟨e0,e1⟩ | (simp only [World.cell?_drew,set_far _ _ _ _ hne,e0,e1,and_self];done))
  (first | (go_at_call 171;refine (HS _ (by first | exact Below.refl _ _ | exact (Below.refl _ _).drew | exact below_drewN (Below.refl _ _) _)).mono ?_;rintro e w1 ⟨rfl,rfl⟩))
 go_wp2_with fail
 exact bodyPost_ret (v:=.agg #[.int .i64 x,.slice sa n sc]) (by simp [results,Tryz.results142,go_sem,d0,d1]) rfl ⟨rfl,((hb0.setCell (Nat.le_refl _) _).setCell (Nat.le_refl _) _).drew⟩
theorem at_off (W0 w:World) (b o:Nat) (l:List ItemL) (k:Nat) (h:WinO W0 w b o l) (hk:k < l.length) :
  Calls Tryz.prog 142 #[.pointer (some ⟨b,o,none⟩),.int .i64 k] w fun e w'=>(∃ v,e=.returned (.agg #[.int .i64 l[k].1,v])∧IsSl W0 v l[k].2)∧Below w.heap.size w w':=by
 have h4:=h.2.1
 obtain ⟨c0,v,c1,hv⟩:=h.2.2.2.2 k hk
 obtain ⟨sa,sc,rfl,hcap,hrow⟩:=hv
 exact (at_val w b o k l[k].1 sa l[k].2.length sc h.1 (by omega) h.2.2.1 c0 c1).mono fun e w' ⟨he,hb⟩=>⟨⟨_,he,sa,sc,rfl,hcap,hrow⟩,hb⟩
set_option maxHeartbeats 400000 in
theorem last_off (W0 w:World) (b o:Nat) (l:List ItemL) (h:WinO W0 w b o l) (h0:0 < l.length) :
  Calls Tryz.prog 168 #[.pointer (some ⟨b,o,none⟩)] w fun e w'=>(∃ v,e=.returned (.agg #[.int .i64 (l[l.length - 1]'(by omega)).1,v])∧IsSl W0 v (l[l.length - 1]'(by omega)).2)∧Below w.heap.size w w':=by
 have h4:=h.2.1
 have c9:=h.2.2.2.1
 have hwl:=h.1
 have d0:(w.alloc (.cells #[.int .i64 0,.slice none 0 0] 44)).cell? ⟨w.heap.size,0,none⟩=some (.int .i64 0):=box0 _ _ _ _
 have d1:(w.alloc (.cells #[.int .i64 0,.slice none 0 0] 44)).cell? ⟨w.heap.size,1,none⟩=some (.slice none 0 0):=box1 _ _ _ _
 have f0:(w.alloc (.cells #[.int .i64 0,.slice none 0 0] 44)).frozen? ⟨w.heap.size,0,none⟩=false:=by simp [go_sem]
 have f1:(w.alloc (.cells #[.int .i64 0,.slice none 0 0] 44)).frozen? ⟨w.heap.size,1,none⟩=false:=by simp [go_sem]
 have hb0:Below w.heap.size w (w.alloc (.cells #[.int .i64 0,.slice none 0 0] 44)):=(Below.refl w.heap.size w).alloc (Nat.le_refl _) _
 have hWl:w.heap.size < (w.alloc (.cells #[.int .i64 0,.slice none 0 0] 44)).heap.size:=box_lt _ _
 have hkm:((l.length:Int) - 1)=((l.length - 1:Nat):Int):=by omega
 go_enter Tryz.func168,Tryz.ntmps168
 go_wp2_with fail
 generalize hW:w.alloc (.cells #[.int .i64 0,.slice none 0 0] 44)=W at *
 clear hW
 refine (at_off W0 W b o l (l.length - 1) (h.below hb0) (by omega)).mono ?_
 rintro e w1 ⟨⟨v,rfl,hv⟩,b1⟩
 obtain ⟨sa,sc,rfl,hcap,hrow⟩:=hv
 replace d0:=cell_on b1 hWl d0
 replace d1:=cell_on b1 hWl d1
 replace f0:=(b1.frozen (p:=⟨w.heap.size,0,none⟩) hWl).trans f0
 replace f1:=(b1.frozen (p:=⟨w.heap.size,1,none⟩) hWl).trans f1
 have B1:Below w.heap.size w w1:=hb0.trans (b1.mono hb0.size)
 clear b1 hb0 c9
 go_wp2_with fail
 exact bodyPost_ret (v:=.agg #[.int .i64 (l[l.length - 1]'(by omega)).1,.slice sa (l[l.length - 1]'(by omega)).2.length sc]) (by simp [results,Tryz.results168,go_sem,d0,d1]) rfl ⟨⟨_,rfl,sa,sc,rfl,hcap,hrow⟩,(B1.setCell (Nat.le_refl _) _).setCell (Nat.le_refl _) _⟩
set_option maxHeartbeats 400000 in
theorem had_any (s:ByteArray) (v:Int) (w:World) :
  Calls Tryz.prog 179 #[.agg #[.string s,.int .i64 v]] w fun e w'=>e=.returned (.bool (decide (0 < v)))∧Below w.heap.size w w':=by
 go_enter Tryz.func179,Tryz.ntmps179
 go_wp2
 go_ret
 exact ⟨rfl,(Below.refl _ _).alloc (Nat.le_refl _) _⟩
set_option maxHeartbeats 400000 in
theorem later_any (x y:ByteArray×Int) (w:World) :
  Calls Tryz.prog 144 #[.agg #[.string x.1,.int .i64 x.2],.agg #[.string y.1,.int .i64 y.2]] w fun e w'=>e=.returned (.agg #[.string (laterM x y).1,.int .i64 (laterM x y).2])∧Below w.heap.size w w':=by
 by_cases h:x.2 < y.2
 ·have H:Hid (laterM x y=y):=by unfold Hid laterM;rw [if_pos h]
  go_enter Tryz.func144,Tryz.ntmps144
  go_wp2
  rw [H.out]
  exact bodyPost_ret (v:=.agg #[.string y.1,.int .i64 y.2]) (by simp [results,Tryz.results144,go_sem]) rfl ⟨rfl,(((Below.refl _ _).alloc (Nat.le_refl _) _).alloc (by simp) _).alloc (by simp;omega) _⟩
 ·have H:Hid (laterM x y=x):=by unfold Hid laterM;rw [if_neg h]
  go_enter Tryz.func144,Tryz.ntmps144
  go_wp2
  rw [H.out]
  exact bodyPost_ret (v:=.agg #[.string x.1,.int .i64 x.2]) (by simp [results,Tryz.results144,go_sem]) rfl ⟨rfl,(((Below.refl _ _).alloc (Nat.le_refl _) _).alloc (by simp) _).alloc (by simp;omega) _⟩
theorem Row.first {w:World} {a:Option Addr} {l:List (ByteArray×Int)} (h:Row w a l) (h0:0 < l.length):∃ b o,a=some ⟨b,o,none⟩∧b < w.heap.size∧w.cell? ⟨b,o,none⟩=some (.string l[0].1)∧w.cell? ⟨b,o + 1,none⟩=some (.int .i64 l[0].2):=by
 obtain ⟨b,o,e,hb,c0,c1⟩:=h 0 h0
 exact ⟨b,o,e,hb,by simpa using c0,by simpa using c1⟩
theorem far_set (W:World) {h b i k:Nat} (v:Value) (hne:b≠h):(W.setCell ⟨h,i,none⟩ v).cell? ⟨b,k,none⟩=W.cell? ⟨b,k,none⟩:=World.cell?_of_block (Below.heap_setCell _ _ _ _ hne)
theorem two_boxes (w:World) (n:Nat):∃ W,((w.alloc (.cells #[.string ⟨#[]⟩,.int .i64 0] 144)).alloc (.cells #[.string ⟨#[]⟩,.int .i64 0] 144)).drewN n=W∧∃ x0 x1 y0 y1:Value,
  W.cell? ⟨w.heap.size,0,none⟩=some x0∧W.cell? ⟨w.heap.size,1,none⟩=some x1∧W.cell? ⟨w.heap.size + 1,0,none⟩=some y0∧W.cell? ⟨w.heap.size + 1,1,none⟩=some y1 ∧
  W.frozen? ⟨w.heap.size,0,none⟩=false∧W.frozen? ⟨w.heap.size,1,none⟩=false∧W.frozen? ⟨w.heap.size + 1,0,none⟩=false∧W.frozen? ⟨w.heap.size + 1,1,none⟩=false∧Below w.heap.size w W∧W.heap.size=w.heap.size + 2:=
 ⟨_,rfl,_,_,_,_,by simp [go_sem];rfl,by simp [go_sem];rfl,by simp [go_sem];rfl,by simp [go_sem];rfl,by simp [go_sem],by simp [go_sem],by simp [go_sem],by simp [go_sem],below_drewN (((Below.refl _ _).alloc (Nat.le_refl _) _).alloc (by simp) _) n,by simp⟩
set_option maxHeartbeats 800000 in
theorem first_a0 (aa ab:Option Addr) (ca cb:Nat) (la lb:List (ByteArray×Int)) (w:World) (ha:Row w aa la) (h0:0 < la.length) (h1:lb.length=0) :
  Calls Tryz.prog 178 #[.slice aa la.length ca,.slice ab lb.length cb] w fun e w'=>e=.returned (.tuple #[.agg #[.string la[0].1,.int .i64 la[0].2],.agg #[.string la[0].1,.int .i64 0]])∧Below w.heap.size w w':=by
 obtain ⟨b,o,rfl,hblt,c0,c1⟩:=ha.first h0
 have ne1:b≠w.heap.size:=by omega
 have ne2:b≠w.heap.size + 1:=by omega
 have g:((lb.length:Int) == 0)=true:=by simp [h1]
 clear h1
 go_enter Tryz.func178,Tryz.ntmps178
 go_wp2_with fail
 go_quiet (fail)
 go_wp2_with fail
 obtain ⟨W,hW,K⟩:=two_boxes w nq
 rw [hW]
 clear hW
 obtain ⟨x0,x1,y0,y1,d0,d1,e0,e1,f0,f1,f2,f3,hbel,hsz⟩:=K
 have c0:=cell_on hbel hblt c0
 have c1:=cell_on hbel hblt c1
 go_region_held3 (fun w'=>w'.cell? ⟨b,o,none⟩=some (.string la[0].1)∧w'.cell? ⟨b,o + 1,none⟩=some (.int .i64 la[0].2)) (simp only [World.cell?_drew,far_set _ _ ne1,far_set _ _ ne2,c0,c1,and_self]) (fail)
 all_goals go_wp2_with fail
 all_goals exact bodyPost_ret (v:=.tuple #[.agg #[.string la[0].1,.int .i64 la[0].2],.agg #[.string la[0].1,.int .i64 0]]) (by simp [results,Tryz.results178,go_sem,d0,d1,e0,e1]) rfl ⟨rfl,by repeat (first | exact hbel | apply Below.drew | apply below_drewN | refine Below.setCell ?_ (by simp) _)⟩
set_option maxHeartbeats 800000 in
theorem first_lt (aa ab:Option Addr) (ca cb:Nat) (la lb:List (ByteArray×Int)) (w:World) (ha:Row w aa la) (hb:Row w ab lb) (h0:0 < la.length) (h0':0 < lb.length) (h1:Op.bytesLess la[0].1.toList lb[0].1.toList=true) :
  Calls Tryz.prog 178 #[.slice aa la.length ca,.slice ab lb.length cb] w fun e w'=>e=.returned (.tuple #[.agg #[.string la[0].1,.int .i64 la[0].2],.agg #[.string la[0].1,.int .i64 0]])∧Below w.heap.size w w':=by
 obtain ⟨b,o,rfl,hblt,c0,c1⟩:=ha.first h0
 have ne1:b≠w.heap.size:=by omega
 have ne2:b≠w.heap.size + 1:=by omega
 obtain ⟨b',o',rfl,hblt',k0,k1⟩:=hb.first h0'
 have ne3:b'≠w.heap.size:=by omega
 have ne4:b'≠w.heap.size + 1:=by omega
 have g:((lb.length:Int) == 0)=false:=beq_eq_false_iff_ne.2 (by omega)
 have g1:decide (0 < la.length)=true:=by simpa using h0
 go_enter Tryz.func178,Tryz.ntmps178
 go_wp2_with fail
 go_quiet (fail)
 go_wp2_with fail
 obtain ⟨W,hW,K⟩:=two_boxes w nq
 rw [hW]
 clear hW
 obtain ⟨x0,x1,y0,y1,d0,d1,e0,e1,f0,f1,f2,f3,hbel,hsz⟩:=K
 have c0:=cell_on hbel hblt c0
 have c1:=cell_on hbel hblt c1
 have k0:=cell_on hbel hblt' k0
 have k1:=cell_on hbel hblt' k1
 go_region_held3 (fun w'=>w'.cell? ⟨b,o,none⟩=some (.string la[0].1)∧w'.cell? ⟨b,o + 1,none⟩=some (.int .i64 la[0].2)∧w'.cell? ⟨b',o',none⟩=some (.string lb[0].1)∧w'.cell? ⟨b',o' + 1,none⟩=some (.int .i64 lb[0].2)) (simp only [World.cell?_drew,far_set _ _ ne1,far_set _ _ ne2,c0,c1,far_set _ _ ne3,far_set _ _ ne4,k0,k1,and_self]) (fail)
 all_goals go_wp2_with fail
 all_goals exact bodyPost_ret (v:=.tuple #[.agg #[.string la[0].1,.int .i64 la[0].2],.agg #[.string la[0].1,.int .i64 0]]) (by simp [results,Tryz.results178,go_sem,d0,d1,e0,e1]) rfl ⟨rfl,by repeat (first | exact hbel | apply Below.drew | apply below_drewN | refine Below.setCell ?_ (by simp) _)⟩
set_option maxHeartbeats 800000 in
theorem first_b0 (aa ab:Option Addr) (ca cb:Nat) (la lb:List (ByteArray×Int)) (w:World) (hb:Row w ab lb) (h0':0 < lb.length) (h1:la.length=0) :
  Calls Tryz.prog 178 #[.slice aa la.length ca,.slice ab lb.length cb] w fun e w'=>e=.returned (.tuple #[.agg #[.string lb[0].1,.int .i64 0],.agg #[.string lb[0].1,.int .i64 lb[0].2]])∧Below w.heap.size w w':=by
 obtain ⟨b',o',rfl,hblt',k0,k1⟩:=hb.first h0'
 have ne3:b'≠w.heap.size:=by omega
 have ne4:b'≠w.heap.size + 1:=by omega
 have g:((lb.length:Int) == 0)=false:=beq_eq_false_iff_ne.2 (by omega)
 have g1:decide (0 < la.length)=false:=by simp [h1]
 have g2:((la.length:Int) == 0)=true:=by simp [h1]
 clear h1
 go_enter Tryz.func178,Tryz.ntmps178
 go_wp2_with fail
 go_quiet (fail)
 go_wp2_with fail
 go_quiet (fail)
 go_wp2_with fail
 obtain ⟨W,hW,K⟩:=two_boxes w _
 rw [hW]
 clear hW
 obtain ⟨x0,x1,y0,y1,d0,d1,e0,e1,f0,f1,f2,f3,hbel,hsz⟩:=K
 have k0:=cell_on hbel hblt' k0
 have k1:=cell_on hbel hblt' k1
 go_region_held3 (fun w'=>w'.cell? ⟨b',o',none⟩=some (.string lb[0].1)∧w'.cell? ⟨b',o' + 1,none⟩=some (.int .i64 lb[0].2)) (simp only [World.cell?_drew,World.cell?_drewN,far_set _ _ ne3,far_set _ _ ne4,k0,k1,and_self]) (fail)
 all_goals go_wp2_with fail
 all_goals exact bodyPost_ret (v:=.tuple #[.agg #[.string lb[0].1,.int .i64 0],.agg #[.string lb[0].1,.int .i64 lb[0].2]]) (by simp [results,Tryz.results178,go_sem,d0,d1,e0,e1]) rfl ⟨rfl,by repeat (first | exact hbel | apply Below.drew | apply below_drewN | refine Below.setCell ?_ (by simp) _)⟩
set_option maxHeartbeats 800000 in
theorem first_gt (aa ab:Option Addr) (ca cb:Nat) (la lb:List (ByteArray×Int)) (w:World) (ha:Row w aa la) (hb:Row w ab lb) (h0:0 < la.length) (h0':0 < lb.length) (h1:Op.bytesLess la[0].1.toList lb[0].1.toList=false) (h2:Op.bytesLess lb[0].1.toList la[0].1.toList=true) :
  Calls Tryz.prog 178 #[.slice aa la.length ca,.slice ab lb.length cb] w fun e w'=>e=.returned (.tuple #[.agg #[.string lb[0].1,.int .i64 0],.agg #[.string lb[0].1,.int .i64 lb[0].2]])∧Below w.heap.size w w':=by
 obtain ⟨b,o,rfl,hblt,c0,c1⟩:=ha.first h0
 have ne1:b≠w.heap.size:=by omega
 have ne2:b≠w.heap.size + 1:=by omega
 obtain ⟨b',o',rfl,hblt',k0,k1⟩:=hb.first h0'
 have ne3:b'≠w.heap.size:=by omega
 have ne4:b'≠w.heap.size + 1:=by omega
 have g:((lb.length:Int) == 0)=false:=beq_eq_false_iff_ne.2 (by omega)
 have g1:decide (0 < la.length)=true:=by simpa using h0
 have g2:((la.length:Int) == 0)=false:=beq_eq_false_iff_ne.2 (by omega)
 go_enter Tryz.func178,Tryz.ntmps178
 go_wp2_with fail
 go_quiet (fail)
 go_wp2_with fail
 go_quiet (fail)
 go_wp2_with fail
 obtain ⟨W,hW,K⟩:=two_boxes w _
 rw [hW]
 clear hW
 obtain ⟨x0,x1,y0,y1,d0,d1,e0,e1,f0,f1,f2,f3,hbel,hsz⟩:=K
 have c0:=cell_on hbel hblt c0
 have c1:=cell_on hbel hblt c1
 have k0:=cell_on hbel hblt' k0
 have k1:=cell_on hbel hblt' k1
 go_region_held3 (fun w'=>w'.cell? ⟨b,o,none⟩=some (.string la[0].1)∧w'.cell? ⟨b,o + 1,none⟩=some (.int .i64 la[0].2)∧w'.cell? ⟨b',o',none⟩=some (.string lb[0].1)∧w'.cell? ⟨b',o' + 1,none⟩=some (.int .i64 lb[0].2)) (simp only [World.cell?_drew,World.cell?_drewN,far_set _ _ ne1,far_set _ _ ne2,c0,c1,far_set _ _ ne3,far_set _ _ ne4,k0,k1,and_self]) (fail)
 all_goals go_wp2_with fail
 all_goals exact bodyPost_ret (v:=.tuple #[.agg #[.string lb[0].1,.int .i64 0],.agg #[.string lb[0].1,.int .i64 lb[0].2]]) (by simp [results,Tryz.results178,go_sem,d0,d1,e0,e1]) rfl ⟨rfl,by repeat (first | exact hbel | apply Below.drew | apply below_drewN | refine Below.setCell ?_ (by simp) _)⟩
set_option maxHeartbeats 800000 in
theorem first_eq (aa ab:Option Addr) (ca cb:Nat) (la lb:List (ByteArray×Int)) (w:World) (ha:Row w aa la) (hb:Row w ab lb) (h0:0 < la.length) (h0':0 < lb.length) (h1:Op.bytesLess la[0].1.toList lb[0].1.toList=false) (h2:Op.bytesLess lb[0].1.toList la[0].1.toList=false) :
  Calls Tryz.prog 178 #[.slice aa la.length ca,.slice ab lb.length cb] w fun e w'=>e=.returned (.tuple #[.agg #[.string la[0].1,.int .i64 la[0].2],.agg #[.string lb[0].1,.int .i64 lb[0].2]])∧Below w.heap.size w w':=by
 obtain ⟨b,o,rfl,hblt,c0,c1⟩:=ha.first h0
 have ne1:b≠w.heap.size:=by omega
 have ne2:b≠w.heap.size + 1:=by omega
 obtain ⟨b',o',rfl,hblt',k0,k1⟩:=hb.first h0'
 have ne3:b'≠w.heap.size:=by omega
 have ne4:b'≠w.heap.size + 1:=by omega
 have g:((lb.length:Int) == 0)=false:=beq_eq_false_iff_ne.2 (by omega)
 have g1:decide (0 < la.length)=true:=by simpa using h0
 have g2:((la.length:Int) == 0)=false:=beq_eq_false_iff_ne.2 (by omega)
 go_enter Tryz.func178,Tryz.ntmps178
 go_wp2_with fail
 go_quiet (fail)
 go_wp2_with fail
 go_quiet (fail)
 go_wp2_with fail
 obtain ⟨W,hW,K⟩:=two_boxes w _
 rw [hW]
 clear hW
 obtain ⟨x0,x1,y0,y1,d0,d1,e0,e1,f0,f1,f2,f3,hbel,hsz⟩:=K
 have c0:=cell_on hbel hblt c0
 have c1:=cell_on hbel hblt c1
 have k0:=cell_on hbel hblt' k0
 have k1:=cell_on hbel hblt' k1
 go_region_held3 (fun w'=>w'.cell? ⟨b,o,none⟩=some (.string la[0].1)∧w'.cell? ⟨b,o + 1,none⟩=some (.int .i64 la[0].2)∧w'.cell? ⟨b',o',none⟩=some (.string lb[0].1)∧w'.cell? ⟨b',o' + 1,none⟩=some (.int .i64 lb[0].2)) (simp only [World.cell?_drew,World.cell?_drewN,far_set _ _ ne1,far_set _ _ ne2,c0,c1,far_set _ _ ne3,far_set _ _ ne4,k0,k1,and_self]) (fail)
 all_goals go_wp2_with fail
 all_goals exact bodyPost_ret (v:=.tuple #[.agg #[.string la[0].1,.int .i64 la[0].2],.agg #[.string lb[0].1,.int .i64 lb[0].2]]) (by simp [results,Tryz.results178,go_sem,d0,d1,e0,e1]) rfl ⟨rfl,by repeat (first | exact hbel | apply Below.drew | apply below_drewN | refine Below.setCell ?_ (by simp) _)⟩
theorem first_any (aa ab:Option Addr) (ca cb:Nat) (la lb:List (ByteArray×Int)) (w:World) (ha:Row w aa la) (hb:Row w ab lb) (p:(ByteArray×Int)×(ByteArray×Int)) (hp:headP la lb=some p) :
  Calls Tryz.prog 178 #[.slice aa la.length ca,.slice ab lb.length cb] w fun e w'=>e=.returned (.tuple #[.agg #[.string p.1.1,.int .i64 p.1.2],.agg #[.string p.2.1,.int .i64 p.2.2]])∧Below w.heap.size w w':=by
 cases la with
 | nil=>
  cases lb with
  | nil=>simp [headP] at hp
  | cons y lb=>
   simp only [headP,Option.some.injEq] at hp
   subst hp
   exact first_b0 aa ab ca cb [] (y :: lb) w hb (by simp) rfl
 | cons x la=>
  cases lb with
  | nil=>
   simp only [headP,Option.some.injEq] at hp
   subst hp
   exact first_a0 aa ab ca cb (x :: la) [] w ha (by simp) rfl
  | cons y lb=>
   cases h1:Op.bytesLess x.1.toList y.1.toList
   ·cases h2:Op.bytesLess y.1.toList x.1.toList
    ·simp [headP,h1,h2] at hp
     subst hp
     exact first_eq aa ab ca cb (x :: la) (y :: lb) w ha hb (by simp) (by simp) h1 h2
    ·simp [headP,h1,h2] at hp
     subst hp
     exact first_gt aa ab ca cb (x :: la) (y :: lb) w ha hb (by simp) (by simp) h1 h2
   ·simp [headP,h1] at hp
    subst hp
    exact first_lt aa ab ca cb (x :: la) (y :: lb) w ha hb (by simp) (by simp) h1
end Go.Proofs.YtpfhegengmlkmacGreatDoor
