/- Texts of this claim. -/
import Derived.Test.YtpfhegengmlkmabGreatDoorZu10
namespace Go.Proofs.YtpfhegengmlkmabGreatDoor
theorem rV {l:List (ByteArray×Int)}(h12:l.length<=12)(hm:∀m∈l,iZ m)(hp:l.Pairwise (fun x y=>Asc x.1 y.1)):ah l:=
 ⟨h12,fun _ hj=>hm _ (List.getElem_mem hj),fun j hj=>List.pairwise_iff_getElem.1 hp j (j+1) (by omega) hj (by omega)⟩
theorem uH {l:List (ByteArray×Int)}(h:ah l){m:ByteArray×Int}(hm:m∈l):iZ m:=by
 obtain⟨j,hj,rfl⟩:=List.mem_iff_getElem.1 hm
 exact h.2.1 j hj
theorem bK:ah []:=⟨by simp,fun j h=>absurd h (Nat.not_lt_zero j),fun j h=>absurd h (Nat.not_lt_zero (j+1))⟩
theorem EG {a b o:List (ByteArray×Int)}(ha:ah a)(hb:ah b)(h:jk a b o)(h12:o.length<=12):ah o:=by
 refine rV h12 (fun m hm=>?_) h.1.1
 have e:=dP h.1 hm
 have e1:=h.1.2 m hm
 have e2:=h.2 m.1
 rw[e]at e2
 rcases Int.le_total (aA a m.1) (aA b m.1)with hle|hle
 ·have e3:m.2=aA b m.1:=by omega
  have hmem:=fV (l:=b) (s:=m.1) (by omega)
  rw[<- e3]at hmem
  exact uH hb hmem
 ·have e3:m.2=aA a m.1:=by omega
  have hmem:=fV (l:=a) (s:=m.1) (by omega)
  rw[<- e3]at hmem
  exact uH ha hmem
theorem DT.fits {a b m:List (ByteArray×Int)}(h:DT a b m true):ah a/\ah b/\jk a b m/\ah m:=by
 rcases h with⟨_,_,h⟩|⟨ha,hb,o,ho,⟨h12,rfl,_⟩|⟨_,_,h⟩⟩
 ·cases h
 ·exact⟨ha,hb,ho,EG ha hb ho h12⟩
 ·cases h
theorem DT.none {a b m:List (ByteArray×Int)}(h:DT a b m false):m=[]:=by
 rcases h with⟨_,h,_⟩|⟨_,_,o,_,⟨_,_,h⟩|⟨_,h,_⟩⟩
 ·exact h
 ·cases h
 ·exact h
def aH (a:List (ByteArray×Int)):List ByteArray:=a.map (·.1)
theorem uI {a:List (ByteArray×Int)}(ha:Sorted a)(s:ByteArray):iW (aH a) s=true↔0<aA a s:=by
 unfold iW aH
 simp only[List.any_eq_true,decide_eq_true_eq,List.mem_map]
 constructor
 ·rintro⟨_,⟨m,hm,rfl⟩,rfl⟩
  rw[dP ha hm];exact ha.2 m hm
 ·intro h
  exact⟨s,⟨_,fV h,rfl⟩,rfl⟩
theorem ES {a b:List (ByteArray×Int)}(ha:Sorted a)(hb:Sorted b):dL a b↔∀s,aA a s<=aA b s:=by
 constructor
 ·intro h s
  have hn:=eP (s:=s) hb
  by_cases h0:0<aA a s
  ·obtain⟨i,hi,e⟩:=List.mem_iff_getElem.1 (fV h0)
   have:=h i hi
   rw[e]at this
   exact this
  ·omega
 ·intro h i hi
  have e:=dP ha (List.getElem_mem hi)
  have:=h a[i].1
  omega
theorem Nq {a b:List (ByteArray×Int)}{o p:Int}(h:kC a b o)(k:kC b a p):(o=1->p=2)/\(o=2->p=1)/\(o≠1->o≠2->p=o):=by
 rcases h with⟨h1,h2⟩|⟨h1,h2,h3⟩
 ·rcases k with⟨k1,k2⟩|⟨k1,k2,k3⟩
  ·subst h2;subst k2;exact⟨fun h=>by omega,fun h=>by omega,fun _ _=>rfl⟩
  ·exact absurd ⟨k2,k1⟩ h1
 ·rcases k with⟨k1,k2⟩|⟨k1,k2,k3⟩
  ·exact absurd ⟨h2,h1⟩ k1
  ·rcases h3 with⟨p1,q1,e⟩|⟨p1,q1,e⟩|⟨p1,q1,e⟩|⟨p1,q1,e⟩ <;> rcases k3 with⟨p',q',e'⟩|⟨p',q',e'⟩|⟨p',q',e'⟩|⟨p',q',e'⟩ <;>
    first|(subst e;subst e';exact⟨fun h=>by omega,fun h=>by omega,fun h h'=>by omega⟩)|exact absurd p1 q'|exact absurd q1 p'|exact absurd p' q1|exact absurd q' p1
theorem Ce {a b:List (ByteArray×Int)}{o:Int}(h:kC a b o):o=1↔(ah a/\ah b/\dL a b/\¬dL b a):=by
 constructor
 ·rintro rfl
  rcases h with⟨_,h2⟩|⟨h1,h2,⟨p,q,e⟩|⟨p,q,_⟩|⟨_,_,e⟩|⟨_,_,e⟩⟩
  ·omega
  ·omega
  ·exact⟨h1,h2,p,q⟩
  ·omega
  ·omega
 ·rintro⟨ha,hb,hab,hba⟩
  rcases h with⟨h1,_⟩|⟨_,_,⟨_,q,e⟩|⟨_,_,e⟩|⟨q,_,_⟩|⟨q,_,_⟩⟩
  ·exact absurd ⟨ha,hb⟩ h1
  ·exact absurd q hba
  ·exact e
  ·exact absurd hab q
  ·exact absurd hab q
theorem jR {a b:List (ByteArray×Int)}(ha:ah a)(hb:ah b):gU a b↔∀s,0<aA a s->0<aA b s->aA a s=aA b s:=by
 have sa:=ay ha
 have sb:=ay hb
 constructor
 ·rintro⟨_,_,h⟩ s h1 h2
  obtain⟨k,hk,ek⟩:=List.mem_iff_getElem.1 (fV h1)
  have:=h k hk
  rw[ek]at this
  simp only at this
  omega
 ·intro h
  refine⟨ha,hb,fun i hi=>?_⟩
  have e:=dP sa (List.getElem_mem hi)
  have e1:=sa.2 _ (List.getElem_mem hi)
  have e2:=eP (s:=a[i].1) sb
  by_cases h0:aA b a[i].1=0
  ·exact .inl h0
  ·right
   rw[<- h a[i].1 (by omega) (by omega),e]
abbrev mO:=Int×List (ByteArray×Int)
def eU (a b:List (ByteArray×Int)):Prop:=aH a=aH b/\ah a/\ah b/\dL a b/\¬dL b a
def aX (l:List mO):Prop:=l.length<=4/\(∀j,(h:j<l.length)->ah l[j].2/\l[j].2≠[])/\∀j,(h:j+1<l.length)->eU l[j].2 l[j+1].2
theorem zL {a b:List (ByteArray×Int)}(ha:ah a)(hb:ah b)(h:aH a=aH b)(s:ByteArray):0<aA a s↔0<aA b s:=by
 rw[<- uI (ay ha),<- uI (ay hb),h]
theorem aX.names {l:List mO}(h:aX l):∀(d i:Nat) (hj:i+d<l.length),aH l[i].2=aH l[i+d].2
 |0,_,_=>rfl
 |d+1,i,hj=>(h.names d i (by omega)).trans (h.2.2 (i+d) (by omega)).1
theorem aX.rise {l:List mO}(h:aX l):∀(d i:Nat) (hj:i+d<l.length) (s:ByteArray),aA l[i].2 s<=aA l[i+d].2 s
 |0,_,_,_=>Int.le_refl _
 |d+1,i,hj,s=>by
  have h1:=h.rise d i (by omega) s
  have ha:=h.2.2 (i+d) (by omega)
  have h2:=(ES (ay ha.2.1) (ay ha.2.2.1)).1 ha.2.2.2.1 s
  exact Int.le_trans h1 h2
theorem aX.le {l:List mO}(h:aX l){i j:Nat}(hij:i<=j)(hj:j<l.length)(s:ByteArray):aA (l[i]'(by omega)).2 s<=aA l[j].2 s:=by
 obtain⟨d,rfl⟩:∃d,j=i+d:=⟨j-i,by omega⟩
 exact h.rise d i hj s
theorem aX.same {l:List mO}(h:aX l){i j:Nat}(hi:i<l.length)(hj:j<l.length)(s:ByteArray):0<aA l[i].2 s↔0<aA l[j].2 s:=by
 have hn:aH l[i].2=aH l[j].2:=by
  rcases Nat.le_total i j with hij|hij
  ·obtain⟨d,rfl⟩:∃d,j=i+d:=⟨j-i,by omega⟩
   exact h.names d i hj
  ·obtain⟨d,rfl⟩:∃d,i=j+d:=⟨i-j,by omega⟩
   exact(h.names d j hi).symm
 exact zL (h.2.1 i hi).1 (h.2.1 j hj).1 hn s
theorem Az {u v:List mO}(hu:aX u)(hv:aX v){i i' k k':Nat}(hi:i<u.length)(hi':i'<u.length)(hk:k<v.length)(hk':k'<v.length)
  (h:gU u[i].2 v[k].2) (h':gU u[i'].2 v[k'].2):gU (u[max i i']'(by omega)).2 (v[max k k']'(by omega)).2:=by
 have key:∀{u v:List mO} (_:aX u) (_:aX v) {i i' k k':Nat} (hi:i<u.length) (hi':i'<u.length) (hk:k<v.length) (hk':k'<v.length),gU u[i].2 v[k].2->gU u[i'].2 v[k'].2->i'<=i->k<=k'->gU u[i].2 v[k'].2:=by
  intro u v hu hv i i' k k' hi hi' hk hk' h h' h1 h2
  rw[jR (hu.2.1 i hi).1 (hv.2.1 k' hk').1]
  rw[jR (hu.2.1 i hi).1 (hv.2.1 k hk).1]at h
  rw[jR (hu.2.1 i' hi').1 (hv.2.1 k' hk').1]at h'
  intro s p1 p2
  have e1:=h s p1 ((hv.same hk hk' s).2 p2)
  have e2:=h' s ((hu.same hi' hi s).2 p1) p2
  have l1:=hu.le h1 hi s
  have l2:=hv.le h2 hk' s
  omega
 rcases Nat.le_total i i' with h1|h1 <;> rcases Nat.le_total k k' with h2|h2
 ·simp only[Nat.max_eq_right h1,Nat.max_eq_right h2];exact h'
 ·simp only[Nat.max_eq_right h1,Nat.max_eq_left h2]
  exact key hu hv hi' hi hk' hk h' h h1 h2
 ·simp only[Nat.max_eq_left h1,Nat.max_eq_right h2]
  exact key hu hv hi hi' hk hk' h h' h1 h2
 ·simp only[Nat.max_eq_left h1,Nat.max_eq_left h2];exact h
end Go.Proofs.YtpfhegengmlkmabGreatDoor
namespace Go.Proofs.YtpfhegengmlkmabGreatDoor
open Go.RowKit Go.BigFrame
theorem uS {la lb:List (ByteArray×Int)}{k:Nat}(h:aH (la.take k)=aH (lb.take k))(ha:k<la.length)(hb:k<lb.length)(e:la[k].1=lb[k].1):aH (la.take (k+1))=aH (lb.take (k+1)):=by
 unfold aH at *
 rw[List.take_succ_eq_append_getElem ha,List.take_succ_eq_append_getElem hb,List.map_append,List.map_append,h]
 simp[e]
theorem Jv {la lb:List (ByteArray×Int)}(h:aH la=aH lb){k:Nat}(ha:k<la.length)(hb:k<lb.length):la[k].1=lb[k].1:=by
 have h1:(aH la)[k]?=(aH lb)[k]?:=by rw[h]
 unfold aH at h1
 simpa[ha,hb]using h1
theorem G8 {la lb:List (ByteArray×Int)}(h:aH la=aH lb):la.length=lb.length:=by
 have:=congrArg List.length h
 unfold aH at this
 simpa using this
set_option maxHeartbeats 800000 in
theorem yC (aa ab:Option Addr)(ca cb:Nat)(la lb:List (ByteArray×Int))(w:World)(hla:la.length<=maxLen)(ha:Row w aa la)(hb:Row w ab lb) :
  Calls Tryz.prog 175 #[.slice aa la.length ca,.slice ab lb.length cb] w fun e w'=>rU (aH la=aH lb) e/\Below w.heap.size w w':=by
 unfold maxLen at hla
 go_enter Tryz.func175,Tryz.ntmps175
 by_cases hlen:la.length=lb.length
 ·have hlen':((la.length:Int) != (lb.length:Int))=false:=by rw[bne_eq_false_iff_eq];omega
  have HLEN:Hid (la.length=lb.length):=hlen
  have hle1:la.length<=lb.length:=by omega
  have hle2:lb.length<=la.length:=by omega
  clear hlen
  go_wp2_with fail
  go_loopw [5] (fun i wr=>∃k:Nat,k<=la.length/\i=.int .i64 k/\aH (la.take k)=aH (lb.take k)/\Below w.heap.size w wr) (fun i _=>la.length-(intOf i).toNat)
  case atStart=>exact⟨0,Nat.zero_le _,rfl,rfl,Below.refl _ _⟩
  case round=>
   obtain⟨k,hk,rfl,hinv,hbl⟩:=hrel
   by_cases hlt:k<la.length
   ·have hltb:k<lb.length:=by omega
    obtain⟨b1,o1,rfl,hlt1,c0,c1⟩:=ha k hlt
    obtain⟨b2,o2,rfl,hlt2,d0,d1⟩:=hb k hltb
    have e0:=ae hbl hlt1 c0
    have f0:=ae hbl hlt2 d0
    have k0:(0:Int)<=(k:Int):=by omega
    have k1:(k:Int)<(la.length:Int):=by omega
    have k2:(k:Int)<(lb.length:Int):=by omega
    have HI:Hid (aH (la.take k)=aH (lb.take k)):=hinv
    clear hinv
    by_cases hs:la[k].1=lb[k].1
    ·have hs':(la[k].1.toList==lb[k].1.toList)=true:=fM.2 hs
     have HS:Hid (la[k].1=lb[k].1):=hs
     clear hs
     go_wp2_with fail
     go_quiet (fail)
     go_wp2_with fail
     exact⟨⟨k+1,by omega,by go_num,uS HI.out hlt hltb HS.out,below_drewN hbl _⟩,by simp[intOf];omega⟩
    ·have hs':(la[k].1.toList==lb[k].1.toList)=false:=bg.2 hs
     go_wp2_with fail
     go_quiet (fail)
     go_wp2_with fail
     go_ret
     exact⟨ai (fun h=>hs (Jv h hlt hltb)),below_drewN hbl _⟩
   ·have HF:Hid (aH la=aH lb):=by
     rw[List.take_of_length_le (by omega),List.take_of_length_le (by omega)]at hinv
     exact hinv
    clear hinv
    go_wp2_with fail
    go_ret
    exact⟨dE HF.out,hbl⟩
 ·have hlen':((la.length:Int) != (lb.length:Int))=true:=by rw[bne_iff_ne];omega
  go_wp2_with fail
  go_ret
  exact⟨ai (fun h=>hlen (G8 h)),Below.refl _ _⟩
set_option maxHeartbeats 800000 in
theorem uj (x y:Int)(aa ab:Option Addr)(ca cb:Nat)(la lb:List (ByteArray×Int))(w:World)(fa:uO la)(fb:uO lb)(ha:Row w aa la)(hb:Row w ab lb) :
  Calls Tryz.prog 153 #[.agg #[.int .i64 x,.slice aa la.length ca],.agg #[.int .i64 y,.slice ab lb.length cb]] w fun e w'=>rU (eU la lb) e/\Below w.heap.size w w':=by
 go_enter Tryz.func153,Tryz.ntmps153
 go_wp2_with fail
 have hsz:((w.alloc (.cells #[.int .i64 x,.slice aa la.length ca] 34)).alloc (.cells #[.int .i64 y,.slice ab lb.length cb] 34)).heap.size=w.heap.size+2:=by simp
 have c1:((w.alloc (.cells #[.int .i64 x,.slice aa la.length ca] 34)).alloc (.cells #[.int .i64 y,.slice ab lb.length cb] 34)).cell? ⟨w.heap.size,1,none⟩=some (.slice aa la.length ca):=by simp[go_sem]
 have d1:((w.alloc (.cells #[.int .i64 x,.slice aa la.length ca] 34)).alloc (.cells #[.int .i64 y,.slice ab lb.length cb] 34)).cell? ⟨w.heap.size+1,1,none⟩=some (.slice ab lb.length cb):=by simp[go_sem]
 have hb0:Below w.heap.size w ((w.alloc (.cells #[.int .i64 x,.slice aa la.length ca] 34)).alloc (.cells #[.int .i64 y,.slice ab lb.length cb] 34)):=((Below.refl _ _).alloc (Nat.le_refl _) _).alloc (by simp) _
 generalize (w.alloc (.cells #[.int .i64 x,.slice aa la.length ca] 34)).alloc (.cells #[.int .i64 y,.slice ab lb.length cb] 34)=W0 at *
 have g0:w.heap.size<W0.heap.size:=by omega
 have g1:w.heap.size+1<W0.heap.size:=by omega
 refine(yC aa ab ca cb la lb _ fa.1 (ha.below hb0) (hb.below hb0)).mono ?_
 rintro e w1 ⟨⟨r,rfl,hr⟩,b1⟩
 replace c1:=ae b1 g0 c1
 replace d1:=ae b1 g1 d1
 have B1:Below w.heap.size w w1:=hb0.trans (b1.mono hb0.size)
 have HR:Hid (r=true↔aH la=aH lb):=hr
 clear hr
 cases r
 ·have HN:Hid (¬eU la lb):=fun h=>by simpa using HR.out.2 h.1
  clear HR
  go_wp2_with fail
  go_ret
  exact⟨ai HN.out,B1⟩
 ·go_wp2_with fail
  refine(pG aa ab ca cb la lb _ fa.1 fb.1 ((ha.below hb0).below b1) ((hb.below hb0).below b1) fa.2 fb.2).mono ?_
  rintro e w2 ⟨⟨v,rfl,hv⟩,b2⟩
  have B2:Below w.heap.size w w2:=B1.trans (b2.mono B1.size)
  have HV:Hid (v=1↔(ah la/\ah lb/\dL la lb/\¬dL lb la)):=Ce hv
  clear hv
  go_wp2_with fail
  go_ret
  refine⟨⟨v==1,rfl, ?_⟩,B2⟩
  rw[beq_iff_eq,HV.out]
  exact⟨fun h=>⟨HR.out.1 (by trivial),h⟩,fun h=>h.2⟩
def lH (l:List mO)(k:Nat):Prop:=(∀j,(h:j<l.length)->j<k->ah l[j].2/\l[j].2≠[])/\∀j,(h:j+1<l.length)->j+1<k->eU l[j].2 l[j+1].2
theorem qx (l:List mO):lH l 0:=⟨fun _ _ h=>by omega,fun _ _ h=>by omega⟩
theorem mr {l:List mO}{k:Nat}(H:lH l k)(hk:k<l.length)(hm:ah l[k].2/\l[k].2≠[])(ha:0<k->eU (l[k-1]'(by omega)).2 l[k].2):lH l (k+1):=by
 refine⟨fun j hj hlt=>?_,fun j hj hlt=>?_⟩
 ·by_cases e:j=k
  ·subst e;exact hm
  ·exact H.1 j hj (by omega)
 ·by_cases e:j+1=k
  ·subst e;exact ha (by omega)
  ·exact H.2 j hj (by omega)
theorem zY {l:List mO}{k:Nat}(H:lH l k)(hk:¬k<l.length)(h:l.length<=4):aX l:=⟨h,fun j hj=>H.1 j hj (by omega),fun j hj=>H.2 j hj (by omega)⟩
theorem x8 {l:List mO}(h:aX l){k:Nat}(h0:0<k)(hk:k<l.length):eU (l[k-1]'(by omega)).2 l[k].2:=by
 obtain⟨m,rfl⟩:∃m,k=m+1:=⟨k-1,by omega⟩
 exact h.2.2 m hk
theorem D6 (P:Prop):∃q:Bool,q=true↔P:=by
 by_cases h:P
 ·exact⟨true,by simp[h]⟩
 ·exact⟨false,by simp[h]⟩
set_option maxHeartbeats 1600000 in
theorem pR (a:Option Addr)(cap:Nat)(l:List af)(w:World)(hf:Be l)(hr:pg w a l) :
  Calls Tryz.prog 117 #[.slice a l.length cap] w fun e w'=>rU (aX l) e/\Below w.heap.size w w':=by
 have hl:=hf.1
 unfold maxLen at hl
 by_cases h4:4<l.length
 ·go_enter Tryz.func117,Tryz.ntmps117
  go_wp2_with fail
  go_ret
  exact⟨ai (fun h=>by have:=h.1;omega),Below.refl _ _⟩
 go_enter Tryz.func117,Tryz.ntmps117
 go_wp2_with fail
 go_loopw [3] (fun i wr=>∃k:Nat,k<=l.length/\i=.int .i64 k/\lH l k/\Below w.heap.size w wr) (fun i _=>l.length-(intOf i).toNat)
 case atStart=>exact⟨0,Nat.zero_le _,rfl,qx l,Below.refl _ _⟩
 case round=>
  obtain⟨k,hk,rfl,hinv,hbl⟩:=hrel
  have HI:Hid (lH l k):=hinv
  have hzr:=hbl.size
  clear hinv
  by_cases hlt:k<l.length
  ·obtain⟨b1,o1,rfl,g1,e0,v1,e1,⟨s1,t1,rfl,_,r1⟩⟩:=hr.below hbl k hlt
   have k0:(0:Int)<=(k:Int):=by omega
   have k1:(k:Int)<(l.length:Int):=by omega
   have fk:=hf.2 k hlt
   go_wp2_with fail
   refine(fZ s1 t1 l[k].2 _ fk.1 r1 fk.2).mono ?_
   rintro e w1 ⟨⟨r,rfl,hr1⟩,b1'⟩
   have HR1:Hid (r=true↔ah l[k].2):=hr1
   replace e0:=ae b1' g1 e0
   replace e1:=ae b1' g1 e1
   replace r1:=r1.below b1'
   have B1:Below w.heap.size w w1:=hbl.trans (b1'.mono hzr)
   have g1':b1<w1.heap.size:=Nat.lt_of_lt_of_le g1 b1'.size
   clear hr1
   cases r
   ·have HN:Hid (¬aX l):=fun h=>by simpa using HR1.out.2 (h.2.1 k hlt).1
    clear HR1
    go_wp2_with fail
    go_ret
    exact⟨ai HN.out,B1⟩
   have HSP:Hid (ah l[k].2):=HR1.out.1 rfl
   clear HR1
   by_cases hz:l[k].2.length=0
   ·have hz':((l[k].2.length:Int)==0)=true:=by rw[beq_iff_eq];omega
    have HN:Hid (¬aX l):=fun h=>(h.2.1 k hlt).2 (List.length_eq_zero_iff.1 hz)
    clear hz
    go_wp2_with fail
    go_ret
    exact⟨ai HN.out,B1⟩
   have hz':((l[k].2.length:Int)==0)=false:=by rw[beq_eq_false_iff_ne];omega
   have HNE:Hid (l[k].2≠[]):=fun e=>hz (by rw[e];rfl)
   clear hz
   by_cases hk0:0<k
   ·obtain⟨b2,o2,eb,g2,f0,v2,f1,⟨s2,t2,rfl,_,r2⟩⟩:=(hr.below B1) (k-1) (by omega)
    obtain⟨rfl,rfl⟩:b1=b2/\o1=o2:=by simpa using eb
    have fk2:=hf.2 (k-1) (by omega)
    have k3:(0:Int)<=(k:Int)-1:=by omega
    have hkm:((k:Int)-1)=((k-1:Nat):Int):=by omega
    obtain⟨q,hq⟩:∃q:Bool,q=true↔eU (l[k-1]'(by omega)).2 l[k].2:=D6 _
    have HQ:Hid (q=true↔eU (l[k-1]'(by omega)).2 l[k].2):=hq
    have hne:=dA.some w1
    have ce:∀n:dA w1,Calls Tryz.prog 153 #[.agg #[.int .i64 (l[k-1]'(by omega)).1,.slice s2 (l[k-1]'(by omega)).2.length t2],.agg #[.int .i64 l[k].1,.slice s1 l[k].2.length t1]] n.w fun e w''=>e=.returned (.bool q)/\Below n.w.heap.size n.w w'':=fun n=>
     (uj _ _ s2 s1 t2 t1 _ _ n.w fk2 fk (r2.below n.h) (r1.below n.h)).mono fun _ _ ⟨⟨q',he,hq'⟩,hb'⟩=>⟨by rw[he,show q'=q by rw[Bool.eq_iff_iff,hq',HQ.out]],hb'⟩
    have q0:∀n:dA w1,n.w.cell? ⟨b1,o1+k*2,none⟩=some (.int .i64 l[k].1):=fun n=>n.cell g1' e0
    have q1:∀n:dA w1,n.w.cell? ⟨b1,o1+k*2+1,none⟩=some (.slice s1 l[k].2.length t1):=fun n=>n.cell g1' e1
    have q2:∀n:dA w1,n.w.cell? ⟨b1,o1+(k-1)*2,none⟩=some (.int .i64 (l[k-1]'(by omega)).1):=fun n=>n.cell g1' f0
    have q3:∀n:dA w1,n.w.cell? ⟨b1,o1+(k-1)*2+1,none⟩=some (.slice s2 (l[k-1]'(by omega)).2.length t2):=fun n=>n.cell g1' f1
    clear hq
    go_wp2_with fail
    refine aF (by kernel_rfl) (by kernel_rfl) ?_
    repeat (go_big_quiet_step ((go_at_call 153;exact Calls.lat_of (ce _))))
    refine wpQuiet_nil ?_
    rintro _ ⟨nq,rfl⟩
    have Bn:Below w.heap.size w nq.w:=B1.trans (nq.h.mono B1.size)
    cases q
    ·have HN:Hid (¬aX l):=fun h=>by simpa using HQ.out.2 (x8 h hk0 hlt)
     clear HQ ce
     go_wp2_with fail
     go_ret
     exact⟨ai HN.out,Bn⟩
    ·have HST:Hid (lH l (k+1)):=mr HI.out hlt ⟨HSP.out,HNE.out⟩ (fun _=>HQ.out.1 rfl)
     clear HQ ce
     go_wp2_with fail
     exact⟨⟨k+1,by omega,by go_num,HST.out,Bn⟩,by simp[intOf];omega⟩
   ·have HST:Hid (lH l (k+1)):=mr HI.out hlt ⟨HSP.out,HNE.out⟩ (fun h=>absurd h hk0)
    go_wp2_with fail
    go_quiet (fail)
    go_wp2_with fail
    exact⟨⟨k+1,by omega,by go_num,HST.out,below_drewN B1 _⟩,by simp[intOf];omega⟩
  ·have HF:Hid (aX l):=zY HI.out hlt (by omega)
   go_wp2_with fail
   go_ret
   exact⟨dE HF.out,hbl⟩
def iF (w:World)(a:Option Addr)(ws:List (List af)):Prop:=
 ∀k,(h:k<ws.length)->∃b o,a=some ⟨b,o,none⟩/\b<w.heap.size/\∃s c,w.cell? ⟨b,o+k,none⟩=some (.slice s ws[k].length c)/\ws[k].length<=c/\pg w s ws[k]
def iC (w:World)(a:Option Addr)(ps:List Int):Prop:=
 ∀k,(h:k<ps.length)->∃b o,a=some ⟨b,o,none⟩/\b<w.heap.size/\w.cell? ⟨b,o+k,none⟩=some (.int .i64 ps[k])
theorem iF.below {w w':World}{a:Option Addr}{ws:List (List af)}(h:iF w a ws)(hb:Below w.heap.size w w'):iF w' a ws:=fun k hk=>by
 obtain⟨b,o,ha,hlt,s,c,h1,h2,h3⟩:=h k hk
 exact⟨b,o,ha,Nat.lt_of_lt_of_le hlt hb.size,s,c,by rw[hb.cell hlt];exact h1,h2,h3.below hb⟩
theorem iC.below {w w':World}{a:Option Addr}{ps:List Int}(h:iC w a ps)(hb:Below w.heap.size w w'):iC w' a ps:=fun k hk=>by
 obtain⟨b,o,ha,hlt,h1⟩:=h k hk
 exact⟨b,o,ha,Nat.lt_of_lt_of_le hlt hb.size,by rw[hb.cell hlt];exact h1⟩
def wM (ws:List (List af)):Prop:=ws.length<=maxLen/\∀j,(h:j<ws.length)->Be ws[j]
def OkW (ws:List (List af)):Prop:=1<=ws.length/\ws.length<=6/\∀k,(h:k<ws.length)->aX ws[k]
def lM (ws:List (List af))(ps:List Int)(i:Nat):List (ByteArray×Int):=((ws.getD i []).getD (ps.getD i 0).toNat (0,[])).2
def yt (ws:List (List af))(ps:List Int):Prop:=∀i k,k<i->i<ps.length->gU (lM ws ps i) (lM ws ps k)
def kH (ws:List (List af))(ps:List Int):Prop:=ps.length<=ws.length/\∀i,(h:i<ps.length)->0<=ps[i]/\ps[i]<((ws.getD i []).length:Int)
def oQ (ws:List (List af))(ps:List Int):Prop:=OkW ws/\ps.length=ws.length/\kH ws ps/\yt ws ps
theorem wP {ws:List (List af)}{k:Nat}(H:∀j,(h:j<ws.length)->j<k->aX ws[j])(hk:k<ws.length)(h:aX ws[k]):∀j,(h:j<ws.length)->j<k+1->aX ws[j]:=fun j hj hlt=>by
 by_cases e:j=k
 ·subst e;exact h
 ·exact H j hj (by omega)
set_option maxHeartbeats 800000 in
theorem xM (a:Option Addr)(cap:Nat)(ws:List (List af))(w:World)(hf:wM ws)(hr:iF w a ws) :
  Calls Tryz.prog 74 #[.slice a ws.length cap] w fun e w'=>rU (OkW ws) e/\Below w.heap.size w w':=by
 have hl:=hf.1
 unfold maxLen at hl
 by_cases h1:ws.length<1
 ·go_enter Tryz.func74,Tryz.ntmps74
  go_wp2_with fail
  go_ret
  exact⟨ai (fun h=>by have:=h.1;omega),Below.refl _ _⟩
 by_cases h6:6<ws.length
 ·go_enter Tryz.func74,Tryz.ntmps74
  go_wp2_with fail
  go_ret
  exact⟨ai (fun h=>by have:=h.2.1;omega),Below.refl _ _⟩
 go_enter Tryz.func74,Tryz.ntmps74
 go_wp2_with fail
 go_loopw [3] (fun i wr=>∃k:Nat,k<=ws.length/\i=.int .i64 k/\(∀j,(h:j<ws.length)->j<k->aX ws[j])/\Below w.heap.size w wr) (fun i _=>ws.length-(intOf i).toNat)
 case atStart=>exact⟨0,Nat.zero_le _,rfl,fun _ _ h=>by omega,Below.refl _ _⟩
 case round=>
  obtain⟨k,hk,rfl,hinv,hbl⟩:=hrel
  have HI:Hid (∀j,(h:j<ws.length)->j<k->aX ws[j]):=hinv
  clear hinv
  by_cases hlt:k<ws.length
  ·obtain⟨b1,o1,rfl,g1,s1,t1,e1,_,r1⟩:=hr.below hbl k hlt
   have k0:(0:Int)<=(k:Int):=by omega
   have k1:(k:Int)<(ws.length:Int):=by omega
   go_wp2_with fail
   refine(pR s1 t1 ws[k] _ (hf.2 k hlt) r1).mono ?_
   rintro e w1 ⟨⟨r,rfl,hr1⟩,b1'⟩
   have B1:Below w.heap.size w w1:=hbl.trans (b1'.mono hbl.size)
   have HR:Hid (r=true↔aX ws[k]):=hr1
   clear hr1
   cases r
   ·have HN:Hid (¬OkW ws):=fun h=>by simpa using HR.out.2 (h.2.2 k hlt)
    clear HR
    go_wp2_with fail
    go_ret
    exact⟨ai HN.out,B1⟩
   ·have HST:Hid (∀j,(h:j<ws.length)->j<k+1->aX ws[j]):=wP HI.out hlt (HR.out.1 rfl)
    clear HR
    go_wp2_with fail
    exact⟨⟨k+1,by omega,by go_num,HST.out,B1⟩,by simp[intOf];omega⟩
  ·have HF:Hid (OkW ws):=⟨by omega,by omega,fun j hj=>HI.out j hj (by omega)⟩
   go_wp2_with fail
   go_ret
   exact⟨dE HF.out,hbl⟩
theorem MO {ws:List (List af)}{ps:List Int}{i:Nat}(hi:i<ps.length)(hw:i<ws.length){q:Nat}(hq:ps[i]=(q:Int))(hq2:q<ws[i].length):lM ws ps i=ws[i][q].2:=by
 unfold lM
 simp[List.getD_eq_getElem?_getD,hi,hw,hq,hq2]
theorem vK {ws:List (List af)}{ps:List Int}(h:kH ws ps){i:Nat}(hi:i<ps.length):∃(hw:i<ws.length) (q:Nat),ps[i]=(q:Int)/\∃h2:q<ws[i].length,lM ws ps i=ws[i][q].2:=by
 have hw:i<ws.length:=by have:=h.1;omega
 obtain⟨h1,h2⟩:=h.2 i hi
 have e:ws.getD i []=ws[i]:=by simp[List.getD_eq_getElem?_getD,hw]
 rw[e]at h2
 obtain⟨q,hq⟩:=Int.eq_ofNat_of_zero_le h1
 have hq2:q<ws[i].length:=by omega
 exact⟨hw,q,hq,hq2,MO hi hw hq hq2⟩
set_option maxHeartbeats 1600000 in
theorem lW (a:Option Addr)(cap:Nat)(ws:List (List af))(a':Option Addr)(cap':Nat)(ps:List Int)(w:World)(hf:wM ws)(hr:iF w a ws)(hp:ps.length<=maxLen)(hr':iC w a' ps)(hin:kH ws ps) :
  Calls Tryz.prog 119 #[.slice a ws.length cap,.slice a' ps.length cap'] w fun e w'=>rU (yt ws ps) e/\Below w.heap.size w w':=by
 have hl:=hf.1
 unfold maxLen at hl hp
 go_enter Tryz.func119,Tryz.ntmps119
 go_wp2_with fail
 have HIN:Hid (kH ws ps):=hin
 clear hin
 go_loopw [5,6] (fun iv kv wr=>∃i:Nat,i<=ps.length/\iv=.int .i64 i/\(∀i' k',k'<i'->i'<i->gU (lM ws ps i') (lM ws ps k'))/\Below w.heap.size w wr/\kv=kv) (fun iv _ _=>ps.length-(intOf iv).toNat)
 case atStart=>exact⟨0,Nat.zero_le _,rfl,fun _ _ _ h=>by omega,Below.refl _ _,rfl⟩
 case round=>
  obtain⟨i,hi,rfl,hinv,hbl,_⟩:=hrel
  have HI:Hid (∀i' k',k'<i'->i'<i->gU (lM ws ps i') (lM ws ps k')):=hinv
  clear hinv
  by_cases hlt:i<ps.length
  ·obtain⟨hwi,q1,hq1,hq1l,hpk1⟩:=vK HIN.out hlt
   have i0':(0:Int)<=(i:Int):=by omega
   have i1':(i:Int)<(ps.length:Int):=by omega
   have i2':(i:Int)<(ws.length:Int):=by omega
   have HPK1:Hid (lM ws ps i=ws[i][q1].2):=hpk1
   clear hpk1
   go_wp2_with fail
   go_loopw [6] (fun kv wr'=>∃k:Nat,k<=i/\kv=.int .i64 k/\(∀k',k'<k->gU (lM ws ps i) (lM ws ps k'))/\Below w.heap.size w wr') (fun kv _=>i-(intOf kv).toNat)
   case atStart=>exact⟨0,Nat.zero_le _,rfl,fun _ h=>by omega,hbl⟩
   case round=>
    obtain⟨k,hk,rfl,hinv2,hbl2⟩:=hrel
    have HI2:Hid (∀k',k'<k->gU (lM ws ps i) (lM ws ps k')):=hinv2
    clear hinv2
    by_cases hlt2:k<i
    ·have hkp:k<ps.length:=by omega
     obtain⟨hwk,q2,hq2,hq2l,hpk2⟩:=vK HIN.out hkp
     have HPK2:Hid (lM ws ps k=ws[k][q2].2):=hpk2
     clear hpk2
     obtain⟨b1,o1,rfl,g1,s1,t1,e1,_,r1⟩:=hr.below hbl2 i hwi
     obtain⟨b1',o1',eb,g1',s2,t2,e2,_,r2⟩:=hr.below hbl2 k hwk
     obtain⟨rfl,rfl⟩:b1=b1'/\o1=o1':=by simpa using eb
     obtain⟨c1,p1,rfl,gc,z1⟩:=hr'.below hbl2 i hlt
     obtain⟨c1',p1',ec,gc',z2⟩:=hr'.below hbl2 k hkp
     obtain⟨rfl,rfl⟩:c1=c1'/\p1=p1':=by simpa using ec
     obtain⟨d1,u1,rfl,gd1,_,v1,y1,⟨m1,n1',rfl,_,rm1⟩⟩:=r1 q1 hq1l
     obtain⟨d2,u2',rfl,gd2,_,v2,y2,⟨m2,n2',rfl,_,rm2⟩⟩:=r2 q2 hq2l
     rw[hq1]at z1
     rw[hq2]at z2
     have f1:=(hf.2 i hwi).2 q1 hq1l
     have f2:=(hf.2 k hwk).2 q2 hq2l
     have k0:(0:Int)<=(k:Int):=by omega
     have k1:(k:Int)<(ps.length:Int):=by omega
     have k2:(k:Int)<(ws.length:Int):=by omega
     have k3:(k:Int)<(i:Int):=by omega
     have x0:(0:Int)<=(q1:Int):=by omega
     have x1:(q1:Int)<(ws[i].length:Int):=by omega
     have x2:(0:Int)<=(q2:Int):=by omega
     have x3:(q2:Int)<(ws[k].length:Int):=by omega
     obtain⟨q,hq⟩:=D6 (gU ws[i][q1].2 ws[k][q2].2)
     have HQ:Hid (q=true↔gU ws[i][q1].2 ws[k][q2].2):=hq
     clear hq
     have hne:=dA.some wr
     have n1:∀n:dA wr,n.w.cell? ⟨b1,o1+i,none⟩=some (.slice (some ⟨d1,u1,none⟩) ws[i].length t1):=fun n=>n.cell g1 e1
     have n2:∀n:dA wr,n.w.cell? ⟨b1,o1+k,none⟩=some (.slice (some ⟨d2,u2',none⟩) ws[k].length t2):=fun n=>n.cell g1' e2
     have n3:∀n:dA wr,n.w.cell? ⟨c1,p1+i,none⟩=some (.int .i64 (q1:Int)):=fun n=>n.cell gc z1
     have n4:∀n:dA wr,n.w.cell? ⟨c1,p1+k,none⟩=some (.int .i64 (q2:Int)):=fun n=>n.cell gc' z2
     have n5:∀n:dA wr,n.w.cell? ⟨d1,u1+q1*2+1,none⟩=some (.slice m1 ws[i][q1].2.length n1'):=fun n=>n.cell gd1 y1
     have n6:∀n:dA wr,n.w.cell? ⟨d2,u2'+q2*2+1,none⟩=some (.slice m2 ws[k][q2].2.length n2'):=fun n=>n.cell gd2 y2
     have ce:∀n:dA wr,Calls Tryz.prog 155 #[.slice m1 ws[i][q1].2.length n1',.slice m2 ws[k][q2].2.length n2'] n.w fun e w''=>e=.returned (.bool q)/\Below n.w.heap.size n.w w'':=fun n=>
      (yA m1 m2 n1' n2' _ _ n.w f1.1 f2.1 (rm1.below n.h) (rm2.below n.h) f1.2 f2.2).mono fun _ _ ⟨⟨q',he,hq'⟩,hb'⟩=>⟨by rw[he,show q'=q by rw[Bool.eq_iff_iff,hq',HQ.out]],hb'⟩
     clear e1 e2 z1 z2 y1 y2
     go_wp2_with fail
     refine aF (by kernel_rfl) (by kernel_rfl) ?_
     repeat (go_big_quiet_step ((go_at_call 155;exact Calls.lat_of (ce _))))
     refine wpQuiet_nil ?_
     rintro _ ⟨nq,rfl⟩
     have Bn:Below w.heap.size w nq.w:=hbl2.trans (nq.h.mono hbl2.size)
     cases q
     ·have HN:Hid (¬yt ws ps):=fun h=>by
       have h3:=h i k hlt2 hlt
       rw[HPK1.out,HPK2.out]at h3
       simpa using HQ.out.2 h3
      clear HQ ce
      go_wp2_with fail
      go_ret
      exact⟨ai HN.out,Bn⟩
     ·have HST:Hid (∀k',k'<k+1->gU (lM ws ps i) (lM ws ps k')):=fun k' hk'=>by
       by_cases e:k'=k
       ·subst e;rw[HPK1.out,HPK2.out];exact HQ.out.1 rfl
       ·exact HI2.out k' (by omega)
      clear HQ ce
      go_wp2_with fail
      exact⟨⟨k+1,by omega,by go_num,HST.out,Bn⟩,by simp[intOf];omega⟩
    ·have HO:Hid (∀i' k',k'<i'->i'<i+1->gU (lM ws ps i') (lM ws ps k')):=fun i' k' h1 h2=>by
      by_cases e:i'=i
      ·subst e;exact HI2.out k' (by omega)
      ·exact HI.out i' k' h1 (by omega)
     go_wp2_with fail
     exact⟨⟨i+1,by omega,by go_num,HO.out,hbl2,by trivial⟩,by simp[intOf];omega⟩
  ·have HF:Hid (yt ws ps):=fun i' k' h1 h2=>HI.out i' k' h1 (by omega)
   go_wp2_with fail
   go_ret
   exact⟨dE HF.out,hbl⟩
theorem getD_at {ws:List (List af)}{i:Nat}(hw:i<ws.length):ws.getD i []=ws[i]:=by simp[List.getD_eq_getElem?_getD,hw]
set_option maxHeartbeats 1600000 in
theorem nI (a:Option Addr)(cap:Nat)(ws:List (List af))(a':Option Addr)(cap':Nat)(ps:List Int)(w:World)(hf:wM ws)(hr:iF w a ws)(hp:ps.length<=maxLen)(hr':iC w a' ps) :
  Calls Tryz.prog 154 #[.slice a ws.length cap,.slice a' ps.length cap'] w fun e w'=>rU (oQ ws ps) e/\Below w.heap.size w w':=by
 have hl:=hf.1
 have hp':=hp
 unfold maxLen at hl hp
 go_enter Tryz.func154,Tryz.ntmps154
 go_wp2_with fail
 refine(xM a cap ws _ hf hr).mono ?_
 rintro e w1 ⟨⟨r,rfl,hr1⟩,b1⟩
 have HR:Hid (r=true↔OkW ws):=hr1
 clear hr1
 cases r
 ·have HN:Hid (¬oQ ws ps):=fun h=>by simpa using HR.out.2 h.1
  clear HR
  go_wp2_with fail
  go_ret
  exact⟨ai HN.out,b1⟩
 have HOK:Hid (OkW ws):=HR.out.1 rfl
 clear HR
 by_cases hlen:ps.length=ws.length
 ·have hlen':((ps.length:Int) != (ws.length:Int))=false:=by rw[bne_eq_false_iff_eq];omega
  have HL:Hid (ps.length=ws.length):=hlen
  have hle1:ps.length<=ws.length:=by omega
  clear hlen
  go_wp2_with fail
  go_loopw [5] (fun iv wr=>∃k:Nat,k<=ps.length/\iv=.int .i64 k/\(∀j,(h:j<ps.length)->j<k->0<=ps[j]/\ps[j]<((ws.getD j []).length:Int))/\Below w.heap.size w wr) (fun iv _=>ps.length-(intOf iv).toNat)
  case atStart=>exact⟨0,Nat.zero_le _,rfl,fun _ _ h=>by omega,b1⟩
  case round=>
   obtain⟨k,hk,rfl,hinv,hbl⟩:=hrel
   have HI:Hid (∀j,(h:j<ps.length)->j<k->0<=ps[j]/\ps[j]<((ws.getD j []).length:Int)):=hinv
   clear hinv
   by_cases hlt:k<ps.length
   ·have hwk:k<ws.length:=by omega
    obtain⟨b2,o2,rfl,g1,s1,t1,e1,_,_⟩:=hr.below hbl k hwk
    obtain⟨c1,p1,rfl,gc,z1⟩:=hr'.below hbl k hlt
    have k0:(0:Int)<=(k:Int):=by omega
    have k1:(k:Int)<(ps.length:Int):=by omega
    have k2:(k:Int)<(ws.length:Int):=by omega
    have HG:Hid (ws.getD k []=ws[k]):=getD_at hwk
    have hwl:ws[k].length<=9223372036854775807:=(hf.2 k hwk).1
    by_cases hn:ps[k]<0
    ·have HN:Hid (¬oQ ws ps):=fun h=>by have:=(h.2.2.1.2 k hlt).1;omega
     clear HG
     go_wp2_with fail
     go_quiet (fail)
     go_wp2_with fail
     go_ret
     exact⟨ai HN.out,below_drewN hbl _⟩
    by_cases hg:ps[k]<(ws[k].length:Int)
    ·have HST:Hid (∀j,(h:j<ps.length)->j<k+1->0<=ps[j]/\ps[j]<((ws.getD j []).length:Int)):=fun j hj hlt'=>by
      by_cases e:j=k
      ·subst e;rw[HG.out];exact⟨by omega,hg⟩
      ·exact HI.out j hj (by omega)
     clear HG
     go_wp2_with fail
     go_quiet (fail)
     go_wp2_with fail
     exact⟨⟨k+1,by omega,by go_num,HST.out,below_drewN hbl _⟩,by simp[intOf];omega⟩
    ·have HN:Hid (¬oQ ws ps):=fun h=>by have h3:=(h.2.2.1.2 k hlt).2;rw[HG.out]at h3;omega
     clear HG
     go_wp2_with fail
     go_quiet (fail)
     go_wp2_with fail
     go_ret
     exact⟨ai HN.out,below_drewN hbl _⟩
   ·have HIN:Hid (kH ws ps):=⟨hle1,fun j hj=>HI.out j hj (by omega)⟩
    go_wp2_with fail
    refine(lW a cap ws a' cap' ps _ hf (hr.below hbl) hp' (hr'.below hbl) HIN.out).mono ?_
    rintro e w3 ⟨⟨q,rfl,hq⟩,b3⟩
    have B3:Below w.heap.size w w3:=hbl.trans (b3.mono hbl.size)
    have HQ:Hid (q=true↔yt ws ps):=hq
    clear hq
    go_wp2_with fail
    go_ret
    exact⟨⟨q,rfl,HQ.out.trans ⟨fun h=>⟨HOK.out,HL.out,HIN.out,h⟩,fun h=>h.2.2.2⟩⟩,B3⟩
 ·have hlen':((ps.length:Int) != (ws.length:Int))=true:=by rw[bne_iff_ne];omega
  have HN:Hid (¬oQ ws ps):=fun h=>hlen h.2.1
  go_wp2_with fail
  go_ret
  exact⟨ai HN.out,b1⟩
end Go.Proofs.YtpfhegengmlkmabGreatDoor
namespace Go.Proofs.YtpfhegengmlkmabGreatDoor
theorem lQ {ws:List (List af)}{ps:List Int}(hin:kH ws ps){i:Nat}(hi:i<ps.length)(hw:i<ws.length):∃h:ps[i].toNat<ws[i].length,lM ws ps i=(ws[i][ps[i].toNat]).2:=by
 obtain⟨h0,h1⟩:=hin.2 i hi
 have e:ws.getD i []=ws[i]:=by simp[List.getD,hw]
 have e2:ps.getD i 0=ps[i]:=by simp[List.getD,hi]
 rw[e]at h1
 have h:ps[i].toNat<ws[i].length:=by omega
 refine⟨h, ?_⟩
 unfold lM
 rw[e,e2]
 simp[List.getD,h]
theorem LH {ws:List (List af)}{a b:List Int}(ha:oQ ws a)(hb:oQ ws b):oQ ws (List.zipWith max a b):=by
 obtain⟨hok,la,ia,ga⟩:=ha
 obtain⟨_,lb,ib,gb⟩:=hb
 have hl:(List.zipWith max a b).length=ws.length:=by simp[la,lb]
 have hin:kH ws (List.zipWith max a b):=by
  refine⟨by omega,fun i hi=>?_⟩
  have hia:i<a.length:=by omega
  have hib:i<b.length:=by omega
  have h1:=ia.2 i hia
  have h2:=ib.2 i hib
  rw[List.getElem_zipWith]
  omega
 refine⟨hok,hl,hin,fun i k hk hi=>?_⟩
 rw[hl]at hi
 have hkw:k<ws.length:=by omega
 obtain⟨p1,e1⟩:=lQ hin (i:=i) (by omega) hi
 obtain⟨p2,e2⟩:=lQ hin (i:=k) (by omega) hkw
 obtain⟨q1,f1⟩:=lQ ia (i:=i) (by omega) hi
 obtain⟨q2,f2⟩:=lQ ia (i:=k) (by omega) hkw
 obtain⟨r1,g1⟩:=lQ ib (i:=i) (by omega) hi
 obtain⟨r2,g2⟩:=lQ ib (i:=k) (by omega) hkw
 have A:=ga i k hk (by omega)
 have B:=gb i k hk (by omega)
 rw[f1,f2]at A
 rw[g1,g2]at B
 have L:=Az (hok.2.2 i hi) (hok.2.2 k hkw) q1 r1 q2 r2 A B
 rw[e1,e2]
 have m1:((List.zipWith max a b)[i]'(by omega)).toNat=max (a[i]'(by omega)).toNat (b[i]'(by omega)).toNat:=by
  have h1:=ia.2 i (by omega)
  have h2:=ib.2 i (by omega)
  rw[List.getElem_zipWith]
  omega
 have m2:((List.zipWith max a b)[k]'(by omega)).toNat=max (a[k]'(by omega)).toNat (b[k]'(by omega)).toNat:=by
  have h1:=ia.2 k (by omega)
  have h2:=ib.2 k (by omega)
  rw[List.getElem_zipWith]
  omega
 simp only[m1,m2]
 exact L
def fC (ws:List (List af))(out:List Int)(ok:Bool):Prop:=
 (ok=true/\oQ ws out/\∀q,oQ ws q->∀i,(hq:i<q.length)->(ho:i<out.length)->q[i]<=out[i])∨(ok=false/\out=[]/\∀q,¬oQ ws q)
theorem fC.one {ws:List (List af)}{a b:List Int}{x y:Bool}(h:fC ws a x)(k:fC ws b y):a=b/\x=y:=by
 rcases h with⟨rfl,h1,h2⟩|⟨rfl,rfl,h2⟩
 ·rcases k with⟨rfl,k1,k2⟩|⟨rfl,rfl,k2⟩
  ·refine⟨?_,rfl⟩
   have la:=h1.2.1
   have lb:=k1.2.1
   apply List.ext_getElem (by omega)
   intro i hi hi'
   have e1:=h2 b k1 i hi' hi
   have e2:=k2 a h1 i hi hi'
   omega
  ·exact absurd h1 (k2 a)
 ·rcases k with⟨rfl,k1,k2⟩|⟨rfl,rfl,k2⟩
  ·exact absurd k1 (h2 b)
  ·exact⟨rfl,rfl⟩
abbrev aW:=Nat×Nat
def jW (ws:List (List af))(s:ByteArray)(p:aW):Prop:=∃h:p.1<ws.length,∃h0:0<ws[p.1].length,∃h1:p.2<(ws[p.1][ws[p.1].length-1]).2.length,((ws[p.1][ws[p.1].length-1]).2[p.2]).1=s
def lU (ws:List (List af))(sh:List (List aW)):Prop:=
 (∀src∈sh,∃s,∀p∈src,jW ws s p) /\
 ∀s i k j l,i≠k->jW ws s (i,j)->jW ws s (k,l)->∃src∈sh,(i,j)∈src/\(k,l)∈src
def dJ (ws:List (List af))(ps:List Int)(p:aW):Int:=((lM ws ps p.1).getD p.2 (ByteArray.empty,0)).2
theorem F6 {a b:List (ByteArray×Int)}(h:aH a=aH b){j:Nat}(hj:j<a.length):∃hb:j<b.length,a[j].1=b[j].1:=by
 have hl:a.length=b.length:=by
  have:=congrArg List.length h
  simpa[aH]using this
 refine⟨by omega, ?_⟩
 have e:(aH a)[j]?=(aH b)[j]?:=by rw[h]
 have hb:j<b.length:=by omega
 simpa[aH,hj,hb]using e
theorem jK {ws:List (List af)}{ps:List Int}(hok:OkW ws)(hl:ps.length=ws.length)(hin:kH ws ps){s:ByteArray}{p:aW}(hp:jW ws s p):∃h:p.2<(lM ws ps p.1).length,((lM ws ps p.1)[p.2]).1=s/\dJ ws ps p=((lM ws ps p.1)[p.2]).2/\dJ ws ps p=aA (lM ws ps p.1) s/\0<dJ ws ps p:=by
 obtain⟨h,h0,h1,hs⟩:=hp
 obtain⟨q,e⟩:=lQ hin (i:=p.1) (by omega) h
 have hw:=hok.2.2 p.1 h
 have hn:aH (ws[p.1][ws[p.1].length-1]).2=aH (lM ws ps p.1):=by
  rw[e]
  have:=hw.names (ws[p.1].length-1-(ps[p.1]'(by omega)).toNat) (ps[p.1]'(by omega)).toNat (by omega)
  rw[this]
  congr 2
  congr 1
  omega
 obtain⟨hb,en⟩:=F6 hn h1
 have hst:ah (lM ws ps p.1):=by rw[e];exact(hw.2.1 _ q).1
 have ss:=ay hst
 have hv:dJ ws ps p=((lM ws ps p.1)[p.2]).2:=by
  unfold dJ
  simp[List.getD,hb]
 have hm:=dP ss (List.getElem_mem hb)
 have hpos:=ss.2 _ (List.getElem_mem hb)
 refine⟨hb,by rw[<- en,hs],hv, ?_,by rw[hv];exact hpos⟩
 rw[hv,<- hm,<- en,hs]
theorem ug {ws:List (List af)}{ps:List Int}(hok:OkW ws)(hl:ps.length=ws.length)(hin:kH ws ps){i:Nat}(hi:i<ws.length){s:ByteArray}(h:0<aA (lM ws ps i) s):∃j,jW ws s (i,j):=by
 obtain⟨q,e⟩:=lQ hin (i:=i) (by omega) hi
 have hw:=hok.2.2 i hi
 have h0:0<ws[i].length:=by omega
 rw[e,hw.same q (show ws[i].length-1<ws[i].length by omega) s]at h
 obtain⟨j,hj,ej⟩:=List.mem_iff_getElem.1 (fV h)
 exact⟨j,hi,h0,hj,by simp only;rw[ej]⟩
theorem Aa {ws:List (List af)}{ps:List Int}{sh:List (List aW)}(hok:OkW ws)(hl:ps.length=ws.length)(hin:kH ws ps)(hsh:lU ws sh) :
  yt ws ps↔∀src∈sh,∀p∈src,∀q∈src,dJ ws ps p=dJ ws ps q:=by
 have hst:∀i,i<ws.length->ah (lM ws ps i):=fun i hi=>by
  obtain⟨q,e⟩:=lQ hin (i:=i) (by omega) hi
  rw[e]
  exact((hok.2.2 i hi).2.1 _ q).1
 constructor
 ·intro h src hs p hp q hq
  obtain⟨s,hall⟩:=hsh.1 src hs
  have p0:=hall p hp
  have q0:=hall q hq
  obtain⟨_,_,_,e1,g1⟩:=jK hok hl hin p0
  obtain⟨_,_,_,e2,g2⟩:=jK hok hl hin q0
  have hpw:=p0.1
  have hqw:=q0.1
  rcases Nat.lt_trichotomy p.1 q.1 with hlt|heq|hlt
  ·have:=(jR (hst _ hqw) (hst _ hpw)).1 (h q.1 p.1 hlt (by omega)) s (by omega) (by omega)
   omega
  ·rw[e1,e2,heq]
  ·have:=(jR (hst _ hpw) (hst _ hqw)).1 (h p.1 q.1 hlt (by omega)) s (by omega) (by omega)
   omega
 ·intro h i k hk hi
  rw[jR (hst i (by omega)) (hst k (by omega))]
  intro s h1 h2
  obtain⟨j,hj⟩:=ug hok hl hin (i:=i) (by omega) h1
  obtain⟨l,hl'⟩:=ug hok hl hin (i:=k) (by omega) h2
  obtain⟨src,hm,m1,m2⟩:=hsh.2 s i k j l (by omega) hj hl'
  have e:=h src hm _ m1 _ m2
  obtain⟨_,_,_,e1,_⟩:=jK hok hl hin hj
  obtain⟨_,_,_,e2,_⟩:=jK hok hl hin hl'
  simp only at e1 e2
  omega
theorem G5 {ws:List (List af)}{ps:List Int}{sh:List (List aW)}(hok:OkW ws)(hl:ps.length=ws.length)(hin:kH ws ps)(hsh:lU ws sh)(hub:∀q,oQ ws q->∀i,(hq:i<q.length)->(ho:i<ps.length)->q[i]<=ps[i])
  {src:List aW} (hs:src∈sh) {p r:aW} (hp:p∈src) (hr:r∈src) (hlt:dJ ws ps r<dJ ws ps p):∀q,oQ ws q->∀(hq:p.1<q.length) (ho:p.1<ps.length),q[p.1]<ps[p.1]:=by
 intro q hc hq ho
 obtain⟨s,hall⟩:=hsh.1 src hs
 have p0:=hall p hp
 have r0:=hall r hr
 have hpw:=p0.1
 have hrw:=r0.1
 obtain⟨_,_,_,e1,_⟩:=jK hok hl hin p0
 obtain⟨_,_,_,e2,_⟩:=jK hok hl hin r0
 obtain⟨_,_,_,f1,_⟩:=jK hok hc.2.1 hc.2.2.1 p0
 obtain⟨_,_,_,f2,_⟩:=jK hok hc.2.1 hc.2.2.1 r0
 have e:=(Aa hok hc.2.1 hc.2.2.1 hsh).1 hc.2.2.2 src hs p hp r hr
 obtain⟨a1,b1⟩:=lQ hin (i:=r.1) (by omega) hrw
 obtain⟨a2,b2⟩:=lQ hc.2.2.1 (i:=r.1) (by rw[hc.2.1];exact hrw) hrw
 obtain⟨a3,b3⟩:=lQ hin (i:=p.1) (by omega) hpw
 obtain⟨a4,b4⟩:=lQ hc.2.2.1 (i:=p.1) (by rw[hc.2.1];exact hpw) hpw
 have u1:=hub q hc r.1 (by rw[hc.2.1];exact hrw) (by omega)
 have l1:=(hok.2.2 r.1 hrw).le (i:=(q[r.1]'(by rw[hc.2.1];exact hrw)).toNat) (j:=(ps[r.1]'(by omega)).toNat) (by omega) a1 s
 rw[<- b1,<- b2]at l1
 have c0:=hin.2 p.1 ho
 have d0:=hc.2.2.1.2 p.1 hq
 by_cases hge:q[p.1]<ps[p.1]
 ·exact hge
 ·exfalso
  have l2:=(hok.2.2 p.1 hpw).le (i:=(ps[p.1]'(by omega)).toNat) (j:=(q[p.1]'(by rw[hc.2.1];exact hpw)).toNat) (by omega) a4 s
  rw[<- b3,<- b4]at l2
  omega
theorem F7 {a b m:List (ByteArray×Int)}{ok:Bool}(h:DT a b m ok):ah m:=by
 cases ok
 ·rw[h.none];exact bK
 ·exact h.fits.2.2.2
def fB (ws:List (List af))(ps:List Int):Nat->List (ByteArray×Int)->Prop
 |0,m=>m=[]
 |k+1,m=>∃q,fB ws ps k q/\DT q (lM ws ps k) m true
theorem fB.one {ws:List (List af)}{ps:List Int}:∀{k:Nat} {a b:List (ByteArray×Int)},fB ws ps k a->fB ws ps k b->a=b
 |0,a,b,h1,h2=>by rw[show a=[]from h1,show b=[]from h2]
 |k+1,a,b,⟨q,h1,h2⟩,⟨q',h3,h4⟩=>by
  obtain rfl:=h1.one h3
  exact(h2.one h4).1
theorem fB.pre {ws:List (List af)}{ps:List Int}:∀{n:Nat} {m:List (ByteArray×Int)},fB ws ps n m->∀k,k<n->∃q r,fB ws ps k q/\DT q (lM ws ps k) r true
 |n+1,m,⟨q,h1,h2⟩,k,hk=>by
  by_cases e:k=n
  ·subst e;exact⟨q,m,h1,h2⟩
  ·exact h1.pre k (by omega)
theorem fB.stamp {ws:List (List af)}{ps:List Int}:∀{k:Nat} {m:List (ByteArray×Int)},fB ws ps k m->ah m
 |0,m,h=>by rw[show m=[]from h];exact bK
 |k+1,m,⟨q,_,h2⟩=>F7 h2
def Bq (ws:List (List af))(ps:List Int):Prop:=∃k q m,k<ps.length/\fB ws ps k q/\DT q (lM ws ps k) m false
def qf (ws:List (List af))(ps:List Int)(m:List (ByteArray×Int))(ok:Bool):Prop:=
 (ok=true/\oQ ws ps/\fB ws ps ps.length m)∨(ok=false/\m=[]/\(¬oQ ws ps∨Bq ws ps))
theorem rC {ws:List (List af)}{ps:List Int}{m:List (ByteArray×Int)}(h:Bq ws ps)(hj:fB ws ps ps.length m):False:=by
 obtain⟨k,q,r,hk,h1,h2⟩:=h
 obtain⟨q',r',h3,h4⟩:=hj.pre k hk
 obtain rfl:=h1.one h3
 have:=(h2.one h4).2
 cases this
theorem qf.one {ws:List (List af)}{ps:List Int}{m m':List (ByteArray×Int)}{ok ok':Bool}(h:qf ws ps m ok)(k:qf ws ps m' ok'):m=m'/\ok=ok':=by
 rcases h with⟨rfl,h1,h2⟩|⟨rfl,rfl,h2⟩
 ·rcases k with⟨rfl,k1,k2⟩|⟨rfl,rfl,k2⟩
  ·exact⟨h2.one k2,rfl⟩
  ·rcases k2 with k2|k2
   ·exact absurd h1 k2
   ·exact(rC k2 h2).elim
 ·rcases k with⟨rfl,k1,k2⟩|⟨rfl,rfl,k2⟩
  ·rcases h2 with h2|h2
   ·exact absurd k1 h2
   ·exact(rC h2 k2).elim
  ·exact⟨rfl,rfl⟩
theorem qf.stamp {ws:List (List af)}{ps:List Int}{m:List (ByteArray×Int)}{ok:Bool}(h:qf ws ps m ok):ah m:=by
 rcases h with⟨rfl,_,h2⟩|⟨rfl,rfl,_⟩
 ·exact h2.stamp
 ·exact bK
def allL (ws:List (List af)):Nat->List Int->List (List Int)
 |0,ps=>[ps]
 |m+1,ps=>(List.range (ws.getD ps.length []).length).flatMap fun i:Nat=>allL ws m (ps++[(i:Int)])
theorem FH {ws:List (List af)}{ps qs:List Int}{i:Nat}(h:i<ps.length):lM ws (ps++qs) i=lM ws ps i:=by
 unfold lM
 have e:(ps++qs).getD i 0=ps.getD i 0:=by simp[List.getD,List.getElem?_append_left h]
 rw[e]
theorem yt.pre {ws:List (List af)}{ps qs:List Int}(h:yt ws (ps++qs)):yt ws ps:=fun i k hk hi=>by
 have h1:=h i k hk (by simp;omega)
 rw[FH hi,FH (by omega)]at h1
 exact h1
theorem C9 {ws:List (List af)}:∀(m:Nat) (ps q:List Int),q∈allL ws m ps->∃r,q=ps++r/\r.length=m
 |0,ps,q,h=>by
  obtain rfl:q=ps:=by simpa[allL]using h
  exact⟨[],by simp,rfl⟩
 |m+1,ps,q,h=>by
  simp only[allL,List.mem_flatMap,List.mem_range]at h
  obtain⟨i,_,h⟩:=h
  obtain⟨r,rfl,hr⟩:=C9 m _ _ h
  exact⟨(i:Int)::r,by simp,by simp[hr]⟩
open Classical in
noncomputable def bQ (ws:List (List af))(m:Nat)(ps:List Int):List (List Int):=(allL ws m ps).filter fun q=>decide (yt ws q)
theorem zi {ws:List (List af)}{m:Nat}{ps:List Int}(h:¬yt ws ps):bQ ws m ps=[]:=by
 classical
 unfold bQ
 rw[List.filter_eq_nil_iff]
 intro q hq
 obtain⟨r,rfl,_⟩:=C9 m ps q hq
 simp only[decide_eq_true_eq]
 exact fun h2=>h h2.pre
theorem DK {ws:List (List af)}{ps:List Int}(h:yt ws ps):bQ ws 0 ps=[ps]:=by
 classical
 unfold bQ
 simp[allL,h]
noncomputable def jV (ws:List (List af))(m:Nat)(ps:List Int)(k:Nat):List (List Int):=(List.range k).flatMap fun i:Nat=>bQ ws m (ps++[(i:Int)])
theorem Cm (ws:List (List af))(m:Nat)(ps:List Int):jV ws m ps 0=[]:=rfl
theorem uJ (ws:List (List af))(m:Nat)(ps:List Int)(k:Nat):jV ws m ps (k+1)=jV ws m ps k++bQ ws m (ps++[(k:Int)]):=by
 unfold jV
 simp[List.range_succ,List.flatMap_append]
theorem Dn (ws:List (List af))(m:Nat)(ps:List Int):bQ ws (m+1) ps=jV ws m ps (ws.getD ps.length []).length:=by
 classical
 unfold bQ jV allL bQ
 rw[List.filter_flatMap]
theorem vT {ws:List (List af)}:∀(m:Nat) (ps q:List Int),ps.length+m<=ws.length->kH ws ps->(q∈allL ws m ps↔∃r,q=ps++r/\r.length=m/\kH ws q)
 |0,ps,q,hm,hin=>by
  constructor
  ·intro h
   obtain rfl:q=ps:=by simpa[allL]using h
   exact⟨[],by simp,rfl,hin⟩
  ·rintro⟨r,rfl,hr,_⟩
   obtain rfl:=List.length_eq_zero_iff.1 hr
   simp[allL]
 |m+1,ps,q,hm,hin=>by
  have hin2:∀i:Nat,i<(ws.getD ps.length []).length->kH ws (ps++[(i:Int)]):=fun i hi=>by
   refine⟨by simp;omega,fun j hj=>?_⟩
   simp only[List.length_append,List.length_singleton]at hj
   by_cases e:j<ps.length
   ·rw[List.getElem_append_left e]
    exact hin.2 j e
   ·obtain rfl:j=ps.length:=by omega
    simp only[List.getElem_concat_length]
    omega
  simp only[allL,List.mem_flatMap,List.mem_range]
  constructor
  ·rintro⟨i,hi,h⟩
   obtain⟨r,rfl,hr,h3⟩:=(vT m _ q (by simp;omega) (hin2 i hi)).1 h
   exact⟨(i:Int)::r,by simp,by simp[hr],h3⟩
  ·rintro⟨r,rfl,hr,h3⟩
   match r,hr with
   |x::r,hr=>
    have hx:=h3.2 ps.length (by simp)
    have e:(ps++x::r)[ps.length]'(by simp)=x:=by simp
    rw[e]at hx
    refine⟨x.toNat,by omega, ?_⟩
    have ex:((x.toNat:Nat):Int)=x:=by omega
    refine(vT m _ _ (by simp;omega) (hin2 x.toNat (by omega))).2 ⟨r,by rw[ex];simp,by simpa using hr,h3⟩
theorem vC {ws:List (List af)}{q:List Int}:oQ ws q↔OkW ws/\q∈bQ ws ws.length []:=by
 classical
 unfold bQ
 rw[List.mem_filter,vT ws.length [] q (by simp) ⟨by simp,fun i hi=>by simp at hi⟩]
 simp only[decide_eq_true_eq,List.nil_append]
 constructor
 ·rintro⟨h1,h2,h3,h4⟩
  exact⟨h1,⟨q,rfl,h2,h3⟩,h4⟩
 ·rintro⟨h1,⟨r,rfl,h2,h3⟩,h4⟩
  exact⟨h1,h2,h3,h4⟩
def tq (b:List Int)(L:List (List Int)):List Int:=L.foldl (List.zipWith max) b
theorem FT {ws:List (List af)}:∀(L:List (List Int)) (b:List Int),oQ ws b->(∀q∈L,oQ ws q)->oQ ws (tq b L)/\(∀i,(hb:i<b.length)->(ht:i<(tq b L).length)->b[i]<=(tq b L)[i])/\∀q∈L,∀i,(hq:i<q.length)->(ht:i<(tq b L).length)->q[i]<=(tq b L)[i]
 |[],b,hb,_=>⟨hb,fun i h1 h2=>Int.le_refl _,fun q hq=>by simp at hq⟩
 |p::L,b,hb,hL=>by
  have hp:=hL p (by simp)
  obtain⟨h1,h2,h3⟩:=FT L (List.zipWith max b p) (LH hb hp) (fun q hq=>hL q (by simp[hq]))
  have lb:=hb.2.1
  have lp:=hp.2.1
  have lt:=h1.2.1
  have e:tq b (p::L)=tq (List.zipWith max b p) L:=rfl
  rw[e]
  refine⟨h1,fun i hi ht=>?_,fun q hq i hi ht=>?_⟩
  ·have h4:=h2 i (by simp;omega) ht
   rw[List.getElem_zipWith]at h4
   omega
  ·rcases List.mem_cons.1 hq with rfl|hq
   ·have h4:=h2 i (by simp;omega) ht
    rw[List.getElem_zipWith]at h4
    omega
   ·exact h3 q hq i hi ht
theorem Hf {ws:List (List af)}(hok:OkW ws){b:List Int}{L:List (List Int)}(h:bQ ws ws.length []=b::L):fC ws (tq b (b::L)) true:=by
 have hall:∀q∈b::L,oQ ws q:=fun q hq=>vC.2 ⟨hok,by rw[h];exact hq⟩
 obtain⟨h1,_,h3⟩:=FT (b::L) b (hall b (by simp)) hall
 refine .inl ⟨rfl,h1,fun q hq i hi ho=>?_⟩
 have hm:=(vC.1 hq).2
 rw[h]at hm
 exact h3 q hm i hi ho
theorem rZ {ws:List (List af)}(h:¬OkW ws∨bQ ws ws.length []=[]):fC ws [] false:=by
 refine .inr ⟨rfl,rfl,fun q hq=>?_⟩
 obtain⟨h1,h2⟩:=vC.1 hq
 rcases h with h|h
 ·exact h h1
 ·rw[h]at h2
  simp at h2
end Go.Proofs.YtpfhegengmlkmabGreatDoor
