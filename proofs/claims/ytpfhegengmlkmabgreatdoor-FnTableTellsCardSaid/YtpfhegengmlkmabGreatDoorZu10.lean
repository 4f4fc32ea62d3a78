/- Texts of this claim. -/
import Derived.Defers
import Derived.Recover
import Derived.WalkSmall
import Derived.Test.YtpfhegengmlkmabGreatDoorZu8
import Derived.Test.YtpfhegengmlkmabGreatDoorZu9
namespace Go.Proofs.YtpfhegengmlkmabGreatDoor
def setR (m:ByteArray×Int):List (ByteArray×Int)->List (ByteArray×Int)
 |[]=>[m]
 |x::r=>if Op.bytesLess x.1.toList m.1.toList=true then x::setR m r else m::(x::r).filter fun y=>decide (y.1≠m.1)
def mQ (m:ByteArray×Int)(put:Bool)(l:List (ByteArray×Int)):List (ByteArray×Int):=if put then l.filter fun y=>decide (y.1≠m.1)else setR m l
theorem qO {m y:ByteArray×Int}:∀{l:List (ByteArray×Int)},y∈setR m l->y=m∨y∈l
 |[],h=>by simp[setR]at h;exact .inl h
 |x::r,h=>by
  unfold setR at h
  split at h
  ·rcases List.mem_cons.1 h with rfl|h
   ·exact .inr (by simp)
   ·exact(qO h).imp id (List.mem_cons_of_mem _)
  ·rcases List.mem_cons.1 h with rfl|h
   ·exact .inl rfl
   ·exact .inr (List.mem_filter.1 h).1
theorem jA {m:ByteArray×Int}:∀{l:List (ByteArray×Int)},(setR m l).length<=l.length+1
 |[]=>by simp[setR]
 |x::r=>by
  unfold setR
  split
  ·have:=jA (m:=m) (l:=r);simp only[List.length_cons];omega
  ·simp only[List.length_cons];have:=List.length_filter_le (fun y=>decide (y.1≠m.1)) (x::r);simp only[List.length_cons]at this;omega
theorem sZ {m:ByteArray×Int}:∀{l:List (ByteArray×Int)},(∀x∈l,Asc x.1 m.1)->setR m l=l++[m]
 |[],_=>rfl
 |x::r,h=>by
  unfold setR
  rw[if_pos (show Op.bytesLess x.1.toList m.1.toList=true from h x (by simp)),sZ fun y hy=>h y (List.mem_cons_of_mem _ hy)]
  rfl
theorem uD {t s:ByteArray}(hs:s≠t):∀{l:List (ByteArray×Int)},aA (l.filter fun y=>decide (y.1≠t)) s=aA l s
 |[]=>rfl
 |x::r=>by
  have ih:=uD hs (l:=r)
  by_cases hx:x.1=t
  ·have hd:decide (x.1≠t)=false:=by simp[hx]
   rw[List.filter_cons_of_neg (by simp[hx]),ih]
   simp only[aA]
   rw[if_neg (fun e=>hs (e.symm.trans hx))]
  ·rw[List.filter_cons_of_pos (by simp[hx])]
   simp only[aA,ih]
theorem xR {m:ByteArray×Int}(s:ByteArray):∀{l:List (ByteArray×Int)},aA (setR m l) s=if s=m.1 then m.2 else aA l s
 |[]=>by simp only[setR,aA];by_cases h:s=m.1 <;> simp[h,eq_comm]
 |x::r=>by
  unfold setR
  split
  ·rename_i hx
   have hne:x.1≠m.1:=jq hx
   simp only[aA,xR (m:=m) s (l:=r)]
   by_cases h:s=m.1
   ·subst h;rw[if_neg hne,if_pos rfl,if_pos rfl]
   ·rw[if_neg h,if_neg h]
  ·by_cases h:s=m.1
   ·subst h;simp[aA]
   ·rw[if_neg h]
    simp only[aA]
    rw[if_neg (fun e=>h e.symm),uD h]
    simp only[aA]
theorem um {m:ByteArray×Int}(hm:1<=m.2):∀{l:List (ByteArray×Int)},Sorted l->Sorted (setR m l)
 |[],_=>⟨by simp[setR],by simp[setR];exact hm⟩
 |x::r,h=>by
  unfold setR
  split
  ·rename_i hx
   have ih:=um hm (dG h)
   refine⟨List.pairwise_cons.2 ⟨fun y hy=>?_,ih.1⟩,fun y hy=>?_⟩
   ·rcases qO hy with rfl|hy
    ·exact hx
    ·exact aU h hy
   ·rcases List.mem_cons.1 hy with rfl|hy
    ·exact dR h
    ·exact ih.2 y hy
  ·rename_i hx
   refine⟨List.pairwise_cons.2 ⟨fun y hy=>?_,List.Pairwise.filter _ h.1⟩,fun y hy=>?_⟩
   ·have hmem:=(List.mem_filter.1 hy).1
    have hne:y.1≠m.1:=by simpa using(List.mem_filter.1 hy).2
    by_cases hA:Asc m.1 y.1
    ·exact hA
    ·have:¬Asc y.1 m.1:=fun k=>by
      rcases List.mem_cons.1 hmem with rfl|hr
      ·exact hx k
      ·exact hx (jo (aU h hr) k)
     exact absurd (AV this hA) hne
   ·rcases List.mem_cons.1 hy with rfl|hy
    ·exact hm
    ·exact h.2 y (List.mem_filter.1 hy).1
theorem wJ {b:List (ByteArray×Int)}(h:Sorted b){j:Nat}(hj:j<b.length):∀x∈b.take j,Asc x.1 b[j].1:=fun x hx=>by
 have hp:=h.1
 rw[<- List.take_append_drop j b,List.pairwise_append]at hp
 exact hp.2.2 x hx b[j] (List.mem_iff_getElem.2 ⟨0,by simp;omega,by simp⟩)
theorem zO {b:List (ByteArray×Int)}(h:Sorted b){j:Nat}(hj:j<b.length)(s:ByteArray):aA (b.take (j+1)) s=if s=b[j].1 then b[j].2 else aA (b.take j) s:=by
 rw[List.take_succ_eq_append_getElem hj]
 rw[<- sZ (wJ h hj),xR]
theorem pO {b:List (ByteArray×Int)}(h:Sorted b){j:Nat}(hj:j<b.length):aA (b.take j) b[j].1=0:=
 eG fun m hm=>jq (wJ h hj m hm)
def jk (a b o:List (ByteArray×Int)):Prop:=Sorted o/\∀s,aA o s=max (aA a s) (aA b s)
theorem Ae {a b:List (ByteArray×Int)}(ha:Sorted a):jk a (b.take 0) a:=⟨ha,fun s=>by
 have:=eP (s:=s) ha
 have e:aA (b.take 0) s=0:=by simp[aA]
 rw[e];omega⟩
theorem Eu {a b o:List (ByteArray×Int)}(hb:Sorted b){j:Nat}(hj:j<b.length)(h:jk a (b.take j) o)(hlt:aA o b[j].1<b[j].2):jk a (b.take (j+1)) (setR b[j] o):=by
 refine⟨um (hb.2 _ (List.getElem_mem hj)) h.1,fun s=>?_⟩
 have h1:=h.2 s
 rw[xR,zO hb hj]
 by_cases e:s=b[j].1
 ·subst e
  rw[if_pos rfl,if_pos rfl]
  rw[pO hb hj]at h1
  omega
 ·rw[if_neg e,if_neg e];exact h1
theorem CV {a b o:List (ByteArray×Int)}(hb:Sorted b){j:Nat}(hj:j<b.length)(h:jk a (b.take j) o)(hlt:¬aA o b[j].1<b[j].2):jk a (b.take (j+1)) o:=by
 refine⟨h.1,fun s=>?_⟩
 have h1:=h.2 s
 have h2:=hb.2 _ (List.getElem_mem hj)
 rw[zO hb hj]
 by_cases e:s=b[j].1
 ·subst e
  rw[if_pos rfl]
  rw[pO hb hj]at h1
  omega
 ·rw[if_neg e];exact h1
def DT (a b m:List (ByteArray×Int))(ok:Bool):Prop:=
 (¬(ah a/\ah b)/\m=[]/\ok=false)∨(ah a/\ah b/\∃o,jk a b o/\((o.length<=12/\m=o/\ok=true)∨(12<o.length/\m=[]/\ok=false)))
theorem DT.one {a b m m':List (ByteArray×Int)}{ok ok':Bool}(h:DT a b m ok)(k:DT a b m' ok'):m=m'/\ok=ok':=by
 rcases h with⟨h1,rfl,rfl⟩|⟨h1,h2,o,⟨h3,h4⟩,h5⟩
 ·rcases k with⟨_,rfl,rfl⟩|⟨k1,k2,_⟩
  ·exact⟨rfl,rfl⟩
  ·exact absurd ⟨k1,k2⟩ h1
 ·rcases k with⟨k1,_,_⟩|⟨k1,k2,o',⟨k3,k4⟩,k5⟩
  ·exact absurd ⟨h1,h2⟩ k1
  ·obtain rfl:o=o':=qF h3 k3 fun s=>by rw[h4,k4]
   rcases h5 with⟨e1,rfl,rfl⟩|⟨e1,rfl,rfl⟩ <;> rcases k5 with⟨e2,rfl,rfl⟩|⟨e2,rfl,rfl⟩
   ·exact⟨rfl,rfl⟩
   ·omega
   ·omega
   ·exact⟨rfl,rfl⟩
theorem kM {p:(ByteArray×Int)×(ByteArray×Int)}(h:p.1.1=p.2.1):(aG p.1 p.2).1=p.1.1:=by
 unfold aG
 split
 ·exact h.symm
 ·rfl
theorem vP (p:(ByteArray×Int)×(ByteArray×Int)):(aG p.1 p.2).2=max p.1.2 p.2.2:=by
 unfold aG
 split <;> omega
theorem BR {a b:List (ByteArray×Int)}{P:List ((ByteArray×Int)×(ByteArray×Int))}(ha:Sorted a)(hb:Sorted b)(hP:kT a b P):jk a b (gQ P):=by
 have hn:∀p∈P,p.1.1=p.2.1:=fun p hp=>by
  obtain⟨_,e2,_⟩:=hP.mem p hp
  rw[e2]
 have hsort:Sorted (gQ P):=by
  refine⟨?_,fun m hm=>?_⟩
  ·unfold gQ
   rw[List.pairwise_map]
   exact hP.asc.imp_of_mem fun{p q} hp hq h=>by rw[kM (hn p hp),kM (hn q hq)];exact h
  ·obtain⟨p,hp,rfl⟩:=List.mem_map.1 hm
   rw[vP]
   have:=(hP.mem p hp).2.2
   omega
 refine⟨hsort,fun s=>?_⟩
 have na:=eP (s:=s) ha
 have nb:=eP (s:=s) hb
 by_cases h:0<aA a s∨0<aA b s
 ·obtain⟨p,hp,rfl⟩:=hP.all s h
  have hm:aG p.1 p.2∈gQ P:=List.mem_map.2 ⟨p,hp,rfl⟩
  have e:=dP hsort hm
  rw[kM (hn p hp),vP]at e
  rw[e]
  obtain⟨e1,e2,_⟩:=hP.mem p hp
  have f1:p.1.2=aA a p.1.1:=by rw[e1]
  have f2:p.2.2=aA b p.1.1:=by rw[e2]
  rw[f1,f2]
 ·rw[eG]
  ·omega
  ·intro m hm e
   obtain⟨p,hp,rfl⟩:=List.mem_map.1 hm
   rw[kM (hn p hp)]at e
   obtain⟨e1,e2,e3⟩:=hP.mem p hp
   have f1:p.1.2=aA a p.1.1:=by rw[e1]
   have f2:p.2.2=aA b p.1.1:=by rw[e2]
   rw[f1,f2,e]at e3
   exact h e3
end Go.Proofs.YtpfhegengmlkmabGreatDoor
namespace Go.Proofs.YtpfhegengmlkmabGreatDoor
open Go.RowKit Go.BigFrame
set_option maxHeartbeats 400000 in
theorem jh (a:Option Addr)(cap:Nat)(l:List (ByteArray×Int))(s:ByteArray)(w:World)(hl:l.length<=maxLen)(hr:Row w a l) :
  Calls Tryz.prog 116 #[.slice a l.length cap,.string s] w fun e w'=>e=.returned (.int .i64 (aA l s))/\w'=w:=by
 unfold maxLen at hl
 go_enter Tryz.func116,Tryz.ntmps116
 go_wp2_with fail
 go_loop [5] (fun i=>∃k:Nat,k<=l.length/\i=.int .i64 k/\(∀j,(h:j<l.length)->j<k->l[j].1≠s)) (fun i=>l.length-(intOf i).toNat)
 case atStart=>exact⟨0,Nat.zero_le _,rfl,fun j _ h=>by omega⟩
 case round=>
  obtain⟨k,hk,rfl,hall⟩:=hrel
  by_cases hlt:k<l.length
  ·obtain⟨b,o,rfl,hblt,c0,c1⟩:=hr k hlt
   have HST:=LM hall hlt
   by_cases he:l[k].1=s
   ·have H:Hid (aA l s=l[k].2):=FQ hlt hall he
    have hb:(l[k].1.toList==s.toList)=true:=fM.2 he
    clear HST hall he
    go_wp2_with fail
    go_ret
    exact⟨by rw[H.out];rfl,rfl⟩
   ·have hb:(l[k].1.toList==s.toList)=false:=bg.2 he
    have HN:=HST he
    clear HST hall he
    go_wp2_with fail
    exact⟨⟨k+1,by omega,by go_num,HN⟩,by simp[intOf];omega⟩
  ·have H:Hid (aA l s=0):=yT fun j hj=>hall j hj (by omega)
   go_wp2_with fail
   go_ret
   exact⟨by rw[H.out];rfl,rfl⟩
def gU (a b:List (ByteArray×Int)):Prop:=ah a/\ah b/\∀i,(h:i<a.length)->aA b a[i].1=0∨aA b a[i].1=a[i].2
def dL (a b:List (ByteArray×Int)):Prop:=∀i,(h:i<a.length)->a[i].2<=aA b a[i].1
theorem KP {a b:List (ByteArray×Int)}{k:Nat}(H:∀i,(h:i<a.length)->i<k->aA b a[i].1=0∨aA b a[i].1=a[i].2)(hk:k<a.length)(h:aA b a[k].1=0∨aA b a[k].1=a[k].2):∀i,(h:i<a.length)->i<k+1->aA b a[i].1=0∨aA b a[i].1=a[i].2:=fun i hi hlt=>by
 by_cases e:i=k
 ·subst e;exact h
 ·exact H i hi (by omega)
theorem LG {a b:List (ByteArray×Int)}{k:Nat}(H:∀i,(h:i<a.length)->i<k->a[i].2<=aA b a[i].1)(hk:k<a.length)(h:a[k].2<=aA b a[k].1):∀i,(h:i<a.length)->i<k+1->a[i].2<=aA b a[i].1:=fun i hi hlt=>by
 by_cases e:i=k
 ·subst e;exact h
 ·exact H i hi (by omega)
set_option maxHeartbeats 800000 in
theorem uw (aa ab:Option Addr)(ca cb:Nat)(la lb:List (ByteArray×Int))(w:World)(hla:la.length<=maxLen)(hlb:lb.length<=maxLen)(ha:Row w aa la)(hb:Row w ab lb) :
  Calls Tryz.prog 115 #[.slice aa la.length ca,.slice ab lb.length cb] w fun e w'=>rU (dL la lb) e/\Below w.heap.size w w':=by
 have hl:=hla
 unfold maxLen at hl
 go_enter Tryz.func115,Tryz.ntmps115
 go_wp2_with fail
 go_loopw [5] (fun i wr=>∃k:Nat,k<=la.length/\i=.int .i64 k/\(∀i,(h:i<la.length)->i<k->la[i].2<=aA lb la[i].1)/\Below w.heap.size w wr) (fun i _=>la.length-(intOf i).toNat)
 case atStart=>exact⟨0,Nat.zero_le _,rfl,fun j _ h=>by omega,Below.refl _ _⟩
 case round=>
  obtain⟨k,hk,rfl,hall,hbl⟩:=hrel
  by_cases hlt:k<la.length
  ·obtain⟨b,o,rfl,hblt,c0,c1⟩:=ha k hlt
   have HST:=LG hall hlt
   have e0:=ae hbl hblt c0
   have e1:=ae hbl hblt c1
   have g1:b<wr.heap.size:=Nat.lt_of_lt_of_le hblt hbl.size
   have HRB:Hid (∀n:dA wr,Row n.w ab lb):=fun n=>(hb.below hbl).below n.h
   by_cases hc:aA lb la[k].1<la[k].2
   ·go_wp2_with fail
    refine aF (by kernel_rfl) (by kernel_rfl) ?_
    have hne:=dA.some wr
    have q0:∀n:dA wr,n.w.cell? ⟨b,o+k*2,none⟩=some (.string la[k].1):=fun n=>n.cell g1 e0
    have q1:∀n:dA wr,n.w.cell? ⟨b,o+k*2+1,none⟩=some (.int .i64 la[k].2):=fun n=>n.cell g1 e1
    repeat (go_big_quiet_step ((go_at_call 116;exact Calls.lat_same (jh _ _ lb _ _ hlb (HRB.out _)))))
    refine wpQuiet_nil ?_
    rintro _ ⟨nq,rfl⟩
    go_wp2_with fail
    go_ret
    exact⟨ai (fun h=>by have:=h k hlt;omega),hbl.trans (nq.h.mono hbl.size)⟩
   ·have HN:=HST (by omega)
    clear HST hall
    go_wp2_with fail
    refine aF (by kernel_rfl) (by kernel_rfl) ?_
    have hne:=dA.some wr
    have q0:∀n:dA wr,n.w.cell? ⟨b,o+k*2,none⟩=some (.string la[k].1):=fun n=>n.cell g1 e0
    have q1:∀n:dA wr,n.w.cell? ⟨b,o+k*2+1,none⟩=some (.int .i64 la[k].2):=fun n=>n.cell g1 e1
    repeat (go_big_quiet_step ((go_at_call 116;exact Calls.lat_same (jh _ _ lb _ _ hlb (HRB.out _)))))
    refine wpQuiet_nil ?_
    rintro _ ⟨nq,rfl⟩
    go_wp2_with fail
    exact⟨⟨k+1,by omega,by go_num,HN,hbl.trans (nq.h.mono hbl.size)⟩,by simp[intOf];omega⟩
  ·go_wp2_with fail
   go_ret
   exact⟨dE (fun i hi=>hall i hi (by omega)),hbl⟩
set_option maxHeartbeats 800000 in
theorem yA (aa ab:Option Addr)(ca cb:Nat)(la lb:List (ByteArray×Int))(w:World)(hla:la.length<=maxLen)(hlb:lb.length<=maxLen)(ha:Row w aa la)(hb:Row w ab lb)
  (hsa:∀j,(h:j<la.length)->la[j].1.size<=maxLen) (hsb:∀j,(h:j<lb.length)->lb[j].1.size<=maxLen) :
  Calls Tryz.prog 155 #[.slice aa la.length ca,.slice ab lb.length cb] w fun e w'=>rU (gU la lb) e/\Below w.heap.size w w':=by
 have hl:=hla
 unfold maxLen at hl
 go_enter Tryz.func155,Tryz.ntmps155
 go_wp2_with fail
 refine(fZ aa ca la _ hla ha hsa).mono ?_
 rintro e w1 ⟨⟨r,rfl,hr1⟩,hb1⟩
 cases r
 ·have hn:¬ah la:=fun h=>by simpa using hr1.2 h
  clear hr1
  go_wp2_with fail
  go_ret
  exact⟨ai (fun h=>hn h.1),hb1⟩
 have hya:ah la:=hr1.1 rfl
 clear hr1
 go_wp2_with fail
 refine(fZ ab cb lb _ hlb (hb.below hb1) hsb).mono ?_
 rintro e w2 ⟨⟨r,rfl,hr2⟩,hb2⟩
 have hb12:Below w.heap.size w w2:=hb1.trans (hb2.mono hb1.size)
 cases r
 ·have hn:¬ah lb:=fun h=>by simpa using hr2.2 h
  clear hr2
  go_wp2_with fail
  go_ret
  exact⟨ai (fun h=>hn h.2.1),hb12⟩
 have hyb:ah lb:=hr2.1 rfl
 clear hr2
 have hra:=ha.below hb12
 have hrb:=hb.below hb12
 clear ha hb
 go_wp2_with fail
 go_loop [5] (fun i=>∃k:Nat,k<=la.length/\i=.int .i64 k/\(∀i,(h:i<la.length)->i<k->aA lb la[i].1=0∨aA lb la[i].1=la[i].2)) (fun i=>la.length-(intOf i).toNat)
 case atStart=>exact⟨0,Nat.zero_le _,rfl,fun j _ h=>by omega⟩
 case round=>
  obtain⟨k,hk,rfl,hall⟩:=hrel
  by_cases hlt:k<la.length
  ·obtain⟨b,o,rfl,hblt,c0,c1⟩:=hra k hlt
   have HST:=KP hall hlt
   by_cases e0:aA lb la[k].1=0
   ·have HN:=HST (.inl e0)
    have g0:(aA lb la[k].1 != 0)=false:=by simp[e0]
    clear HST hall e0
    go_wp2_with (go_at_call 116;refine(jh _ _ lb _ _ hlb hrb).mono ?_;rintro e w3 ⟨rfl,rfl⟩)
    exact⟨⟨k+1,by omega,by go_num,HN⟩,by simp[intOf];omega⟩
   ·have g0:(aA lb la[k].1 != 0)=true:=by simp[e0]
    by_cases e1:aA lb la[k].1=la[k].2
    ·have HN:=HST (.inr e1)
     have g1:(aA lb la[k].1 != la[k].2)=false:=by simp[e1]
     clear HST hall e0 e1
     go_wp2_with (go_at_call 116;refine(jh _ _ lb _ _ hlb hrb).mono ?_;rintro e w3 ⟨rfl,rfl⟩)
     exact⟨⟨k+1,by omega,by go_num,HN⟩,by simp[intOf];omega⟩
    ·have g1:(aA lb la[k].1 != la[k].2)=true:=by simp[e1]
     have HE:Hid (¬aA lb la[k].1=0/\¬aA lb la[k].1=la[k].2):=⟨e0,e1⟩
     clear HST hall e0 e1
     go_wp2_with (go_at_call 116;refine(jh _ _ lb _ _ hlb hrb).mono ?_;rintro e w3 ⟨rfl,rfl⟩)
     go_ret
     exact⟨ai (fun h=>(h.2.2 k hlt).elim HE.out.1 HE.out.2),hb12⟩
  ·go_wp2_with fail
   go_ret
   exact⟨dE ⟨hya,hyb,fun i hi=>hall i hi (by omega)⟩,hb12⟩
def kC (a b:List (ByteArray×Int))(v:Int):Prop:=
 (¬(ah a/\ah b)/\v=4)∨(ah a/\ah b/\((dL a b/\dL b a/\v=0)∨(dL a b/\¬dL b a/\v=1)∨(¬dL a b/\dL b a/\v=2)∨(¬dL a b/\¬dL b a/\v=3)))
theorem kC.one {a b:List (ByteArray×Int)}{u v:Int}(h:kC a b u)(k:kC a b v):u=v:=by
 rcases h with⟨h1,h2⟩|⟨h1,h2,h3⟩
 ·rcases k with⟨k1,k2⟩|⟨k1,k2,k3⟩
  ·rw[h2,k2]
  ·exact absurd ⟨k1,k2⟩ h1
 ·rcases k with⟨k1,k2⟩|⟨k1,k2,k3⟩
  ·exact absurd ⟨h1,h2⟩ k1
  ·rcases h3 with⟨p,q,e⟩|⟨p,q,e⟩|⟨p,q,e⟩|⟨p,q,e⟩ <;> rcases k3 with⟨p',q',e'⟩|⟨p',q',e'⟩|⟨p',q',e'⟩|⟨p',q',e'⟩ <;> first|(rw[e,e'];done)|exact absurd p p'|exact absurd p' p|exact absurd q q'|exact absurd q' q
set_option maxHeartbeats 800000 in
theorem pG (aa ab:Option Addr)(ca cb:Nat)(la lb:List (ByteArray×Int))(w:World)(hla:la.length<=maxLen)(hlb:lb.length<=maxLen)(ha:Row w aa la)(hb:Row w ab lb)
  (hsa:∀j,(h:j<la.length)->la[j].1.size<=maxLen) (hsb:∀j,(h:j<lb.length)->lb[j].1.size<=maxLen) :
  Calls Tryz.prog 71 #[.slice aa la.length ca,.slice ab lb.length cb] w fun e w'=>(∃v,e=.returned (.int .i64 v)/\kC la lb v)/\Below w.heap.size w w':=by
 go_enter Tryz.func71,Tryz.ntmps71
 go_wp2_with fail
 refine(fZ aa ca la _ hla ha hsa).mono ?_
 rintro e w1 ⟨⟨r,rfl,hr1⟩,hb1⟩
 cases r
 ·have hn:¬ah la:=fun h=>by simpa using hr1.2 h
  clear hr1
  go_wp2_with fail
  go_ret
  exact⟨⟨4,rfl,.inl ⟨fun h=>hn h.1,rfl⟩⟩,hb1⟩
 have hya:ah la:=hr1.1 rfl
 clear hr1
 go_wp2_with fail
 refine(fZ ab cb lb _ hlb (hb.below hb1) hsb).mono ?_
 rintro e w2 ⟨⟨r,rfl,hr2⟩,hb2⟩
 have hb12:Below w.heap.size w w2:=hb1.trans (hb2.mono hb1.size)
 cases r
 ·have hn:¬ah lb:=fun h=>by simpa using hr2.2 h
  clear hr2
  go_wp2_with fail
  go_ret
  exact⟨⟨4,rfl,.inl ⟨fun h=>hn h.2,rfl⟩⟩,hb12⟩
 have hyb:ah lb:=hr2.1 rfl
 clear hr2
 go_wp2_with fail
 refine(uw aa ab ca cb la lb _ hla hlb (ha.below hb12) (hb.below hb12)).mono ?_
 rintro e w3 ⟨⟨r3,rfl,hr3⟩,hb3⟩
 have hb13:Below w.heap.size w w3:=hb12.trans (hb3.mono hb12.size)
 have HR3:Hid (r3=true↔dL la lb):=hr3
 clear hr3
 go_wp2_with fail
 refine(uw ab aa cb ca lb la _ hlb hla (hb.below hb13) (ha.below hb13)).mono ?_
 rintro e w4 ⟨⟨r4,rfl,hr4⟩,hb4⟩
 have hb14:Below w.heap.size w w4:=hb13.trans (hb4.mono hb13.size)
 have h3:=HR3.out
 cases r3 <;> cases r4 <;> simp at h3 hr4
 all_goals
  have H3:Hid _:=h3
  have H4:Hid _:=hr4
  clear h3 hr4 HR3
  go_wp2_with fail
  go_ret
 ·exact⟨⟨3,rfl,.inr ⟨hya,hyb,.inr (.inr (.inr ⟨H3.out,H4.out,rfl⟩))⟩⟩,hb14⟩
 ·exact⟨⟨2,rfl,.inr ⟨hya,hyb,.inr (.inr (.inl ⟨H3.out,H4.out,rfl⟩))⟩⟩,hb14⟩
 ·exact⟨⟨1,rfl,.inr ⟨hya,hyb,.inr (.inl ⟨H3.out,H4.out,rfl⟩)⟩⟩,hb14⟩
 ·exact⟨⟨0,rfl,.inr ⟨hya,hyb,.inl ⟨H3.out,H4.out,rfl⟩⟩⟩,hb14⟩
theorem qQ {m:ByteArray×Int}{o R l:List (ByteArray×Int)}{k:Nat}(hk:k<l.length)(h:o++mQ m true (l.drop k)=R)(e:l[k].1=m.1):o++mQ m true (l.drop (k+1))=R:=by
 rw[List.drop_eq_getElem_cons hk]at h
 simp only[mQ,if_true]at h ⊢
 rwa [List.filter_cons_of_neg (by simp[e])]at h
theorem rE {m:ByteArray×Int}{o R l:List (ByteArray×Int)}{k:Nat}(hk:k<l.length)(h:o++mQ m true (l.drop k)=R)(e:l[k].1≠m.1):(o++[(l[k].1,l[k].2)])++mQ m true (l.drop (k+1))=R:=by
 rw[List.drop_eq_getElem_cons hk]at h
 simp only[mQ,if_true]at h ⊢
 rw[List.filter_cons_of_pos (by simp[e])]at h
 rw[<- h];simp
theorem Gy {x m:ByteArray}(h:Op.bytesLess x.toList m.toList=false):(Op.bytesLess m.toList x.toList || m.toList==x.toList)=true:=by
 by_cases k:Op.bytesLess m.toList x.toList=true
 ·simp[k]
 ·have e:=D7 (Bool.not_eq_true _ ▸ k) h
  simp[e]
theorem KR {m:ByteArray×Int}{o R l:List (ByteArray×Int)}{k:Nat}(hk:k<l.length)(h:o++mQ m false (l.drop k)=R)(e:Op.bytesLess l[k].1.toList m.1.toList=true):(o++[(l[k].1,l[k].2)])++mQ m false (l.drop (k+1))=R:=by
 rw[List.drop_eq_getElem_cons hk]at h
 simp only[mQ,setR,e,if_true,Bool.false_eq_true,if_false]at h ⊢
 rw[<- h];simp
theorem Ko {m:ByteArray×Int}{o R l:List (ByteArray×Int)}{k:Nat}(hk:k<l.length)(h:o++mQ m false (l.drop k)=R)(e:Op.bytesLess l[k].1.toList m.1.toList=false):(o++[(m.1,m.2)])++mQ m true (l.drop k)=R:=by
 rw[List.drop_eq_getElem_cons hk]at h ⊢
 simp only[mQ,setR,e,if_true,Bool.false_eq_true,if_false]at h ⊢
 rw[<- h];simp
theorem JL {m:ByteArray×Int}{o R l:List (ByteArray×Int)}{k:Nat}(hk:¬k<l.length)(h:o++mQ m false (l.drop k)=R):o++[(m.1,m.2)]=R:=by
 rw[List.drop_of_length_le (by omega)]at h
 simpa[mQ,setR]using h
theorem Ie {m:ByteArray×Int}{o R l:List (ByteArray×Int)}{k:Nat}(hk:¬k<l.length)(h:o++mQ m true (l.drop k)=R):o=R:=by
 rw[List.drop_of_length_le (by omega)]at h
 simpa[mQ]using h
theorem FO {o t R:List (ByteArray×Int)}(h:o++t=R):o.length<=R.length:=by rw[<- h];simp
theorem fK {W1 wr:World}{B B' n:Nat}{v:Value}{o:List (ByteArray×Int)}(hb:Below B W1 wr)(hg:az wr B' v o):∃v1,wr.drewN n=v1/\Below B W1 v1/\az v1 B' v o:=⟨_,rfl,below_drewN hb n,hg⟩
set_option maxHeartbeats 3200000 in
theorem oZ (a:Option Addr)(cap:Nat)(l:List (ByteArray×Int))(m:ByteArray×Int)(w:World)(hl:l.length<=1048576)(hr:Row w a l) :
  Calls Tryz.prog 52 #[.slice a l.length cap,.agg #[.string m.1,.int .i64 m.2]] w fun e w'=>(∃v,e=.returned v/\az w' w.heap.size v (setR m l))/\Below w.heap.size w w':=by
 obtain⟨i0,hi,hz0,hz1,hz2⟩:=info_parts Tryz.infoM
 have hRl:=jA (m:=m) (l:=l)
 go_enter Tryz.func52,Tryz.ntmps52
 go_wp2_with fail
 have b0:=box0 w (.string m.1) (.int .i64 m.2) 54
 have b1:=box1 w (.string m.1) (.int .i64 m.2) 54
 have hbx:=bP w (.cells #[.string m.1,.int .i64 m.2] 54)
 have hba:Below w.heap.size w (w.alloc (.cells #[.string m.1,.int .i64 m.2] 54)):=(Below.refl _ _).alloc (Nat.le_refl _) _
 have hra:=hr.below hba
 generalize (w.alloc (.cells #[.string m.1,.int .i64 m.2] 54))=W1 at *
 go_loopw [5,6,7] (fun out put i wr=>∃k:Nat,k<=l.length/\i=.int .i64 k/\∃(o:List (ByteArray×Int)) (p:Bool),az wr W1.heap.size out o/\put=.bool p/\o++mQ m p (l.drop k)=setR m l/\Below W1.heap.size W1 wr) (fun _ _ i _=>l.length-(intOf i).toNat)
 case atStart=>exact⟨0,Nat.zero_le _,rfl,[],false,az.none _ _,rfl,by simp[mQ],Below.refl _ _⟩
 case round=>
  obtain⟨k,hk,rfl,o,p,hg,rfl,hinv,hb⟩:=hrel
  have holen:=FO hinv
  by_cases hlt:k<l.length
  ·obtain⟨b,ob,rfl,hblt,c0,c1⟩:=hra k hlt
   have x0:=ae hb hbx b0
   have x1:=ae hb hbx b1
   have e0:=ae hb hblt c0
   have e1:=ae hb hblt c1
   cases p
   ·by_cases hA:Op.bytesLess l[k].1.toList m.1.toList=true
    ·have hb':(l[k].1.toList==m.1.toList)=false:=bg.2 (jq hA)
     have HI:Hid _:=KR hlt hinv hA
     have hb1':Op.bytesLess m.1.toList l[k].1.toList=false:=by simpa[Asc]using Ld hA
     have hb2':(m.1.toList==l[k].1.toList)=false:=bg.2 (Ne.symm (jq hA))
     go_wp2_with fail
     go_quiet (fail)
     obtain⟨u1,hvv,hb8,hg8⟩:=fK (n:=nq) hb hg
     rw[hvv]
     clear hvv
     have x0:=ae hb8 hbx b0
     have x1:=ae hb8 hbx b1
     have e0:=ae hb8 hblt c0
     have e1:=ae hb8 hblt c1
     have zz:=hb8.size
     go_wp2_with fail
     go_quiet (fail)
     obtain⟨u2,hvv,hb9,hg9⟩:=fK (n:=nq) hb8 hg8
     rw[hvv]
     clear hvv
     have x0:=ae hb9 hbx b0
     have x1:=ae hb9 hbx b1
     have e0:=ae hb9 hblt c0
     have e1:=ae hb9 hblt c1
     have zz:=hb9.size
     go_wp2_with (at_builtin;refine wpList_append_lies _ rfl _ _ 28 rfl W1.heap.size 54 i0 (.agg #[.string .empty,.int .i64 0]) 2 24 Tryz.underlying28 hi hz0 hz1 hz2 rfl (by decide) _ _ _ rfl (hg9.alloc _) ⟨u2.heap.size,0,none⟩ 1 1 [.string l[k].1,.int .i64 l[k].2] rfl rfl (jy u2 _ _ _) (by simp[Value.oneCell']) (by decide) (by unfold maxLen;first|omega|(simp only[List.length_append,List.length_cons,List.length_nil];omega)) (by first|omega|(simp only[List.length_append,List.length_cons,List.length_nil];omega)) (by simp;omega) _ rfl ?_;intro g' cap' wx hown' hgrow _ _)
     have hb10:=az.grown (W:=W1) (B:=W1.heap.size) (w:=u2.alloc (.cells #[.string l[k].1,.int .i64 l[k].2] 54)) (hg9.alloc _) (hb9.alloc hb9.size _) (by simp;omega) hgrow
     have hg10:=az.snoc hown'
     exact⟨⟨k+1,by omega,by go_num,_,_,(by first|exact hg10|(have q:=hg10;simp only[List.length_append,List.length_cons,List.length_nil,Nat.zero_add]at q;exact q)),rfl,HI.out,hb10⟩,by simp[intOf];omega⟩
    ·have hA:Op.bytesLess l[k].1.toList m.1.toList=false:=by simpa using hA
     have hput:=Ko hlt hinv hA
     have hle':=Gy hA
     have HPL:=FO hput
     simp only[List.length_append,List.length_cons,List.length_nil]at HPL
     go_wp2_with fail
     go_quiet (fail)
     obtain⟨u1,hvv,hb8,hg8⟩:=fK (n:=nq) hb hg
     rw[hvv]
     clear hvv
     have x0:=ae hb8 hbx b0
     have x1:=ae hb8 hbx b1
     have e0:=ae hb8 hblt c0
     have e1:=ae hb8 hblt c1
     have zz:=hb8.size
     go_wp2_with (at_builtin;refine wpList_append_lies _ rfl _ _ 28 rfl W1.heap.size 54 i0 (.agg #[.string .empty,.int .i64 0]) 2 24 Tryz.underlying28 hi hz0 hz1 hz2 rfl (by decide) _ _ _ rfl (hg8.alloc _) ⟨u1.heap.size,0,none⟩ 1 1 [.string m.1,.int .i64 m.2] rfl rfl (jy u1 _ _ _) (by simp[Value.oneCell']) (by decide) (by unfold maxLen;first|omega|(simp only[List.length_append,List.length_cons,List.length_nil];omega)) (by first|omega|(simp only[List.length_append,List.length_cons,List.length_nil];omega)) (by simp;omega) _ rfl ?_;intro g' cap' wx hown' hgrow _ _)
     have hb7:=az.grown (W:=W1) (B:=W1.heap.size) (w:=u1.alloc (.cells #[.string m.1,.int .i64 m.2] 54)) (hg8.alloc _) (hb8.alloc hb8.size _) (by simp;omega) hgrow
     have hg7:=az.snoc hown'
     clear x0 x1 e0 e1
     have x0:=ae hb7 hbx b0
     have x1:=ae hb7 hbx b1
     have e0:=ae hb7 hblt c0
     have e1:=ae hb7 hblt c1
     by_cases he:l[k].1=m.1
     ·have hb':(l[k].1.toList==m.1.toList)=true:=fM.2 he
      have HI:Hid _:=qQ hlt hput he
      clear he
      go_wp2_with fail
      go_quiet (fail)
      obtain⟨u2,hvv,hb9,hg9⟩:=fK (n:=nq) hb7 hg7
      rw[hvv]
      clear hvv
      have x0:=ae hb9 hbx b0
      have x1:=ae hb9 hbx b1
      have e0:=ae hb9 hblt c0
      have e1:=ae hb9 hblt c1
      have zz:=hb9.size
      go_wp2_with fail
      exact⟨⟨k+1,by omega,by go_num,_,_,hg9,rfl,HI.out,hb9⟩,by simp[intOf];omega⟩
     ·have hb':(l[k].1.toList==m.1.toList)=false:=bg.2 he
      have HI:Hid _:=rE hlt hput he
      clear he
      go_wp2_with fail
      go_quiet (fail)
      obtain⟨u2,hvv,hb9,hg9⟩:=fK (n:=nq) hb7 hg7
      rw[hvv]
      clear hvv
      have x0:=ae hb9 hbx b0
      have x1:=ae hb9 hbx b1
      have e0:=ae hb9 hblt c0
      have e1:=ae hb9 hblt c1
      have zz:=hb9.size
      go_wp2_with (at_builtin;refine wpList_append_lies _ rfl _ _ 28 rfl W1.heap.size 54 i0 (.agg #[.string .empty,.int .i64 0]) 2 24 Tryz.underlying28 hi hz0 hz1 hz2 rfl (by decide) _ _ _ rfl (hg9.alloc _) ⟨u2.heap.size,0,none⟩ 1 1 [.string l[k].1,.int .i64 l[k].2] rfl rfl (jy u2 _ _ _) (by simp[Value.oneCell']) (by decide) (by unfold maxLen;first|omega|(simp only[List.length_append,List.length_cons,List.length_nil];omega)) (by first|omega|(simp only[List.length_append,List.length_cons,List.length_nil];omega)) (by simp;omega) _ rfl ?_;intro g' cap' wx hown' hgrow _ _)
      have hb10:=az.grown (W:=W1) (B:=W1.heap.size) (w:=u2.alloc (.cells #[.string l[k].1,.int .i64 l[k].2] 54)) (hg9.alloc _) (hb9.alloc hb9.size _) (by simp;omega) hgrow
      have hg10:=az.snoc hown'
      exact⟨⟨k+1,by omega,by go_num,_,_,(by first|exact hg10|(have q:=hg10;simp only[List.length_append,List.length_cons,List.length_nil,Nat.zero_add]at q;exact q)),rfl,HI.out,hb10⟩,by simp[intOf];omega⟩
   ·go_wp2_with fail
    go_quiet (fail)
    obtain⟨u1,hvv,hb8,hg8⟩:=fK (n:=nq) hb hg
    rw[hvv]
    clear hvv
    have x0:=ae hb8 hbx b0
    have x1:=ae hb8 hbx b1
    have e0:=ae hb8 hblt c0
    have e1:=ae hb8 hblt c1
    have zz:=hb8.size
    by_cases he:l[k].1=m.1
    ·have hb':(l[k].1.toList==m.1.toList)=true:=fM.2 he
     have HI:Hid _:=qQ hlt hinv he
     clear he
     go_wp2_with fail
     go_quiet (fail)
     obtain⟨u2,hvv,hb9,hg9⟩:=fK (n:=nq) hb8 hg8
     rw[hvv]
     clear hvv
     have x0:=ae hb9 hbx b0
     have x1:=ae hb9 hbx b1
     have e0:=ae hb9 hblt c0
     have e1:=ae hb9 hblt c1
     have zz:=hb9.size
     go_wp2_with fail
     exact⟨⟨k+1,by omega,by go_num,_,_,hg9,rfl,HI.out,hb9⟩,by simp[intOf];omega⟩
    ·have hb':(l[k].1.toList==m.1.toList)=false:=bg.2 he
     have HI:Hid _:=rE hlt hinv he
     clear he
     go_wp2_with fail
     go_quiet (fail)
     obtain⟨u2,hvv,hb9,hg9⟩:=fK (n:=nq) hb8 hg8
     rw[hvv]
     clear hvv
     have x0:=ae hb9 hbx b0
     have x1:=ae hb9 hbx b1
     have e0:=ae hb9 hblt c0
     have e1:=ae hb9 hblt c1
     have zz:=hb9.size
     go_wp2_with (at_builtin;refine wpList_append_lies _ rfl _ _ 28 rfl W1.heap.size 54 i0 (.agg #[.string .empty,.int .i64 0]) 2 24 Tryz.underlying28 hi hz0 hz1 hz2 rfl (by decide) _ _ _ rfl (hg9.alloc _) ⟨u2.heap.size,0,none⟩ 1 1 [.string l[k].1,.int .i64 l[k].2] rfl rfl (jy u2 _ _ _) (by simp[Value.oneCell']) (by decide) (by unfold maxLen;first|omega|(simp only[List.length_append,List.length_cons,List.length_nil];omega)) (by first|omega|(simp only[List.length_append,List.length_cons,List.length_nil];omega)) (by simp;omega) _ rfl ?_;intro g' cap' wx hown' hgrow _ _)
     have hb10:=az.grown (W:=W1) (B:=W1.heap.size) (w:=u2.alloc (.cells #[.string l[k].1,.int .i64 l[k].2] 54)) (hg9.alloc _) (hb9.alloc hb9.size _) (by simp;omega) hgrow
     have hg10:=az.snoc hown'
     exact⟨⟨k+1,by omega,by go_num,_,_,(by first|exact hg10|(have q:=hg10;simp only[List.length_append,List.length_cons,List.length_nil,Nat.zero_add]at q;exact q)),rfl,HI.out,hb10⟩,by simp[intOf];omega⟩
  ·cases p
   ·have HE:Hid _:=JL hlt hinv
    have x0:=ae hb hbx b0
    have x1:=ae hb hbx b1
    have zz:=hb.size
    go_wp2_with (at_builtin;refine wpList_append_lies _ rfl _ _ 28 rfl W1.heap.size 54 i0 (.agg #[.string .empty,.int .i64 0]) 2 24 Tryz.underlying28 hi hz0 hz1 hz2 rfl (by decide) _ _ _ rfl (hg.alloc _) ⟨wr.heap.size,0,none⟩ 1 1 [.string m.1,.int .i64 m.2] rfl rfl (jy wr _ _ _) (by simp[Value.oneCell']) (by decide) (by unfold maxLen;first|omega|(simp only[List.length_append,List.length_cons,List.length_nil];omega)) (by first|omega|(simp only[List.length_append,List.length_cons,List.length_nil];omega)) (by simp;omega) _ rfl ?_;intro g' cap' wx hown' hgrow _ _)
    have hb10:=az.grown (W:=W1) (B:=W1.heap.size) (w:=wr.alloc (.cells #[.string m.1,.int .i64 m.2] 54)) (hg.alloc _) (hb.alloc hb.size _) (by simp;omega) hgrow
    have hg10:=az.snoc hown'
    go_ret
    exact⟨⟨_,rfl,by rw[<- HE.out];exact hg10.lower (Nat.le_of_lt hbx)⟩,hba.trans (hb10.mono hba.size)⟩
   ·have HE:Hid _:=Ie hlt hinv
    go_wp2_with fail
    go_ret
    exact⟨⟨_,rfl,by rw[<- HE.out];exact hg.lower (Nat.le_of_lt hbx)⟩,hba.trans (hb.mono hba.size)⟩
set_option maxHeartbeats 1600000 in
theorem AC (aa ab:Option Addr)(ca cb:Nat)(la lb:List (ByteArray×Int))(w:World)(hla:la.length<=maxLen)(hlb:lb.length<=maxLen)(ha:Row w aa la)(hb:Row w ab lb)
  (hsa:∀j,(h:j<la.length)->la[j].1.size<=maxLen) (hsb:∀j,(h:j<lb.length)->lb[j].1.size<=maxLen) :
  Calls Tryz.prog 72 #[.slice aa la.length ca,.slice ab lb.length cb] w fun e w'=>(∃v m ok,e=.returned (.tuple #[v,.bool ok])/\az w' w.heap.size v m/\DT la lb m ok)/\Below w.heap.size w w':=by
 go_enter Tryz.func72,Tryz.ntmps72
 go_wp2_with fail
 refine(fZ aa ca la _ hla ha hsa).mono ?_
 rintro e w1 ⟨⟨r,rfl,hr1⟩,hb1⟩
 cases r
 ·have hn:¬ah la:=fun h=>by simpa using hr1.2 h
  clear hr1
  go_wp2_with fail
  exact bodyPost_ret (v:=.tuple #[.slice none 0 0,.bool false]) (by simp[results,Tryz.results72,go_sem]) rfl ⟨⟨_,[],false,rfl,az.none _ _,.inl ⟨fun h=>hn h.1,rfl,rfl⟩⟩,hb1⟩
 have hya:ah la:=hr1.1 rfl
 clear hr1
 go_wp2_with fail
 refine(fZ ab cb lb _ hlb (hb.below hb1) hsb).mono ?_
 rintro e w2 ⟨⟨r,rfl,hr2⟩,hb2⟩
 have hb12:Below w.heap.size w w2:=hb1.trans (hb2.mono hb1.size)
 cases r
 ·have hn:¬ah lb:=fun h=>by simpa using hr2.2 h
  clear hr2
  go_wp2_with fail
  exact bodyPost_ret (v:=.tuple #[.slice none 0 0,.bool false]) (by simp[results,Tryz.results72,go_sem]) rfl ⟨⟨_,[],false,rfl,az.none _ _,.inl ⟨fun h=>hn h.2,rfl,rfl⟩⟩,hb12⟩
 have hyb:ah lb:=hr2.1 rfl
 clear hr2
 have sa:=ay hya
 have sb:=ay hyb
 have la12:=hya.1
 have lb12:=hyb.1
 go_wp2_with fail
 go_loopw [6,7] (fun out i wr=>∃k:Nat,k<=la.length/\i=.int .i64 k/\az wr w.heap.size out (la.take k)/\Below w.heap.size w wr) (fun _ i _=>la.length-(intOf i).toNat)
 case atStart=>exact⟨0,Nat.zero_le _,rfl,az.none _ _,hb12⟩
 case round=>
  obtain⟨k,hk,rfl,hg,hbl⟩:=hrel
  by_cases hlt:k<la.length
  ·obtain⟨b,ob,rfl,hblt,c0,c1⟩:=ha k hlt
   have e0:=ae hbl hblt c0
   have e1:=ae hbl hblt c1
   obtain⟨ag,capg,rfl,hrow⟩:=hg.shape
   have hk1:(la.take k).length<=1048576:=by rw[List.length_take];omega
   have HS:=sZ (wJ sa hlt)
   rw[<- List.take_succ_eq_append_getElem hlt]at HS
   have HS':Hid _:=HS
   clear HS
   generalize la.take k=o at *
   go_wp2_with (go_at_call 52;refine(oZ _ _ o la[k] _ hk1 hrow).mono ?_;rintro e w3 ⟨⟨v,rfl,hg3⟩,hb3⟩)
   exact⟨⟨k+1,by omega,by go_num,by rw[<- HS'.out];exact hg3.lower hbl.size,hbl.trans (hb3.mono hbl.size)⟩,by simp[intOf];omega⟩
  ·have hg':az wr w.heap.size u6 la:=by rw[List.take_of_length_le (by omega)]at hg;exact hg
   clear hg
   go_wp2_with fail
   go_loopw [6,8] (fun out i wr=>∃(k:Nat) (o:List (ByteArray×Int)),k<=lb.length/\i=.int .i64 k/\az wr w.heap.size out o/\o.length<=la.length+k/\jk la (lb.take k) o/\Below w.heap.size w wr) (fun _ i _=>lb.length-(intOf i).toNat)
   case atStart=>exact⟨0,la,Nat.zero_le _,rfl,hg',by omega,Ae sa,hbl⟩
   case round=>
    obtain⟨k,o,hk,rfl,hg,hol,hj,hbl⟩:=hrel
    by_cases hlt:k<lb.length
    ·obtain⟨b,ob,rfl,hblt,c0,c1⟩:=hb k hlt
     have e0:=ae hbl hblt c0
     have e1:=ae hbl hblt c1
     have g1:b<wr.heap.size:=Nat.lt_of_lt_of_le hblt hbl.size
     obtain⟨ag,capg,rfl,hrow⟩:=hg.shape
     have HRB:Hid (∀n:dA wr,Row n.w ag o):=fun n=>hrow.below n.h
     by_cases hc:aA o lb[k].1<lb[k].2
     ·have HJ:Hid _:=Eu sb hlt hj hc
      have HL:=jA (m:=lb[k]) (l:=o)
      go_wp2_with fail
      refine aF (by kernel_rfl) (by kernel_rfl) ?_
      have hne:=dA.some wr
      have q0:∀n:dA wr,n.w.cell? ⟨b,ob+k*2,none⟩=some (.string lb[k].1):=fun n=>n.cell g1 e0
      have q1:∀n:dA wr,n.w.cell? ⟨b,ob+k*2+1,none⟩=some (.int .i64 lb[k].2):=fun n=>n.cell g1 e1
      repeat (go_big_quiet_step ((go_at_call 116;exact Calls.lat_same (jh _ _ o _ _ (by unfold maxLen;omega) (HRB.out _)))))
      refine wpQuiet_nil ?_
      rintro _ ⟨nq,rfl⟩
      have e0:=q0 nq
      have e1:=q1 nq
      have B3:=hbl.trans (nq.h.mono hbl.size)
      go_wp2_with (go_at_call 52;refine(oZ _ _ o lb[k] _ (by omega) (HRB.out nq)).mono ?_;rintro e w3 ⟨⟨v,rfl,hg3⟩,hb3⟩)
      exact⟨⟨k+1,_,by omega,by go_num,hg3.lower B3.size,by omega,HJ.out,B3.trans (hb3.mono B3.size)⟩,by simp[intOf];omega⟩
     ·have HJ:Hid _:=CV sb hlt hj hc
      go_wp2_with fail
      refine aF (by kernel_rfl) (by kernel_rfl) ?_
      have hne:=dA.some wr
      have q0:∀n:dA wr,n.w.cell? ⟨b,ob+k*2,none⟩=some (.string lb[k].1):=fun n=>n.cell g1 e0
      have q1:∀n:dA wr,n.w.cell? ⟨b,ob+k*2+1,none⟩=some (.int .i64 lb[k].2):=fun n=>n.cell g1 e1
      repeat (go_big_quiet_step ((go_at_call 116;exact Calls.lat_same (jh _ _ o _ _ (by unfold maxLen;omega) (HRB.out _)))))
      refine wpQuiet_nil ?_
      rintro _ ⟨nq,rfl⟩
      go_wp2_with fail
      exact⟨⟨k+1,o,by omega,by go_num,hg.keep nq.h,by omega,HJ.out,hbl.trans (nq.h.mono hbl.size)⟩,by simp[intOf];omega⟩
    ·have hj':jk la lb o:=by rw[List.take_of_length_le (by omega)]at hj;exact hj
     have HJ:Hid (jk la lb o):=hj'
     clear hj hj'
     obtain⟨ag,capg,rfl,hrow⟩:=hg.shape
     by_cases h12:12<o.length
     ·go_wp2_with fail
      exact bodyPost_ret (v:=.tuple #[.slice none 0 0,.bool false]) (by simp[results,Tryz.results72,go_sem]) rfl ⟨⟨_,[],false,rfl,az.none _ _,.inr ⟨hya,hyb,o,HJ.out,.inr ⟨h12,rfl,rfl⟩⟩⟩,hbl⟩
     ·go_wp2_with fail
      exact bodyPost_ret (v:=.tuple #[.slice ag o.length capg,.bool true]) (by simp[results,Tryz.results72,go_sem]) rfl ⟨⟨_,o,true,rfl,hg,.inr ⟨hya,hyb,o,HJ.out,.inl ⟨by omega,rfl,rfl⟩⟩⟩,hbl⟩
end Go.Proofs.YtpfhegengmlkmabGreatDoor
namespace Go.Proofs.YtpfhegengmlkmabGreatDoor
open Go.RowKit Go.BigFrame
set_option maxRecDepth 100000
theorem uq:∀(l:List (ByteArray×Int)) (k:Nat),aP (l.take k)=(aP l).take (k*2)
 |[],k=>by simp[aP]
 |m::r,0=>by simp[aP]
 |m::r,k+1=>by
  have e:(k+1)*2=k*2+1+1:=by omega
  rw[e]
  simp only[List.take_succ_cons,aP,uq r k]
theorem az.cut {w:World}{B k cap:Nat}{a:Option Addr}{l:List (ByteArray×Int)}(h:az w B (.slice a l.length cap) l)(hk:k<=l.length)(h0:0<k):l.length<=cap/\az w B (.slice a k cap) (l.take k):=by
 obtain⟨hl,h|⟨g,cap',cur,hv,hg,hh,hn,hc,hs,ht⟩⟩:=h
 ·omega
 ·simp only[Value.slice.injEq,true_and]at hv
  obtain⟨rfl,rfl⟩:=hv
  have ek:(l.take k).length=k:=by simp;omega
  refine⟨hn,by rw[dC],.inr ⟨g,cap,cur,by rw[ek],hg,hh,by omega,by omega,hs, ?_⟩⟩
  rw[uq,<- ht,List.take_take,ek]
  congr 1
  omega
set_option maxHeartbeats 1600000 in
theorem Cc (R n c p:Nat)(ab:Option Addr)(w:World)(hr:Rd w R ab n c p)(hp:p<=80000) :
  Calls Tryz.prog 31 #[.pointer (some ⟨R,0,none⟩)] w fun e w'=>(∃v l p',e=.returned v/\az w' w.heap.size v l/\l.length<=30/\(∀m∈l,m.1.size<=2000)/\Rd w' R ab n c p'/\p'<=p+100)/\But R w w':=by
 have hRl:=hr.lt
 go_enter Tryz.func31,Tryz.ntmps31
 go_wp2_with fail
 refine(pick_any R n c p ab _ _ hr (by omega) (by omega) (by omega)).mono ?_
 rintro e w1 ⟨⟨x,rfl,hx0,hx1⟩,hr1,hb1⟩
 obtain⟨nn,rfl⟩:=Int.eq_ofNat_of_zero_le hx0
 go_wp2_with fail
 go_loopw [3,5] (fun out i wr=>∃k:Nat,k<=nn/\i=.int .i64 k/\∃o p',az wr w.heap.size out o/\o.length<=k/\(∀m∈o,m.1.size<=2000)/\Rd wr R ab n c p'/\p'<=p+1+2*k/\But R w wr) (fun _ i _=>nn-(intOf i).toNat)
 case atStart=>exact⟨0,Nat.zero_le _,rfl,[],p+1,az.none _ _,by simp,by simp,hr1,by omega,hb1⟩
 case round=>
  obtain⟨k,hk,rfl,o,p',hg,hol,hos,hrr,hp',hbr⟩:=hrel
  obtain⟨ao,co,rfl,hrow⟩:=hg.shape
  by_cases hlt:k<nn
  ·have hlt':decide ((k:Int)<(nn:Int))=true:=by simp;omega
   go_wp2_with fail
   refine(Hw R n c p' ab _ hrr (by omega)).mono ?_
   rintro e w2 ⟨⟨s,rfl,hsz⟩,hr2,hb2⟩
   go_wp2_with fail
   refine(pick_any R n c _ ab _ _ hr2 (by omega) (by omega) (by omega)).mono ?_
   rintro e w3 ⟨⟨y,rfl,hy0,hy1⟩,hr3,hb3⟩
   have hg3:=(hg.but hb2 hRl).but hb3 hRl
   have hB3:=(hbr.trans hb2).trans hb3
   go_wp2_with fail
   obtain⟨_,_,e1,hrow3⟩:=hg3.shape
   cases e1
   refine(oZ ao co o (s,1+y) _ (by omega) hrow3).mono ?_
   rintro e w4 ⟨⟨v,rfl,hg4⟩,hb4⟩
   have hsl:=jA (m:=(s,1+y)) (l:=o)
   go_wp2_with fail
   refine⟨⟨k+1,by omega,by simp,_,p'+1+1,hg4.lower hB3.size,by omega,fun m hm=>?_,hr3.below hb4,by omega,hB3.trans (But.of_below hb4)⟩,by simp[intOf];omega⟩
   rcases qO hm with h|h
   ·subst h;show s.size<=_;omega
   ·exact hos m h
  ·have hlt':decide ((k:Int)<(nn:Int))=false:=by simp;omega
   go_wp2_with fail
   refine(pick_any R n c _ ab _ _ hrr (by omega) (by omega) (by omega)).mono ?_
   rintro e w2 ⟨⟨y,rfl,hy0,hy1⟩,hr2,hb2⟩
   have hg2:=hg.but hb2 hRl
   have hB2:=hbr.trans hb2
   by_cases hy:y=0
   ·subst hy
    go_wp2_with fail
    go_loopw [3,6] (fun out i wr=>∃k:Nat,k<=12/\i=.int .i64 k/\∃o p',az wr w.heap.size out o/\o.length<=4+k/\(∀m∈o,m.1.size<=2000)/\Rd wr R ab n c p'/\p'<=p+12+k/\But R w wr) (fun _ i _=>12-(intOf i).toNat)
    case atStart=>exact⟨0,Nat.zero_le _,rfl,o,p'+1,hg2,by omega,hos,hr2,by omega,hB2⟩
    case round=>
     obtain⟨k,hk,rfl,o,p',hg,hol,hos,hrr,hp',hbr⟩:=hrel
     obtain⟨ao,co,rfl,hrow⟩:=hg.shape
     by_cases hlt:k<12
     ·have hlt':decide ((k:Int)<12)=true:=by simp;omega
      go_wp2_with fail
      refine(G7 k _ (by omega)).mono ?_
      rintro e w3 ⟨⟨s,rfl,hsz⟩,hb3⟩
      go_wp2_with fail
      refine(pick_any R n c _ ab _ _ (hrr.below hb3) (by omega) (by omega) (by omega)).mono ?_
      rintro e w4 ⟨⟨y,rfl,hy0,hy1⟩,hr4,hb4⟩
      have hg4:=(hg.keep hb3).but hb4 hRl
      have hB4:=(hbr.trans (But.of_below hb3)).trans hb4
      have hqs:((⟨#[113]⟩:ByteArray)++s).size=1+s.size:=by rw[ByteArray.size_append];rfl
      generalize (⟨#[113]⟩:ByteArray)++s=qs at *
      go_wp2_with fail
      obtain⟨_,_,e1,hrow4⟩:=hg4.shape
      cases e1
      refine(oZ ao co o (qs,1+y) _ (by omega) hrow4).mono ?_
      rintro e w5 ⟨⟨v,rfl,hg5⟩,hb5⟩
      have hsl:=jA (m:=(qs,1+y)) (l:=o)
      go_wp2_with fail
      refine⟨⟨k+1,by omega,by simp,_,p'+1,hg5.lower hB4.size,by omega,fun m hm=>?_,hr4.below hb5,by omega,hB4.trans (But.of_below hb5)⟩,by simp[intOf];omega⟩
      rcases qO hm with h|h
      ·subst h;show qs.size<=_;omega
      ·exact hos m h
     ·have hlt':decide ((k:Int)<12)=false:=by simp;omega
      by_cases hbig:12<o.length
      ·have hbig':decide ((12:Int)<(o.length:Int))=true:=by simp;omega
       go_wp2_with fail
       refine(pick_any R n c _ ab _ _ hrr (by omega) (by omega) (by omega)).mono ?_
       rintro e w3 ⟨⟨y,rfl,hy0,hy1⟩,hr3,hb3⟩
       have hg3:=hg.but hb3 hRl
       have hB3:=hbr.trans hb3
       by_cases hy:y=0
       ·subst hy
        obtain⟨hcap,hg3'⟩:=hg3.cut (k:=12) (by omega) (by omega)
        have hl12:(o.take 12).length=12:=by simp;omega
        have hg3':az w3 w.heap.size (.slice ao 12 co) (o.take 12):=hg3'
        go_wp2_with fail
        refine(kS R n c _ w.heap.size ab _ (o.take 12) _ hr3 (by omega) hg3' hRl hB3.size (by omega) (fun m hm=>hos m (List.mem_of_mem_take hm))).mono ?_
        rintro e w8 ⟨⟨v,l',p8,rfl,hg8,hl8,hs8,hr8,hp8⟩,hb8⟩
        go_wp2_with fail
        go_ret
        exact⟨⟨v,l',p8,rfl,hg8,by omega,hs8,hr8,by omega⟩,((hB3.upto (Nat.le_refl _)).trans hb8).but⟩
       ·have hy':(y==0)=false:=by simp[hy]
        go_wp2_with fail
        refine(kS R n c _ w.heap.size ab _ o _ hr3 (by omega) hg3 hRl hB3.size (by omega) hos).mono ?_
        rintro e w8 ⟨⟨v,l',p8,rfl,hg8,hl8,hs8,hr8,hp8⟩,hb8⟩
        go_wp2_with fail
        go_ret
        exact⟨⟨v,l',p8,rfl,hg8,by omega,hs8,hr8,by omega⟩,((hB3.upto (Nat.le_refl _)).trans hb8).but⟩
      ·have hbig':decide ((12:Int)<(o.length:Int))=false:=by simp;omega
       go_wp2_with fail
       refine(kS R n c _ w.heap.size ab _ o _ hrr (by omega) hg hRl hbr.size (by omega) hos).mono ?_
       rintro e w8 ⟨⟨v,l',p8,rfl,hg8,hl8,hs8,hr8,hp8⟩,hb8⟩
       go_wp2_with fail
       go_ret
       exact⟨⟨v,l',p8,rfl,hg8,by omega,hs8,hr8,by omega⟩,((hbr.upto (Nat.le_refl _)).trans hb8).but⟩
   ·have hy':(y==0)=false:=by simp[hy]
    go_wp2_with fail
    refine(kS R n c _ w.heap.size ab _ o _ hr2 (by omega) hg2 hRl hB2.size (by omega) hos).mono ?_
    rintro e w3 ⟨⟨v,l',p3,rfl,hg3,hl3,hs3,hr3,hp3⟩,hb3⟩
    go_wp2_with fail
    go_ret
    exact⟨⟨v,l',p3,rfl,hg3,by omega,hs3,hr3,by omega⟩,((hB2.upto (Nat.le_refl _)).trans hb3).but⟩
structure Bytes (w:World) (ab:Option Addr) (n c:Nat):Prop where
 cap:n<=c
 byte:∀k,k<n->∃b o,∃v:Int,ab=some ⟨b,o,none⟩/\b<w.heap.size/\0<=v/\v<=255/\w.cell? ⟨b,o+k,none⟩=some (.int .u8 v)
theorem Bytes.rd {w:World}{ab:Option Addr}{n m c:Nat}(h:Bytes w ab n c)(hm:m<=n)(hs:m<=2000):Rd (w.alloc (.cells #[.slice ab m c,.int .i64 0] 77)) w.heap.size ab m c 0:=
 ⟨by simp[go_sem],by simp[go_sem],by simp[go_sem],hs,fun k hk=>by
  obtain⟨b,o,v,h1,h2,h4,h5,h6⟩:=h.byte k (by omega)
  exact⟨b,o,v,h1,h2,h4,h5,(World.cell?_of_block (Below.heap_alloc _ _ _ h2)).trans h6⟩⟩
set_option maxHeartbeats 800000 in
theorem Ea (ab:Option Addr)(n c:Nat)(w:World)(h:Bytes w ab n c) :
  Calls Tryz.prog 11 #[.slice ab n c] w fun e w'=>(∃m,e=.returned (.pointer (some ⟨w.heap.size,0,none⟩))/\Rd w' w.heap.size ab m c 0)/\Below w.heap.size w w':=by
 have hcap:=h.cap
 by_cases hlt:2000<n
 ·have hlt':decide ((2000:Int)<(n:Int))=true:=by simp;omega
  have HRD:Hid (Rd (w.alloc (.cells #[.slice ab 2000 c,.int .i64 0] 77)) w.heap.size ab 2000 c 0):=h.rd (by omega) (by omega)
  clear h
  go_enter Tryz.func11,Tryz.ntmps11
  go_wp2_with fail
  go_ret
  exact⟨⟨2000,rfl,HRD.out⟩,(Below.refl _ _).alloc (Nat.le_refl _) _⟩
 ·have hlt':decide ((2000:Int)<(n:Int))=false:=by simp;omega
  have HRD:Hid (Rd (w.alloc (.cells #[.slice ab n c,.int .i64 0] 77)) w.heap.size ab n c 0):=h.rd (by omega) (by omega)
  clear h
  go_enter Tryz.func11,Tryz.ntmps11
  go_wp2_with fail
  go_ret
  exact⟨⟨n,rfl,HRD.out⟩,(Below.refl _ _).alloc (Nat.le_refl _) _⟩
structure Mks (w:World) (B:Nat) (v:Value) (l:List (ByteArray×Int)):Prop where
 g:az w B v l
 len:l.length<=40
 size:∀m∈l,m.1.size<=2000
theorem Dx (R n c p:Nat)(ab:Option Addr)(w:World)(hr:Rd w R ab n c p)(hp:p<=80000) :
  Calls Tryz.prog 31 #[.pointer (some ⟨R,0,none⟩)] w fun e w'=>(∃v l p',e=.returned v/\Mks w' w.heap.size v l/\l.length<=30/\Rd w' R ab n c p'/\p'<=p+100)/\But R w w':=
 (Cc R n c p ab w hr hp).mono fun _ _ ⟨⟨v,l,p',he,hg,hl,hs,hr,hp⟩,hb⟩=>⟨⟨v,l,p',he,⟨hg,by omega,hs⟩,hl,hr,hp⟩,hb⟩
def Ef (w:World)(u:TypeId)(pv:Value):Prop:=w.cell? ⟨1,0,none⟩=some (.iface u pv)
theorem Ef.below {w w':World}{u:TypeId}{pv:Value}(h:Ef w u pv)(hb:Below w.heap.size w w'):Ef w' u pv:=ae hb (World.block_lt_of_cell? _ _ h) h
theorem oq (w:World):Calls Tryz.prog 39 #[.bool true] w fun e w'=>e=.returned (.tuple #[])/\w'=w:=by
 have hnot:∀(x:Bool) (w:World),(Op.unary .not (.bool x)).run Tryz.prog w=.ok (.bool (!x)) w:=fun _ _=>rfl
 go_enter Tryz.func39,Tryz.ntmps39
 go_wp2_with fail
 go_end0
 exact⟨rfl,rfl⟩
theorem oD (u:TypeId)(pv:Value)(w:World)(h:Ef w u pv):Calls Tryz.prog 39 #[.bool false] w fun e w'=>e=.panicked [{ v:=.iface u pv,recovered:=false }]/\w'=w:=by
 unfold Ef at h
 go_enter Tryz.func39,Tryz.ntmps39
 go_wp2_with fail
 exact⟨rfl,rfl,rfl⟩
theorem sO (p:Addr)(s:ByteArray)(u:TypeId)(pv:Value)(older:List PanicEntry)(w:World)(hc:w.cell? p=some (.string s))(hz:w.frozen? p=false) :
  CallsD Tryz.prog 37 #[.pointer (some p)] (.panicking ({ v:=.iface u pv,recovered:=false }::older)) w fun e u' w'=>
   e=.returned (.tuple #[])/\u'=.panicking ({ v:=.iface u pv,recovered:=true }::older)/\w'=w.setCell p (.string ⟨#[63]⟩):=by
 refine callsD_of_wpS Tryz.func37 rfl fun c₀ cs hu=>?_
 apply wpS_seq
 apply wpS_region
 simp[wpOpsS,go_sem,recoverD,hu,Tryz.ntmps37,Exit.thenS]
 refine wpS_cond (t:=true) (by simp[Act.eval,Array.replicate]) ?_
 simp only[if_true]
 apply wpS_region
 simp[wpOpsS,go_sem,hc,hz,bodyPostS,results,Tryz.results37]
theorem DJ (p:Addr)(w:World) :
  CallsD Tryz.prog 37 #[.pointer (some p)] .returning w fun e u' w'=>e=.returned (.tuple #[])/\u'=.returning/\w'=w:=by
 refine callsD_of_wpS Tryz.func37 rfl fun c₀ cs hu=>?_
 apply wpS_seq
 apply wpS_region
 simp[wpOpsS,go_sem,recoverD,hu,Tryz.ntmps37,Exit.thenS]
 refine wpS_cond (t:=false) (by simp[Act.eval,Array.replicate]) ?_
 simp only[Bool.false_eq_true,if_false]
 refine wpS_of_wp (wp_skip ?_)
 cases c₀
 simp_all [bodyPostS,results,Tryz.results37]
end Go.Proofs.YtpfhegengmlkmabGreatDoor
