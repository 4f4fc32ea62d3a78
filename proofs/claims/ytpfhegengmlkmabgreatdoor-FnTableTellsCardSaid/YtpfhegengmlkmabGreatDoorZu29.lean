/- Texts of this claim. -/
import Derived.Test.YtpfhegengmlkmabGreatDoorZu8
import Derived.Test.YtpfhegengmlkmabGreatDoorZu12
namespace Go.Proofs.YtpfhegengmlkmabGreatDoor
open Go.RowKit Go.BigFrame
def sF (p:List UInt8)(v:Int)(ok:Bool):Prop:=(ok=true->1<=v->v<=1099511627776->Au p v)/\(∀v',Au p v'->ok=true/\v=v')
theorem o9 {p:List UInt8}(h:∀v,¬Au p v)(v:Int):sF p v false:=⟨fun e=>Bool.noConfusion e,fun v' hv=>absurd hv (h v')⟩
theorem LD (v:Int):¬Au [] v:=fun h=>h.1 rfl
theorem JR {p:List UInt8}(hp:18<p.length)(v:Int):¬Au p v:=fun h=>by
 obtain⟨h1,h2,h3,h4,h5⟩:=h
 match p,hp with
 |x::r,hp=>
  have h6:=sW (r:=r) (h3 x (List.mem_cons_self ..)) (fun e=>h2 (by rw[e];rfl))
  have h7:10 ^ 18<=10 ^ r.length:=Nat.pow_le_pow_right (by omega) (by simp at hp;omega)
  omega
theorem A7 {p:List UInt8}{x:UInt8}(hp:p[0]?=some x)(hx:x=48∨¬DG x)(v:Int):¬Au p v:=fun h=>by
 obtain⟨h1,h2,h3,h4,h5⟩:=h
 match p,hp with
 |y::r,hp=>
  simp at hp
  subst hp
  rcases hx with rfl|hx
  ·exact h2 rfl
  ·exact hx (h3 y (List.mem_cons_self ..))
theorem JJ {p:List UInt8}{x:UInt8}{k:Nat}(hp:p[k]?=some x)(hx:¬DG x)(v:Int):¬Au p v:=fun h=>hx (h.2.2.1 x (List.mem_of_getElem? hp))
theorem o8 {p:List UInt8}{k:Nat}{x:UInt8}(hp:p[k]?=some x):aY 0 (p.take (k+1))=10*aY 0 (p.take k)+(x.toNat-48):=by
 obtain⟨hk,rfl⟩:=List.getElem?_eq_some_iff.1 hp
 rw[List.take_succ_eq_append_getElem hk,lI]
theorem oG {p:List UInt8}{k:Nat}{x:UInt8}(hp:p[k]?=some x)(h:∀y∈p.take k,DG y)(hx:DG x):∀y∈p.take (k+1),DG y:=by
 obtain⟨hk,rfl⟩:=List.getElem?_eq_some_iff.1 hp
 rw[List.take_succ_eq_append_getElem hk]
 intro y hy
 rcases List.mem_append.1 hy with hy|hy
 ·exact h y hy
 ·rw[List.mem_singleton.1 hy];exact hx
theorem lY {p:List UInt8}{k:Nat}(h:∀y∈p.take k,DG y)(hk:k<=17):aY 0 (p.take k)<=100000000000000000:=by
 have h1:=Ak (p.take k) 0 h
 have h2:10 ^ (p.take k).length<=10 ^ 17:=Nat.pow_le_pow_right (by omega) (by rw[List.length_take];omega)
 omega
theorem CB {p:List UInt8}(h1:p≠[])(h:∀y∈p,DG y)(h0:p.head?=some 48->p=[48]):sF p (aY 0 p:Nat) true:=by
 refine⟨fun _ hv hm=>⟨h1,fun e=>?_,h,rfl,by omega⟩,fun v' hv=>⟨rfl,hv.2.2.2.1.symm⟩⟩
 rw[h0 e]at hv
 revert hv
 decide
def NL (p:List UInt8)(e:Ending):Prop:=∃v ok,e=.returned (.tuple #[.int .i64 v,.bool ok])/\sF p v ok
set_option maxHeartbeats 1600000 in
theorem Ip (t:ByteArray)(w:World)(ht:t.size<=1000000) :
  Calls Tryz.prog 65 #[.string t] w fun e w'=>NL (bl t) e/\w'=w:=by
 by_cases h0:t.size<1
 ·have H:Hid (sF (bl t) 0 false):=o9 (by rw[show bl t=[]from List.length_eq_zero_iff.1 (by rw[ak];omega)];exact LD) 0
  go_enter Tryz.func65,Tryz.ntmps65
  go_wp2_with fail
  exact bodyPost_ret (v:=.tuple #[.int .i64 0,.bool false]) (by simp[results,Tryz.results65,go_sem]) rfl ⟨⟨0,false,rfl,H.out⟩,rfl⟩
 have hat0:=iQ t 0 (by omega)
 by_cases hneg:t[0]=45
 ·have hneg':((t[0].toNat:Int)==45)=true:=by rw[hneg];decide
  have HNO:Hid (∀v,¬Au (bl t) v):=A7 (by rw[hat0,hneg]) (.inr (by unfold DG;decide))
  have H:Hid (sF (bl t) 0 false):=o9 HNO.out 0
  have hs0:(t.toList==[48])=false:=by
   have h:t≠⟨#[48]⟩:=fun e=>by
    have e1:(bl t)[0]?=some 48:=by rw[e];rfl
    rw[hat0,hneg]at e1
    exact absurd e1 (by decide)
   have h:=bg.2 h
   rwa [show(⟨#[48]⟩:ByteArray).toList=[48]from by rw[ByteArray.toList_eq]]at h
  clear hat0 hneg
  go_enter Tryz.func65,Tryz.ntmps65
  by_cases h1:t.size<2
  ·go_wp2_with fail
   exact bodyPost_ret (v:=.tuple #[.int .i64 0,.bool false]) (by simp[results,Tryz.results65,go_sem]) rfl ⟨⟨0,false,rfl,H.out⟩,rfl⟩
  by_cases h19:19<t.size
  ·go_wp2_with fail
   exact bodyPost_ret (v:=.tuple #[.int .i64 0,.bool false]) (by simp[results,Tryz.results65,go_sem]) rfl ⟨⟨0,false,rfl,H.out⟩,rfl⟩
  go_wp2_with fail
  ·exact bodyPost_ret (v:=.tuple #[.int .i64 0,.bool false]) (by simp[results,Tryz.results65,go_sem]) rfl ⟨⟨0,false,rfl,H.out⟩,rfl⟩
  have HNEG:Hid (∀V:Nat,sF (bl t) (-(V:Int)) true):=fun V=>⟨fun _ h1=>by omega,fun v' hv=>absurd hv (HNO.out v')⟩
  go_loop [5,6] (fun nv iv=>∃k V:Nat,k<=t.size-1/\iv=.int .i64 k/\nv=.int .i64 (V:Int)/\V<10 ^ k) (fun _ iv=>t.size-1-(intOf iv).toNat)
  case atStart=>exact⟨0,0,Nat.zero_le _,rfl,rfl,by simp⟩
  case round=>
   obtain⟨k,V,hk,rfl,rfl,hV⟩:=hrel
   by_cases hlt:k<t.size-1
   ·have hV':V<1000000000000000000:=by
     have h2:10 ^ k<=10 ^ 18:=Nat.pow_le_pow_right (by omega) (by omega)
     omega
    have HP:Hid (V<10 ^ k):=hV
    have hks:k<(t.extract 1 t.size).size:=by rw[ByteArray.size_extract];omega
    by_cases hx1:((t.extract 1 t.size)[k].toNat:Int)<48
    ·go_wp2_with fail
     exact bodyPost_ret (v:=.tuple #[.int .i64 0,.bool false]) (by simp[results,Tryz.results65,go_sem]) rfl ⟨⟨0,false,rfl,H.out⟩,rfl⟩
    by_cases hx2:57<((t.extract 1 t.size)[k].toNat:Int)
    ·go_wp2_with fail
     exact bodyPost_ret (v:=.tuple #[.int .i64 0,.bool false]) (by simp[results,Tryz.results65,go_sem]) rfl ⟨⟨0,false,rfl,H.out⟩,rfl⟩
    clear hV
    have hVV:V<=100000000000000000∨17<k:=by
     by_cases h17:17<k
     ·exact .inr h17
     ·left
      have h2:10 ^ k<=10 ^ 17:=Nat.pow_le_pow_right (by omega) (by omega)
      have:=HP.out
      omega
    have hVb:V<=100000000000000000:=by omega
    clear hVV hV'
    go_wp2_with fail
    refine⟨⟨k+1,10*V+((t.extract 1 t.size)[k].toNat-48),by omega,by go_num,by congr 1;omega, ?_⟩,by simp[intOf];omega⟩
    have:=HP.out
    rw[Nat.pow_succ]
    omega
   ·have hV':V<=1000000000000000000:=by
     have h2:10 ^ k<=10 ^ 18:=Nat.pow_le_pow_right (by omega) (by omega)
     omega
    clear hV
    go_wp2_with fail
    exact bodyPost_ret (v:=.tuple #[.int .i64 (-(V:Int)),.bool true]) (by simp[results,Tryz.results65,go_sem]) rfl ⟨⟨-(V:Int),true,rfl,HNEG.out V⟩,rfl⟩
 have hneg':((t[0].toNat:Int)==45)=false:=by
  rw[beq_eq_false_iff_ne]
  exact fun e=>hneg (UInt8.toNat_inj.1 (by rw[show(45:UInt8).toNat=45 from rfl];omega))
 by_cases h18:18<t.size
 ·have H:Hid (sF (bl t) 0 false):=o9 (JR (by rw[ak];omega)) 0
  go_enter Tryz.func65,Tryz.ntmps65
  go_wp2_with fail
  exact bodyPost_ret (v:=.tuple #[.int .i64 0,.bool false]) (by simp[results,Tryz.results65,go_sem]) rfl ⟨⟨0,false,rfl,H.out⟩,rfl⟩
 by_cases hz:t[0]=48/\t≠⟨#[48]⟩
 ·have H:Hid (sF (bl t) 0 false):=o9 (A7 (by rw[hat0,hz.1]) (.inl rfl)) 0
  have hz1:((t[0].toNat:Int)==48)=true:=by rw[hz.1];decide
  have hz2:(t.toList==[48])=false:=by
   have h:=bg.2 hz.2
   rwa [show(⟨#[48]⟩:ByteArray).toList=[48]from by rw[ByteArray.toList_eq]]at h
  clear hz
  go_enter Tryz.func65,Tryz.ntmps65
  go_wp2_with fail
  exact bodyPost_ret (v:=.tuple #[.int .i64 0,.bool false]) (by simp[results,Tryz.results65,go_sem]) rfl ⟨⟨0,false,rfl,H.out⟩,rfl⟩
 have HZ:Hid ((bl t).head?=some 48->bl t=[48]):=fun e=>by
  rw[List.head?_eq_getElem?,hat0]at e
  have e1:t[0]=48:=by simpa using e
  by_cases ht48:t=⟨#[48]⟩
  ·rw[ht48];rfl
  ·exact absurd ⟨e1,ht48⟩ hz
 go_enter Tryz.func65,Tryz.ntmps65
 by_cases hz0:t[0]=48
 ·have ht48:t=⟨#[48]⟩:=Classical.byContradiction fun h=>hz ⟨hz0,h⟩
  have hz1:((t[0].toNat:Int)==48)=true:=by rw[hz0];decide
  have hz2:(t.toList==[48])=true:=by rw[ht48,ByteArray.toList_eq];rfl
  clear hz hz0 ht48 hat0 hneg
  go_wp2_with fail
  go_loop [5,6] (fun nv iv=>∃k:Nat,k<=t.size/\iv=.int .i64 k/\nv=.int .i64 (aY 0 ((bl t).take k):Nat)/\(∀y∈(bl t).take k,DG y)) (fun _ iv=>t.size-(intOf iv).toNat)
  case atStart=>exact⟨0,Nat.zero_le _,rfl,rfl,by simp⟩
  case round=>
   obtain⟨k,hk,rfl,rfl,hall⟩:=hrel
   by_cases hlt:k<t.size
   ·have hat:=iQ t k hlt
    by_cases hdg:DG t[k]
    ·have HT:=o8 hat
     have HD:Hid (∀y∈(bl t).take (k+1),DG y):=oG hat hall hdg
     have hsm:=lY hall (by omega)
     have hd1:=hdg.1
     have hd2:=hdg.2
     generalize aY 0 ((bl t).take k)=V at *
     have HTT:Hid (aY 0 ((bl t).take (k+1))=10*V+(t[k].toNat-48)):=HT
     clear HT hall hdg hat
     go_wp2_with fail
     exact⟨⟨k+1,by omega,by go_num,by rw[HTT.out];congr 1;omega,HD.out⟩,by simp[intOf];omega⟩
    ·have H:Hid (sF (bl t) 0 false):=o9 (JJ hat hdg) 0
     have hdd:(t[k].toNat:Int)<48∨(57:Int)<(t[k].toNat:Int):=by unfold DG at hdg;omega
     clear hat hall hdg
     rcases hdd with hdd|hdd
     all_goals
      go_wp2_with fail
      exact bodyPost_ret (v:=.tuple #[.int .i64 0,.bool false]) (by simp[results,Tryz.results65,go_sem]) rfl ⟨⟨0,false,rfl,H.out⟩,rfl⟩
   ·have hfin:(bl t).take k=bl t:=List.take_of_length_le (by rw[ak];omega)
    rw[hfin]at hall ⊢
    have H:Hid (sF (bl t) (aY 0 (bl t):Nat) true):=CB (fun e=>h0 (by rw[<- ak,e];exact Nat.zero_lt_one)) hall HZ.out
    clear hfin hall
    generalize aY 0 (bl t)=V at *
    go_wp2_with fail
    exact bodyPost_ret (v:=.tuple #[.int .i64 (V:Int),.bool true]) (by simp[results,Tryz.results65,go_sem]) rfl ⟨⟨(V:Int),true,rfl,H.out⟩,rfl⟩
 ·have hz1:((t[0].toNat:Int)==48)=false:=by
   rw[beq_eq_false_iff_ne]
   exact fun e=>hz0 (UInt8.toNat_inj.1 (by rw[show(48:UInt8).toNat=48 from rfl];omega))
  clear hz hz0 hat0 hneg
  go_wp2_with fail
  go_loop [5,6] (fun nv iv=>∃k:Nat,k<=t.size/\iv=.int .i64 k/\nv=.int .i64 (aY 0 ((bl t).take k):Nat)/\(∀y∈(bl t).take k,DG y)) (fun _ iv=>t.size-(intOf iv).toNat)
  case atStart=>exact⟨0,Nat.zero_le _,rfl,rfl,by simp⟩
  case round=>
   obtain⟨k,hk,rfl,rfl,hall⟩:=hrel
   by_cases hlt:k<t.size
   ·have hat:=iQ t k hlt
    by_cases hdg:DG t[k]
    ·have HT:=o8 hat
     have HD:Hid (∀y∈(bl t).take (k+1),DG y):=oG hat hall hdg
     have hsm:=lY hall (by omega)
     have hd1:=hdg.1
     have hd2:=hdg.2
     generalize aY 0 ((bl t).take k)=V at *
     have HTT:Hid (aY 0 ((bl t).take (k+1))=10*V+(t[k].toNat-48)):=HT
     clear HT hall hdg hat
     go_wp2_with fail
     exact⟨⟨k+1,by omega,by go_num,by rw[HTT.out];congr 1;omega,HD.out⟩,by simp[intOf];omega⟩
    ·have H:Hid (sF (bl t) 0 false):=o9 (JJ hat hdg) 0
     have hdd:(t[k].toNat:Int)<48∨(57:Int)<(t[k].toNat:Int):=by unfold DG at hdg;omega
     clear hat hall hdg
     rcases hdd with hdd|hdd
     all_goals
      go_wp2_with fail
      exact bodyPost_ret (v:=.tuple #[.int .i64 0,.bool false]) (by simp[results,Tryz.results65,go_sem]) rfl ⟨⟨0,false,rfl,H.out⟩,rfl⟩
   ·have hfin:(bl t).take k=bl t:=List.take_of_length_le (by rw[ak];omega)
    rw[hfin]at hall ⊢
    have H:Hid (sF (bl t) (aY 0 (bl t):Nat) true):=CB (fun e=>h0 (by rw[<- ak,e];exact Nat.zero_lt_one)) hall HZ.out
    clear hfin hall
    generalize aY 0 (bl t)=V at *
    go_wp2_with fail
    exact bodyPost_ret (v:=.tuple #[.int .i64 (V:Int),.bool true]) (by simp[results,Tryz.results65,go_sem]) rfl ⟨⟨(V:Int),true,rfl,H.out⟩,rfl⟩
def MW (u:List UInt8)(m:ByteArray×Int)(ok:Bool):Prop:=(ok=true->iZ m->Word u m)/\(∀m',Word u m'->ok=true/\m=m')
def NZ (u:List UInt8)(e:Ending):Prop:=∃m ok,e=.returned (.tuple #[.agg #[.string m.1,.int .i64 m.2],.bool ok])/\MW u m ok/\m.1.size<=u.length
theorem Kr {s:ByteArray}(h:∀j,(h:j<s.size)->NB (s[j].toNat:Int)):CZ (bl s):=fun x hx=>by
 obtain⟨j,hj⟩:=List.getElem?_of_mem hx
 have hl:j<s.size:=by
  have:=(List.getElem?_eq_some_iff.1 hj).1
  rwa [ak]at this
 rw[iQ s j hl]at hj
 have e:s[j]=x:=by simpa using hj
 rw[<- e]
 exact h j hl
theorem I8 {t a b:ByteArray}{n:Int}{ok:Bool}(hs:aj 58 (bl t)=[bl a,bl b])(h:sF (bl b) n ok):MW (bl t) (a,n) ok:=by
 obtain⟨e,h1,h2⟩:=uu hs
 refine⟨fun hok hm=>⟨bl b,e,Kr hm.1.2.2,h.1 hok hm.2.1 hm.2.2⟩,fun m' hw=>?_⟩
 obtain⟨d,e',hd⟩:=hw.split
 rw[hs]at e'
 simp only[List.cons.injEq,and_true]at e'
 obtain⟨e1,e2⟩:=e'
 rw[<- e2]at hd
 obtain⟨k1,k2⟩:=h.2 _ hd
 exact⟨k1,Prod.ext (qR e1) k2⟩
theorem Ed (t:ByteArray)(w:World)(ht:t.size<=1000000) :
  Calls Tryz.prog 25 #[.string t,.int .u8 58] w fun e w'=>(∃v us,e=.returned v/\aI w' w.heap.size v us/\us.map bl=aj 58 (bl t))/\Below w.heap.size w w':=uF t 58 w ht
theorem Fb (t:ByteArray)(w:World)(ht:t.size<=1000000) :
  Calls Tryz.prog 25 #[.string t,.int .u8 32] w fun e w'=>(∃v us,e=.returned v/\aI w' w.heap.size v us/\us.map bl=aj 32 (bl t))/\Below w.heap.size w w':=uF t 32 w ht
set_option maxHeartbeats 1600000 in
theorem xJ (t:ByteArray)(w:World)(ht:t.size<=1000000) :
  Calls Tryz.prog 109 #[.string t] w fun e w'=>NZ (bl t) e/\Below w.heap.size w w':=by
 go_enter Tryz.func109,Tryz.ntmps109
 go_wp2_with fail
 have bx0:=box0 w (.string ⟨#[]⟩) (.int .i64 0) 54
 have bx1:=box1 w (.string ⟨#[]⟩) (.int .i64 0) 54
 have fx0:(w.alloc (.cells #[.string ⟨#[]⟩,.int .i64 0] 54)).frozen? ⟨w.heap.size,0,none⟩=false:=by simp[go_sem]
 have fx1:(w.alloc (.cells #[.string ⟨#[]⟩,.int .i64 0] 54)).frozen? ⟨w.heap.size,1,none⟩=false:=by simp[go_sem]
 have hlx:=bP w (.cells #[.string ⟨#[]⟩,.int .i64 0] 54)
 have hb0:Below w.heap.size w (w.alloc (.cells #[.string ⟨#[]⟩,.int .i64 0] 54)):=(Below.refl _ _).alloc (Nat.le_refl _) _
 generalize w.alloc (.cells #[.string ⟨#[]⟩,.int .i64 0] 54)=W0 at *
 refine(Ed t _ ht).mono ?_
 rintro e w1 ⟨⟨v,us,rfl,hg1,hus⟩,b1⟩
 have x0:=ae b1 hlx bx0
 have x1:=ae b1 hlx bx1
 have f0:=(b1.frozen (p:=⟨w.heap.size,0,none⟩) hlx).trans fx0
 have f1:=(b1.frozen (p:=⟨w.heap.size,1,none⟩) hlx).trans fx1
 have B1:Below w.heap.size w w1:=hb0.trans (b1.mono hb0.size)
 clear bx0 bx1 fx0 fx1 hb0
 obtain⟨ap,cp,rfl,hrow⟩:=hg1.shape
 by_cases h2:us.length=2
 ·match us,h2 with
  |[a,b],_=>
   have hs:aj 58 (bl t)=[bl a,bl b]:=hus.symm
   obtain⟨e0,_,_⟩:=uu hs
   have hlen:=congrArg List.length e0
   rw[List.length_append,List.length_cons,ak,ak,ak]at hlen
   obtain⟨q,o,rfl,hq,c0⟩:=hrow 0 (by simp)
   obtain⟨q',o',e2,hq',c1⟩:=hrow 1 (by simp)
   obtain⟨rfl,rfl⟩:q=q'/\o=o':=by simpa using e2
   have c0:w1.cell? ⟨q,o,none⟩=some (.string a):=c0
   have c1:w1.cell? ⟨q,o+1,none⟩=some (.string b):=c1
   have HS:Hid (aj 58 (bl t)=[bl a,bl b]):=hs
   clear hs hus hg1 hrow e0 e2
   go_wp2_with fail
   refine(Ip b _ (by omega)).mono ?_
   rintro e w2 ⟨⟨n,ok,rfl,hn⟩,rfl⟩
   have H:Hid (MW (bl t) (a,n) ok):=I8 HS.out hn
   clear hn HS
   have y0:((w2.setCell ⟨w.heap.size,0,none⟩ (.string a)).setCell ⟨w.heap.size,1,none⟩ (.int .i64 n)).cell? ⟨w.heap.size,0,none⟩=some (.string a):=by simp[go_sem,x0]
   have y1:((w2.setCell ⟨w.heap.size,0,none⟩ (.string a)).setCell ⟨w.heap.size,1,none⟩ (.int .i64 n)).cell? ⟨w.heap.size,1,none⟩=some (.int .i64 n):=by simp[go_sem,x1]
   go_wp2_with fail
   exact bodyPost_ret (v:=.tuple #[.agg #[.string a,.int .i64 n],.bool ok]) (by simp[results,Tryz.results109,go_sem,y0,y1]) rfl ⟨⟨(a,n),ok,rfl,H.out,by rw[ak];show a.size<=t.size;omega⟩,(B1.setCell (Nat.le_refl _) _).setCell (Nat.le_refl _) _⟩
 ·have h2':((us.length:Int) != 2)=true:=by rw[bne_iff_ne];omega
  have H:Hid (MW (bl t) (.empty,0) false):=⟨fun e=>Bool.noConfusion e,fun m' hw=>by
   obtain⟨d,e',_⟩:=hw.split
   rw[<- hus]at e'
   have:=congrArg List.length e'
   simp at this
   omega⟩
  clear hus hg1 hrow
  have y0:((w1.setCell ⟨w.heap.size,0,none⟩ (.string ⟨#[]⟩)).setCell ⟨w.heap.size,1,none⟩ (.int .i64 0)).cell? ⟨w.heap.size,0,none⟩=some (.string ⟨#[]⟩):=by simp[go_sem,x0]
  have y1:((w1.setCell ⟨w.heap.size,0,none⟩ (.string ⟨#[]⟩)).setCell ⟨w.heap.size,1,none⟩ (.int .i64 0)).cell? ⟨w.heap.size,1,none⟩=some (.int .i64 0):=by simp[go_sem,x1]
  go_wp2_with fail
  exact bodyPost_ret (v:=.tuple #[.agg #[.string ⟨#[]⟩,.int .i64 0],.bool false]) (by simp[results,Tryz.results109,go_sem,y0,y1]) rfl ⟨⟨(.empty,0),false,rfl,H.out,Nat.zero_le _⟩,(B1.setCell (Nat.le_refl _) _).setCell (Nat.le_refl _) _⟩
end Go.Proofs.YtpfhegengmlkmabGreatDoor
