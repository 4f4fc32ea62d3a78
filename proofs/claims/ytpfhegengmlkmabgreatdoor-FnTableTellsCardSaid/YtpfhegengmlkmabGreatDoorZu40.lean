/- Texts of this claim. -/
import Derived.Test.YtpfhegengmlkmabGreatDoorZu28
import Derived.Test.YtpfhegengmlkmabGreatDoorZu30
namespace Go.Proofs.YtpfhegengmlkmabGreatDoor
open Go.RowKit Go.BigFrame
set_option maxRecDepth 100000
theorem xq (k:Nat):Lib.decDigits k≠[]:=by
 rcases Nat.eq_zero_or_pos k with rfl|hk
 ·rw[aC (by omega)];simp
 ·exact(gI k k (Nat.le_refl _) hk).1
theorem nX (k:Nat):∀x∈Lib.decDigits k,DG x:=by
 rcases Nat.eq_zero_or_pos k with rfl|hk
 ·rw[aC (by omega)]
  intro x hx
  rw[List.mem_singleton.1 hx]
  unfold DG
  decide
 ·exact(gI k k (Nat.le_refl _) hk).2.2.1
theorem CP {k:Nat}(h:(Lib.decDigits k).head?=some 48):k=0:=by
 rcases Nat.eq_zero_or_pos k with rfl|hk
 ·rfl
 ·exact absurd h (gI k k (Nat.le_refl _) hk).2.1
theorem tJ {k:Nat}(h:k<1000000000000000000):(Lib.decDigits k).length<=18:=FD 18 k (by omega) (by omega)
theorem iH.shape {p:List UInt8}{n:Int}(h:iH p n):∃k:Nat,k<1000000000000000000/\((p=Lib.decDigits k)∨(1<=k/\p=45::Lib.decDigits k)):=by
 obtain⟨h1,h2,h3⟩:=h
 unfold Lib.itoa at h1
 split at h1
 ·exact⟨n.natAbs,by omega,.inr ⟨by omega,h1⟩⟩
 ·exact⟨n.toNat,by omega,.inl h1⟩
theorem JU {k:Nat}(h:k<1000000000000000000):iH (Lib.decDigits k) (k:Int):=⟨by unfold Lib.itoa;rw[if_neg (by omega)];rfl,by omega,by omega⟩
theorem JG {k:Nat}(h:k<1000000000000000000)(h1:1<=k):iH (45::Lib.decDigits k) (-(k:Int)):=⟨by unfold Lib.itoa;rw[if_pos (by omega)];congr 2;omega,by omega,by omega⟩
def pV (p:List UInt8)(v:Int)(ok:Bool):Prop:=(ok=true/\iH p v)∨(ok=false/\∀n,¬iH p n)
theorem kP {p:List UInt8}(h:∀n,¬iH p n)(v:Int):pV p v false:=.inr ⟨rfl,h⟩
theorem IW (n:Int):¬iH [] n:=fun h=>by
 obtain⟨k,_,h|⟨_,h⟩⟩:=h.shape
 ·exact xq k h.symm
 ·cases h
theorem Ii {p:List UInt8}{x:UInt8}(hp:p[0]?=some x)(hx:x≠45)(hl:18<p.length)(n:Int):¬iH p n:=fun h=>by
 obtain⟨k,hk,rfl|⟨_,rfl⟩⟩:=h.shape
 ·have:=tJ hk;omega
 ·simp at hp;exact hx hp.symm
theorem G6 {p:List UInt8}(hp:p[0]?=some 48)(h1:p≠[48])(n:Int):¬iH p n:=fun h=>by
 obtain⟨k,hk,rfl|⟨_,rfl⟩⟩:=h.shape
 ·have:=CP (k:=k) (by rw[List.head?_eq_getElem?];exact hp)
  subst this
  exact h1 (by rw[aC (by omega)];rfl)
 ·simp at hp
theorem KO {p:List UInt8}{x:UInt8}{k:Nat}(hp:p[k]?=some x)(hx:¬DG x)(h0:k=0->x≠45)(n:Int):¬iH p n:=fun h=>by
 obtain⟨j,hj,rfl|⟨_,rfl⟩⟩:=h.shape
 ·exact hx (nX j x (List.mem_of_getElem? hp))
 ·cases k with
  |zero=>simp at hp;exact h0 rfl hp.symm
  |succ k=>exact hx (nX j x (List.mem_of_getElem? (by simpa using hp)))
theorem Bj {p:List UInt8}(h1:p≠[])(h:∀y∈p,DG y)(h0:p.head?=some 48->p=[48]):Lib.decDigits (aY 0 p)=p:=by
 by_cases e:p.head?=some 48
 ·rw[h0 e];rw[show aY 0 [48]=0 from rfl,aC (by omega)];rfl
 ·exact DI p.length p (Nat.le_refl _) h1 e h
theorem ve {p:List UInt8}(h:∀y∈p,DG y)(hl:p.length<=18):aY 0 p<1000000000000000000:=by
 have h1:=Ak p 0 h
 have h2:10 ^ p.length<=10 ^ 18:=Nat.pow_le_pow_right (by omega) hl
 omega
theorem JS {p:List UInt8}(h1:p≠[])(h:∀y∈p,DG y)(h0:p.head?=some 48->p=[48])(hl:p.length<=18):pV p (aY 0 p:Nat) true:=
 .inl ⟨rfl,by have:=JU (ve h hl);rwa [Bj h1 h h0]at this⟩
theorem Kt (n:Int):¬iH [45] n:=fun h=>by
 obtain⟨k,_,h|⟨_,h⟩⟩:=h.shape
 ·have:=nX k 45 (by rw[<- h];simp);revert this;unfold DG;decide
 ·exact xq k (by simpa using h.symm)
theorem xC {d:List UInt8}{n:Int}(h:iH (45::d) n):∃k:Nat,k<1000000000000000000/\1<=k/\d=Lib.decDigits k:=by
 obtain⟨k,hk,h|⟨h1,h⟩⟩:=h.shape
 ·exfalso;have:=nX k 45 (by rw[<- h];simp);revert this;unfold DG;decide
 ·exact⟨k,hk,h1,by simpa using h⟩
theorem F5 {d:List UInt8}(hl:18<d.length)(n:Int):¬iH (45::d) n:=fun h=>by
 obtain⟨k,hk,_,rfl⟩:=xC h
 have:=tJ hk;omega
theorem He {d:List UInt8}(hp:d[0]?=some 48)(n:Int):¬iH (45::d) n:=fun h=>by
 obtain⟨k,hk,h1,rfl⟩:=xC h
 have:=CP (k:=k) (by rw[List.head?_eq_getElem?];exact hp)
 omega
theorem Lc {d:List UInt8}{x:UInt8}{k:Nat}(hp:d[k]?=some x)(hx:¬DG x)(n:Int):¬iH (45::d) n:=fun h=>by
 obtain⟨j,hj,_,rfl⟩:=xC h
 exact hx (nX j x (List.mem_of_getElem? hp))
theorem J8 {d:List UInt8}(h1:d≠[])(h:∀y∈d,DG y)(h0:d.head?≠some 48)(hl:d.length<=18):pV (45::d) (-((aY 0 d:Nat):Int)) true:=by
 have hd:=Bj h1 h (fun e=>absurd e h0)
 have h2:1<=aY 0 d:=by
  rcases Nat.eq_zero_or_pos (aY 0 d)with e|e
  ·rw[e,aC (by omega)]at hd
   rw[<- hd]at h0
   exact absurd rfl h0
  ·exact e
 have:=JG (ve h hl) h2
 rw[hd]at this
 exact .inl ⟨rfl,this⟩
theorem GK (t:ByteArray)(h:1<=t.size):bl t=t[0]::bl (t.extract 1 t.size):=by
 have e:bl (t.extract 1 t.size)=(bl t).drop 1:=by
  unfold bl
  rw[ByteArray.data_extract,Array.toList_extract,List.extract_eq_take_drop]
  exact List.take_of_length_le (by rw[List.length_drop,Array.length_toList];exact Nat.le_refl _)
 rw[e]
 have h0:=iQ t 0 (by omega)
 cases hb:bl t with
 |nil=>rw[hb]at h0;simp at h0
 |cons x r=>rw[hb]at h0;simp at h0;simp[h0]
def MG (p:List UInt8)(e:Ending):Prop:=∃v ok,e=.returned (.tuple #[.int .i64 v,.bool ok])/\pV p v ok
set_option maxHeartbeats 6000000 in
theorem Hy (t:ByteArray)(w:World)(ht:t.size<=1000000)(h0:0<t.size)(hneg:t[0]=45) :
  Calls Tryz.prog 65 #[.string t] w fun e w'=>MG (bl t) e/\w'=w:=by
 have hbl:=GK t h0
 rw[hneg]at hbl
 have hat0:=iQ t 0 (by omega)
 have hneg':((t[0].toNat:Int)==45)=true:=by rw[hneg];decide
 have hs0:(t.toList==[48])=false:=by
  have h:t≠⟨#[48]⟩:=fun e=>by
   have e1:(bl t)[0]?=some 48:=by rw[e];rfl
   rw[hat0,hneg]at e1
   exact absurd e1 (by decide)
  have h:=bg.2 h
  rwa [show(⟨#[48]⟩:ByteArray).toList=[48]from by rw[ByteArray.toList_eq]]at h
 clear hat0 hneg
 have hsz:(t.extract 1 t.size).size=t.size-1:=by rw[ByteArray.size_extract];omega
 have HB:Hid (bl t=45::bl (t.extract 1 t.size)):=hbl
 clear hbl
 by_cases h1:t.size<2
 ·have H:Hid (pV (bl t) 0 false):=by
   rw[Hid,HB.out]
   have:bl (t.extract 1 t.size)=[]:=List.length_eq_zero_iff.1 (by rw[ak];omega)
   rw[this]
   exact kP Kt 0
  clear hsz
  go_enter Tryz.func65,Tryz.ntmps65
  go_wp2_with fail
  exact bodyPost_ret (v:=.tuple #[.int .i64 0,.bool false]) (by simp[results,Tryz.results65,go_sem]) rfl ⟨⟨0,false,rfl,H.out⟩,rfl⟩
 by_cases h19:19<t.size
 ·have H:Hid (pV (bl t) 0 false):=by
   rw[Hid,HB.out]
   exact kP (F5 (by rw[ak];omega)) 0
  clear hsz
  go_enter Tryz.func65,Tryz.ntmps65
  go_wp2_with fail
  exact bodyPost_ret (v:=.tuple #[.int .i64 0,.bool false]) (by simp[results,Tryz.results65,go_sem]) rfl ⟨⟨0,false,rfl,H.out⟩,rfl⟩
 have hk0:0<(t.extract 1 t.size).size:=by omega
 have hat1:=iQ (t.extract 1 t.size) 0 hk0
 by_cases hz:(t.extract 1 t.size)[0]=48
 ·have H:Hid (pV (bl t) 0 false):=by
   rw[Hid,HB.out]
   exact kP (He (by rw[hat1,hz])) 0
  have hz1:(((t.extract 1 t.size)[0].toNat:Int)==48)=true:=by rw[hz];decide
  clear hsz hat1 hz
  go_enter Tryz.func65,Tryz.ntmps65
  go_wp2_with fail
  exact bodyPost_ret (v:=.tuple #[.int .i64 0,.bool false]) (by simp[results,Tryz.results65,go_sem]) rfl ⟨⟨0,false,rfl,H.out⟩,rfl⟩
 have HZ:Hid ((bl (t.extract 1 t.size)).head?≠some 48):=fun e=>by
  rw[List.head?_eq_getElem?,hat1]at e
  exact hz (by simpa using e)
 have hz1:(((t.extract 1 t.size)[0].toNat:Int)==48)=false:=by
  rw[beq_eq_false_iff_ne]
  exact fun e=>hz (UInt8.toNat_inj.1 (by rw[show(48:UInt8).toNat=48 from rfl];omega))
 clear hz hat1
 have HSZ:Hid ((t.extract 1 t.size).size=t.size-1):=hsz
 clear hsz
 go_enter Tryz.func65,Tryz.ntmps65
 go_wp2_with fail
 go_loop [5,6] (fun nv iv=>∃k:Nat,k<=t.size-1/\iv=.int .i64 k/\nv=.int .i64 (aY 0 ((bl (t.extract 1 t.size)).take k):Nat)/\(∀y∈(bl (t.extract 1 t.size)).take k,DG y)) (fun _ iv=>t.size-1-(intOf iv).toNat)
 case atStart=>exact⟨0,Nat.zero_le _,rfl,rfl,by simp⟩
 case round=>
  obtain⟨k,hk,rfl,rfl,hall⟩:=hrel
  by_cases hlt:k<t.size-1
  ·have hks:k<(t.extract 1 t.size).size:=by have:=HSZ.out;omega
   have hat:=iQ (t.extract 1 t.size) k hks
   by_cases hdg:DG (t.extract 1 t.size)[k]
   ·have HT:=o8 hat
    have HD:Hid (∀y∈(bl (t.extract 1 t.size)).take (k+1),DG y):=oG hat hall hdg
    have hsm:=lY hall (by omega)
    have hd1:=hdg.1
    have hd2:=hdg.2
    generalize aY 0 ((bl (t.extract 1 t.size)).take k)=V at *
    have HTT:Hid (aY 0 ((bl (t.extract 1 t.size)).take (k+1))=10*V+((t.extract 1 t.size)[k].toNat-48)):=HT
    clear HT hall hdg hat
    go_wp2_with fail
    exact⟨⟨k+1,by omega,by go_num,by rw[HTT.out];congr 1;omega,HD.out⟩,by simp[intOf];omega⟩
   ·have H:Hid (pV (bl t) 0 false):=by
     rw[Hid,HB.out]
     exact kP (Lc hat hdg) 0
    have hdd:((t.extract 1 t.size)[k].toNat:Int)<48∨(57:Int)<((t.extract 1 t.size)[k].toNat:Int):=by unfold DG at hdg;omega
    clear hat hall hdg
    generalize aY 0 ((bl (t.extract 1 t.size)).take k)=V at *
    rcases hdd with hdd|hdd
    all_goals
     go_wp2_with fail
     exact bodyPost_ret (v:=.tuple #[.int .i64 0,.bool false]) (by simp[results,Tryz.results65,go_sem]) rfl ⟨⟨0,false,rfl,H.out⟩,rfl⟩
  ·have hfin:(bl (t.extract 1 t.size)).take k=bl (t.extract 1 t.size):=List.take_of_length_le (by rw[ak];have:=HSZ.out;omega)
   rw[hfin]at hall ⊢
   have hln:(bl (t.extract 1 t.size)).length=t.size-1:=by rw[ak,HSZ.out]
   have H:Hid (pV (bl t) (-((aY 0 (bl (t.extract 1 t.size)):Nat):Int)) true):=by
    rw[Hid,HB.out]
    exact J8 (fun e=>by rw[e]at hln;simp at hln;omega) hall HZ.out (by omega)
   have hVV:=ve hall (by omega)
   clear hfin hall hln
   generalize aY 0 (bl (t.extract 1 t.size))=V at *
   go_wp2_with fail
   exact bodyPost_ret (v:=.tuple #[.int .i64 (-(V:Int)),.bool true]) (by simp[results,Tryz.results65,go_sem]) rfl ⟨⟨-(V:Int),true,rfl,H.out⟩,rfl⟩
set_option maxHeartbeats 1600000 in
theorem Ff (t:ByteArray)(w:World)(ht:t.size<=1000000) :
  Calls Tryz.prog 65 #[.string t] w fun e w'=>MG (bl t) e/\w'=w:=by
 by_cases h0:t.size<1
 ·have H:Hid (pV (bl t) 0 false):=kP (by rw[show bl t=[]from List.length_eq_zero_iff.1 (by rw[ak];omega)];exact IW) 0
  go_enter Tryz.func65,Tryz.ntmps65
  go_wp2_with fail
  exact bodyPost_ret (v:=.tuple #[.int .i64 0,.bool false]) (by simp[results,Tryz.results65,go_sem]) rfl ⟨⟨0,false,rfl,H.out⟩,rfl⟩
 have hat0:=iQ t 0 (by omega)
 by_cases hneg:t[0]=45
 ·exact Hy t w ht (by omega) hneg
 have hneg':((t[0].toNat:Int)==45)=false:=by
  rw[beq_eq_false_iff_ne]
  exact fun e=>hneg (UInt8.toNat_inj.1 (by rw[show(45:UInt8).toNat=45 from rfl];omega))
 by_cases h18:18<t.size
 ·have H:Hid (pV (bl t) 0 false):=kP (Ii hat0 hneg (by rw[ak];omega)) 0
  go_enter Tryz.func65,Tryz.ntmps65
  go_wp2_with fail
  exact bodyPost_ret (v:=.tuple #[.int .i64 0,.bool false]) (by simp[results,Tryz.results65,go_sem]) rfl ⟨⟨0,false,rfl,H.out⟩,rfl⟩
 by_cases hz:t[0]=48/\t≠⟨#[48]⟩
 ·have H:Hid (pV (bl t) 0 false):=kP (G6 (p:=bl t) (by rw[hat0,hz.1]) (fun e=>hz.2 (gW e))) 0
  have hz1:((t[0].toNat:Int)==48)=true:=by rw[hz.1];decide
  have hz2:(t.toList==[48])=false:=by
   have h:=bg.2 hz.2
   rwa [show(⟨#[48]⟩:ByteArray).toList=[48]from by rw[ByteArray.toList_eq]]at h
  clear hz
  go_enter Tryz.func65,Tryz.ntmps65
  go_wp2_with fail
  exact bodyPost_ret (v:=.tuple #[.int .i64 0,.bool false]) (by simp[results,Tryz.results65,go_sem]) rfl ⟨⟨0,false,rfl,H.out⟩,rfl⟩
 have HZ:Hid ((bl t).head?=some 48->bl t=[48]):=fun e=>by
  rw[List.head?_eq_getElem?,hat0]at e
  have e1:t[0]=48:=by simpa using e
  by_cases ht48:t=⟨#[48]⟩
  ·rw[ht48];rfl
  ·exact absurd ⟨e1,ht48⟩ hz
 have HN:Hid (t[0]≠45):=hneg
 go_enter Tryz.func65,Tryz.ntmps65
 have hzc:(((t[0].toNat:Int)==48)=true/\(t.toList==[48])=true)∨((t[0].toNat:Int)==48)=false:=by
  by_cases hz0:t[0]=48
  ·have ht48:t=⟨#[48]⟩:=Classical.byContradiction fun h=>hz ⟨hz0,h⟩
   exact .inl ⟨by rw[hz0];decide,by rw[ht48,ByteArray.toList_eq];rfl⟩
  ·right
   rw[beq_eq_false_iff_ne]
   exact fun e=>hz0 (UInt8.toNat_inj.1 (by rw[show(48:UInt8).toNat=48 from rfl];omega))
 clear hz hat0 hneg
 rcases hzc with⟨hz1,hz2⟩|hz1
 all_goals
  go_wp2_with fail
  go_loop [5,6] (fun nv iv=>∃k:Nat,k<=t.size/\iv=.int .i64 k/\nv=.int .i64 (aY 0 ((bl t).take k):Nat)/\(∀y∈(bl t).take k,DG y)) (fun _ iv=>t.size-(intOf iv).toNat)
  case atStart=>exact⟨0,Nat.zero_le _,rfl,rfl,by simp⟩
  case round=>
   obtain⟨k,hk,rfl,rfl,hall⟩:=hrel
   by_cases hlt:k<t.size
   ·have hat:=iQ t k hlt
    by_cases hdg:DG t[k]
    ·have HT:=o8 hat
     have HD:Hid (∀y∈(bl t).take (k+1),DG y):=oG hat hall hdg
     have hsm:=lY hall (by omega)
     have hd1:=hdg.1
     have hd2:=hdg.2
     generalize aY 0 ((bl t).take k)=V at *
     have HTT:Hid (aY 0 ((bl t).take (k+1))=10*V+(t[k].toNat-48)):=HT
     clear HT hall hdg hat
     go_wp2_with fail
     exact⟨⟨k+1,by omega,by go_num,by rw[HTT.out];congr 1;omega,HD.out⟩,by simp[intOf];omega⟩
    ·have H:Hid (pV (bl t) 0 false):=kP (KO hat hdg (fun e=>by subst e;exact HN.out)) 0
     have hdd:(t[k].toNat:Int)<48∨(57:Int)<(t[k].toNat:Int):=by unfold DG at hdg;omega
     clear hat hall hdg
     rcases hdd with hdd|hdd
     all_goals
      go_wp2_with fail
      exact bodyPost_ret (v:=.tuple #[.int .i64 0,.bool false]) (by simp[results,Tryz.results65,go_sem]) rfl ⟨⟨0,false,rfl,H.out⟩,rfl⟩
   ·have hfin:(bl t).take k=bl t:=List.take_of_length_le (by rw[ak];omega)
    rw[hfin]at hall ⊢
    have H:Hid (pV (bl t) (aY 0 (bl t):Nat) true):=JS (fun e=>h0 (by rw[<- ak,e];exact Nat.zero_lt_one)) hall HZ.out (by rw[ak];omega)
    clear hfin hall
    generalize aY 0 (bl t)=V at *
    go_wp2_with fail
    exact bodyPost_ret (v:=.tuple #[.int .i64 (V:Int),.bool true]) (by simp[results,Tryz.results65,go_sem]) rfl ⟨⟨(V:Int),true,rfl,H.out⟩,rfl⟩
theorem nZ (k:Nat):Lib.itoa (k:Int)=Lib.decDigits k:=by unfold Lib.itoa;rw[if_neg (by omega)];rfl
theorem ql {k:Nat}(h:1<=k):Lib.itoa (-(k:Int))=45::Lib.decDigits k:=by unfold Lib.itoa;rw[if_pos (by omega)];congr 2;omega
set_option maxHeartbeats 400000 in
theorem Hl (k:Nat)(w:World)(h0:1<=k)(h1:k<1000000000000000000) :
  Calls Tryz.prog 18 #[.int .i64 (k:Int)] w fun e w'=>e=.returned (.string ⟨(Lib.itoa (k:Int)).toArray⟩)/\Below w.heap.size w w':=by
 have HI0:=nZ k
 have HIT:Hid (Lib.itoa (k:Int)=Lib.decDigits k):=HI0
 clear HI0
 have hk':((k:Int)==0)=false:=by simp;omega
 have hk2:¬(k:Int)<0:=by omega
 go_enter Tryz.func18,Tryz.ntmps18
 go_wp2_with fail
 go_loopw [0,3] (fun kk out wr=>∃(q:Nat) (s:ByteArray),kk=.int .i64 q/\(∃j,j<=18/\s.size=j/\q<10 ^ (18-j))/\out=.string s/\AU k q s.data.toList/\Below w.heap.size w wr) (fun kk _ _=>(intOf kk).toNat)
 case atStart=>exact⟨k,_,rfl,⟨0,by omega,rfl,by omega⟩,rfl,pX (by omega),Below.refl _ _⟩
 case round=>
  obtain⟨q,s,rfl,⟨j,hj,hsj,hqj⟩,rfl,hI,hb⟩:=hrel
  have hq18:q<1000000000000000000:=Nat.lt_of_lt_of_le hqj (Nat.le_trans (Nat.pow_le_pow_right (by omega) (show 18-j<=18 by omega)) (by decide))
  by_cases hlt:0<q
  ·have hj18:j<18:=by
    rcases Nat.lt_or_ge j 18 with h|h
    ·exact h
    ·obtain rfl:j=18:=by omega
     simp at hqj;omega
   have HQ:Hid (q / 10<10 ^ (18-(j+1))):=by
    have e:18-j=(18-(j+1))+1:=by omega
    rw[e,Nat.pow_succ]at hqj
    exact Nat.div_lt_of_lt_mul (by omega)
   have hss:s.size<=18:=by omega
   have HSJ:Hid (s.size=j):=hsj
   clear hqj hsj
   have hcv:=mf (48+(q:Int) % 10) (by omega) (by omega) wr
   have hq':((q:Int) != 0)=true:=by simp;omega
   have HI:Hid (AU k (q / 10) (UInt8.ofNat (48+q % 10)::s.data.toList)):=rX hlt hI
   clear hI
   go_wp2_with fail
   have hsz:((⟨#[48+UInt8.ofNat (q % 10)]⟩:ByteArray)++s).size=1+s.size:=by rw[ByteArray.size_append];rfl
   refine⟨⟨q / 10,_,by congr 1,⟨j+1,by omega,by rw[hsz,HSJ.out];omega,HQ.out⟩,rfl, ?_,hb.alloc hb.size _⟩,by simp[intOf];omega⟩
   rw[au]
   have e:UInt8.ofNat (48+q % 10)=48+UInt8.ofNat (q % 10):=by rw[UInt8.ofNat_add];rfl
   have h:=HI.out
   rw[e]at h
   exact h
  ·have hq':((q:Int) != 0)=false:=by simp;omega
   have HS:Hid (s=⟨(Lib.itoa (k:Int)).toArray⟩):=ji (by rw[HIT.out];exact hI.1 (by omega))
   clear hI hsj hqj
   go_wp2_with fail
   go_ret
   exact⟨by rw[HS.out];rfl,hb⟩
set_option maxHeartbeats 400000 in
theorem Iq (k:Nat)(w:World)(h0:1<=k)(h1:k<1000000000000000000) :
  Calls Tryz.prog 18 #[.int .i64 (-(k:Int))] w fun e w'=>e=.returned (.string ⟨(Lib.itoa (-(k:Int))).toArray⟩)/\Below w.heap.size w w':=by
 have HIT:Hid (Lib.itoa (-(k:Int))=45::Lib.decDigits k):=ql h0
 have hk':((-(k:Int))==0)=false:=by simp;omega
 have hk2:(-(k:Int))<0:=by omega
 have hk3:0<k:=by omega
 go_enter Tryz.func18,Tryz.ntmps18
 go_wp2_with fail
 go_loopw [0,3] (fun kk out wr=>∃(q:Nat) (s:ByteArray),kk=.int .i64 (-(q:Int))/\(∃j,j<=18/\s.size=j/\q<10 ^ (18-j))/\out=.string s/\AU k q s.data.toList/\Below w.heap.size w wr) (fun kk _ _=>(-(intOf kk)).toNat)
 case atStart=>exact⟨k,_,rfl,⟨0,by omega,rfl,by omega⟩,rfl,pX (by omega),Below.refl _ _⟩
 case round=>
  obtain⟨q,s,rfl,⟨j,hj,hsj,hqj⟩,rfl,hI,hb⟩:=hrel
  have hq18:q<1000000000000000000:=Nat.lt_of_lt_of_le hqj (Nat.le_trans (Nat.pow_le_pow_right (by omega) (show 18-j<=18 by omega)) (by decide))
  by_cases hlt:0<q
  ·have hj18:j<18:=by
    rcases Nat.lt_or_ge j 18 with h|h
    ·exact h
    ·obtain rfl:j=18:=by omega
     simp at hqj;omega
   have HQ:Hid (q / 10<10 ^ (18-(j+1))):=by
    have e:18-j=(18-(j+1))+1:=by omega
    rw[e,Nat.pow_succ]at hqj
    exact Nat.div_lt_of_lt_mul (by omega)
   have hss:s.size<=18:=by omega
   have HSJ:Hid (s.size=j):=hsj
   clear hqj hsj
   have hcv:=mf (48+(q:Int) % 10) (by omega) (by omega) wr
   have hq':((-(q:Int)) != 0)=true:=by simp;omega
   have htm:Int.tmod (-(q:Int)) 10=-((q:Int) % 10):=by rw[Int.neg_tmod,Int.tmod_eq_emod_of_nonneg (by omega)]
   have htd:Int.tdiv (-(q:Int)) 10=-((q / 10:Nat):Int):=by rw[Int.neg_tdiv,Int.tdiv_eq_ediv_of_nonneg (by omega)];simp
   have HI:Hid (AU k (q / 10) (UInt8.ofNat (48+q % 10)::s.data.toList)):=rX hlt hI
   clear hI
   by_cases hz:(q:Int) % 10=0
   ·have hz1:¬-((q:Int) % 10)<0:=by omega
    have hcv0:=mf 48 (by omega) (by omega) wr
    go_wp2_with fail
    have hsz:((⟨#[48]⟩:ByteArray)++s).size=1+s.size:=by rw[ByteArray.size_append];rfl
    refine⟨⟨q / 10,_,by congr 1,⟨j+1,by omega,by rw[hsz,HSJ.out];omega,HQ.out⟩,rfl, ?_,hb.alloc hb.size _⟩,by simp[intOf];omega⟩
    rw[au]
    have e:UInt8.ofNat (48+q % 10)=48:=by rw[show q % 10=0 by omega];rfl
    have h:=HI.out
    rw[e]at h
    exact h
   ·have hz1:-((q:Int) % 10)<0:=by omega
    go_wp2_with fail
    have hsz:((⟨#[48+UInt8.ofNat (q % 10)]⟩:ByteArray)++s).size=1+s.size:=by rw[ByteArray.size_append];rfl
    refine⟨⟨q / 10,_,by congr 1,⟨j+1,by omega,by rw[hsz,HSJ.out];omega,HQ.out⟩,rfl, ?_,hb.alloc hb.size _⟩,by simp[intOf];omega⟩
    rw[au]
    have e:UInt8.ofNat (48+q % 10)=48+UInt8.ofNat (q % 10):=by rw[UInt8.ofNat_add];rfl
    have h:=HI.out
    rw[e]at h
    exact h
  ·have hq':((-(q:Int)) != 0)=false:=by simp;omega
   have HS:Hid ((⟨#[45]⟩:ByteArray)++s=⟨(Lib.itoa (-(k:Int))).toArray⟩):=ji (by rw[HIT.out,au,hI.1 (by omega)];rfl)
   have hs18:s.size<=18:=by omega
   clear hI hsj hqj
   go_wp2_with fail
   go_ret
   exact⟨by rw[<- HS.out];rfl,hb⟩
theorem DZ (n:Int)(w:World)(h:iw n) :
  Calls Tryz.prog 18 #[.int .i64 n] w fun e w'=>e=.returned (.string ⟨(Lib.itoa n).toArray⟩)/\Below w.heap.size w w':=by
 have h1:=h.1
 have h2:=h.2
 rcases Int.lt_trichotomy n 0 with hn|rfl|hn
 ·obtain⟨k,rfl⟩:∃k:Nat,n=-(k:Int):=⟨n.natAbs,by omega⟩
  exact Iq k w (by omega) (by omega)
 ·go_enter Tryz.func18,Tryz.ntmps18
  go_wp2_with fail
  go_ret
  refine⟨?_,Below.refl _ _⟩
  have e:Lib.itoa 0=[48]:=by have:=nZ 0;rw[aC (by omega)]at this;exact this
  rw[e]
  rfl
 ·obtain⟨k,rfl⟩:∃k:Nat,n=(k:Int):=⟨n.toNat,by omega⟩
  exact Hl k w (by omega) (by omega)
theorem Aq {l:List ByteArray}{s:ByteArray}{k:Nat}(hk:k<l.length)(h:l[k]=s)(hn:∀q,(hq:q<k)->(hl:q<l.length)->l[q]≠s):Lib.idxOfS l s=k:=by
 have:=Lib.idxOfS_hit l l.length k s hk (Nat.le_refl _) (by rw[List.getD_eq_getElem?_getD,List.getElem?_eq_getElem hk];exact h) (fun j hj=>by rw[List.getD_eq_getElem?_getD,List.getElem?_eq_getElem (by omega)];exact hn j hj (by omega))
 rwa [List.take_length]at this
theorem Cb {l:List ByteArray}{s:ByteArray}(hn:∀q,(hl:q<l.length)->l[q]≠s):Lib.idxOfS l s=-1:=by
 have:=Lib.idxOfS_miss l l.length s (fun j hj=>by rw[List.getD_eq_getElem?_getD,List.getElem?_eq_getElem hj];exact hn j hj)
 rwa [List.take_length]at this
set_option maxHeartbeats 800000 in
theorem Ju (a:Option Addr)(cap:Nat)(l:List ByteArray)(s:ByteArray)(w:World)(hl:l.length<=1048576)(hr:dQ w a l) :
  Calls Tryz.prog 67 #[.slice a l.length cap,.string s] w fun e w'=>e=.returned (.int .i64 (Lib.idxOfS l s))/\Below w.heap.size w w':=by
 go_enter Tryz.func67,Tryz.ntmps67
 go_wp2_with fail
 go_loopw [5] (fun i wr=>∃k:Nat,k<=l.length/\i=.int .i64 k/\Hid (∀q,(hq:q<k)->(hl:q<l.length)->l[q]≠s)/\Below w.heap.size w wr) (fun i _=>l.length-(intOf i).toNat)
 case atStart=>exact⟨0,Nat.zero_le _,rfl,fun _ h=>absurd h (Nat.not_lt_zero _),Below.refl _ _⟩
 case round=>
  obtain⟨k,hk,rfl,HI,hbl⟩:=hrel
  by_cases hlt:k<l.length
  ·obtain⟨b,o,rfl,hblt,c0⟩:=hr.below hbl k hlt
   have k0:(0:Int)<=(k:Int):=by omega
   have k1:(k:Int)<(l.length:Int):=by omega
   by_cases he:l[k]=s
   ·have hb':(l[k].toList==s.toList)=true:=fM.2 he
    have HX:Hid (Lib.idxOfS l s=k):=Aq hlt he HI.out
    clear he
    go_wp2_with fail
    go_ret
    exact⟨by rw[HX.out];rfl,hbl⟩
   ·have hb':(l[k].toList==s.toList)=false:=bg.2 he
    have HJ:Hid (∀q,(hq:q<k+1)->(hl:q<l.length)->l[q]≠s):=fun q hq hl=>by
     by_cases e:q=k
     ·subst e;exact he
     ·exact HI.out q (by omega) hl
    clear he
    go_wp2_with fail
    exact⟨⟨k+1,by omega,by go_num,HJ,hbl⟩,by simp[intOf];omega⟩
  ·have HX:Hid (Lib.idxOfS l s=-1):=Cb fun q hl=>HI.out q (by omega) hl
   go_wp2_with fail
   go_ret
   exact⟨by rw[HX.out];rfl,hbl⟩
theorem CW {l:List Int}(hk:0<l.length):dY (l.take 1)=Lib.itoa l[0]:=by
 cases l with
 |nil=>simp at hk
 |cons x r=>simp[dY,Lib.join_one]
theorem Fa {l:List Int}{k:Nat}(hk:k<l.length)(h0:0<k):dY (l.take (k+1))=dY (l.take k)++([32]++Lib.itoa l[k]):=by
 unfold dY
 rw[List.take_succ_eq_append_getElem hk,List.map_append,List.map_singleton,qE]
 intro e
 have:((l.take k).map Lib.itoa).length=k:=by rw[List.length_map,List.length_take];omega
 rw[e]at this
 simp at this
 omega
theorem EF {l:List Int}(h:∀v∈l,iw v)(k:Nat)(hk:k<=l.length):(dY (l.take k)).length<=k+k*21:=by
 have:=jT (l:=l.take k) (fun v hv=>h v (List.mem_of_mem_take hv))
 rw[List.length_take]at this
 rw[Nat.min_eq_left hk]at this
 exact this
set_option maxHeartbeats 800000 in
theorem yz (a:Option Addr)(cap:Nat)(l:List Int)(w:World)(hl:l.length<=6)(hv:∀v∈l,iw v)(hr:iC w a l) :
  Calls Tryz.prog 45 #[.slice a l.length cap] w fun e w'=>e=.returned (.string ⟨(dY l).toArray⟩)/\Below w.heap.size w w':=by
 go_enter Tryz.func45,Tryz.ntmps45
 go_wp2_with fail
 go_loopw [3,4] (fun out iv wr=>∃(k:Nat) (s:ByteArray),k<=l.length/\iv=.int .i64 k/\out=.string s/\Hid (s.data.toList=dY (l.take k))/\s.size<=200/\Below w.heap.size w wr) (fun _ iv _=>l.length-(intOf iv).toNat)
 case atStart=>exact⟨0,_,Nat.zero_le _,rfl,rfl,by simp[Hid,dY,Lib.join_nil],by decide,Below.refl _ _⟩
 case round=>
  obtain⟨k,s,hk,rfl,rfl,HI,hss,hbl⟩:=hrel
  by_cases hlt:k<l.length
  ·obtain⟨b,o,rfl,hblt,c0⟩:=hr.below hbl k hlt
   have k0:(0:Int)<=(k:Int):=by omega
   have k1:(k:Int)<(l.length:Int):=by omega
   have hvk:=hv _ (List.getElem_mem hlt)
   have hdl:=hvk.len
   have cd:=DZ l[k] wr hvk
   obtain⟨D,hD⟩:∃D:ByteArray,(⟨(Lib.itoa l[k]).toArray⟩:ByteArray)=D:=⟨_,rfl⟩
   have hDs:D.size<=21:=by
    rw[<- hD]
    show(Lib.itoa l[k]).toArray.size<=_
    simp
    omega
   have HT:Hid ((dY (l.take (k+1))).length<=154):=by
    have:=EF hv (k+1) (by omega)
    rw[Hid];omega
   have HDL:Hid (D.data.toList=Lib.itoa l[k]):=by rw[Hid,<- hD]
   rw[hD]at cd
   clear hD hdl hvk
   by_cases hk0:0<k
   ·have hk0':(0:Int)<(k:Int):=by omega
    have HN:Hid ((s++(⟨#[32]⟩:ByteArray)++D).data.toList=dY (l.take (k+1))):=by
     rw[Hid,au,au,HI.out,HDL.out,Fa hlt hk0,List.append_assoc]
    clear HI
    go_wp2_with (go_at_call 18;refine cd.mono ?_;rintro e w2 ⟨rfl,b2⟩)
    have hsz:(s++(⟨#[32]⟩:ByteArray)++D).size<=200:=by have h1:=congrArg List.length HN.out;have h2:=HT.out;rw[sD]at h1;omega
    exact⟨⟨k+1,_,by omega,by go_num,rfl,HN,hsz,hbl.trans (b2.mono hbl.size)⟩,by simp[intOf];omega⟩
   ·have hk0':¬(0:Int)<(k:Int):=by omega
    obtain rfl:k=0:=by omega
    have c00:wr.cell? ⟨b,o,none⟩=some (.int .i64 l[0]):=c0
    have HN:Hid ((s++D).data.toList=dY (l.take (0+1))):=by
     rw[Hid,au,HI.out,HDL.out,CW hlt];simp[dY,Lib.join_nil]
    clear HI
    go_wp2_with (go_at_call 18;refine cd.mono ?_;rintro e w2 ⟨rfl,b2⟩)
    have hsz:(s++D).size<=200:=by have h1:=congrArg List.length HN.out;have h2:=HT.out;rw[sD]at h1;omega
    exact⟨⟨0+1,_,by omega,by go_num,rfl,HN,hsz,hbl.trans (b2.mono hbl.size)⟩,by simp[intOf];omega⟩
  ·have HX:Hid (s=⟨(dY l).toArray⟩):=ji (by have:=HI.out;rwa [List.take_of_length_le (by omega)]at this)
   go_wp2_with fail
   go_ret
   exact⟨by rw[HX.out];rfl,hbl⟩
theorem ED (c:Int)(w:World)(hc:c=0∨c=3∨c=4) :
  Calls Tryz.prog 69 #[.int .i64 c] w fun e w'=>e=.returned (.string ⟨(pJ c).toArray⟩)/\Below w.heap.size w w':=by
 go_enter Tryz.func69,Tryz.ntmps69
 rcases hc with rfl|rfl|rfl
 all_goals
  go_wp2_with fail
  go_ret
  exact⟨by simp[pJ,MB,Ns,L8],Below.refl _ _⟩
theorem dQ.drop {w:World}{b o:Nat}{l:List ByteArray}(h:dQ w (some ⟨b,o,none⟩) l)(k:Nat):dQ w (some ⟨b,o+k,none⟩) (l.drop k):=fun j hj=>by
 rw[List.length_drop]at hj
 obtain⟨b',o',e,hb,c⟩:=h (k+j) (by omega)
 obtain⟨rfl,rfl⟩:b=b'/\o=o':=by simpa using e
 refine⟨b,o+k,rfl,hb, ?_⟩
 rw[List.getElem_drop,Nat.add_assoc]
 exact c
theorem DD (w:World)(a:Option Addr):dQ w a []:=fun j hj=>absurd hj (Nat.not_lt_zero j)
theorem wX (x:ByteArray):∀(zs:List ByteArray) (i:Nat),Lib.idxFromS zs x i<(i:Int)+(zs.length:Int)/\-1<=Lib.idxFromS zs x i
 |[],i=>by simp[Lib.idxFromS];omega
 |z::zs,i=>by
  have h:=wX x zs (i+1)
  simp only[Lib.idxFromS,List.length_cons]
  split
  ·omega
  ·omega
theorem Jz (l:List ByteArray)(s:ByteArray):Lib.idxOfS l s<(l.length:Int)∨Lib.idxOfS l s=-1:=by
 have:=wX s l 0
 unfold Lib.idxOfS
 omega
def NU (ws:List ByteArray)(m:List (ByteArray×Int))(ok:Bool):Prop:=(ok=true/\kF ws m)∨(ok=false/\∀m',¬kF ws m')
theorem LV {ws:List ByteArray}{m:List (ByteArray×Int)}{ok:Bool}(h0:ws≠[])(h:Hr (ws.map bl) m ok):NU ws m ok:=by
 rcases h with⟨e,rfl,rfl⟩|⟨hne,⟨rfl,h1,h2,h3⟩|⟨rfl,rfl,h1⟩⟩
 ·exact .inl ⟨rfl,h0,.inl ⟨e,rfl⟩⟩
 ·exact .inl ⟨rfl,h0,.inr ⟨h1,h2⟩⟩
 ·refine .inr ⟨rfl,fun m' hA=>?_⟩
  rcases hA.2 with⟨e,_⟩|⟨h2,h3⟩
  ·exact hne e
  ·have:=h1 m' h2 h3
   subst this
   have hl:=h2.length
   simp at hl
   exact h0 (List.length_eq_zero_iff.1 hl.symm)
theorem LU {us:List (List UInt8)}{m:List (ByteArray×Int)}{ok:Bool}(h:Hr us m ok):ah m:=by
 rcases h with⟨e,rfl,rfl⟩|⟨hne,⟨rfl,h1,h2,h3⟩|⟨rfl,rfl,h1⟩⟩
 ·exact bK
 ·exact h2
 ·exact bK
structure AP (w:World) (a:Option Addr) (cap:Nat) (ws:List ByteArray):Prop where
 row:dQ w a ws
 few:ws.length<=3001
 short:∀u∈ws,u.size<=3000
 room:ws.length<=cap
 room2:cap<=maxLen
 free:∀u∈ws,(32:UInt8)∉bl u
theorem AP.below {w w':World}{a:Option Addr}{cap:Nat}{ws:List ByteArray}(h:AP w a cap ws)(hb:Below w.heap.size w w'):AP w' a cap ws:=⟨h.row.below hb,h.few,h.short,h.room,h.room2,h.free⟩
theorem ww {m:List (ByteArray×Int)}(h:ah m):∀j,(hj:j<m.length)->m[j].1.size<=maxLen:=fun j hj=>by
 have:=(h.2.1 j hj).1.2.1
 unfold maxLen
 omega
def dI (m:List (ByteArray×Int)):ByteArray:=⟨(if m=[]then[45]else iq m).toArray⟩
open Classical in
theorem CX {m:List (ByteArray×Int)}{s:ByteArray}(hs:ah m)(h:mX m s):s=dI m:=gW (by rw[h.1 hs];simp[dI])
open Classical in
theorem oO {m:List (ByteArray×Int)}(hs:ah m):mX m (dI m):=⟨fun _=>by simp[dI],fun h=>absurd hs h⟩
theorem jB {m:List (ByteArray×Int)}(hs:ah m):(dI m).size<=276:=zh (oO hs)
theorem mD (a:Option Addr)(cap:Nat)(m:List (ByteArray×Int))(w:World)(hs:ah m)(hr:Row w a m) :
  Calls Tryz.prog 7 #[.slice a m.length cap] w fun e w'=>e=.returned (.string (dI m))/\Below w.heap.size w w':=
 (Ar a cap m w (by have:=hs.1;unfold maxLen;omega) hr (ww hs)).mono fun _ _ ⟨⟨_,he,ht⟩,hb⟩=>⟨by rw[he,CX hs ht],hb⟩
end Go.Proofs.YtpfhegengmlkmabGreatDoor
