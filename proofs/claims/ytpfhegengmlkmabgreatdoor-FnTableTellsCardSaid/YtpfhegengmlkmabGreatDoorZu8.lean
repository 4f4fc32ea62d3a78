/- Texts of this claim. -/
import Derived.Lib.ItoaNum
import Derived.Lib.Join
import Derived.Test.YtpfhegengmlkmabGreatDoorShelf
import Derived.Lib.LaidTab
import Derived.Test.YtpfhegengmlkmabGreatDoorZu4
import Derived.Test.YtpfhegengmlkmabGreatDoorZu7
namespace Go.Proofs.YtpfhegengmlkmabGreatDoor
def dO (m:ByteArray×Int):List UInt8:=m.1.data.toList++58::Lib.decDigits m.2.toNat
def iq (l:List (ByteArray×Int)):List UInt8:=Lib.join (l.map dO) [32]
def mX (l:List (ByteArray×Int))(s:ByteArray):Prop:=(ah l->s.data.toList=if l=[]then[45]else iq l)/\(¬ah l->s.data.toList=[])
theorem gW {s t:ByteArray}(h:s.data.toList=t.data.toList):s=t:=by
 cases s;cases t
 simpa using h
theorem mX.one {l:List (ByteArray×Int)}{s t:ByteArray}(h:mX l s)(k:mX l t):s=t:=by
 by_cases hp:ah l
 ·exact gW ((h.1 hp).trans (k.1 hp).symm)
 ·exact gW ((h.2 hp).trans (k.2 hp).symm)
theorem qE (xs:List (List UInt8))(x sep:List UInt8)(h:xs≠[]):Lib.join (xs++[x]) sep=Lib.join xs sep++(sep++x):=by
 cases xs with
 |nil=>exact absurd rfl h
 |cons y r=>
  rw[List.cons_append,Lib.join_cons,Lib.join_cons]
  simp[Lib.joinTail]
theorem aC {u:Nat}(h:u<10):Lib.decDigits u=[UInt8.ofNat (48+u)]:=by rw[Lib.decDigits,dif_pos h]
theorem dD {u:Nat}(h:¬u<10):Lib.decDigits u=Lib.decDigits (u / 10)++[UInt8.ofNat (48+u % 10)]:=by rw[Lib.decDigits,dif_neg h]
theorem lg:∀(n u:Nat),u<=n->(Lib.decDigits u).length<=u+1:=by
 intro n
 induction n with
 |zero=>intro u hu;rw[aC (by omega)];simp
 |succ n ih=>
  intro u hu
  by_cases h:u<10
  ·rw[aC h];simp
  ·rw[dD h,List.length_append,List.length_singleton]
   have:=ih (u / 10) (by omega)
   omega
def AU (k q:Nat)(s:List UInt8):Prop:=(q=0->s=Lib.decDigits k)/\(0<q->Lib.decDigits k=Lib.decDigits q++s)
theorem pX {k:Nat}(h:0<k):AU k k []:=⟨fun e=>by omega,fun _=>by simp⟩
theorem rX {k q:Nat}{s:List UInt8}(hq:0<q)(h:AU k q s):AU k (q / 10) (UInt8.ofNat (48+q % 10)::s):=by
 have h2:=h.2 hq
 refine⟨fun e=>?_,fun e=>?_⟩
 ·have hl:q<10:=by omega
  rw[h2,aC hl,show q % 10=q by omega];rfl
 ·rw[h2,dD (by omega:¬q<10),List.append_assoc];rfl
theorem GX {m:ByteArray×Int}(h:iZ m):(dO m).length<=1099511627786:=by
 unfold dO
 rw[List.length_append,List.length_cons]
 have h1:=lg _ m.2.toNat (Nat.le_refl _)
 have h2:=h.2.2
 have h3:=h.1.2.1
 have h4:m.1.data.toList.length=m.1.size:=Array.length_toList
 omega
theorem qj {l:List (ByteArray×Int)}{k:Nat}(hk:k<l.length)(h0:0<k):iq (l.take (k+1))=iq (l.take k)++(32::dO l[k]):=by
 unfold iq
 rw[List.take_succ_eq_append_getElem hk,List.map_append,List.map_singleton,qE _ _ _ (by
  intro e
  have:=congrArg List.length e
  simp at this
  rcases this with h|h
  ·omega
  ·subst h;simp at hk)]
 rfl
theorem nR {l:List (ByteArray×Int)}(hk:0<l.length):iq (l.take 1)=dO l[0]:=by
 unfold iq
 rw[List.take_succ_eq_append_getElem hk,List.take_zero,List.nil_append,List.map_singleton,Lib.join_one]
theorem yG {l:List (ByteArray×Int)}(h:∀j,(hj:j<l.length)->iZ l[j]):∀k,k<=l.length->(iq (l.take k)).length<=k*1099511627787:=by
 intro k
 induction k with
 |zero=>intro _;simp[iq,Lib.join_nil]
 |succ k ih=>
  intro hk
  have h1:=GX (h k (by omega))
  by_cases h0:0<k
  ·rw[qj (by omega) h0,List.length_append,List.length_cons]
   have:=ih (by omega)
   omega
  ·obtain rfl:k=0:=by omega
   rw[nR (by omega)]
   omega
end Go.Proofs.YtpfhegengmlkmabGreatDoor
namespace Go.Proofs.YtpfhegengmlkmabGreatDoor
open Go.RowKit Go.BigFrame
theorem oC {w wr:World}{o:Obj}(hb:Below w.heap.size w wr)(n:dA (wr.alloc o)):Below w.heap.size w n.w:=
 (hb.alloc hb.size o).trans (n.h.mono (Nat.le_trans hb.size (Nat.le_of_lt (bP _ _))))
theorem KY (w:World)(o:Obj){b i:Nat}(h:b<w.heap.size):(w.alloc o).cell? ⟨b,i,none⟩=w.cell? ⟨b,i,none⟩:=
 ((Below.refl w.heap.size w).alloc (Nat.le_refl _) o).cell h
theorem JX (s:ByteArray)(v:Int)(w:World)(hs:s.size<=maxLen)(h:iZ (s,v)) :
  Calls Tryz.prog 157 #[.agg #[.string s,.int .i64 v]] w fun e w'=>e=.returned (.bool true)/\Below w.heap.size w w':=
 (J5 s v w hs).mono fun e w' ⟨⟨r,he,hr⟩,hb⟩=>⟨by rw[he,hr.2 h],hb⟩
theorem Nj (s:ByteArray)(v:Int)(w:World)(hs:s.size<=maxLen)(h:¬iZ (s,v)) :
  Calls Tryz.prog 157 #[.agg #[.string s,.int .i64 v]] w fun e w'=>e=.returned (.bool false)/\Below w.heap.size w w':=
 (J5 s v w hs).mono fun e w' ⟨⟨r,he,hr⟩,hb⟩=>⟨by rw[he];cases r;rfl;exact absurd (hr.1 rfl) h,hb⟩
set_option maxHeartbeats 800000 in
theorem bY (a:Option Addr)(cap:Nat)(l:List (ByteArray×Int))(w:World)(hl:l.length<=maxLen)(hr:Row w a l)(hs:∀j,(h:j<l.length)->l[j].1.size<=maxLen) :
  Calls Tryz.prog 125 #[.slice a l.length cap] w fun e w'=>rU (ah l) e/\Below w.heap.size w w':=by
 unfold maxLen at hl
 by_cases h12:12<l.length
 ·go_enter Tryz.func125,Tryz.ntmps125
  go_wp2_with fail
  go_ret
  exact⟨ai (fun h=>by have:=h.1;omega),Below.refl _ _⟩
 go_enter Tryz.func125,Tryz.ntmps125
 go_wp2_with fail
 go_loopw [10] (fun i wr=>∃k:Nat,k<=l.length/\i=.int .i64 k/\oJ l k/\Below w.heap.size w wr) (fun i _=>l.length-(intOf i).toNat)
 case atStart=>exact⟨0,Nat.zero_le _,rfl,qH l,Below.refl _ _⟩
 case round=>
  obtain⟨k,hk,rfl,hall,hb⟩:=hrel
  by_cases hlt:k<l.length
  ·obtain⟨b,o,rfl,hblt,c0,c1⟩:=hr k hlt
   have HS:=hs k hlt
   have HST:=rq hall hlt
   have e0:=ae hb hblt c0
   have e1:=ae hb hblt c1
   have g1:b<wr.heap.size:=Nat.lt_of_lt_of_le hblt hb.size
   have k0:(0:Int)<=(k:Int):=by omega
   have k1:(k:Int)<(l.length:Int):=by omega
   by_cases hm:iZ l[k]
   ·by_cases hk0:k<1
    ·have hd:decide (0<k)=false:=by simp;omega
     go_wp2_with fail
     refine aF (by kernel_rfl) (by kernel_rfl) ?_
     have hne:=dA.some (wr.alloc (.cells #[.string l[k].1,.int .i64 l[k].2] 54))
     have q0:∀n:dA (wr.alloc (.cells #[.string l[k].1,.int .i64 l[k].2] 54)),n.w.cell? ⟨wr.heap.size,0,none⟩=some (.string l[k].1):=fun n=>n.cell (bP _ _) (box0 _ _ _ _)
     have q1:∀n:dA (wr.alloc (.cells #[.string l[k].1,.int .i64 l[k].2] 54)),n.w.cell? ⟨wr.heap.size,1,none⟩=some (.int .i64 l[k].2):=fun n=>n.cell (bP _ _) (box1 _ _ _ _)
     repeat (go_big_quiet_step ((go_at_call 157;exact Calls.lat_of (JX _ _ _ HS hm))))
     refine wpQuiet_nil ?_
     rintro _ ⟨nq,rfl⟩
     go_wp2_with fail
     exact⟨⟨k+1,by omega,by go_num,HST hm (fun h=>by omega),oC hb nq⟩,by simp[intOf];omega⟩
    ·obtain⟨b',o',he,_,d0,_⟩:=hr (k-1) (by omega)
     obtain⟨rfl,rfl⟩:b'=b/\o'=o:=by simp at he;exact⟨he.1.symm,he.2.symm⟩
     have hd:decide (0<k)=true:=by simp;omega
     have f0:=ae hb hblt d0
     go_wp2_with fail
     refine aF (by kernel_rfl) (by kernel_rfl) ?_
     have hne:=dA.some (wr.alloc (.cells #[.string l[k].1,.int .i64 l[k].2] 54))
     have q0:∀n:dA (wr.alloc (.cells #[.string l[k].1,.int .i64 l[k].2] 54)),n.w.cell? ⟨wr.heap.size,0,none⟩=some (.string l[k].1):=fun n=>n.cell (bP _ _) (box0 _ _ _ _)
     have q1:∀n:dA (wr.alloc (.cells #[.string l[k].1,.int .i64 l[k].2] 54)),n.w.cell? ⟨wr.heap.size,1,none⟩=some (.int .i64 l[k].2):=fun n=>n.cell (bP _ _) (box1 _ _ _ _)
     have q2:∀n:dA (wr.alloc (.cells #[.string l[k].1,.int .i64 l[k].2] 54)),n.w.cell? ⟨b',o'+(k-1)*2,none⟩=some (.string l[k-1].1):=fun n=>n.cell (Nat.lt_trans g1 (bP _ _)) (by rw[KY _ _ g1];exact f0)
     repeat (go_big_quiet_step ((go_at_call 157;exact Calls.lat_of (JX _ _ _ HS hm))))
     refine wpQuiet_nil ?_
     rintro _ ⟨nq,rfl⟩
     go_wp2_with fail
     ·go_ret
      exact⟨ai (fun h=>by have:=J7 h hk0 hlt;unfold Asc at this;simp_all),oC hb nq⟩
     ·exact⟨⟨k+1,by omega,by go_num,HST hm (fun _=>by unfold Asc;simp_all),oC hb nq⟩,by simp[intOf];omega⟩
   ·go_wp2_with fail
    refine aF (by kernel_rfl) (by kernel_rfl) ?_
    have hne:=dA.some (wr.alloc (.cells #[.string l[k].1,.int .i64 l[k].2] 54))
    have q0:∀n:dA (wr.alloc (.cells #[.string l[k].1,.int .i64 l[k].2] 54)),n.w.cell? ⟨wr.heap.size,0,none⟩=some (.string l[k].1):=fun n=>n.cell (bP _ _) (box0 _ _ _ _)
    have q1:∀n:dA (wr.alloc (.cells #[.string l[k].1,.int .i64 l[k].2] 54)),n.w.cell? ⟨wr.heap.size,1,none⟩=some (.int .i64 l[k].2):=fun n=>n.cell (bP _ _) (box1 _ _ _ _)
    repeat (go_big_quiet_step ((go_at_call 157;exact Calls.lat_of (Nj _ _ _ HS hm))))
    refine wpQuiet_nil ?_
    rintro _ ⟨nq,rfl⟩
    go_wp2_with fail
    go_ret
    exact⟨ai (fun h=>hm (h.2.1 k hlt)),oC hb nq⟩
  ·go_wp2_with fail
   go_ret
   exact⟨dE (zH hall hlt (by omega)),hb⟩
def iW (names:List ByteArray)(s:ByteArray):Bool:=names.any fun x=>decide (x=s)
theorem oH {names:List ByteArray}{s:ByteArray}:iW names s=true↔∃j,∃h:j<names.length,names[j]=s:=by
 unfold iW
 simp only[List.any_eq_true,decide_eq_true_eq]
 constructor
 ·rintro⟨x,hx,rfl⟩
  obtain⟨j,hj,rfl⟩:=List.mem_iff_getElem.1 hx
  exact⟨j,hj,rfl⟩
 ·rintro⟨j,hj,rfl⟩
  exact⟨_,List.getElem_mem hj,rfl⟩
def Ib (names:List ByteArray)(j:Nat)(x:ByteArray)(b:Bool):Prop:=b=true↔∃q,∃hq:q<names.length,q<j/\names[q]=x
theorem DY (names:List ByteArray)(x:ByteArray):Ib names 0 x false:=⟨fun h=>(by cases h),fun⟨q,_,h,_⟩=>by omega⟩
theorem Lm {names:List ByteArray}{j:Nat}{x:ByteArray}(h:Ib names j x false){hj:j<names.length}(he:¬names[j]=x):Ib names (j+1) x false:=by
 refine⟨fun h=>(by cases h), ?_⟩
 rintro⟨q,hq,hlt,e⟩
 by_cases hqj:q=j
 ·subst hqj;exact absurd e he
 ·exact h.2 ⟨q,hq,by omega,e⟩
theorem I7 {names:List ByteArray}{j:Nat}{x:ByteArray}{b:Bool}(h:Ib names j x b)(hj:names.length<=j):iW names x=b:=by
 have h':b=true↔iW names x=true:=by
  unfold Ib at h
  rw[h,oH]
  exact⟨fun⟨q,hq,_,e⟩=>⟨q,hq,e⟩,fun⟨q,hq,e⟩=>⟨q,hq,by omega,e⟩⟩
 cases b <;> cases hA:iW names x <;> simp_all
set_option maxHeartbeats 400000 in
theorem IE (a:Option Addr)(cap:Nat)(names:List ByteArray)(x:ByteArray)(w:World)(hl:names.length<=1048576)(hr:dQ w a names) :
  Calls Tryz.prog 99 #[.slice a names.length cap,.string x] w fun e w'=>(∃r:Int,e=.returned (.int .i64 r)/\decide (0<=r)=iW names x)/\w'=w:=by
 go_enter Tryz.func99,Tryz.ntmps99
 go_wp2_with fail
 go_loop [8] (fun i=>∃j:Nat,j<=names.length/\i=.int .i64 j/\Ib names j x false) (fun i=>names.length-(intOf i).toNat)
 case atStart=>exact⟨0,Nat.zero_le _,rfl,DY _ _⟩
 case round=>
  obtain⟨j,hj,rfl,HH⟩:=hrel
  by_cases hjlt:j<names.length
  ·obtain⟨b,o,rfl,hblt,d0⟩:=hr j hjlt
   by_cases he:names[j]=x
   ·have hb':(x.toList==names[j].toList)=true:=fM.2 he.symm
    have HA:Hid (iW names x=true):=oH.2 ⟨j,hjlt,he⟩
    go_wp2_with fail
    go_ret
    exact⟨⟨_,rfl,by rw[HA.out];simp⟩,rfl⟩
   ·have hb':(x.toList==names[j].toList)=false:=bg.2 (fun h=>he h.symm)
    go_wp2_with fail
    exact⟨⟨j+1,by omega,by go_num,Lm HH he⟩,by simp[intOf];omega⟩
  ·have HA:Hid (iW names x=false):=I7 HH (by omega)
   go_wp2_with fail
   go_ret
   exact⟨⟨_,rfl,by rw[HA.out];simp⟩,rfl⟩
set_option maxHeartbeats 400000 in
theorem AA (a:Option Addr)(cap:Nat)(names:List ByteArray)(x:ByteArray)(w:World)(hl:names.length<=1048576)(hr:dQ w a names) :
  Calls Tryz.prog 77 #[.slice a names.length cap,.string x] w fun e w'=>e=.returned (.bool (iW names x))/\w'=w:=by
 go_enter Tryz.func77,Tryz.ntmps77
 go_wp2_with fail
 refine(IE a cap names x _ hl hr).mono ?_
 rintro e w1 ⟨⟨r,rfl,hr1⟩,rfl⟩
 have HR:Hid (decide (0<=r)=iW names x):=hr1
 clear hr1
 go_wp2_with fail
 go_ret
 exact⟨by rw[<- HR.out];rfl,rfl⟩
end Go.Proofs.YtpfhegengmlkmabGreatDoor
namespace Go.Proofs.YtpfhegengmlkmabGreatDoor
open Go.RowKit Go.BigFrame
set_option maxRecDepth 100000
theorem mf (d:Int)(h0:0<=d)(h1:d<=255)(u:World) :
  (convert 22 9 (.slice (some ⟨u.heap.size,0,none⟩) 1 1)).run Tryz.prog (u.alloc (.cells #[.int .u8 d] 5))=.ok (.string ⟨#[UInt8.ofNat d.toNat]⟩) (u.alloc (.cells #[.int .u8 d] 5)):=by
 have h:=run_convert_bytes_back (P:=Tryz.prog) (u.alloc (.cells #[.int .u8 d] 5)) 22 9 5 ⟨u.heap.size,0,none⟩ 1 [UInt8.ofNat d.toNat] Tryz.underlying22 Tryz.underlying5 Tryz.underlying9 (fun j hj=>by
  obtain rfl:j=0:=by simpa using hj
  have e:((UInt8.ofNat d.toNat).toNat:Int)=d:=by
   rw[UInt8.toNat_ofNat']
   omega
  simp[Addr.add,go_sem]
  omega)
 simpa using h
theorem au (a b:ByteArray):(a++b).data.toList=a.data.toList++b.data.toList:=by
 rw[ByteArray.data_append,Array.toList_append]
theorem sD (s:ByteArray):s.data.toList.length=s.size:=Array.length_toList
theorem ji {s:ByteArray}{l:List UInt8}(h:s.data.toList=l):s=⟨l.toArray⟩:=gW (by rw[h])
set_option maxHeartbeats 400000 in
theorem CY (k:Nat)(w:World)(h0:1<=k)(h1:k<=1099511627776) :
  Calls Tryz.prog 18 #[.int .i64 (k:Int)] w fun e w'=>e=.returned (.string ⟨(Lib.decDigits k).toArray⟩)/\Below w.heap.size w w':=by
 have hk':((k:Int)==0)=false:=by simp;omega
 go_enter Tryz.func18,Tryz.ntmps18
 go_wp2_with fail
 go_loopw [0,3] (fun kk out wr=>∃(q:Nat) (s:ByteArray),kk=.int .i64 q/\s.size+q<=k/\out=.string s/\AU k q s.data.toList/\Below w.heap.size w wr) (fun kk _ _=>(intOf kk).toNat)
 case atStart=>exact⟨k,_,rfl,by show 0+k<=_;omega,rfl,pX (by omega),Below.refl _ _⟩
 case round=>
  obtain⟨q,s,rfl,hq,rfl,hI,hb⟩:=hrel
  by_cases hlt:0<q
  ·have hcv:=mf (48+(q:Int) % 10) (by omega) (by omega) wr
   have hq':((q:Int) != 0)=true:=by simp;omega
   have HI:Hid (AU k (q / 10) (UInt8.ofNat (48+q % 10)::s.data.toList)):=rX hlt hI
   clear hI
   go_wp2_with fail
   have hsz:((⟨#[48+UInt8.ofNat (q % 10)]⟩:ByteArray)++s).size=1+s.size:=by rw[ByteArray.size_append];rfl
   refine⟨⟨q / 10,_,by congr 1,by rw[hsz];omega,rfl, ?_,hb.alloc hb.size _⟩,by simp[intOf];omega⟩
   rw[au]
   have e:UInt8.ofNat (48+q % 10)=48+UInt8.ofNat (q % 10):=by rw[UInt8.ofNat_add];rfl
   have h:=HI.out
   rw[e]at h
   exact h
  ·have hq':((q:Int) != 0)=false:=by simp;omega
   have HS:Hid (s=⟨(Lib.decDigits k).toArray⟩):=ji (hI.1 (by omega))
   clear hI
   go_wp2_with fail
   go_ret
   exact⟨by rw[HS.out];rfl,hb⟩
set_option maxHeartbeats 1600000 in
theorem Ar (a:Option Addr)(cap:Nat)(l:List (ByteArray×Int))(w:World)(hl:l.length<=maxLen)(hr:Row w a l)(hs:∀j,(h:j<l.length)->l[j].1.size<=maxLen) :
  Calls Tryz.prog 7 #[.slice a l.length cap] w fun e w'=>(∃s,e=.returned (.string s)/\mX l s)/\Below w.heap.size w w':=by
 go_enter Tryz.func7,Tryz.ntmps7
 go_wp2_with fail
 refine(fZ a cap l _ hl hr hs).mono ?_
 rintro e w1 ⟨⟨r,rfl,hr1⟩,b1⟩
 cases r
 ·have H:Hid (mX l ⟨#[]⟩):=⟨fun h=>by simpa using hr1.2 h,fun _=>rfl⟩
  clear hr1
  go_wp2_with fail
  go_ret
  exact⟨⟨_,rfl,H.out⟩,b1⟩
 have hS:ah l:=hr1.1 rfl
 clear hr1
 by_cases h0:l.length=0
 ·have h0':((l.length:Int)==0)=true:=by rw[beq_iff_eq];omega
  have H:Hid (mX l ⟨#[45]⟩):=⟨fun _=>by rw[if_pos (List.length_eq_zero_iff.1 h0)],fun h=>absurd hS h⟩
  clear hS h0
  go_wp2_with fail
  go_ret
  exact⟨⟨_,rfl,H.out⟩,b1⟩
 have h0':((l.length:Int)==0)=false:=by rw[beq_eq_false_iff_ne];omega
 have h12:=hS.1
 have HS:Hid (ah l):=hS
 have hpos:0<l.length:=by omega
 clear hS h0
 go_wp2_with fail
 go_loopw [3,4] (fun out iv wr=>∃(k:Nat) (s:ByteArray),k<=l.length/\iv=.int .i64 k/\out=.string s/\s.data.toList=iq (l.take k)/\Below w.heap.size w wr) (fun _ iv _=>l.length-(intOf iv).toNat)
 case atStart=>exact⟨0,_,Nat.zero_le _,rfl,rfl,by simp[iq,Lib.join_nil],b1⟩
 case round=>
  obtain⟨k,s,hk,rfl,rfl,hI,hbl⟩:=hrel
  by_cases hlt:k<l.length
  ·obtain⟨b2,o2,rfl,hlt2,c0,c1⟩:=hr k hlt
   have e0:=ae hbl hlt2 c0
   have e1:=ae hbl hlt2 c1
   have g2:b2<wr.heap.size:=Nat.lt_of_lt_of_le hlt2 hbl.size
   have k0:(0:Int)<=(k:Int):=by omega
   have k1:(k:Int)<(l.length:Int):=by omega
   have hM:=HS.out.2.1 k hlt
   have hv1:=hM.2.1
   have hv2:=hM.2.2
   have hn8:=hM.1.2.1
   obtain⟨V,hV⟩:∃V:Nat,l[k].2=(V:Int):=⟨l[k].2.toNat,by omega⟩
   have hsz:s.size<=13194139533444:=by
    have h1:=yG HS.out.2.1 k hk
    rw[<- hI,sD]at h1
    omega
   have hdl:=lg _ V (Nat.le_refl _)
   have hdz:(⟨(Lib.decDigits V).toArray⟩:ByteArray).size=(Lib.decDigits V).length:=by
    show(Lib.decDigits V).toArray.size=_
    simp
   have HW:Hid (dO l[k]=l[k].1.data.toList++58::Lib.decDigits V):=by unfold Hid dO;rw[hV];rfl
   rw[hV]at e1 hv1 hv2
   have cd:∀n:dA wr,Calls Tryz.prog 18 #[.int .i64 (V:Int)] n.w fun e w''=>e=.returned (.string ⟨(Lib.decDigits V).toArray⟩)/\Below n.w.heap.size n.w w'':=fun n=>CY V n.w (by omega) (by omega)
   obtain⟨D,hD⟩:∃D:ByteArray,(⟨(Lib.decDigits V).toArray⟩:ByteArray)=D:=⟨_,rfl⟩
   rw[hD]at cd hdz
   have HDD:Hid (D.data.toList=Lib.decDigits V):=by rw[Hid,<- hD]
   have hDs:D.size<=1099511627777:=by omega
   have q0:∀n:dA wr,n.w.cell? ⟨b2,o2+k*2,none⟩=some (.string l[k].1):=fun n=>n.cell g2 e0
   have q1:∀n:dA wr,n.w.cell? ⟨b2,o2+k*2+1,none⟩=some (.int .i64 (V:Int)):=fun n=>n.cell g2 e1
   have hne:=dA.some wr
   have HI:Hid (s.data.toList=iq (l.take k)):=hI
   clear hI hM hV hD hdl hdz
   by_cases hk0:0<k
   ·have HSN:Hid (iq (l.take (k+1))=iq (l.take k)++(32::dO l[k])):=qj hlt hk0
    have hs32:(s++(⟨#[32]⟩:ByteArray)).size=s.size+1:=by rw[ByteArray.size_append];rfl
    have HA:Hid ((s++(⟨#[32]⟩:ByteArray)).data.toList=s.data.toList++[32]):=au _ _
    go_wp2_with fail
    generalize s++(⟨#[32]⟩:ByteArray)=s2 at *
    refine aF (by kernel_rfl) (by kernel_rfl) ?_
    repeat (go_big_quiet_step ((go_at_call 18;exact Calls.lat_of (cd _))))
    refine wpQuiet_nil ?_
    rintro _ ⟨nq,rfl⟩
    go_wp2_with fail
    refine⟨⟨k+1,_,by omega,by go_num,rfl, ?_,hbl.trans (nq.h.mono hbl.size)⟩,by simp[intOf];omega⟩
    rw[HSN.out,HW.out]
    simp only[au,HA.out,HI.out,HDD.out,List.append_assoc]
    rfl
   ·have HSN:Hid (iq (l.take (k+1))=dO l[k]):=by
     obtain rfl:k=0:=by omega
     exact nR hlt
    have HS0:Hid (s.data.toList=[]):=by
     rw[Hid,HI.out,show k=0 by omega]
     simp[iq,Lib.join_nil]
    go_wp2_with fail
    refine aF (by kernel_rfl) (by kernel_rfl) ?_
    repeat (go_big_quiet_step ((go_at_call 18;exact Calls.lat_of (cd _))))
    refine wpQuiet_nil ?_
    rintro _ ⟨nq,rfl⟩
    go_wp2_with fail
    refine⟨⟨k+1,_,by omega,by go_num,rfl, ?_,hbl.trans (nq.h.mono hbl.size)⟩,by simp[intOf];omega⟩
    rw[HSN.out,HW.out]
    simp only[au,HS0.out,HDD.out,List.append_assoc]
    rfl
  ·have HF:Hid (mX l s):=⟨fun _=>by rw[if_neg (fun e=>by rw[e]at hpos;simp at hpos),hI,List.take_of_length_le (by omega)],fun h=>absurd HS.out h⟩
   clear hI
   go_wp2_with fail
   go_ret
   exact⟨⟨_,rfl,HF.out⟩,hbl⟩
theorem var_below {P:Program}{w w':World}{n:String}{cs:Array Value}(h:w.var? P n=some cs)(hb:Below w.heap.size w w'):w'.var? P n=some cs:=by
 unfold World.var? at h ⊢
 cases hg:P.globalNamed n with
 |none=>rw[hg]at h;cases h
 |some g=>
  rw[hg]at h
  simp only[Option.bind_some]at h ⊢
  have hlt:g<w.heap.size:=by
   rcases Nat.lt_or_ge g w.heap.size with h'|h'
   ·exact h'
   ·rw[Array.getElem?_eq_none h']at h;cases h
  rw[hb.block g hlt]
  exact h
def Tab (w:World):Prop:=Lib.TabIs Tryz.prog w "internal/strconv.uint64pow10" .u64 Lib.pow10Tab
theorem Tab.below {w w':World}(h:Tab w)(hb:Below w.heap.size w w'):Tab w':=var_below h hb
theorem below_grow (w:World)(q:Nat)(os:Array Obj):Below w.heap.size w (Sort.grow (w.drewN q) os):=
 ⟨rfl,rfl,rfl,by simp[Sort.grow,World.drewN],fun k hk=>by
  show(w.heap++os)[k]?=_
  rw[Array.getElem?_append_left hk]⟩
theorem Kz (n:Nat)(w:World)(h1:n<=1099511627776)(ht:Tab w) :
  Calls Tryz.prog 101 #[.int .i64 (n:Int)] w fun e w'=>e=.returned (.string ⟨(Lib.decDigits n).toArray⟩)/\Below w.heap.size w w':=
 (Tryz.strconv_Itoa (n:Int) (by omega) (by omega) w ht).mono fun _ w' ⟨he,k,os,hw⟩=>⟨by rw[he];unfold Lib.itoa;rw[if_neg (by omega)];rfl,by rw[hw];exact below_grow w k os⟩
set_option maxHeartbeats 800000 in
theorem Ku (s:ByteArray)(n:Nat)(w:World)(hs:s.size<=8)(h1:n<=1099511627776)(ht:Tab w) :
  Calls Tryz.prog 152 #[.agg #[.string s,.int .i64 (n:Int)]] w fun e w'=>e=.returned (.string ⟨(dO (s,(n:Int))).toArray⟩)/\Below w.heap.size w w':=by
 go_enter Tryz.func152,Tryz.ntmps152
 go_wp2_with fail
 have c0:=box0 w (.string s) (.int .i64 (n:Int)) 54
 have c1:=box1 w (.string s) (.int .i64 (n:Int)) 54
 have hlx:=bP w (.cells #[.string s,.int .i64 (n:Int)] 54)
 have hb0:Below w.heap.size w (w.alloc (.cells #[.string s,.int .i64 (n:Int)] 54)):=(Below.refl _ _).alloc (Nat.le_refl _) _
 replace ht:=ht.below hb0
 generalize w.alloc (.cells #[.string s,.int .i64 (n:Int)] 54)=W0 at *
 have hdl:=lg _ n (Nat.le_refl _)
 have cd:∀m:dA W0,Calls Tryz.prog 101 #[.int .i64 (n:Int)] m.w fun e w''=>e=.returned (.string ⟨(Lib.decDigits n).toArray⟩)/\Below m.w.heap.size m.w w'':=fun m=>Kz n m.w h1 (ht.below m.h)
 obtain⟨D,hD⟩:∃D:ByteArray,(⟨(Lib.decDigits n).toArray⟩:ByteArray)=D:=⟨_,rfl⟩
 have hDs:D.size<=1099511627777:=by
  rw[<- hD]
  show(Lib.decDigits n).toArray.size<=_
  simp
  omega
 rw[hD]at cd
 have HW:Hid (s++(⟨#[58]⟩:ByteArray)++D=⟨(dO (s,(n:Int))).toArray⟩):=by
  apply gW
  rw[ByteArray.data_append,ByteArray.data_append,Array.toList_append,Array.toList_append,<- hD]
  show s.data.toList++[58]++Lib.decDigits n=dO (s,(n:Int))
  unfold dO
  rw[List.append_assoc]
  rfl
 have q0:∀m:dA W0,m.w.cell? ⟨w.heap.size,0,none⟩=some (.string s):=fun m=>m.cell hlx c0
 have q1:∀m:dA W0,m.w.cell? ⟨w.heap.size,1,none⟩=some (.int .i64 (n:Int)):=fun m=>m.cell hlx c1
 have hne:=dA.some W0
 clear hD hdl
 refine aF (by kernel_rfl) (by kernel_rfl) ?_
 repeat (go_big_quiet_step ((go_at_call 101;exact Calls.lat_of (cd _))))
 refine wpQuiet_nil ?_
 rintro _ ⟨nq,rfl⟩
 go_wp2_with fail
 go_ret
 exact⟨by rw[<- HW.out];rfl,hb0.trans (nq.h.mono hb0.size)⟩
theorem aI.slots {w:World}{B:Nat}{v:Value}{xs:List ByteArray}(h:aI w B v xs)(h0:0<xs.length):∃g c,v=.slice (some ⟨g,0,none⟩) xs.length c/\(∀(j:Nat) x,xs[j]?=some x->w.cell? ⟨g,0+j,none⟩=some (.string x))/\g<w.heap.size/\xs.length<=c:=by
 rcases id h with⟨hl,h1|⟨g,cap,cur,hv,hg,hh,hn,r⟩⟩
 ·omega
 ·subst hv
  refine⟨g,cap,rfl,fun j x hx=>?_,(Array.getElem?_eq_some_iff.1 hh).1,hn⟩
  have hj:j<xs.length:=(List.getElem?_eq_some_iff.1 hx).1
  rw[Nat.zero_add,World.ownsRow.cellAt h j (by omega)]
  simp[hx]
set_option maxHeartbeats 1600000 in
theorem zZ (a:Option Addr)(cap:Nat)(l:List (ByteArray×Int))(w:World)(hl:l.length<=maxLen)(hr:Row w a l)(hs:∀j,(h:j<l.length)->l[j].1.size<=maxLen)(ht:Tab w) :
  Calls Tryz.prog 108 #[.slice a l.length cap] w fun e w'=>(∃s,e=.returned (.string s)/\mX l s)/\Below w.heap.size w w':=by
 obtain⟨i0,hi,hz0,hz1,hz2⟩:=info_parts Tryz.infoS
 go_enter Tryz.func108,Tryz.ntmps108
 go_wp2_with fail
 refine(bY a cap l _ hl hr hs).mono ?_
 rintro e w1 ⟨⟨r,rfl,hr1⟩,b1⟩
 cases r
 ·have H:Hid (mX l ⟨#[]⟩):=⟨fun h=>by simpa using hr1.2 h,fun _=>rfl⟩
  clear hr1
  go_wp2_with fail
  go_ret
  exact⟨⟨_,rfl,H.out⟩,b1⟩
 have hS:ah l:=hr1.1 rfl
 clear hr1
 by_cases h0:l.length=0
 ·have h0':((l.length:Int)==0)=true:=by rw[beq_iff_eq];omega
  have H:Hid (mX l ⟨#[45]⟩):=⟨fun _=>by rw[if_pos (List.length_eq_zero_iff.1 h0)],fun h=>absurd hS h⟩
  clear hS h0
  go_wp2_with fail
  go_ret
  exact⟨⟨_,rfl,H.out⟩,b1⟩
 have h0':((l.length:Int)==0)=false:=by rw[beq_eq_false_iff_ne];omega
 have h12:=hS.1
 have HS:Hid (ah l):=hS
 have hpos:0<l.length:=by omega
 clear hS h0
 go_wp2_with fail
 go_loopw [3,14] (fun ws iv wr=>∃(k:Nat) (o:List ByteArray),k<=l.length/\iv=.int .i64 k/\aI wr w.heap.size ws o/\o.length<=k/\o.map (·.data.toList)=(l.take k).map dO/\Below w.heap.size w wr) (fun _ iv _=>l.length-(intOf iv).toNat)
 case atStart=>exact⟨0,[],Nat.zero_le _,rfl,jr _ _,Nat.le_refl _,by simp,b1⟩
 case round=>
  obtain⟨k,o,hk,rfl,hg,hol,hI,hbl⟩:=hrel
  have hzr:=hbl.size
  have HI:Hid (o.map (·.data.toList)=(l.take k).map dO):=hI
  clear hI
  by_cases hlt:k<l.length
  ·obtain⟨b2,o2,rfl,hlt2,c0,c1⟩:=hr k hlt
   have e0:=ae hbl hlt2 c0
   have e1:=ae hbl hlt2 c1
   have k0:(0:Int)<=(k:Int):=by omega
   have k1:(k:Int)<(l.length:Int):=by omega
   have hM:=HS.out.2.1 k hlt
   have hv1:=hM.2.1
   have hv2:=hM.2.2
   have hn8:=hM.1.2.1
   obtain⟨V,hV⟩:∃V:Nat,l[k].2=(V:Int):=⟨l[k].2.toNat,by omega⟩
   have HT:Hid ((l.take (k+1)).map dO=(l.take k).map dO++[dO (l[k].1,(V:Int))]):=by
    rw[Hid,List.take_succ_eq_append_getElem hlt,List.map_append,List.map_singleton,<- hV]
   rw[hV]at e1 hv1 hv2
   clear hV hM c0 c1
   have hba:Below wr.heap.size wr (wr.alloc (.cells #[.string l[k].1,.int .i64 (V:Int)] 54)):=(Below.refl _ _).alloc (Nat.le_refl _) _
   have ht2:Tab (wr.alloc (.cells #[.string l[k].1,.int .i64 (V:Int)] 54)):=(ht.below hbl).below hba
   go_wp2_with fail
   refine(Ku l[k].1 V _ hn8 (by omega) ht2).mono ?_
   rintro e w3 ⟨rfl,b3⟩
   have B3:Below w.heap.size w w3:=(hbl.trans (hba.mono hzr)).trans (b3.mono (Nat.le_trans hzr hba.size))
   have z3:=B3.size
   have hg3:w3.ownsRow w.heap.size 9 1 _ o.length (o.map .string):=(hg.keep hba).keep b3
   have hob:=aN hg3
   have hba3:Below w3.heap.size w3 (w3.alloc (.cells #[.string ⟨(dO (l[k].1,(V:Int))).toArray⟩] 9)):=(Below.refl _ _).alloc (Nat.le_refl _) _
   go_wp2_with (at_builtin;refine wpList_append_lies _ rfl _ _ 23 rfl w.heap.size 9 i0 (.string .empty) 1 16 Tryz.underlying23 hi hz0 hz1 hz2 rfl (by decide) _ _ _ rfl (hg3.alloc _) ⟨w3.heap.size,0,none⟩ 1 1 [.string ⟨(dO (l[k].1,(V:Int))).toArray⟩] rfl rfl (fA w3 _ _) (by simp[Value.oneCell']) (by decide) (by unfold maxLen;omega) (by omega) (by simp;omega) _ rfl ?_;intro g' cap' w5 hown' hgrow _ _)
   refine⟨⟨k+1,o++[⟨(dO (l[k].1,(V:Int))).toArray⟩],by omega,by go_num,aI.snoc hown',by simp;omega, ?_,(B3.alloc z3 _).grown hgrow (by simp;omega) hob⟩,by simp[intOf];omega⟩
   rw[HT.out,List.map_append,HI.out]
   rfl
  ·have HI2:Hid (o.map (·.data.toList)=l.map dO):=by
    have h:=HI.out
    rw[List.take_of_length_le (by omega)]at h
    exact h
   have ho0:0<o.length:=by
    have h:=congrArg List.length HI2.out
    rw[List.length_map,List.length_map]at h
    omega
   have hlen:(Lib.join (o.map (·.data.toList)) [32]).length<=140737488355328:=by
    rw[HI2.out]
    have h:=yG HS.out.2.1 l.length (Nat.le_refl _)
    rw[List.take_of_length_le (Nat.le_refl _)]at h
    show(iq l).length<=_
    omega
   have HF:Hid (mX l ⟨(Lib.join (o.map (·.data.toList)) [32]).toArray⟩):=⟨fun _=>by
    rw[if_neg (fun e=>by rw[e]at hpos;simp at hpos),HI2.out]
    rfl,fun h=>absurd HS.out h⟩
   obtain⟨g,c,rfl,hcells,hgl,hcap⟩:=hg.slots ho0
   clear HI HI2
   go_wp2_with fail
   refine(Tryz.strings_Join g 0 c o ⟨#[32]⟩ _ hcells hgl (by omega) hcap hlen).mono ?_
   rintro e w3 ⟨rfl,b3⟩
   have B3:Below w.heap.size w w3:=hbl.trans (b3.mono hzr)
   go_wp2_with fail
   go_ret
   exact⟨⟨_,rfl,HF.out⟩,B3⟩
end Go.Proofs.YtpfhegengmlkmabGreatDoor
