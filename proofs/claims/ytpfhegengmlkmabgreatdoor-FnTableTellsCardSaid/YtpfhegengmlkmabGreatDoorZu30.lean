/- Texts of this claim. -/
import Derived.LaidEql
import Derived.Stop.Asserts
import Derived.RowKitTokens
import Derived.Test.YtpfhegengmlkmabGreatDoorZu13
import Derived.Test.YtpfhegengmlkmabGreatDoorZu29
namespace Go.Proofs.YtpfhegengmlkmabGreatDoor
open Go.RowKit Go.BigFrame
theorem Words.at:∀{us:List (List UInt8)} {ms:List (ByteArray×Int)} (_:Words us ms) {k:Nat} {u:List UInt8},us[k]?=some u->∃m,ms[k]?=some m/\Word u m
 |u::us,m::ms,h,0,_,e=>⟨m,rfl,by simp at e;rw[<- e];exact h.1⟩
 |u::us,m::ms,h,k+1,_,e=>by
  obtain⟨m',h1,h2⟩:=Words.at h.2 (k:=k) (by simpa using e)
  exact⟨m',by simpa using h1,h2⟩
 |[],[],_,_,_,e=>by simp at e
 |[],_::_,h,_,_,_=>h.elim
 |_::_,[],h,_,_,_=>h.elim
theorem Df:∀{us:List (List UInt8)} {ms:List (ByteArray×Int)},us.length=ms.length->(∀(k:Nat) (u:List UInt8) (m:ByteArray×Int),us[k]?=some u->ms[k]?=some m->Word u m)->Words us ms
 |[],[],_,_=>trivial
 |u::us,m::ms,hl,h=>⟨h 0 u m rfl rfl,Df (by simpa using hl) fun k u' m' h1 h2=>h (k+1) u' m' (by simpa using h1) (by simpa using h2)⟩
 |[],_::_,hl,_=>by simp at hl
 |_::_,[],hl,_=>by simp at hl
def Hr (us:List (List UInt8))(m:List (ByteArray×Int))(ok:Bool):Prop:=
 (us=[[45]]/\m=[]/\ok=true)∨(us≠[[45]]/\((ok=true/\Words us m/\ah m/\m≠[])∨(ok=false/\m=[]/\∀m',Words us m'->ah m'->m'=[])))
def WE (w:World)(B:Nat)(us:List (List UInt8))(e:Ending):Prop:=∃v m ok,e=.returned (.tuple #[v,.bool ok])/\az w B v m/\Hr us m ok
def RE (w:World)(B:Nat)(t:ByteArray)(e:Ending):Prop:=∃v m ok,e=.returned (.tuple #[v,.bool ok])/\az w B v m/\MJ t m ok
def GH (us:List (List UInt8))(o:List (ByteArray×Int)):Prop:=(∀m',Words us m'->m'.take o.length=o)/\(∀(k:Nat) (u:List UInt8) (m:ByteArray×Int),us[k]?=some u->o[k]?=some m->iZ m->Word u m)
theorem yZ (us:List (List UInt8)):GH us []:=⟨fun _ _=>by simp,fun k u m _ h=>by simp at h⟩
theorem AY {us:List (List UInt8)}{o:List (ByteArray×Int)}{k:Nat}{u:List UInt8}{m:ByteArray×Int}(_:GH us o)(hu:us[k]?=some u)(hm:MW u m false)(hne:us≠[[45]]):Hr us [] false:=
 .inr ⟨hne,.inr ⟨rfl,rfl,fun m' hw=>by
  obtain⟨x,_,hx⟩:=hw.at hu
  exact absurd (hm.2 x hx).1 (by simp)⟩⟩
theorem CU {us:List (List UInt8)}{o:List (ByteArray×Int)}{k:Nat}{u:List UInt8}{m:ByteArray×Int}(h:GH us o)(hu:us[k]?=some u)(hk:o.length=k)(hm:MW u m true):GH us (o++[m]):=by
 subst hk
 refine⟨fun m' hw=>?_,fun j u' m' h1 h2 hp=>?_⟩
 ·obtain⟨x,hx,hx2⟩:=hw.at hu
  obtain⟨hlt,rfl⟩:=List.getElem?_eq_some_iff.1 hx
  rw[List.length_append,List.length_singleton,List.take_succ_eq_append_getElem hlt,h.1 m' hw,<- (hm.2 _ hx2).2]
 ·by_cases hj:j<o.length
  ·rw[List.getElem?_append_left hj]at h2
   exact h.2 j u' m' h1 h2 hp
  ·rw[List.getElem?_append_right (by omega)]at h2
   obtain⟨h3,h4⟩:=List.getElem?_eq_some_iff.1 h2
   have e:j=o.length:=by simp at h3;omega
   subst e
   simp at h4
   subst h4
   rw[hu]at h1
   obtain rfl:u=u':=by simpa using h1
   exact hm.1 rfl hp
theorem Fg {us:List (List UInt8)}{o:List (ByteArray×Int)}(h:GH us o)(hl:o.length=us.length):(ah o->Words us o)/\(∀m',Words us m'->m'=o):=by
 refine⟨fun hs=>Df hl.symm fun k u m h1 h2=>h.2 k u m h1 h2 ?_,fun m' hw=>?_⟩
 ·obtain⟨h3,rfl⟩:=List.getElem?_eq_some_iff.1 h2
  exact hs.2.1 k h3
 ·have e:=h.1 m' hw
  rw[List.take_of_length_le (by rw[hw.length];omega)]at e
  exact e
set_option maxHeartbeats 1600000 in
theorem Bg (a:Option Addr)(cap:Nat)(ws:List ByteArray)(w:World)(hl:ws.length<=100000)(hs:∀u∈ws,u.size<=100000)(hr:dQ w a ws) :
  Calls Tryz.prog 66 #[.slice a ws.length cap] w fun e w'=>WE w' w.heap.size (ws.map bl) e/\Below w.heap.size w w':=by
 obtain⟨i0,hi,hz0,hz1,hz2⟩:=info_parts Tryz.infoM
 go_enter Tryz.func66,Tryz.ntmps66
 by_cases h1:ws.length=1
 ·have hpos:0<ws.length:=by omega
  have hw:ws.map bl=[bl (ws[0]'hpos)]:=by
   match ws,h1 with
   |[u],_=>rfl
  have h1':((ws.length:Int)==1)=true:=by rw[beq_iff_eq];omega
  obtain⟨b1,o1,rfl,hlt1,c0⟩:=hr 0 hpos
  have c0:w.cell? ⟨b1,o1,none⟩=some (.string ws[0]):=c0
  clear h1
  by_cases hu:ws[0]=⟨#[45]⟩
  ·have hu':(ws[0].toList==[45])=true:=by rw[hu,ByteArray.toList_eq];rfl
   have H:Hid (Hr (ws.map bl) [] true):=.inl ⟨by rw[hw,hu];rfl,rfl,rfl⟩
   clear hu hr hw
   go_wp2_with fail
   exact bodyPost_ret (v:=.tuple #[.slice none 0 0,.bool true]) (by simp[results,Tryz.results66,go_sem]) rfl ⟨⟨_,[],true,rfl,az.none _ _,H.out⟩,Below.refl _ _⟩
  ·have hu':(ws[0].toList==[45])=false:=by
    have h:=bg.2 hu
    rwa [show(⟨#[45]⟩:ByteArray).toList=[45]from by rw[ByteArray.toList_eq]]at h
   have HNE:Hid (ws.map bl≠[[45]]):=fun e=>hu (qR (show bl ws[0]=[45]by rw[hw]at e;simpa using e))
   clear hu hw
   go_wp2_with fail
   go_loopw [4,5] (fun out iv wr=>∃k:Nat,k<=ws.length/\iv=.int .i64 k/\∃o,az wr w.heap.size out o/\o.length=k/\(∀m∈o,m.1.size<=100000)/\GH (ws.map bl) o/\Below w.heap.size w wr) (fun _ iv _=>ws.length-(intOf iv).toNat)
   case atStart=>exact⟨0,Nat.zero_le _,rfl,[],az.none _ _,rfl,by simp,yZ _,Below.refl _ _⟩
   case round=>
    obtain⟨k,hk,rfl,o,hg,hol,hos,hI,hbl⟩:=hrel
    have hzr:=hbl.size
    have HOL:Hid (o.length=k):=hol
    have hol':o.length<=100000:=by omega
    clear hol
    by_cases hlt:k<ws.length
    ·obtain⟨b2,o2,eb,hlt2,c0⟩:=hr k hlt
     obtain⟨rfl,rfl⟩:b1=b2/\o1=o2:=by simpa using eb
     have e0:=ae hbl hlt1 c0
     have k0:(0:Int)<=(k:Int):=by omega
     have k1:(k:Int)<(ws.length:Int):=by omega
     have hsz:=hs _ (List.getElem_mem hlt)
     have hui:(ws.map bl)[k]?=some (bl ws[k]):=by simp[hlt]
     have HI:Hid (GH (ws.map bl) o):=hI
     have HUI:Hid ((ws.map bl)[k]?=some (bl ws[k])):=hui
     clear hI hui
     go_wp2_with fail
     refine(xJ ws[k] _ (by omega)).mono ?_
     rintro e w2 ⟨⟨m,ok,rfl,hm,hms⟩,b2⟩
     rw[ak]at hms
     have B2:Below w.heap.size w w2:=hbl.trans (b2.mono hzr)
     have hg2:=hg.keep b2
     have z2:=B2.size
     cases ok
     ·have H:Hid (Hr (ws.map bl) [] false):=AY HI.out HUI.out hm HNE.out
      clear hm HI HUI
      go_wp2_with fail
      exact bodyPost_ret (v:=.tuple #[.slice none 0 0,.bool false]) (by simp[results,Tryz.results66,go_sem]) rfl ⟨⟨_,[],false,rfl,az.none _ _,H.out⟩,B2.alloc z2 _⟩
     ·have H:Hid (GH (ws.map bl) (o++[m])):=CU HI.out HUI.out HOL.out hm
      obtain⟨ms,mv⟩:=m
      clear hm HI HUI
      have hg3:(w2.alloc (.cells #[.string ms,.int .i64 mv] 54)).ownsRow w.heap.size 54 2 _ o.length (aP o):=World.ownsRow.alloc hg2 _
      have hba:Below w.heap.size w (w2.alloc (.cells #[.string ms,.int .i64 mv] 54)):=B2.alloc z2 _
      have x0:=box0 w2 (.string ms) (.int .i64 mv) 54
      have x1:=box1 w2 (.string ms) (.int .i64 mv) 54
      have tn:∀j u,[Value.string ms,.int .i64 mv][j]?=some u->((w2.alloc (.cells #[.string ms,.int .i64 mv] 54)).alloc (.cells #[.string ms,.int .i64 mv] 54)).cell? ((⟨w2.heap.size+1,0,none⟩:Addr).add j)=some u:=by
       have h:=jy (w2.alloc (.cells #[.string ms,.int .i64 mv] 54)) (.string ms) (.int .i64 mv) 54
       rw[World.size_alloc]at h
       exact h
      go_wp2_with (at_builtin;refine wpList_append_lies _ rfl _ _ 28 rfl w.heap.size 54 i0 (.agg #[.string .empty,.int .i64 0]) 2 24 Tryz.underlying28 hi hz0 hz1 hz2 rfl (by decide) _ _ _ rfl (World.ownsRow.alloc hg3 _) ⟨w2.heap.size+1,0,none⟩ 1 1 [.string ms,.int .i64 mv] rfl rfl tn (by simp[Value.oneCell']) (by decide) (by unfold maxLen;omega) (by omega) (by simp;omega) _ rfl ?_;intro g' cap' w5 hown' hgrow _ _)
      have hob:=aN hg3
      refine⟨⟨k+1,by omega,by go_num,o++[(ms,mv)],az.snoc hown',by have:=HOL.out;simp;omega,fun m hm=>?_,H.out,(hba.alloc (by simp;omega) _).grown hgrow (by simp;omega) hob⟩,by simp[intOf];omega⟩
      rcases List.mem_append.1 hm with h|h
      ·exact hos m h
      ·rw[List.mem_singleton.1 h];show ms.size<=100000;exact Nat.le_trans hms hsz
    ·have HI:Hid (GH (ws.map bl) o):=hI
     have HOK:Hid (o.length=ws.length):=by have:=HOL.out;unfold Hid;omega
     clear hI
     obtain⟨ao,co,rfl,hrow⟩:=hg.shape
     go_wp2_with fail
     refine(fZ ao co o _ (by unfold maxLen;omega) hrow (fun j hj=>by have:=hos _ (List.getElem_mem hj);unfold maxLen;omega)).mono ?_
     rintro e w3 ⟨⟨r,rfl,hr3⟩,b3⟩
     have B3:Below w.heap.size w w3:=hbl.trans (b3.mono hzr)
     have hE:=Fg HI.out (by rw[List.length_map];exact HOK.out)
     cases r
     ·have H:Hid (Hr (ws.map bl) [] false):=.inr ⟨HNE.out,.inr ⟨rfl,rfl,fun m' hw hs'=>by
       rw[hE.2 m' hw]at hs'
       exact absurd (hr3.2 hs') (by simp)⟩⟩
      clear hE hr3 HI
      go_wp2_with fail
      exact bodyPost_ret (v:=.tuple #[.slice none 0 0,.bool false]) (by simp[results,Tryz.results66,go_sem]) rfl ⟨⟨_,[],false,rfl,az.none _ _,H.out⟩,B3⟩
     by_cases ho0:o.length=0
     ·have H:Hid (Hr (ws.map bl) [] false):=.inr ⟨HNE.out,.inr ⟨rfl,rfl,fun m' hw _=>by
       rw[hE.2 m' hw]
       exact List.length_eq_zero_iff.1 ho0⟩⟩
      have ho0':((o.length:Int)==0)=true:=by rw[beq_iff_eq];omega
      clear hE hr3 HI
      go_wp2_with fail
      exact bodyPost_ret (v:=.tuple #[.slice none 0 0,.bool false]) (by simp[results,Tryz.results66,go_sem]) rfl ⟨⟨_,[],false,rfl,az.none _ _,H.out⟩,B3⟩
     have ho0':((o.length:Int)==0)=false:=by rw[beq_eq_false_iff_ne];omega
     have H:Hid (Hr (ws.map bl) o true):=.inr ⟨HNE.out,.inl ⟨rfl,hE.1 (hr3.1 rfl),hr3.1 rfl,fun e=>ho0 (by rw[e];rfl)⟩⟩
     clear hE hr3 HI
     go_wp2_with fail
     exact bodyPost_ret (v:=.tuple #[.slice ao o.length co,.bool true]) (by simp[results,Tryz.results66,go_sem]) rfl ⟨⟨_,o,true,rfl,hg.keep b3,H.out⟩,B3⟩
 have h1':((ws.length:Int)==1)=false:=by rw[beq_eq_false_iff_ne];omega
 have HNE:Hid (ws.map bl≠[[45]]):=fun e=>h1 (by have:=congrArg List.length e;simpa using this)
 go_wp2_with fail
 go_loopw [4,5] (fun out iv wr=>∃k:Nat,k<=ws.length/\iv=.int .i64 k/\∃o,az wr w.heap.size out o/\o.length=k/\(∀m∈o,m.1.size<=100000)/\GH (ws.map bl) o/\Below w.heap.size w wr) (fun _ iv _=>ws.length-(intOf iv).toNat)
 case atStart=>exact⟨0,Nat.zero_le _,rfl,[],az.none _ _,rfl,by simp,yZ _,Below.refl _ _⟩
 case round=>
  obtain⟨k,hk,rfl,o,hg,hol,hos,hI,hbl⟩:=hrel
  have hzr:=hbl.size
  have HOL:Hid (o.length=k):=hol
  have hol':o.length<=100000:=by omega
  clear hol
  by_cases hlt:k<ws.length
  ·obtain⟨b1,o1,rfl,hlt1,c0⟩:=hr k hlt
   have e0:=ae hbl hlt1 c0
   have k0:(0:Int)<=(k:Int):=by omega
   have k1:(k:Int)<(ws.length:Int):=by omega
   have hsz:=hs _ (List.getElem_mem hlt)
   have hui:(ws.map bl)[k]?=some (bl ws[k]):=by simp[hlt]
   have HI:Hid (GH (ws.map bl) o):=hI
   have HUI:Hid ((ws.map bl)[k]?=some (bl ws[k])):=hui
   clear hI hui
   go_wp2_with fail
   refine(xJ ws[k] _ (by omega)).mono ?_
   rintro e w2 ⟨⟨m,ok,rfl,hm,hms⟩,b2⟩
   rw[ak]at hms
   have B2:Below w.heap.size w w2:=hbl.trans (b2.mono hzr)
   have hg2:=hg.keep b2
   have z2:=B2.size
   cases ok
   ·have H:Hid (Hr (ws.map bl) [] false):=AY HI.out HUI.out hm HNE.out
    clear hm HI HUI
    go_wp2_with fail
    exact bodyPost_ret (v:=.tuple #[.slice none 0 0,.bool false]) (by simp[results,Tryz.results66,go_sem]) rfl ⟨⟨_,[],false,rfl,az.none _ _,H.out⟩,B2.alloc z2 _⟩
   ·have H:Hid (GH (ws.map bl) (o++[m])):=CU HI.out HUI.out HOL.out hm
    obtain⟨ms,mv⟩:=m
    clear hm HI HUI
    have hg3:(w2.alloc (.cells #[.string ms,.int .i64 mv] 54)).ownsRow w.heap.size 54 2 _ o.length (aP o):=World.ownsRow.alloc hg2 _
    have hba:Below w.heap.size w (w2.alloc (.cells #[.string ms,.int .i64 mv] 54)):=B2.alloc z2 _
    have x0:=box0 w2 (.string ms) (.int .i64 mv) 54
    have x1:=box1 w2 (.string ms) (.int .i64 mv) 54
    have tn:∀j u,[Value.string ms,.int .i64 mv][j]?=some u->((w2.alloc (.cells #[.string ms,.int .i64 mv] 54)).alloc (.cells #[.string ms,.int .i64 mv] 54)).cell? ((⟨w2.heap.size+1,0,none⟩:Addr).add j)=some u:=by
     have h:=jy (w2.alloc (.cells #[.string ms,.int .i64 mv] 54)) (.string ms) (.int .i64 mv) 54
     rw[World.size_alloc]at h
     exact h
    go_wp2_with (at_builtin;refine wpList_append_lies _ rfl _ _ 28 rfl w.heap.size 54 i0 (.agg #[.string .empty,.int .i64 0]) 2 24 Tryz.underlying28 hi hz0 hz1 hz2 rfl (by decide) _ _ _ rfl (World.ownsRow.alloc hg3 _) ⟨w2.heap.size+1,0,none⟩ 1 1 [.string ms,.int .i64 mv] rfl rfl tn (by simp[Value.oneCell']) (by decide) (by unfold maxLen;omega) (by omega) (by simp;omega) _ rfl ?_;intro g' cap' w5 hown' hgrow _ _)
    have hob:=aN hg3
    refine⟨⟨k+1,by omega,by go_num,o++[(ms,mv)],az.snoc hown',by have:=HOL.out;simp;omega,fun m hm=>?_,H.out,(hba.alloc (by simp;omega) _).grown hgrow (by simp;omega) hob⟩,by simp[intOf];omega⟩
    rcases List.mem_append.1 hm with h|h
    ·exact hos m h
    ·rw[List.mem_singleton.1 h];show ms.size<=100000;exact Nat.le_trans hms hsz
  ·have HI:Hid (GH (ws.map bl) o):=hI
   have HOK:Hid (o.length=ws.length):=by have:=HOL.out;unfold Hid;omega
   clear hI
   obtain⟨ao,co,rfl,hrow⟩:=hg.shape
   go_wp2_with fail
   refine(fZ ao co o _ (by unfold maxLen;omega) hrow (fun j hj=>by have:=hos _ (List.getElem_mem hj);unfold maxLen;omega)).mono ?_
   rintro e w3 ⟨⟨r,rfl,hr3⟩,b3⟩
   have B3:Below w.heap.size w w3:=hbl.trans (b3.mono hzr)
   have hE:=Fg HI.out (by rw[List.length_map];exact HOK.out)
   cases r
   ·have H:Hid (Hr (ws.map bl) [] false):=.inr ⟨HNE.out,.inr ⟨rfl,rfl,fun m' hw hs'=>by
     rw[hE.2 m' hw]at hs'
     exact absurd (hr3.2 hs') (by simp)⟩⟩
    clear hE hr3 HI
    go_wp2_with fail
    exact bodyPost_ret (v:=.tuple #[.slice none 0 0,.bool false]) (by simp[results,Tryz.results66,go_sem]) rfl ⟨⟨_,[],false,rfl,az.none _ _,H.out⟩,B3⟩
   by_cases ho0:o.length=0
   ·have H:Hid (Hr (ws.map bl) [] false):=.inr ⟨HNE.out,.inr ⟨rfl,rfl,fun m' hw _=>by
     rw[hE.2 m' hw]
     exact List.length_eq_zero_iff.1 ho0⟩⟩
    have ho0':((o.length:Int)==0)=true:=by rw[beq_iff_eq];omega
    clear hE hr3 HI
    go_wp2_with fail
    exact bodyPost_ret (v:=.tuple #[.slice none 0 0,.bool false]) (by simp[results,Tryz.results66,go_sem]) rfl ⟨⟨_,[],false,rfl,az.none _ _,H.out⟩,B3⟩
   have ho0':((o.length:Int)==0)=false:=by rw[beq_eq_false_iff_ne];omega
   have H:Hid (Hr (ws.map bl) o true):=.inr ⟨HNE.out,.inl ⟨rfl,hE.1 (hr3.1 rfl),hr3.1 rfl,fun e=>ho0 (by rw[e];rfl)⟩⟩
   clear hE hr3 HI
   go_wp2_with fail
   exact bodyPost_ret (v:=.tuple #[.slice ao o.length co,.bool true]) (by simp[results,Tryz.results66,go_sem]) rfl ⟨⟨_,o,true,rfl,hg.keep b3,H.out⟩,B3⟩
theorem nP {t:ByteArray}{us:List ByteArray}{c:UInt8}(h:us.map bl=aj c (bl t)):us.length<=t.size+1/\∀u∈us,u.size<=t.size:=by
 have key:∀(n:Nat) (s:List UInt8),s.length<=n->(aj c s).length<=s.length+1/\∀u∈aj c s,u.length<=s.length:=by
  intro n
  induction n with
  |zero=>
   intro s hs
   obtain rfl:=List.length_eq_zero_iff.1 (Nat.le_zero.1 hs)
   simp[aj]
  |succ n ih=>
   intro s hs
   rcases jm (c:=c) s with h|⟨a,r,rfl,h⟩
   ·rw[dV h]
    exact⟨by simp,fun u hu=>by rw[List.mem_singleton.1 hu];exact Nat.le_refl _⟩
   ·have hr:=ih r (by simp at hs;omega)
    rw[dK h]
    refine⟨by have:=hr.1;simp;omega,fun u hu=>?_⟩
    rcases List.mem_cons.1 hu with rfl|hu
    ·simp
    ·have:=hr.2 u hu;simp;omega
 obtain⟨k1,k2⟩:=key _ (bl t) (Nat.le_refl _)
 rw[<- h,List.length_map,ak]at k1
 refine⟨k1,fun u hu=>?_⟩
 have:=k2 (bl u) (by rw[<- h];exact List.mem_map_of_mem hu)
 rwa [ak,ak]at this
def pq (w:World)(g:Nat)(l:List ByteArray):Prop:=∃m f,w.rowIs g 9 m f/\l.length<=m/\∀j,(h:j<l.length)->f j=.string l[j]
theorem pq.cell {w:World}{g:Nat}{l:List ByteArray}(h:pq w g l){j:Nat}(hj:j<l.length):w.cell? ⟨g,j,none⟩=some (.string l[j]):=by
 obtain⟨m,f,h,hm,hf⟩:=h
 rw[h.cell (by omega),hf j hj]
theorem pq.lt {w:World}{g:Nat}{l:List ByteArray}(h:pq w g l):g<w.heap.size:=by
 obtain⟨m,f,h,_⟩:=h
 exact h.lt
theorem pq.below {w w':World}{g:Nat}{l:List ByteArray}(h:pq w g l)(hb:Below w.heap.size w w'):pq w' g l:=by
 have hlt:=h.lt
 obtain⟨m,f,h,hf⟩:=h
 exact⟨m,f,h.of_block (hb.block g hlt),hf⟩
theorem pq.span {w w':World}{g lo hi:Nat}{l:List ByteArray}(h:pq w g l)(hs:aJ lo hi w w')(hd:g<lo∨hi<=g):pq w' g l:=by
 have hlt:=h.lt
 obtain⟨m,f,h,hf⟩:=h
 exact⟨m,f,h.of_block (hs.block g hlt hd),hf⟩
theorem pq.row {w:World}{g:Nat}{l:List ByteArray}(h:pq w g l):dQ w (some ⟨g,0,none⟩) l:=fun k hk=>⟨g,0,rfl,h.lt,by rw[Nat.zero_add];exact h.cell hk⟩
theorem aI.block {w:World}{B:Nat}{v:Value}{l:List ByteArray}(h:aI w B v l)(h0:0<l.length):∃g c,v=.slice (some ⟨g,0,none⟩) l.length c/\B<=g/\pq w g l:=by
 rcases h.2 with⟨_,e⟩|⟨g,cap,cur,e,hB,hh,hn,hc,hs,ht⟩
 ·omega
 ·refine⟨g,cap,e,hB,cap*1,fun i=>(cur[i]?).getD undef,⟨cur,hh,hs,fun i hi=>?_⟩,by omega,fun k hk=>?_⟩
  ·have hi':i<cur.size:=by omega
   simp[Array.getElem?_eq_getElem hi']
  ·have h2:(l.map Value.string)[k]?=some (.string l[k]):=by simp[hk]
   rw[<- ht,List.getElem?_take_of_lt (by simp;omega)]at h2
   simp only[Array.getElem?_toList]at h2
   simp only[h2]
   rfl
def ni (r:List UInt8)(m:ByteArray×Int)(ok:Bool)(r':List UInt8):Prop:=
 (ok=true->∃d,r=bl m.1++58::(d++r')/\CZ (bl m.1)/\Au d m.2/\wC r')/\(ok=false->∀(m':ByteArray×Int) d q,r=bl m'.1++58::(d++q)->CZ (bl m'.1)->Au d m'.2->wC q->False)
def Na (w:World)(R:Nat)(t:ByteArray)(p:Nat)(e:Ending):Prop:=∃m ok p',e=.returned (.tuple #[.agg #[.string m.1,.int .i64 m.2],.bool ok])/\Sr w R t p'/\p<=p'/\ni ((bl t).drop p) m ok ((bl t).drop p')/\m.1.size<=1000
theorem J6 {n n' r x:List UInt8}(he:n++r=n'++58::x)(hn:CZ n)(hn':CZ n')(hr:∀y,r.head?=some y->¬NB (y.toNat:Int)):n=n'/\r=58::x:=
 vg (p:=fun y=>NB (y.toNat:Int)) he hn hn' hr (fun y hy=>by
  simp at hy
  subst hy
  unfold NB
  decide)
theorem JO {r n q:List UInt8}{m:ByteArray×Int}(r':List UInt8)(he:r=n++q)(hn:CZ n)(hq:∀y,q.head?=some y->¬NB (y.toNat:Int))(h58:q.head?≠some 58):ni r m false r':=
 ⟨fun e=>Bool.noConfusion e,fun _ m' d z he' hn' _ _=>by
  rw[he]at he'
  obtain⟨_,e2⟩:=J6 he' hn hn' hq
  exact h58 (by rw[e2];rfl)⟩
theorem Ij {r q r':List UInt8}{s:ByteArray}{v:Int}{ok:Bool}(he:r=bl s++58::q)(hn:CZ (bl s))(hv:Gq q v ok r'):ni r (s,v) ok r':=by
 refine⟨fun h=>?_,fun h m' d z he' hn' hd hz=>?_⟩
 ·obtain⟨d,h1,h2,h3⟩:=hv.1 h
  exact⟨d,by rw[he,h1],hn,h2,h3⟩
 ·rw[he]at he'
  obtain⟨_,e2⟩:=uX he' (kQ hn (.inl rfl)) (kQ hn' (.inl rfl))
  exact hv.2 h d z m'.2 e2 hd hz
theorem Lt (R p:Nat)(t:ByteArray)(w:World)(hr:Sr w R t p) :
  Calls Tryz.prog 185 #[.pointer (some ⟨R,0,none⟩),.int .u8 58] w fun e w'=>Jm w' R t p 58 e/\But R w w':=take_any R p t 58 w hr
theorem LJ (R p:Nat)(t:ByteArray)(w:World)(hr:Sr w R t p) :
  Calls Tryz.prog 185 #[.pointer (some ⟨R,0,none⟩),.int .u8 32] w fun e w'=>Jm w' R t p 32 e/\But R w w':=take_any R p t 32 w hr
theorem But.frozen {R:Nat}{w w':World}(h:But R w w'){b:Nat}(o:Nat)(hb:b<w.heap.size)(hne:b≠R):w'.frozen? ⟨b,o,none⟩=w.frozen? ⟨b,o,none⟩:=World.frozen?_of_block (h.block b hb hne)
theorem But.cell' {R:Nat}{w w':World}(h:But R w w'){b:Nat}(o:Nat)(hb:b<w.heap.size)(hne:b≠R):w'.cell? ⟨b,o,none⟩=w.cell? ⟨b,o,none⟩:=World.cell?_of_block (h.block b hb hne)
theorem But.setNew {R B:Nat}{x w:World}(h:But R x w)(hB:x.heap.size<=B)(i:Nat)(v:Value):But R x (w.setCell ⟨B,i,none⟩ v):=
 ⟨h.os,h.tape,h.output,by simpa using h.size,fun k hk hn=>(Below.heap_setCell _ _ _ _ (by simp only;omega)).trans (h.block k hk hn)⟩
theorem Sr.setNew {w:World}{R p B:Nat}{t:ByteArray}(h:Sr w R t p)(hB:B≠R)(i:Nat)(v:Value):Sr (w.setCell ⟨B,i,none⟩ v) R t p:=h.same (Below.heap_setCell _ _ _ _ (by simp only;omega))
set_option maxHeartbeats 1600000 in
theorem JI (R p:Nat)(t:ByteArray)(w:World)(hr:Sr w R t p) :
  Calls Tryz.prog 184 #[.pointer (some ⟨R,0,none⟩)] w fun e w'=>Na w' R t p e/\But R w w':=by
 have hR:=hr.lt
 go_enter Tryz.func184,Tryz.ntmps184
 go_wp2_with fail
 have bx0:=box0 w (.string ⟨#[]⟩) (.int .i64 0) 54
 have bx1:=box1 w (.string ⟨#[]⟩) (.int .i64 0) 54
 have fx0:(w.alloc (.cells #[.string ⟨#[]⟩,.int .i64 0] 54)).frozen? ⟨w.heap.size,0,none⟩=false:=by simp[go_sem]
 have fx1:(w.alloc (.cells #[.string ⟨#[]⟩,.int .i64 0] 54)).frozen? ⟨w.heap.size,1,none⟩=false:=by simp[go_sem]
 have hlx:=bP w (.cells #[.string ⟨#[]⟩,.int .i64 0] 54)
 have hb0:Below w.heap.size w (w.alloc (.cells #[.string ⟨#[]⟩,.int .i64 0] 54)):=(Below.refl _ _).alloc (Nat.le_refl _) _
 replace hr:=hr.below hb0
 have hbu:But R w (w.alloc (.cells #[.string ⟨#[]⟩,.int .i64 0] 54)):=But.of_below hb0
 generalize w.alloc (.cells #[.string ⟨#[]⟩,.int .i64 0] 54)=W0 at *
 clear hb0
 refine(name_any R p t _ hr).mono ?_
 rintro e w1 ⟨⟨s,p1,rfl,hr1,hp1,he1,hn1,hq1,hs1⟩,b1⟩
 replace bx0:=(b1.cell' 0 hlx (by omega)).trans bx0
 replace bx1:=(b1.cell' 1 hlx (by omega)).trans bx1
 replace fx0:=(b1.frozen 0 hlx (by omega)).trans fx0
 replace fx1:=(b1.frozen 1 hlx (by omega)).trans fx1
 replace hlx:=Nat.lt_of_lt_of_le hlx b1.size
 replace hbu:=hbu.trans b1
 have HE1:Hid ((bl t).drop p=bl s++(bl t).drop p1):=he1
 have HN1:Hid (CZ (bl s)):=hn1
 have HQ1:Hid (∀x,((bl t).drop p1).head?=some x->¬NB (x.toNat:Int)):=hq1
 clear he1 hn1 hq1 b1 hr
 go_wp2_with fail
 refine(Lt R p1 t _ hr1).mono ?_
 rintro e w2 ⟨hT,b2⟩
 replace bx0:=(b2.cell' 0 hlx (by omega)).trans bx0
 replace bx1:=(b2.cell' 1 hlx (by omega)).trans bx1
 replace fx0:=(b2.frozen 0 hlx (by omega)).trans fx0
 replace fx1:=(b2.frozen 1 hlx (by omega)).trans fx1
 replace hlx:=Nat.lt_of_lt_of_le hlx b2.size
 replace hbu:=hbu.trans b2
 clear b2 hr1
 rcases hT with⟨hlt,h58,rfl,hr2⟩|⟨hno,rfl,hr2⟩
 ·have HE2:Hid ((bl t).drop p=bl s++58::(bl t).drop (p1+1)):=by
   unfold Hid
   rw[HE1.out,rG hlt,h58]
  clear h58 HE1 HQ1
  go_wp2_with fail
  refine(Gn R (p1+1) t _ hr2).mono ?_
  rintro e w3 ⟨⟨v,ok,p3,rfl,hr3,hp3,hv3⟩,b3⟩
  replace bx0:=(b3.cell' 0 hlx (by omega)).trans bx0
  replace bx1:=(b3.cell' 1 hlx (by omega)).trans bx1
  replace fx0:=(b3.frozen 0 hlx (by omega)).trans fx0
  replace fx1:=(b3.frozen 1 hlx (by omega)).trans fx1
  replace hbu:=hbu.trans b3
  have HMR:Hid (ni ((bl t).drop p) (s,v) ok ((bl t).drop p3)):=Ij HE2.out HN1.out hv3
  clear hv3 b3 hr2 HE2 HN1
  have y0:((w3.setCell ⟨w.heap.size,0,none⟩ (.string s)).setCell ⟨w.heap.size,1,none⟩ (.int .i64 v)).cell? ⟨w.heap.size,0,none⟩=some (.string s):=by simp[go_sem,bx0]
  have y1:((w3.setCell ⟨w.heap.size,0,none⟩ (.string s)).setCell ⟨w.heap.size,1,none⟩ (.int .i64 v)).cell? ⟨w.heap.size,1,none⟩=some (.int .i64 v):=by simp[go_sem,bx1]
  go_wp2_with fail
  exact bodyPost_ret (v:=.tuple #[.agg #[.string s,.int .i64 v],.bool ok]) (by simp[results,Tryz.results184,go_sem,y0,y1]) rfl ⟨⟨(s,v),ok,p3,rfl,(hr3.setNew (by omega) _ _).setNew (by omega) _ _,by omega,HMR.out,hs1⟩,(hbu.setNew (Nat.le_refl _) _ _).setNew (Nat.le_refl _) _ _⟩
 ·have HMR:Hid (ni ((bl t).drop p) (.empty,0) false ((bl t).drop p1)):=JO _ HE1.out HN1.out HQ1.out (fun e=>hno (vF.1 e))
  clear hno HE1 HN1 HQ1
  have y0:((w2.setCell ⟨w.heap.size,0,none⟩ (.string ⟨#[]⟩)).setCell ⟨w.heap.size,1,none⟩ (.int .i64 0)).cell? ⟨w.heap.size,0,none⟩=some (.string ⟨#[]⟩):=by simp[go_sem,bx0]
  have y1:((w2.setCell ⟨w.heap.size,0,none⟩ (.string ⟨#[]⟩)).setCell ⟨w.heap.size,1,none⟩ (.int .i64 0)).cell? ⟨w.heap.size,1,none⟩=some (.int .i64 0):=by simp[go_sem,bx1]
  go_wp2_with fail
  exact bodyPost_ret (v:=.tuple #[.agg #[.string ⟨#[]⟩,.int .i64 0],.bool false]) (by simp[results,Tryz.results184,go_sem,y0,y1]) rfl ⟨⟨(.empty,0),false,p1,rfl,(hr2.setNew (by omega) _ _).setNew (by omega) _ _,hp1,HMR.out,Nat.zero_le _⟩,(hbu.setNew (Nat.le_refl _) _ _).setNew (Nat.le_refl _) _ _⟩
theorem az.but2 {w w':World}{R B:Nat}{v:Value}{l:List (ByteArray×Int)}(h:az w B v l)(hb:But R w w')(hR:R<B):az w' B v l:=by
 obtain⟨hl,h|⟨g,cap,cur,hv,hgB,hh,r⟩⟩:=h
 ·exact⟨hl,.inl h⟩
 ·exact⟨hl,.inr ⟨g,cap,cur,hv,hgB,(hb.block g (Array.getElem?_eq_some_iff.1 hh).1 (by omega)).trans hh,r⟩⟩
theorem xZ {r:List UInt8}{ms:List (ByteArray×Int)}(h:Words (aj 32 r) ms):∃(m':ByteArray×Int) (d q:List UInt8),r=bl m'.1++58::(d++q)/\CZ (bl m'.1)/\Au d m'.2/\wC q/\(q=[]∨q.head?=some 32):=by
 rcases jm (c:=32) r with h1|⟨a,r',rfl,h1⟩
 ·rw[dV h1]at h
  match ms,h with
  |m::_,h=>
   obtain⟨d,e,h2,h3⟩:=h.1
   exact⟨m,d,[],by rw[List.append_nil];exact e,h2,h3,fun x hx=>by simp at hx,.inl rfl⟩
 ·rw[dK h1]at h
  match ms,h with
  |m::_,h=>
   obtain⟨d,e,h2,h3⟩:=h.1
   exact⟨m,d,32::r',by rw[e,List.append_assoc];rfl,h2,h3,fun x hx=>by simp at hx;subst hx;unfold DG;decide,.inr rfl⟩
theorem JQ {L r:List UInt8}{pw:List (List UInt8)}{m:ByteArray×Int}{r':List UInt8}(hs:aj 32 L=pw++aj 32 r)(h:ni r m false r'):∀m',¬Words (aj 32 L) m':=fun m' hw=>by
 rw[hs]at hw
 obtain⟨_,m2,_,_,h2⟩:=hw.cut
 obtain⟨x,d,q,e,h3,h4,h5,_⟩:=xZ h2
 exact h.2 rfl x d q e h3 h4 h5
theorem IM {L r:List UInt8}{pw:List (List UInt8)}{m:ByteArray×Int}{r':List UInt8}(hs:aj 32 L=pw++aj 32 r)(h:ni r m true r')(hr:r'≠[])(h32:r'.head?≠some 32):∀m',¬Words (aj 32 L) m':=fun m' hw=>by
 rw[hs]at hw
 obtain⟨_,m2,_,_,h2⟩:=hw.cut
 obtain⟨x,d,q,e,h3,h4,h5,h6⟩:=xZ h2
 obtain⟨d0,e0,h7,h8,h9⟩:=h.1 rfl
 rw[e0]at e
 obtain⟨_,e2⟩:=uX e (kQ h7 (.inl rfl)) (kQ h3 (.inl rfl))
 obtain⟨_,rfl⟩:=vg e2 h8.2.2.1 h4.2.2.1 h9 h5
 rcases h6 with h6|h6
 ·exact hr h6
 ·exact h32 h6
theorem yI {r r':List UInt8}{m:ByteArray×Int}(h:ni r m true r'):∃u,r=u++r'/\Word u m/\(32:UInt8)∉u:=by
 obtain⟨d0,e0,h7,h8,h9⟩:=h.1 rfl
 have hw:Word (bl m.1++58::d0) m:=⟨d0,rfl,h7,h8⟩
 exact⟨_,by rw[e0,List.append_assoc];rfl,hw,hw.free⟩
theorem IB {L r:List UInt8}{pw:List (List UInt8)}{o:List (ByteArray×Int)}{m:ByteArray×Int}(hs:aj 32 L=pw++aj 32 r)(ho:Words pw o)(h:ni r m true []):Words (aj 32 L) (o++[m]):=by
 obtain⟨u,e,hw,hf⟩:=yI h
 rw[List.append_nil]at e
 subst e
 rw[hs,dV hf]
 exact ho.snoc hw
theorem DX {L r q:List UInt8}{pw:List (List UInt8)}{o:List (ByteArray×Int)}{m:ByteArray×Int}(hs:aj 32 L=pw++aj 32 r)(ho:Words pw o)(h:ni r m true (32::q)):∃pw',aj 32 L=pw'++aj 32 q/\Words pw' (o++[m]):=by
 obtain⟨u,e,hw,hf⟩:=yI h
 subst e
 exact⟨pw++[u],by rw[hs,dK hf];simp,ho.snoc hw⟩
def Nz (w:World)(B:Nat)(t:ByteArray)(e:Ending):Prop:=∃v o ok,e=.returned (.tuple #[v,.bool ok])/\az w B v o/\(ok=true->Words (aj 32 (bl t)) o)/\(ok=false->∀m',¬Words (aj 32 (bl t)) m')/\o.length<=1001/\(∀m∈o,m.1.size<=1000)
set_option maxHeartbeats 1600000 in
theorem Gz (R:Nat)(t:ByteArray)(w:World)(hr:Sr w R t 0) :
  Calls Tryz.prog 170 #[.pointer (some ⟨R,0,none⟩)] w fun e w'=>Nz w' w.heap.size t e/\But R w w':=by
 obtain⟨i0,hi,hz0,hz1,hz2⟩:=info_parts Tryz.infoM
 have hR:=hr.lt
 go_enter Tryz.func170,Tryz.ntmps170
 go_wp2_with fail
 go_loopw [4] (fun sv wr=>∃(k:Nat) (o:List (ByteArray×Int)) (pw:List (List UInt8)),k<=t.size/\az wr w.heap.size sv o/\o.length<=k/\(∀m∈o,m.1.size<=1000)/\Words pw o/\aj 32 (bl t)=pw++aj 32 ((bl t).drop k)/\Sr wr R t k/\But R w wr) (fun _ wr=>t.size-atOf wr R)
 case atStart=>exact⟨0,[],[],Nat.zero_le _,az.none _ _,Nat.le_refl _,by simp,trivial,by simp,hr,But.refl _ _⟩
 case round=>
  obtain⟨k,o,pw,hkt,hg,hol,hos,hW,hS,hrr,hbr⟩:=hrel
  have hsm:=hrr.small
  have HM:Hid (atOf wr R=k):=hrr.atOf
  have HW:Hid (Words pw o):=hW
  have HS:Hid (aj 32 (bl t)=pw++aj 32 ((bl t).drop k)):=hS
  clear hW hS
  go_wp2_with fail
  refine(JI R k t _ hrr).mono ?_
  rintro e w2 ⟨⟨⟨ms,mv⟩,ok,p',rfl,hr2,hp2,hmr,hms⟩,b2⟩
  have hg2:=hg.but2 b2 hR
  have hB2:=hbr.trans b2
  have z2:=hB2.size
  have hle:=hr2.le
  have HMR:Hid (ni ((bl t).drop k) (ms,mv) ok ((bl t).drop p')):=hmr
  have hms:ms.size<=1000:=hms
  clear hmr b2 hg hrr hbr
  have hba:Below w2.heap.size w2 (w2.alloc (.cells #[.string ms,.int .i64 mv] 54)):=(Below.refl _ _).alloc (Nat.le_refl _) _
  cases ok
  ·have HNO:Hid (∀m',¬Words (aj 32 (bl t)) m'):=JQ HS.out HMR.out
   clear HMR HS HW
   go_wp2_with fail
   exact bodyPost_ret (v:=.tuple #[.slice none 0 0,.bool false]) (by simp[results,Tryz.results170,go_sem]) rfl ⟨⟨_,[],false,rfl,az.none _ _,fun e=>Bool.noConfusion e,fun _=>HNO.out,by simp,by simp⟩,hB2.trans (But.of_below hba)⟩
  ·have hg3:(w2.alloc (.cells #[.string ms,.int .i64 mv] 54)).ownsRow w.heap.size 54 2 _ o.length (aP o):=World.ownsRow.alloc hg2 _
   have hob:=aN hg3
   have x0:=box0 w2 (.string ms) (.int .i64 mv) 54
   have x1:=box1 w2 (.string ms) (.int .i64 mv) 54
   have tn:∀j u,[Value.string ms,.int .i64 mv][j]?=some u->((w2.alloc (.cells #[.string ms,.int .i64 mv] 54)).alloc (.cells #[.string ms,.int .i64 mv] 54)).cell? ((⟨w2.heap.size+1,0,none⟩:Addr).add j)=some u:=by
    have h:=jy (w2.alloc (.cells #[.string ms,.int .i64 mv] 54)) (.string ms) (.int .i64 mv) 54
    rw[World.size_alloc]at h
    exact h
   have hba2:Below w2.heap.size w2 ((w2.alloc (.cells #[.string ms,.int .i64 mv] 54)).alloc (.cells #[.string ms,.int .i64 mv] 54)):=hba.alloc hba.size _
   have hos2:∀m∈o++[(ms,mv)],m.1.size<=1000:=fun m hm=>by
    rcases List.mem_append.1 hm with h|h
    ·exact hos m h
    ·rw[List.mem_singleton.1 h];exact hms
   by_cases hend:p'=t.size
   ·have hend':((p':Int)==(t.size:Int))=true:=by rw[hend];simp
    have HOK:Hid (Words (aj 32 (bl t)) (o++[(ms,mv)])):=by
     have h:=HMR.out
     have e:(bl t).drop p'=[]:=List.drop_of_length_le (by rw[ak];omega)
     rw[e]at h
     exact IB HS.out HW.out h
    clear HMR HS HW hend
    go_wp2_with (at_builtin;refine wpList_append_lies _ rfl _ _ 28 rfl w.heap.size 54 i0 (.agg #[.string .empty,.int .i64 0]) 2 24 Tryz.underlying28 hi hz0 hz1 hz2 rfl (by decide) _ _ _ rfl (World.ownsRow.alloc hg3 _) ⟨w2.heap.size+1,0,none⟩ 1 1 [.string ms,.int .i64 mv] rfl rfl tn (by simp[Value.oneCell']) (by decide) (by unfold maxLen;omega) (by omega) (by simp;omega) _ rfl ?_;intro g' cap' w5 hown' hgrow _ _;have hr5:=(hr2.below hba2).grown hgrow (fun q e=>by have:=hob q e;omega);have hc0:=hr5.c0;have hc1:=hr5.c1;have hf1:=hr5.f1)
    have hB5:But R w w5:=(hB2.trans (But.of_below hba2)).grown2 hgrow hob
    go_quiet (fail)
    go_wp2_with fail
    exact bodyPost_ret (v:=.tuple #[.slice (some ⟨g',0,none⟩) (o.length+1) cap',.bool true]) (by simp[results,Tryz.results170,go_sem]) rfl ⟨⟨_,o++[(ms,mv)],true,rfl,(az.snoc hown').keep (below_drewN (Below.refl _ _) nq),fun _=>HOK.out,fun e=>Bool.noConfusion e,by simp;omega,hos2⟩,hB5.trans (But.of_below (below_drewN (Below.refl _ _) nq))⟩
   ·have hend':((p':Int)==(t.size:Int))=false:=by rw[beq_eq_false_iff_ne];omega
    have hlt:p'<t.size:=by omega
    clear hend
    go_wp2_with (at_builtin;refine wpList_append_lies _ rfl _ _ 28 rfl w.heap.size 54 i0 (.agg #[.string .empty,.int .i64 0]) 2 24 Tryz.underlying28 hi hz0 hz1 hz2 rfl (by decide) _ _ _ rfl (World.ownsRow.alloc hg3 _) ⟨w2.heap.size+1,0,none⟩ 1 1 [.string ms,.int .i64 mv] rfl rfl tn (by simp[Value.oneCell']) (by decide) (by unfold maxLen;omega) (by omega) (by simp;omega) _ rfl ?_;intro g' cap' w5 hown' hgrow _ _;have hr5:=(hr2.below hba2).grown hgrow (fun q e=>by have:=hob q e;omega);have hc0:=hr5.c0;have hc1:=hr5.c1;have hf1:=hr5.f1)
    have hB5:But R w w5:=(hB2.trans (But.of_below hba2)).grown2 hgrow hob
    go_quiet (fail)
    have hbq:Below w5.heap.size w5 (w5.drewN nq):=below_drewN (Below.refl _ _) nq
    have hg6:=(az.snoc hown').keep hbq
    have hB6:=hB5.trans (But.of_below hbq)
    have hr6:=hr5.below hbq
    clear hown' hgrow hB5 hr5 hc0 hc1 hf1 x0 x1 tn
    go_wp2_with fail
    refine(LJ R p' t _ hr6).mono ?_
    rintro e w7 ⟨hT,b7⟩
    rcases hT with⟨_,h32,rfl,hr7⟩|⟨hno,rfl,hr7⟩
    ·have HNX:Hid (∃pw',aj 32 (bl t)=pw'++aj 32 ((bl t).drop (p'+1))/\Words pw' (o++[(ms,mv)])):=by
      have h:=HMR.out
      rw[rG hlt,h32]at h
      exact DX HS.out HW.out h
     have hg7:=hg6.but2 b7 hR
     have hB7:=hB6.trans b7
     clear h32 HMR HS HW
     go_wp2_with fail
     obtain⟨pw',e1,e2⟩:=HNX.out
     refine⟨⟨p'+1,o++[(ms,mv)],pw',hlt,hg7,by simp;omega,hos2,e2,e1,hr7,hB7⟩, ?_⟩
     rw[hr7.atOf,HM.out]
     omega
    ·have HNO:Hid (∀m',¬Words (aj 32 (bl t)) m'):=IM HS.out HMR.out (fun e=>by rw[rG hlt]at e;cases e) (fun e=>hno (vF.1 e))
     have hB7:=hB6.trans b7
     clear HMR HS HW hno
     go_wp2_with fail
     exact bodyPost_ret (v:=.tuple #[.slice none 0 0,.bool false]) (by simp[results,Tryz.results170,go_sem]) rfl ⟨⟨_,[],false,rfl,az.none _ _,fun e=>Bool.noConfusion e,fun _=>HNO.out,by simp,by simp⟩,hB7⟩
set_option maxHeartbeats 1600000 in
theorem qW (t:ByteArray)(w:World)(ht:t.size<=1000000000) :
  Calls Tryz.prog 146 #[.string t] w fun e w'=>RE w' w.heap.size t e/\Below w.heap.size w w':=by
 by_cases h4:400<t.size
 ·have H:Hid (MJ t [] false):=.inr ⟨rfl,rfl,fun m' h=>by have:=h.1;omega⟩
  go_enter Tryz.func146,Tryz.ntmps146
  go_wp2_with fail
  exact bodyPost_ret (v:=.tuple #[.slice none 0 0,.bool false]) (by simp[results,Tryz.results146,go_sem]) rfl ⟨⟨_,[],false,rfl,az.none _ _,H.out⟩,Below.refl _ _⟩
 by_cases hd:t=⟨#[45]⟩
 ·have hd':(t.toList==[45])=true:=by rw[hd,ByteArray.toList_eq];rfl
  have H:Hid (MJ t [] true):=.inl ⟨rfl,by omega,.inl ⟨by rw[hd],rfl⟩⟩
  clear hd
  go_enter Tryz.func146,Tryz.ntmps146
  go_wp2_with fail
  exact bodyPost_ret (v:=.tuple #[.slice none 0 0,.bool true]) (by simp[results,Tryz.results146,go_sem]) rfl ⟨⟨_,[],true,rfl,az.none _ _,H.out⟩,Below.refl _ _⟩
 have hd':(t.toList==[45])=false:=by
  have h:=bg.2 hd
  rwa [show(⟨#[45]⟩:ByteArray).toList=[45]from by rw[ByteArray.toList_eq]]at h
 have HD:Hid (bl t≠[45]):=fun e=>hd (qR e)
 clear hd
 go_enter Tryz.func146,Tryz.ntmps146
 go_wp2_with fail
 have hba:Below w.heap.size w (w.alloc (.cells #[.string t,.int .i64 0] 242)):=(Below.refl _ _).alloc (Nat.le_refl _) _
 have hsr:Sr (w.alloc (.cells #[.string t,.int .i64 0] 242)) w.heap.size t 0:=⟨by simp[go_sem],by simp[go_sem],by simp[go_sem],Nat.zero_le _,by omega⟩
 have hlx:=bP w (.cells #[.string t,.int .i64 0] 242)
 generalize w.alloc (.cells #[.string t,.int .i64 0] 242)=W0 at *
 refine(Gz w.heap.size t _ hsr).mono ?_
 rintro e w2 ⟨⟨v,o,ok,rfl,hg2,hyes,hno,hl2,hs2⟩,b2⟩
 have B2:Below w.heap.size w w2:=hba.trans (b2.below (Nat.le_refl _) (by omega))
 have HFAIL:Hid ((∀m',Words (aj 32 (bl t)) m'->¬ah m')->MJ t [] false):=fun h=>.inr ⟨rfl,rfl,fun m' hA=>by
  rcases hA.2 with⟨h1,_⟩|⟨h1,h2⟩
  ·exact HD.out h1
  ·exact h m' h1 h2⟩
 cases ok
 ·have H:Hid (MJ t [] false):=HFAIL.out fun m' h=>absurd h (hno rfl m')
  clear hno hyes HFAIL HD
  go_wp2_with fail
  exact bodyPost_ret (v:=.tuple #[.slice none 0 0,.bool false]) (by simp[results,Tryz.results146,go_sem]) rfl ⟨⟨_,[],false,rfl,az.none _ _,H.out⟩,B2⟩
 have HY:Hid (Words (aj 32 (bl t)) o):=hyes rfl
 have hg3:=hg2.lower (B':=w.heap.size) (by omega)
 obtain⟨ao,co,rfl,hrow⟩:=hg3.shape
 clear hno hyes hg2
 go_wp2_with fail
 refine(bY ao co o _ (by unfold maxLen;omega) hrow (fun j hj=>by have:=hs2 _ (List.getElem_mem hj);unfold maxLen;omega)).mono ?_
 rintro e w3 ⟨⟨r,rfl,hr3⟩,b3⟩
 have B3:Below w.heap.size w w3:=B2.trans (b3.mono B2.size)
 cases r
 ·have H:Hid (MJ t [] false):=HFAIL.out fun m' h hs=>by
   rw[h.one HY.out]at hs
   exact absurd (hr3.2 hs) (by simp)
  clear HFAIL HD HY hr3
  go_wp2_with fail
  exact bodyPost_ret (v:=.tuple #[.slice none 0 0,.bool false]) (by simp[results,Tryz.results146,go_sem]) rfl ⟨⟨_,[],false,rfl,az.none _ _,H.out⟩,B3⟩
 ·have H:Hid (MJ t o true):=.inl ⟨rfl,by omega,.inr ⟨HY.out,hr3.1 rfl⟩⟩
  have hg4:=hg3.keep b3
  clear HFAIL HD HY hr3
  go_wp2_with fail
  exact bodyPost_ret (v:=.tuple #[.slice ao o.length co,.bool true]) (by simp[results,Tryz.results146,go_sem]) rfl ⟨⟨_,o,true,rfl,hg4,H.out⟩,B3⟩
end Go.Proofs.YtpfhegengmlkmabGreatDoor
namespace Go.Proofs.YtpfhegengmlkmabGreatDoor
open Go.RowKit Go.Extern.Stop Go.Stop Go.Extern
theorem as_nil (t:Value)(w:World) :
  Calls Tryz.prog 49 #[.nilIface,t] w fun e w'=>e=.returned (.bool false)/\w'=w:=by
 go_enter Tryz.func49,Tryz.ntmps49
 go_wp2
 go_ret
 exact⟨rfl,rfl⟩
theorem Tryz.valueOfP (t:Addr)(w:World):(ReflectliteValue.unpack (.iface 105 (.pointer (some t)))).run Tryz.prog w
  = .ok (.agg #[.pointer (some ⟨11,105,none⟩),.pointer (some ⟨w.heap.size,0,none⟩),.int .u64 150]) (w.alloc (.cells #[.pointer (some t)] 105)):=by kernel_rfl
theorem Tryz.typeP (a:Addr)(w:World):(ReflectliteValue.methodAny (ReflectliteValue.valueError "reflectlite.Value.Type" 0) (fun t _ _ _=>ReflectliteType.toType t) #[.agg #[.pointer (some ⟨11,105,none⟩),.pointer (some a),.int .u64 150]]).run Tryz.prog w
  = .ok (.iface 188 (.agg #[.pointer (some ⟨11,105,none⟩)])) w:=by kernel_rfl
theorem Tryz.methodKind (h:Value)(w:World):(Go.method 432 188 (.agg #[h]) "Kind").run Tryz.prog w=.ok (243,h) w:=by kernel_rfl
theorem Tryz.kindP (w:World):((ReflectliteType.abiMethod fun t=>(fun a:Nat=>Value.int IntKind.u8 (a:Int)) <$> Rtype.kind t) #[.pointer (some ⟨11,105,none⟩)]).run Tryz.prog w=.ok (.int .u8 22) w:=by kernel_rfl
theorem Tryz.kindR (w:World):((ReflectliteType.abiMethod fun t=>(fun a:Nat=>Value.int IntKind.u8 (a:Int)) <$> Rtype.kind t) #[.pointer (some ⟨11,103,none⟩)]).run Tryz.prog w=.ok (.int .u8 25) w:=by kernel_rfl
theorem qL (z:Sem Value)(f:TypeId->Addr->Nat->Nat->Sem Value)(v:Value):∃g,ReflectliteValue.method z f #[v]=(ReflectliteValue.parts v >>= g)/\∀t a fl,g (some (t,a,fl))=f t a fl (fl % 32):=⟨_,rfl,fun _ _ _=>rfl⟩
theorem Tryz.partsP (a:Addr)(w:World):(ReflectliteValue.parts (.agg #[.pointer (some ⟨11,105,none⟩),.pointer (some a),.int .u64 150])).run Tryz.prog w=.ok (some (105,a,150)) w:=by kernel_rfl
theorem Tryz.isNilP (a p:Addr)(W:World)(ha:W.cell? a=some (.pointer (some p))) :
  (ReflectliteValue.method (ReflectliteValue.valueError "reflectlite.Value.IsNil" 0) ReflectliteValue.isNil #[.agg #[.pointer (some ⟨11,105,none⟩),.pointer (some a),.int .u64 150]]).run Tryz.prog W=.ok (.bool false) W:=by
 obtain⟨g,e1,e2⟩:=qL _ _ _
 rw[e1]
 simp only[Sem.run_bind,Tryz.partsP,Result.andThen,e2]
 simp[ReflectliteValue.isNil,loadVar,isAgg,underlying,Tryz.underlying105,ha,Result.andThen]
theorem Tryz.methodElem (h:Value)(w:World):(Go.method 432 188 (.agg #[h]) "Elem").run Tryz.prog w=.ok (257,.agg #[h]) w:=by kernel_rfl
theorem Tryz.methodImplements (h:Value)(w:World):(Go.method 432 188 (.agg #[h]) "Implements").run Tryz.prog w=.ok (258,.agg #[h]) w:=by kernel_rfl
theorem Tryz.methodAssignableTo (h:Value)(w:World):(Go.method 432 188 (.agg #[h]) "AssignableTo").run Tryz.prog w=.ok (255,.agg #[h]) w:=by kernel_rfl
theorem Tryz.elemP (w:World):(ReflectliteType.method ReflectliteType.elem #[.agg #[.pointer (some ⟨11,105,none⟩)]]).run Tryz.prog w=.ok (.iface 188 (.agg #[.pointer (some ⟨11,103,none⟩)])) w:=by kernel_rfl
theorem Tryz.implementsR (w:World):(ReflectliteType.relation "Implements" ReflectliteType.implements_ #[.agg #[.pointer (some ⟨11,103,none⟩)],.iface 188 (.agg #[.pointer (some ⟨11,64,none⟩)])]).run Tryz.prog w=.ok (.bool true) w:=by kernel_rfl
theorem Tryz.typeOfR (v:Value)(w:World):(ReflectliteType.typeOf #[.iface 103 v]).run Tryz.prog w=.ok (.iface 188 (.agg #[.pointer (some ⟨11,103,none⟩)])) w:=by kernel_rfl
theorem Tryz.assignableR (w:World):(ReflectliteType.relation "AssignableTo" ReflectliteType.assignableTo #[.agg #[.pointer (some ⟨11,103,none⟩)],.iface 188 (.agg #[.pointer (some ⟨11,103,none⟩)])]).run Tryz.prog w=.ok (.bool true) w:=by kernel_rfl
theorem Tryz.valueOfR (c:Int)(w:World):(ReflectliteValue.unpack (.iface 103 (.agg #[.int .i64 c]))).run Tryz.prog w
  = .ok (.agg #[.pointer (some ⟨11,103,none⟩),.pointer (some ⟨w.heap.size,0,none⟩),.int .u64 153]) (w.alloc (.cells #[.int .i64 c] 103)):=by kernel_rfl
theorem Tryz.elemOfP (w:World):(Rtype.elem? 105).run Tryz.prog w=.ok (some 103) w:=by kernel_rfl
theorem Tryz.mkR (p:Addr)(w:World):(ReflectliteValue.mk 103 p ReflectliteValue.flagAddr).run Tryz.prog w=.ok (.agg #[.pointer (some ⟨11,103,none⟩),.pointer (some p),.int .u64 409]) w:=by kernel_rfl
theorem Tryz.elemVP (a p:Addr)(W:World)(ha:W.cell? a=some (.pointer (some p))) :
  (ReflectliteValue.method (ReflectliteValue.valueError "reflectlite.Value.Elem" 0) ReflectliteValue.elem #[.agg #[.pointer (some ⟨11,105,none⟩),.pointer (some a),.int .u64 150]]).run Tryz.prog W
   = .ok (.agg #[.pointer (some ⟨11,103,none⟩),.pointer (some p),.int .u64 409]) W:=by
 obtain⟨g,e1,e2⟩:=qL _ _ _
 rw[e1]
 simp only[Sem.run_bind,Tryz.partsP,Result.andThen,e2]
 simp[ReflectliteValue.elem,loadVar,isAgg,underlying,Tryz.underlying105,ha,Result.andThen,Tryz.elemOfP,Tryz.mkR]
theorem Tryz.setR0 (ta b:Addr)(W:World):(ReflectliteValue.set #[.agg #[.pointer (some ⟨11,103,none⟩),.pointer (some ta),.int .u64 409],.agg #[.pointer (some ⟨11,103,none⟩),.pointer (some b),.int .u64 153]]).run Tryz.prog W
   = (do let v <- loadVar 103 b;storeVar 103 ta v;pure (Value.tuple #[])).run Tryz.prog W:=by kernel_rfl
theorem Tryz.setR (ta b:Addr)(c:Int)(old:Value)(W:World)(hb:W.cell? b=some (.int .i64 c))(ht:W.cell? ta=some old)(hf:W.frozen? ta=false) :
  (ReflectliteValue.set #[.agg #[.pointer (some ⟨11,103,none⟩),.pointer (some ta),.int .u64 409],.agg #[.pointer (some ⟨11,103,none⟩),.pointer (some b),.int .u64 153]]).run Tryz.prog W
   = .ok (.tuple #[]) (W.setCell ta (.int .i64 c)):=by
 rw[Tryz.setR0]
 simp[loadVar,storeVar,isAgg,underlying,Tryz.underlying103,loadCells,loadCellsFrom,hb,Result.andThen,Value.cells,storeCells,Addr.add]
 rw[run_store Tryz.prog W ta _ _ (by rfl)]
 simp[ht,hf]
def NC (c:Int)(t:Addr)(w w':World):Prop:=∃W,Below w.heap.size w W/\w'=W.setCell t (.int .i64 c)
set_option maxRecDepth 100000 in
set_option maxHeartbeats 4000000 in
theorem as_hit (c:Int)(t:Addr)(old:Value)(w:World)(hg:w.cell? ⟨2,0,none⟩=some (.iface 188 (.agg #[.pointer (some ⟨11,64,none⟩)])))(ht0:w.cell? t=some old)(hf0:w.frozen? t=false) :
  Calls Tryz.prog 49 #[.iface 103 (.agg #[.int .i64 c]),.iface 105 (.pointer (some t))] w fun ev w'=>ev=.returned (.bool true)/\NC c t w w':=by
 have h1:=@run_callFunc_extern Tryz.prog 83 _ (fun args=>ReflectliteValue.unpack (args.getD 0 (.tuple #[]))) Tryz.func83 (by kernel_rfl) (by kernel_rfl) (by kernel_rfl) (by kernel_rfl)
 have h2:=@run_callFunc_extern Tryz.prog 84 _ (ReflectliteValue.methodAny (ReflectliteValue.valueError "reflectlite.Value.Type" 0) (fun t _ _ _=>ReflectliteType.toType t)) Tryz.func84 (by kernel_rfl) (by kernel_rfl) (by kernel_rfl) (by kernel_rfl)
 have h3:=@run_callFunc_extern Tryz.prog 85 _ (ReflectliteValue.method (ReflectliteValue.valueError "reflectlite.Value.IsNil" 0) ReflectliteValue.isNil) Tryz.func85 (by kernel_rfl) (by kernel_rfl) (by kernel_rfl) (by kernel_rfl)
 have h4:=@run_callFunc_extern Tryz.prog 243 _ (ReflectliteType.abiMethod fun t=>do pure (.int .u8 (<- Rtype.kind t))) Tryz.func243 (by kernel_rfl) (by kernel_rfl) (by kernel_rfl) (by kernel_rfl)
 have h5:=@run_callFunc_extern Tryz.prog 257 _ (ReflectliteType.method ReflectliteType.elem) Tryz.func257 (by kernel_rfl) (by kernel_rfl) (by kernel_rfl) (by kernel_rfl)
 have h6:=@run_callFunc_extern Tryz.prog 258 _ (ReflectliteType.relation "Implements" ReflectliteType.implements_) Tryz.func258 (by kernel_rfl) (by kernel_rfl) (by kernel_rfl) (by kernel_rfl)
 have h7:=@run_callFunc_extern Tryz.prog 131 _ ReflectliteType.typeOf Tryz.func131 (by kernel_rfl) (by kernel_rfl) (by kernel_rfl) (by kernel_rfl)
 have h8:=@run_callFunc_extern Tryz.prog 255 _ (ReflectliteType.relation "AssignableTo" ReflectliteType.assignableTo) Tryz.func255 (by kernel_rfl) (by kernel_rfl) (by kernel_rfl) (by kernel_rfl)
 have h9:=@run_callFunc_extern Tryz.prog 132 _ (ReflectliteValue.method (ReflectliteValue.valueError "reflectlite.Value.Elem" 0) ReflectliteValue.elem) Tryz.func132 (by kernel_rfl) (by kernel_rfl) (by kernel_rfl) (by kernel_rfl)
 have h10:=@run_callFunc_extern Tryz.prog 133 _ ReflectliteValue.set Tryz.func133 (by kernel_rfl) (by kernel_rfl) (by kernel_rfl) (by kernel_rfl)
 have k1:=Tryz.typeOfR
 have k2:=Tryz.methodAssignableTo
 have k3:=Tryz.assignableR
 have k4:=Tryz.valueOfR
 have k5:=Tryz.valueOfP
 have k6:=Tryz.typeP
 have k7:=Tryz.methodKind
 have k8:=Tryz.methodElem
 have k9:=Tryz.methodImplements
 have k10:=Tryz.kindP
 have k11:=Tryz.kindR
 have k12:=Tryz.elemP
 have k13:=Tryz.implementsR
 have hlt:2<w.heap.size:=block_lt_of_cell hg
 have htl:t.block<w.heap.size:=by
  rcases Nat.lt_or_ge t.block w.heap.size with h|h
  ·exact h
  ·simp[World.cell?,Array.getElem?_eq_none h]at ht0
 obtain⟨W1,hW1⟩:∃W1,(w.alloc (.cells #[.pointer (some t)] 105)).alloc (.cells #[.pointer (some ⟨11,105,none⟩),.pointer (some ⟨w.heap.size,0,none⟩),.int .u64 150] 140)=W1:=⟨_,rfl⟩
 have b1:Below w.heap.size w W1:=by rw[<- hW1];exact((Below.refl _ _).alloc (Nat.le_refl _) _).alloc (by simp) _
 have n1:=Tryz.isNilP ⟨w.heap.size,0,none⟩ t W1 (by rw[<- hW1];simp)
 have hg1:W1.cell? ⟨2,0,none⟩=some (.iface 188 (.agg #[.pointer (some ⟨11,64,none⟩)])):=ae b1 hlt hg
 rw[<- hW1]at n1 hg1 b1
 clear hW1 W1
 have b3:Below w.heap.size w ((((w.alloc (.cells #[.pointer (some t)] 105)).alloc (.cells #[.pointer (some ⟨11,105,none⟩),.pointer (some ⟨w.heap.size,0,none⟩),.int .u64 150] 140)).alloc (.cells #[.pointer (some ⟨11,105,none⟩),.pointer (some ⟨w.heap.size,0,none⟩),.int .u64 150] 140)).alloc (.cells #[.int .i64 c] 103)):=(b1.alloc (by simp;omega) _).alloc (by simp;omega) _
 have n2:=Tryz.elemVP ⟨w.heap.size,0,none⟩ t (((w.alloc (.cells #[.pointer (some t)] 105)).alloc (.cells #[.pointer (some ⟨11,105,none⟩),.pointer (some ⟨w.heap.size,0,none⟩),.int .u64 150] 140)).alloc (.cells #[.pointer (some ⟨11,105,none⟩),.pointer (some ⟨w.heap.size,0,none⟩),.int .u64 150] 140)) (by rw[World.cell?_alloc_lt _ _ ⟨w.heap.size,0,none⟩ (by simp;omega)];simp)
 have n3:=Tryz.setR t ⟨w.heap.size+1+1+1,0,none⟩ c old ((((w.alloc (.cells #[.pointer (some t)] 105)).alloc (.cells #[.pointer (some ⟨11,105,none⟩),.pointer (some ⟨w.heap.size,0,none⟩),.int .u64 150] 140)).alloc (.cells #[.pointer (some ⟨11,105,none⟩),.pointer (some ⟨w.heap.size,0,none⟩),.int .u64 150] 140)).alloc (.cells #[.int .i64 c] 103)) (by rw[World.cell?_alloc_at _ _ _ _ (by simp)];rfl) ((b3.cell htl).trans ht0) ((b3.frozen htl).trans hf0)
 go_enter Tryz.func49,Tryz.ntmps49
 go_wp2
 refine wp_loop_rounds 1 ?_
 rw[rounds_succ]
 go_wp2
 go_ret
 exact⟨rfl,_,b3,rfl⟩
end Go.Proofs.YtpfhegengmlkmabGreatDoor
