/- Texts of this claim. -/
import Derived.Test.YtpfhegengmlkmacGreatDoorZt21
namespace Go.Proofs.YtpfhegengmlkmacGreatDoor
open Go.RowKit Go.BigFrame
def MkR (u:List UInt8) (m:ByteArray×Int) (ok:Bool):Prop:=(ok=true->MarkP m->Word u m)∧(∀ m',Word u m'->ok=true∧m=m')
def MkE (u:List UInt8) (e:Ending):Prop:=∃ m ok,e=.returned (.tuple #[.agg #[.string m.1,.int .i64 m.2],.bool ok])∧MkR u m ok∧m.1.size<=u.length
theorem nbs_of {s:ByteArray} (h:∀ j,(h:j < s.size)->NB (s[j].toNat:Int)):NBs (bl s):=fun x hx=>by
 obtain ⟨j,hj⟩:=List.getElem?_of_mem hx
 have hl:j < s.size:=by
  have:=(List.getElem?_eq_some_iff.1 hj).1
  rwa [bl_length] at this
 rw [bl_at s j hl] at hj
 have e:s[j]=x:=by simpa using hj
 rw [<- e]
 exact h j hl
theorem mkR_pair {t a b:ByteArray} {n:Int} {ok:Bool} (hs:splitL 58 (bl t)=[bl a,bl b]) (h:NumR (bl b) n ok):MkR (bl t) (a,n) ok:=by
 obtain ⟨e,h1,h2⟩:=splitL_pair hs
 refine ⟨fun hok hm=>⟨bl b,e,nbs_of hm.1.2.2,h.1 hok hm.2.1 hm.2.2⟩,fun m' hw=>?_⟩
 obtain ⟨d,e',hd⟩:=hw.split
 rw [hs] at e'
 simp only [List.cons.injEq,and_true] at e'
 obtain ⟨e1,e2⟩:=e'
 rw [<- e2] at hd
 obtain ⟨k1,k2⟩:=h.2 _ hd
 exact ⟨k1,Prod.ext (data_inj e1) k2⟩
theorem l1Split_58 (t:ByteArray) (w:World) (ht:t.size<=1000000) :
  Calls Tryz.prog 67 #[.string t,.int .u8 58] w fun e w'=>(∃ v us,e=.returned v∧GathS w' w.heap.size v us∧us.map bl=splitL 58 (bl t))∧Below w.heap.size w w':=l1Split_any t 58 w ht
theorem l1Split_32 (t:ByteArray) (w:World) (ht:t.size<=1000000) :
  Calls Tryz.prog 67 #[.string t,.int .u8 32] w fun e w'=>(∃ v us,e=.returned v∧GathS w' w.heap.size v us∧us.map bl=splitL 32 (bl t))∧Below w.heap.size w w':=l1Split_any t 32 w ht
set_option maxHeartbeats 1600000 in
theorem l1Mark_any (t:ByteArray) (w:World) (ht:t.size<=1000000) :
  Calls Tryz.prog 182 #[.string t] w fun e w'=>MkE (bl t) e∧Below w.heap.size w w':=by
 go_enter Tryz.func182,Tryz.ntmps182
 go_wp2_with fail
 have bx0:=box0 w (.string ⟨#[]⟩) (.int .i64 0) 144
 have bx1:=box1 w (.string ⟨#[]⟩) (.int .i64 0) 144
 have fx0:(w.alloc (.cells #[.string ⟨#[]⟩,.int .i64 0] 144)).frozen? ⟨w.heap.size,0,none⟩=false:=by simp [go_sem]
 have fx1:(w.alloc (.cells #[.string ⟨#[]⟩,.int .i64 0] 144)).frozen? ⟨w.heap.size,1,none⟩=false:=by simp [go_sem]
 have hlx:=box_lt w (.cells #[.string ⟨#[]⟩,.int .i64 0] 144)
 have hb0:Below w.heap.size w (w.alloc (.cells #[.string ⟨#[]⟩,.int .i64 0] 144)):=(Below.refl _ _).alloc (Nat.le_refl _) _
 generalize w.alloc (.cells #[.string ⟨#[]⟩,.int .i64 0] 144)=W0 at *
 refine (l1Split_58 t _ ht).mono ?_
 rintro e w1 ⟨⟨v,us,rfl,hg1,hus⟩,b1⟩
 have x0:=cell_on b1 hlx bx0
 have x1:=cell_on b1 hlx bx1
 have f0:=(b1.frozen (p:=⟨w.heap.size,0,none⟩) hlx).trans fx0
 have f1:=(b1.frozen (p:=⟨w.heap.size,1,none⟩) hlx).trans fx1
 have B1:Below w.heap.size w w1:=hb0.trans (b1.mono hb0.size)
 clear bx0 bx1 fx0 fx1 hb0
 obtain ⟨ap,cp,rfl,hrow⟩:=hg1.shape
 by_cases h2:us.length=2
 ·match us,h2 with
  | [a,b],_=>
   have hs:splitL 58 (bl t)=[bl a,bl b]:=hus.symm
   obtain ⟨e0,_,_⟩:=splitL_pair hs
   have hlen:=congrArg List.length e0
   rw [List.length_append,List.length_cons,bl_length,bl_length,bl_length] at hlen
   obtain ⟨q,o,rfl,hq,c0⟩:=hrow 0 (by simp)
   obtain ⟨q',o',e2,hq',c1⟩:=hrow 1 (by simp)
   obtain ⟨rfl,rfl⟩:q=q'∧o=o':=by simpa using e2
   have c0:w1.cell? ⟨q,o,none⟩=some (.string a):=c0
   have c1:w1.cell? ⟨q,o + 1,none⟩=some (.string b):=c1
   have HS:Hid (splitL 58 (bl t)=[bl a,bl b]):=hs
   clear hs hus hg1 hrow e0 e2
   go_wp2_with fail
   refine (l1Num_any b _ (by omega)).mono ?_
   rintro e w2 ⟨⟨n,ok,rfl,hn⟩,rfl⟩
   have H:Hid (MkR (bl t) (a,n) ok):=mkR_pair HS.out hn
   clear hn HS
   have y0:((w2.setCell ⟨w.heap.size,0,none⟩ (.string a)).setCell ⟨w.heap.size,1,none⟩ (.int .i64 n)).cell? ⟨w.heap.size,0,none⟩=some (.string a):=by simp [go_sem,x0]
   have y1:((w2.setCell ⟨w.heap.size,0,none⟩ (.string a)).setCell ⟨w.heap.size,1,none⟩ (.int .i64 n)).cell? ⟨w.heap.size,1,none⟩=some (.int .i64 n):=by simp [go_sem,x1]
   go_wp2_with fail
   exact bodyPost_ret (v:=.tuple #[.agg #[.string a,.int .i64 n],.bool ok]) (by simp [results,Tryz.results182,go_sem,y0,y1]) rfl ⟨⟨(a,n),ok,rfl,H.out,by rw [bl_length];show a.size<=t.size;omega⟩,(B1.setCell (Nat.le_refl _) _).setCell (Nat.le_refl _) _⟩
 ·have h2':((us.length:Int) != 2)=true:=by rw [bne_iff_ne];omega
  have H:Hid (MkR (bl t) (.empty,0) false):=⟨fun e=>Bool.noConfusion e,fun m' hw=>by
   obtain ⟨d,e',_⟩:=hw.split
   rw [<- hus] at e'
   have:=congrArg List.length e'
   simp at this
   omega⟩
  clear hus hg1 hrow
  have y0:((w1.setCell ⟨w.heap.size,0,none⟩ (.string ⟨#[]⟩)).setCell ⟨w.heap.size,1,none⟩ (.int .i64 0)).cell? ⟨w.heap.size,0,none⟩=some (.string ⟨#[]⟩):=by simp [go_sem,x0]
  have y1:((w1.setCell ⟨w.heap.size,0,none⟩ (.string ⟨#[]⟩)).setCell ⟨w.heap.size,1,none⟩ (.int .i64 0)).cell? ⟨w.heap.size,1,none⟩=some (.int .i64 0):=by simp [go_sem,x1]
  go_wp2_with fail
  exact bodyPost_ret (v:=.tuple #[.agg #[.string ⟨#[]⟩,.int .i64 0],.bool false]) (by simp [results,Tryz.results182,go_sem,y0,y1]) rfl ⟨⟨(.empty,0),false,rfl,H.out,Nat.zero_le _⟩,(B1.setCell (Nat.le_refl _) _).setCell (Nat.le_refl _) _⟩
theorem Words.at:∀ {us:List (List UInt8)} {ms:List (ByteArray×Int)} (_:Words us ms) {k:Nat} {u:List UInt8},us[k]?=some u->∃ m,ms[k]?=some m∧Word u m
 | u :: us,m :: ms,h,0,_,e=>⟨m,rfl,by simp at e;rw [<- e];exact h.1⟩
 | u :: us,m :: ms,h,k + 1,_,e=>by
  obtain ⟨m',h1,h2⟩:=Words.at h.2 (k:=k) (by simpa using e)
  exact ⟨m',by simpa using h1,h2⟩
 | [],[],_,_,_,e=>by simp at e
 | [],_ :: _,h,_,_,_=>h.elim
 | _ :: _,[],h,_,_,_=>h.elim
theorem words_of:∀ {us:List (List UInt8)} {ms:List (ByteArray×Int)},us.length=ms.length->(∀ (k:Nat) (u:List UInt8) (m:ByteArray×Int),us[k]?=some u->ms[k]?=some m->Word u m)->Words us ms
 | [],[],_,_=>trivial
 | u :: us,m :: ms,hl,h=>⟨h 0 u m rfl rfl,words_of (by simpa using hl) fun k u' m' h1 h2=>h (k + 1) u' m' (by simpa using h1) (by simpa using h2)⟩
 | [],_ :: _,hl,_=>by simp at hl
 | _ :: _,[],hl,_=>by simp at hl
def IsW (us:List (List UInt8)) (m:List (ByteArray×Int)) (ok:Bool):Prop:=
 (us=[[45]]∧m=[]∧ok=true)∨(us≠[[45]]∧((ok=true∧Words us m∧StampP m∧m≠[])∨(ok=false∧m=[]∧∀ m',Words us m'->StampP m'->m'=[])))
def WE (w:World) (B:Nat) (us:List (List UInt8)) (e:Ending):Prop:=∃ v m ok,e=.returned (.tuple #[v,.bool ok])∧Gath w B v m∧IsW us m ok
def RE (w:World) (B:Nat) (t:ByteArray) (e:Ending):Prop:=∃ v m ok,e=.returned (.tuple #[v,.bool ok])∧Gath w B v m∧IsR t m ok
def RdI (us:List (List UInt8)) (o:List (ByteArray×Int)):Prop:=(∀ m',Words us m'->m'.take o.length=o)∧(∀ (k:Nat) (u:List UInt8) (m:ByteArray×Int),us[k]?=some u->o[k]?=some m->MarkP m->Word u m)
theorem rdI_start (us:List (List UInt8)):RdI us []:=⟨fun _ _=>by simp,fun k u m _ h=>by simp at h⟩
theorem rdI_fail {us:List (List UInt8)} {o:List (ByteArray×Int)} {k:Nat} {u:List UInt8} {m:ByteArray×Int} (_:RdI us o) (hu:us[k]?=some u) (hm:MkR u m false) (hne:us≠[[45]]):IsW us [] false:=
 .inr ⟨hne,.inr ⟨rfl,rfl,fun m' hw=>by
  obtain ⟨x,_,hx⟩:=hw.at hu
  exact absurd (hm.2 x hx).1 (by simp)⟩⟩
theorem rdI_step {us:List (List UInt8)} {o:List (ByteArray×Int)} {k:Nat} {u:List UInt8} {m:ByteArray×Int} (h:RdI us o) (hu:us[k]?=some u) (hk:o.length=k) (hm:MkR u m true):RdI us (o ++ [m]):=by
 subst hk
 refine ⟨fun m' hw=>?_,fun j u' m' h1 h2 hp=>?_⟩
 ·obtain ⟨x,hx,hx2⟩:=hw.at hu
  obtain ⟨hlt,rfl⟩:=List.getElem?_eq_some_iff.1 hx
  rw [List.length_append,List.length_singleton,List.take_succ_eq_append_getElem hlt,h.1 m' hw,<- (hm.2 _ hx2).2]
 ·by_cases hj:j < o.length
  ·rw [List.getElem?_append_left hj] at h2
   exact h.2 j u' m' h1 h2 hp
  ·rw [List.getElem?_append_right (by omega)] at h2
   obtain ⟨h3,h4⟩:=List.getElem?_eq_some_iff.1 h2
   have e:j=o.length:=by simp at h3;omega
   subst e
   simp at h4
   subst h4
   rw [hu] at h1
   obtain rfl:u=u':=by simpa using h1
   exact hm.1 rfl hp
theorem rdI_end {us:List (List UInt8)} {o:List (ByteArray×Int)} (h:RdI us o) (hl:o.length=us.length):(StampP o->Words us o)∧(∀ m',Words us m'->m'=o):=by
 refine ⟨fun hs=>words_of hl.symm fun k u m h1 h2=>h.2 k u m h1 h2 ?_,fun m' hw=>?_⟩
 ·obtain ⟨h3,rfl⟩:=List.getElem?_eq_some_iff.1 h2
  exact hs.2.1 k h3
 ·have e:=h.1 m' hw
  rw [List.take_of_length_le (by rw [hw.length];omega)] at e
  exact e
set_option maxHeartbeats 1600000 in
theorem l1Marks_any (a:Option Addr) (cap:Nat) (ws:List ByteArray) (w:World) (hl:ws.length<=100000) (hs:∀ u∈ws,u.size<=100000) (hr:RowS w a ws) :
  Calls Tryz.prog 149 #[.slice a ws.length cap] w fun e w'=>WE w' w.heap.size (ws.map bl) e∧Below w.heap.size w w':=by
 obtain ⟨i0,hi,hz0,hz1,hz2⟩:=info_parts Tryz.infoM
 go_enter Tryz.func149,Tryz.ntmps149
 by_cases h1:ws.length=1
 ·have hpos:0 < ws.length:=by omega
  have hw:ws.map bl=[bl (ws[0]'hpos)]:=by
   match ws,h1 with
   | [u],_=>rfl
  have h1':((ws.length:Int) == 1)=true:=by rw [beq_iff_eq];omega
  obtain ⟨b1,o1,rfl,hlt1,c0⟩:=hr 0 hpos
  have c0:w.cell? ⟨b1,o1,none⟩=some (.string ws[0]):=c0
  clear h1
  by_cases hu:ws[0]=⟨#[45]⟩
  ·have hu':(ws[0].toList == [45])=true:=by rw [hu,ByteArray.toList_eq];rfl
   have H:Hid (IsW (ws.map bl) [] true):=.inl ⟨by rw [hw,hu];rfl,rfl,rfl⟩
   clear hu hr hw
   go_wp2_with fail
   exact bodyPost_ret (v:=.tuple #[.slice none 0 0,.bool true]) (by simp [results,Tryz.results149,go_sem]) rfl ⟨⟨_,[],true,rfl,Gath.none _ _,H.out⟩,Below.refl _ _⟩
  ·have hu':(ws[0].toList == [45])=false:=by
    have h:=toList_bne.2 hu
    rwa [show (⟨#[45]⟩:ByteArray).toList=[45] from by rw [ByteArray.toList_eq]] at h
   have HNE:Hid (ws.map bl≠[[45]]):=fun e=>hu (data_inj (show bl ws[0]=[45] by rw [hw] at e;simpa using e))
   clear hu hw
   go_wp2_with fail
   go_loopw [4,5] (fun out iv wr=>∃ k:Nat,k<=ws.length∧iv=.int .i64 k∧∃ o,Gath wr w.heap.size out o∧o.length=k∧(∀ m∈o,m.1.size<=100000)∧RdI (ws.map bl) o∧Below w.heap.size w wr) (fun _ iv _=>ws.length - (intOf iv).toNat)
   case atStart=>exact ⟨0,Nat.zero_le _,rfl,[],Gath.none _ _,rfl,by simp,rdI_start _,Below.refl _ _⟩
   case round=>
    obtain ⟨k,hk,rfl,o,hg,hol,hos,hI,hbl⟩:=hrel
    have hzr:=hbl.size
    have HOL:Hid (o.length=k):=hol
    have hol':o.length<=100000:=by omega
    clear hol
    by_cases hlt:k < ws.length
    ·obtain ⟨b2,o2,eb,hlt2,c0⟩:=hr k hlt
     obtain ⟨rfl,rfl⟩:b1=b2∧o1=o2:=by simpa using eb
     have e0:=cell_on hbl hlt1 c0
     have k0:(0:Int)<=(k:Int):=by omega
     have k1:(k:Int) < (ws.length:Int):=by omega
     have hsz:=hs _ (List.getElem_mem hlt)
     have hui:(ws.map bl)[k]?=some (bl ws[k]):=by simp [hlt]
     have HI:Hid (RdI (ws.map bl) o):=hI
     have HUI:Hid ((ws.map bl)[k]?=some (bl ws[k])):=hui
     clear hI hui
     go_wp2_with fail
     refine (l1Mark_any ws[k] _ (by omega)).mono ?_
     rintro e w2 ⟨⟨m,ok,rfl,hm,hms⟩,b2⟩
     rw [bl_length] at hms
     have B2:Below w.heap.size w w2:=hbl.trans (b2.mono hzr)
     have hg2:=hg.keep b2
     have z2:=B2.size
     cases ok
     ·have H:Hid (IsW (ws.map bl) [] false):=rdI_fail HI.out HUI.out hm HNE.out
      clear hm HI HUI
      go_wp2_with fail
      exact bodyPost_ret (v:=.tuple #[.slice none 0 0,.bool false]) (by simp [results,Tryz.results149,go_sem]) rfl ⟨⟨_,[],false,rfl,Gath.none _ _,H.out⟩,B2.alloc z2 _⟩
     ·have H:Hid (RdI (ws.map bl) (o ++ [m])):=rdI_step HI.out HUI.out HOL.out hm
      obtain ⟨ms,mv⟩:=m
      clear hm HI HUI
      have hg3:(w2.alloc (.cells #[.string ms,.int .i64 mv] 144)).ownsRow w.heap.size 144 2 _ o.length (mcells o):=World.ownsRow.alloc hg2 _
      have hba:Below w.heap.size w (w2.alloc (.cells #[.string ms,.int .i64 mv] 144)):=B2.alloc z2 _
      have x0:=box0 w2 (.string ms) (.int .i64 mv) 144
      have x1:=box1 w2 (.string ms) (.int .i64 mv) 144
      have tn:∀ j u,[Value.string ms,.int .i64 mv][j]?=some u->((w2.alloc (.cells #[.string ms,.int .i64 mv] 144)).alloc (.cells #[.string ms,.int .i64 mv] 144)).cell? ((⟨w2.heap.size + 1,0,none⟩:Addr).add j)=some u:=by
       have h:=two_new (w2.alloc (.cells #[.string ms,.int .i64 mv] 144)) (.string ms) (.int .i64 mv) 144
       rw [World.size_alloc] at h
       exact h
      go_wp2_with (at_builtin;refine wpList_append_lies _ rfl _ _ 34 rfl w.heap.size 144 i0 (.agg #[.string .empty,.int .i64 0]) 2 24 Tryz.underlying34 hi hz0 hz1 hz2 rfl (by decide) _ _ _ rfl (World.ownsRow.alloc hg3 _) ⟨w2.heap.size + 1,0,none⟩ 1 1 [.string ms,.int .i64 mv] rfl rfl tn (by simp [Value.oneCell']) (by decide) (by unfold maxLen;omega) (by omega) (by simp;omega) _ rfl ?_;intro g' cap' w5 hown' hgrow _ _)
      have hob:=ownsRow_block hg3
      refine ⟨⟨k + 1,by omega,by go_num,o ++ [(ms,mv)],Gath.snoc hown',by have:=HOL.out;simp;omega,fun m hm=>?_,H.out,(hba.alloc (by simp;omega) _).grown hgrow (by simp;omega) hob⟩,by simp [intOf];omega⟩
      rcases List.mem_append.1 hm with h | h
      ·exact hos m h
      ·rw [List.mem_singleton.1 h];show ms.size<=100000;exact Nat.le_trans hms hsz
    ·have HI:Hid (RdI (ws.map bl) o):=hI
     have HOK:Hid (o.length=ws.length):=by have:=HOL.out;unfold Hid;omega
     clear hI
     obtain ⟨ao,co,rfl,hrow⟩:=hg.shape
     go_wp2_with fail
     refine (specOk_b ao co o _ (by unfold maxLen;omega) hrow (fun j hj=>by have:=hos _ (List.getElem_mem hj);unfold maxLen;omega)).mono ?_
     rintro e w3 ⟨⟨r,rfl,hr3⟩,b3⟩
     have B3:Below w.heap.size w w3:=hbl.trans (b3.mono hzr)
     have hE:=rdI_end HI.out (by rw [List.length_map];exact HOK.out)
     cases r
     ·have H:Hid (IsW (ws.map bl) [] false):=.inr ⟨HNE.out,.inr ⟨rfl,rfl,fun m' hw hs'=>by
       rw [hE.2 m' hw] at hs'
       exact absurd (hr3.2 hs') (by simp)⟩⟩
      clear hE hr3 HI
      go_wp2_with fail
      exact bodyPost_ret (v:=.tuple #[.slice none 0 0,.bool false]) (by simp [results,Tryz.results149,go_sem]) rfl ⟨⟨_,[],false,rfl,Gath.none _ _,H.out⟩,B3⟩
     by_cases ho0:o.length=0
     ·have H:Hid (IsW (ws.map bl) [] false):=.inr ⟨HNE.out,.inr ⟨rfl,rfl,fun m' hw _=>by
       rw [hE.2 m' hw]
       exact List.length_eq_zero_iff.1 ho0⟩⟩
      have ho0':((o.length:Int) == 0)=true:=by rw [beq_iff_eq];omega
      clear hE hr3 HI
      go_wp2_with fail
      exact bodyPost_ret (v:=.tuple #[.slice none 0 0,.bool false]) (by simp [results,Tryz.results149,go_sem]) rfl ⟨⟨_,[],false,rfl,Gath.none _ _,H.out⟩,B3⟩
     have ho0':((o.length:Int) == 0)=false:=by rw [beq_eq_false_iff_ne];omega
     have H:Hid (IsW (ws.map bl) o true):=.inr ⟨HNE.out,.inl ⟨rfl,hE.1 (hr3.1 rfl),hr3.1 rfl,fun e=>ho0 (by rw [e];rfl)⟩⟩
     clear hE hr3 HI
     go_wp2_with fail
     exact bodyPost_ret (v:=.tuple #[.slice ao o.length co,.bool true]) (by simp [results,Tryz.results149,go_sem]) rfl ⟨⟨_,o,true,rfl,hg.keep b3,H.out⟩,B3⟩
 have h1':((ws.length:Int) == 1)=false:=by rw [beq_eq_false_iff_ne];omega
 have HNE:Hid (ws.map bl≠[[45]]):=fun e=>h1 (by have:=congrArg List.length e;simpa using this)
 go_wp2_with fail
 go_loopw [4,5] (fun out iv wr=>∃ k:Nat,k<=ws.length∧iv=.int .i64 k∧∃ o,Gath wr w.heap.size out o∧o.length=k∧(∀ m∈o,m.1.size<=100000)∧RdI (ws.map bl) o∧Below w.heap.size w wr) (fun _ iv _=>ws.length - (intOf iv).toNat)
 case atStart=>exact ⟨0,Nat.zero_le _,rfl,[],Gath.none _ _,rfl,by simp,rdI_start _,Below.refl _ _⟩
 case round=>
  obtain ⟨k,hk,rfl,o,hg,hol,hos,hI,hbl⟩:=hrel
  have hzr:=hbl.size
  have HOL:Hid (o.length=k):=hol
  have hol':o.length<=100000:=by omega
  clear hol
  by_cases hlt:k < ws.length
  ·obtain ⟨b1,o1,rfl,hlt1,c0⟩:=hr k hlt
   have e0:=cell_on hbl hlt1 c0
   have k0:(0:Int)<=(k:Int):=by omega
   have k1:(k:Int) < (ws.length:Int):=by omega
   have hsz:=hs _ (List.getElem_mem hlt)
   have hui:(ws.map bl)[k]?=some (bl ws[k]):=by simp [hlt]
   have HI:Hid (RdI (ws.map bl) o):=hI
   have HUI:Hid ((ws.map bl)[k]?=some (bl ws[k])):=hui
   clear hI hui
   go_wp2_with fail
   refine (l1Mark_any ws[k] _ (by omega)).mono ?_
   rintro e w2 ⟨⟨m,ok,rfl,hm,hms⟩,b2⟩
   rw [bl_length] at hms
   have B2:Below w.heap.size w w2:=hbl.trans (b2.mono hzr)
   have hg2:=hg.keep b2
   have z2:=B2.size
   cases ok
   ·have H:Hid (IsW (ws.map bl) [] false):=rdI_fail HI.out HUI.out hm HNE.out
    clear hm HI HUI
    go_wp2_with fail
    exact bodyPost_ret (v:=.tuple #[.slice none 0 0,.bool false]) (by simp [results,Tryz.results149,go_sem]) rfl ⟨⟨_,[],false,rfl,Gath.none _ _,H.out⟩,B2.alloc z2 _⟩
   ·have H:Hid (RdI (ws.map bl) (o ++ [m])):=rdI_step HI.out HUI.out HOL.out hm
    obtain ⟨ms,mv⟩:=m
    clear hm HI HUI
    have hg3:(w2.alloc (.cells #[.string ms,.int .i64 mv] 144)).ownsRow w.heap.size 144 2 _ o.length (mcells o):=World.ownsRow.alloc hg2 _
    have hba:Below w.heap.size w (w2.alloc (.cells #[.string ms,.int .i64 mv] 144)):=B2.alloc z2 _
    have x0:=box0 w2 (.string ms) (.int .i64 mv) 144
    have x1:=box1 w2 (.string ms) (.int .i64 mv) 144
    have tn:∀ j u,[Value.string ms,.int .i64 mv][j]?=some u->((w2.alloc (.cells #[.string ms,.int .i64 mv] 144)).alloc (.cells #[.string ms,.int .i64 mv] 144)).cell? ((⟨w2.heap.size + 1,0,none⟩:Addr).add j)=some u:=by
     have h:=two_new (w2.alloc (.cells #[.string ms,.int .i64 mv] 144)) (.string ms) (.int .i64 mv) 144
     rw [World.size_alloc] at h
     exact h
    go_wp2_with (at_builtin;refine wpList_append_lies _ rfl _ _ 34 rfl w.heap.size 144 i0 (.agg #[.string .empty,.int .i64 0]) 2 24 Tryz.underlying34 hi hz0 hz1 hz2 rfl (by decide) _ _ _ rfl (World.ownsRow.alloc hg3 _) ⟨w2.heap.size + 1,0,none⟩ 1 1 [.string ms,.int .i64 mv] rfl rfl tn (by simp [Value.oneCell']) (by decide) (by unfold maxLen;omega) (by omega) (by simp;omega) _ rfl ?_;intro g' cap' w5 hown' hgrow _ _)
    have hob:=ownsRow_block hg3
    refine ⟨⟨k + 1,by omega,by go_num,o ++ [(ms,mv)],Gath.snoc hown',by have:=HOL.out;simp;omega,fun m hm=>?_,H.out,(hba.alloc (by simp;omega) _).grown hgrow (by simp;omega) hob⟩,by simp [intOf];omega⟩
    rcases List.mem_append.1 hm with h | h
    ·exact hos m h
    ·rw [List.mem_singleton.1 h];show ms.size<=100000;exact Nat.le_trans hms hsz
  ·have HI:Hid (RdI (ws.map bl) o):=hI
   have HOK:Hid (o.length=ws.length):=by have:=HOL.out;unfold Hid;omega
   clear hI
   obtain ⟨ao,co,rfl,hrow⟩:=hg.shape
   go_wp2_with fail
   refine (specOk_b ao co o _ (by unfold maxLen;omega) hrow (fun j hj=>by have:=hos _ (List.getElem_mem hj);unfold maxLen;omega)).mono ?_
   rintro e w3 ⟨⟨r,rfl,hr3⟩,b3⟩
   have B3:Below w.heap.size w w3:=hbl.trans (b3.mono hzr)
   have hE:=rdI_end HI.out (by rw [List.length_map];exact HOK.out)
   cases r
   ·have H:Hid (IsW (ws.map bl) [] false):=.inr ⟨HNE.out,.inr ⟨rfl,rfl,fun m' hw hs'=>by
     rw [hE.2 m' hw] at hs'
     exact absurd (hr3.2 hs') (by simp)⟩⟩
    clear hE hr3 HI
    go_wp2_with fail
    exact bodyPost_ret (v:=.tuple #[.slice none 0 0,.bool false]) (by simp [results,Tryz.results149,go_sem]) rfl ⟨⟨_,[],false,rfl,Gath.none _ _,H.out⟩,B3⟩
   by_cases ho0:o.length=0
   ·have H:Hid (IsW (ws.map bl) [] false):=.inr ⟨HNE.out,.inr ⟨rfl,rfl,fun m' hw _=>by
     rw [hE.2 m' hw]
     exact List.length_eq_zero_iff.1 ho0⟩⟩
    have ho0':((o.length:Int) == 0)=true:=by rw [beq_iff_eq];omega
    clear hE hr3 HI
    go_wp2_with fail
    exact bodyPost_ret (v:=.tuple #[.slice none 0 0,.bool false]) (by simp [results,Tryz.results149,go_sem]) rfl ⟨⟨_,[],false,rfl,Gath.none _ _,H.out⟩,B3⟩
   have ho0':((o.length:Int) == 0)=false:=by rw [beq_eq_false_iff_ne];omega
   have H:Hid (IsW (ws.map bl) o true):=.inr ⟨HNE.out,.inl ⟨rfl,hE.1 (hr3.1 rfl),hr3.1 rfl,fun e=>ho0 (by rw [e];rfl)⟩⟩
   clear hE hr3 HI
   go_wp2_with fail
   exact bodyPost_ret (v:=.tuple #[.slice ao o.length co,.bool true]) (by simp [results,Tryz.results149,go_sem]) rfl ⟨⟨_,o,true,rfl,hg.keep b3,H.out⟩,B3⟩
theorem split_sizes {t:ByteArray} {us:List ByteArray} {c:UInt8} (h:us.map bl=splitL c (bl t)):us.length<=t.size + 1∧∀ u∈us,u.size<=t.size:=by
 have key:∀ (n:Nat) (s:List UInt8),s.length<=n->(splitL c s).length<=s.length + 1∧∀ u∈splitL c s,u.length<=s.length:=by
  intro n
  induction n with
  | zero=>
   intro s hs
   obtain rfl:=List.length_eq_zero_iff.1 (Nat.le_zero.1 hs)
   simp [splitL]
  | succ n ih=>
   intro s hs
   rcases splitL_two (c:=c) s with h | ⟨a,r,rfl,h⟩
   ·rw [splitL_no h]
    exact ⟨by simp,fun u hu=>by rw [List.mem_singleton.1 hu];exact Nat.le_refl _⟩
   ·have hr:=ih r (by simp at hs;omega)
    rw [splitL_cut h]
    refine ⟨by have:=hr.1;simp;omega,fun u hu=>?_⟩
    rcases List.mem_cons.1 hu with rfl | hu
    ·simp
    ·have:=hr.2 u hu;simp;omega
 obtain ⟨k1,k2⟩:=key _ (bl t) (Nat.le_refl _)
 rw [<- h,List.length_map,bl_length] at k1
 refine ⟨k1,fun u hu=>?_⟩
 have:=k2 (bl u) (by rw [<- h];exact List.mem_map_of_mem hu)
 rwa [bl_length,bl_length] at this
end Go.Proofs.YtpfhegengmlkmacGreatDoor
namespace Go.Proofs.YtpfhegengmlkmacGreatDoor
open Go.RowKit Go.BigFrame
set_option maxRecDepth 100000
theorem conv_byte2 (d:Int) (h0:0<=d) (h1:d<=255) (u:World) :
  (convert 121 9 (.slice (some ⟨u.heap.size,0,none⟩) 1 1)).run Tryz.prog (u.alloc (.cells #[.int .u8 d] 5))=.ok (.string ⟨#[UInt8.ofNat d.toNat]⟩) (u.alloc (.cells #[.int .u8 d] 5)):=by
 have h:=run_convert_bytes_back (P:=Tryz.prog) (u.alloc (.cells #[.int .u8 d] 5)) 121 9 5 ⟨u.heap.size,0,none⟩ 1 [UInt8.ofNat d.toNat] Tryz.underlying121 Tryz.underlying5 Tryz.underlying9 (fun j hj=>by
  obtain rfl:j=0:=by simpa using hj
  have e:((UInt8.ofNat d.toNat).toNat:Int)=d:=by
   rw [UInt8.toNat_ofNat']
   omega
  simp [Addr.add,go_sem]
  omega)
 simpa using h
theorem toList_append2 (a b:ByteArray):(a ++ b).data.toList=a.data.toList ++ b.data.toList:=by
 rw [ByteArray.data_append,Array.toList_append]
theorem size_list (s:ByteArray):s.data.toList.length=s.size:=Array.length_toList
theorem eq_of_list {s:ByteArray} {l:List UInt8} (h:s.data.toList=l):s=⟨l.toArray⟩:=data_eq (by rw [h])
set_option maxHeartbeats 400000 in
theorem l1Dec_exact (k:Nat) (w:World) (h0:1<=k) (h1:k<=1099511627776) :
  Calls Tryz.prog 109 #[.int .i64 (k:Int)] w fun e w'=>e=.returned (.string ⟨(Lib.decDigits k).toArray⟩)∧Below w.heap.size w w':=by
 have hk':((k:Int) == 0)=false:=by simp;omega
 go_enter Tryz.func109,Tryz.ntmps109
 go_wp2_with fail
 go_loopw [0,3] (fun kk out wr=>∃ (q:Nat) (s:ByteArray),kk=.int .i64 q∧s.size + q<=k∧out=.string s∧DecI k q s.data.toList∧Below w.heap.size w wr) (fun kk _ _=>(intOf kk).toNat)
 case atStart=>exact ⟨k,_,rfl,by show 0 + k<=_;omega,rfl,decI_start (by omega),Below.refl _ _⟩
 case round=>
  obtain ⟨q,s,rfl,hq,rfl,hI,hb⟩:=hrel
  by_cases hlt:0 < q
  ·have hcv:=conv_byte2 (48 + (q:Int) % 10) (by omega) (by omega) wr
   have hq':((q:Int) != 0)=true:=by simp;omega
   have HI:Hid (DecI k (q / 10) (UInt8.ofNat (48 + q % 10) :: s.data.toList)):=decI_step hlt hI
   clear hI
   go_wp2_with fail
   have hsz:((⟨#[48 + UInt8.ofNat (q % 10)]⟩:ByteArray) ++ s).size=1 + s.size:=by rw [ByteArray.size_append];rfl
   refine ⟨⟨q / 10,_,by congr 1,by rw [hsz];omega,rfl, ?_,hb.alloc hb.size _⟩,by simp [intOf];omega⟩
   rw [toList_append2]
   have e:UInt8.ofNat (48 + q % 10)=48 + UInt8.ofNat (q % 10):=by rw [UInt8.ofNat_add];rfl
   have h:=HI.out
   rw [e] at h
   exact h
  ·have hq':((q:Int) != 0)=false:=by simp;omega
   have HS:Hid (s=⟨(Lib.decDigits k).toArray⟩):=eq_of_list (hI.1 (by omega))
   clear hI
   go_wp2_with fail
   go_ret
   exact ⟨by rw [HS.out];rfl,hb⟩
set_option maxHeartbeats 1600000 in
theorem specText_any (a:Option Addr) (cap:Nat) (l:List (ByteArray×Int)) (w:World) (hl:l.length<=maxLen) (hr:Row w a l) (hs:∀ j,(h:j < l.length)->l[j].1.size<=maxLen) :
  Calls Tryz.prog 151 #[.slice a l.length cap] w fun e w'=>(∃ s,e=.returned (.string s)∧IsTx l s)∧Below w.heap.size w w':=by
 go_enter Tryz.func151,Tryz.ntmps151
 go_wp2_with fail
 refine (specOk_b a cap l _ hl hr hs).mono ?_
 rintro e w1 ⟨⟨r,rfl,hr1⟩,b1⟩
 cases r
 ·have H:Hid (IsTx l ⟨#[]⟩):=⟨fun h=>by simpa using hr1.2 h,fun _=>rfl⟩
  clear hr1
  go_wp2_with fail
  go_ret
  exact ⟨⟨_,rfl,H.out⟩,b1⟩
 have hS:StampP l:=hr1.1 rfl
 clear hr1
 by_cases h0:l.length=0
 ·have h0':((l.length:Int) == 0)=true:=by rw [beq_iff_eq];omega
  have H:Hid (IsTx l ⟨#[45]⟩):=⟨fun _=>by rw [if_pos (List.length_eq_zero_iff.1 h0)],fun h=>absurd hS h⟩
  clear hS h0
  go_wp2_with fail
  go_ret
  exact ⟨⟨_,rfl,H.out⟩,b1⟩
 have h0':((l.length:Int) == 0)=false:=by rw [beq_eq_false_iff_ne];omega
 have h12:=hS.1
 have HS:Hid (StampP l):=hS
 have hpos:0 < l.length:=by omega
 clear hS h0
 go_wp2_with fail
 go_loopw [3,4] (fun out iv wr=>∃ (k:Nat) (s:ByteArray),k<=l.length∧iv=.int .i64 k∧out=.string s∧s.data.toList=textB (l.take k)∧Below w.heap.size w wr) (fun _ iv _=>l.length - (intOf iv).toNat)
 case atStart=>exact ⟨0,_,Nat.zero_le _,rfl,rfl,by simp [textB,Lib.join_nil],b1⟩
 case round=>
  obtain ⟨k,s,hk,rfl,rfl,hI,hbl⟩:=hrel
  by_cases hlt:k < l.length
  ·obtain ⟨b2,o2,rfl,hlt2,c0,c1⟩:=hr k hlt
   have e0:=cell_on hbl hlt2 c0
   have e1:=cell_on hbl hlt2 c1
   have g2:b2 < wr.heap.size:=Nat.lt_of_lt_of_le hlt2 hbl.size
   have k0:(0:Int)<=(k:Int):=by omega
   have k1:(k:Int) < (l.length:Int):=by omega
   have hM:=HS.out.2.1 k hlt
   have hv1:=hM.2.1
   have hv2:=hM.2.2
   have hn8:=hM.1.2.1
   obtain ⟨V,hV⟩:∃ V:Nat,l[k].2=(V:Int):=⟨l[k].2.toNat,by omega⟩
   have hsz:s.size<=13194139533444:=by
    have h1:=textB_len HS.out.2.1 k hk
    rw [<- hI,size_list] at h1
    omega
   have hdl:=decDigits_len _ V (Nat.le_refl _)
   have hdz:(⟨(Lib.decDigits V).toArray⟩:ByteArray).size=(Lib.decDigits V).length:=by
    show (Lib.decDigits V).toArray.size=_
    simp
   have HW:Hid (wordB l[k]=l[k].1.data.toList ++ 58 :: Lib.decDigits V):=by unfold Hid wordB;rw [hV];rfl
   rw [hV] at e1 hv1 hv2
   have cd:∀ n:Lat wr,Calls Tryz.prog 109 #[.int .i64 (V:Int)] n.w fun e w''=>e=.returned (.string ⟨(Lib.decDigits V).toArray⟩)∧Below n.w.heap.size n.w w'':=fun n=>l1Dec_exact V n.w (by omega) (by omega)
   obtain ⟨D,hD⟩:∃ D:ByteArray,(⟨(Lib.decDigits V).toArray⟩:ByteArray)=D:=⟨_,rfl⟩
   rw [hD] at cd hdz
   have HDD:Hid (D.data.toList=Lib.decDigits V):=by rw [Hid,<- hD]
   have hDs:D.size<=1099511627777:=by omega
   have q0:∀ n:Lat wr,n.w.cell? ⟨b2,o2 + k * 2,none⟩=some (.string l[k].1):=fun n=>n.cell g2 e0
   have q1:∀ n:Lat wr,n.w.cell? ⟨b2,o2 + k * 2 + 1,none⟩=some (.int .i64 (V:Int)):=fun n=>n.cell g2 e1
   have hne:=Lat.some wr
   have HI:Hid (s.data.toList=textB (l.take k)):=hI
   clear hI hM hV hD hdl hdz
   by_cases hk0:0 < k
   ·have HSN:Hid (textB (l.take (k + 1))=textB (l.take k) ++ (32 :: wordB l[k])):=textB_snoc hlt hk0
    have hs32:(s ++ (⟨#[32]⟩:ByteArray)).size=s.size + 1:=by rw [ByteArray.size_append];rfl
    have HA:Hid ((s ++ (⟨#[32]⟩:ByteArray)).data.toList=s.data.toList ++ [32]):=toList_append2 _ _
    go_wp2_with fail
    generalize s ++ (⟨#[32]⟩:ByteArray)=s2 at *
    refine wp_region_lat (by kernel_rfl) (by kernel_rfl) ?_
    repeat (go_big_quiet_step ((go_at_call 109;exact Calls.lat_of (cd _))))
    refine wpQuiet_nil ?_
    rintro _ ⟨nq,rfl⟩
    go_wp2_with fail
    refine ⟨⟨k + 1,_,by omega,by go_num,rfl, ?_,hbl.trans (nq.h.mono hbl.size)⟩,by simp [intOf];omega⟩
    rw [HSN.out,HW.out]
    simp only [toList_append2,HA.out,HI.out,HDD.out,List.append_assoc]
    rfl
   ·have HSN:Hid (textB (l.take (k + 1))=wordB l[k]):=by
     obtain rfl:k=0:=by omega
     exact textB_first hlt
    have HS0:Hid (s.data.toList=[]):=by
     rw [Hid,HI.out,show k=0 by omega]
     simp [textB,Lib.join_nil]
    go_wp2_with fail
    refine wp_region_lat (by kernel_rfl) (by kernel_rfl) ?_
    repeat (go_big_quiet_step ((go_at_call 109;exact Calls.lat_of (cd _))))
    refine wpQuiet_nil ?_
    rintro _ ⟨nq,rfl⟩
    go_wp2_with fail
    refine ⟨⟨k + 1,_,by omega,by go_num,rfl, ?_,hbl.trans (nq.h.mono hbl.size)⟩,by simp [intOf];omega⟩
    rw [HSN.out,HW.out]
    simp only [toList_append2,HS0.out,HDD.out,List.append_assoc]
    rfl
  ·have HF:Hid (IsTx l s):=⟨fun _=>by rw [if_neg (fun e=>by rw [e] at hpos;simp at hpos),hI,List.take_of_length_le (by omega)],fun h=>absurd HS.out h⟩
   clear hI
   go_wp2_with fail
   go_ret
   exact ⟨⟨_,rfl,HF.out⟩,hbl⟩
end Go.Proofs.YtpfhegengmlkmacGreatDoor
