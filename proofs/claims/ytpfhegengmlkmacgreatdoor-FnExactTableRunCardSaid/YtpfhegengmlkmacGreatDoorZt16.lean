/- Texts of this claim. -/
import Derived.Test.YtpfhegengmlkmacGreatDoorZt15
namespace Go.Proofs.YtpfhegengmlkmacGreatDoor
open Go.RowKit Go.BigFrame
set_option maxRecDepth 100000
def putL (l:List ItemL) (it:ItemL):List ItemL:=if l.length < 4 then l ++ [it] else l.tail ++ [it]
def TakeP (l:List ItemL) (m:List (ByteArray×Int)):Prop:=∀ h:0 < l.length,AboveP (l[l.length - 1]'(by omega)).2 m
def IsP (l:List ItemL) (x:Int) (m:List (ByteArray×Int)) (r:List ItemL) (c:Int):Prop:=
 (¬ (WinP l∧StampP m∧m≠[])->r=[]∧c=1)∧(WinP l∧StampP m∧m≠[]->¬ TakeP l m->r=l∧c=2)∧(WinP l∧StampP m∧m≠[]->TakeP l m->r=putL l (x,m)∧c=0)
theorem IsP.one {l:List ItemL} {x:Int} {m:List (ByteArray×Int)} {r r':List ItemL} {c c':Int} (h:IsP l x m r c) (h':IsP l x m r' c'):r=r'∧c=c':=by
 by_cases hp:WinP l∧StampP m∧m≠[]
 ·by_cases ht:TakeP l m
  ·exact ⟨(h.2.2 hp ht).1.trans (h'.2.2 hp ht).1.symm,(h.2.2 hp ht).2.trans (h'.2.2 hp ht).2.symm⟩
  ·exact ⟨(h.2.1 hp ht).1.trans (h'.2.1 hp ht).1.symm,(h.2.1 hp ht).2.trans (h'.2.1 hp ht).2.symm⟩
 ·exact ⟨(h.1 hp).1.trans (h'.1 hp).1.symm,(h.1 hp).2.trans (h'.1 hp).2.symm⟩
theorem isP_bad {l:List ItemL} {x:Int} {m:List (ByteArray×Int)} (h:¬ (WinP l∧StampP m∧m≠[])):IsP l x m [] 1:=⟨fun _=>⟨rfl,rfl⟩,fun q=>absurd q h,fun q=>absurd q h⟩
theorem isP_old {l:List ItemL} {x:Int} {m:List (ByteArray×Int)} (h:WinP l∧StampP m∧m≠[]) (ht:¬ TakeP l m):IsP l x m l 2:=⟨fun q=>absurd h q,fun _ _=>⟨rfl,rfl⟩,fun _ q=>absurd q ht⟩
theorem isP_taken {l:List ItemL} {x:Int} {m:List (ByteArray×Int)} (h:WinP l∧StampP m∧m≠[]) (ht:TakeP l m):IsP l x m (putL l (x,m)) 0:=⟨fun q=>absurd h q,fun _ q=>absurd ht q,fun _ _=>⟨rfl,rfl⟩⟩
theorem putL_room {l:List ItemL} {it:ItemL} (h:l.length < 4):putL l it=l ++ [it]:=if_pos h
theorem putL_full {l:List ItemL} {it:ItemL} (h:¬ l.length < 4):putL l it=l.tail ++ [it]:=if_neg h
theorem stamps_put {l:List ItemL} {x:Int} {m:List (ByteArray×Int)} (h:∀ k,(h:k < l.length)->StampP l[k].2) (hm:StampP m):∀ k,(hk:k < (l ++ [(x,m)]).length)->StampP (l ++ [(x,m)])[k].2:=fun k hk=>by
 by_cases e:k < l.length
 ·rw [List.getElem_append_left e];exact h k e
 ·rw [List.getElem_append_right (by omega)]
  simp only [List.getElem_singleton]
  exact hm
theorem stamps_tail {l:List ItemL} (h:∀ k,(h:k < l.length)->StampP l[k].2):∀ k,(hk:k < l.tail.length)->StampP l.tail[k].2:=fun k hk=>by
 rw [List.getElem_tail]
 exact h _ _
theorem GathI.slice {w:World} {B:Nat} {v:Value} {l:List ItemL} (h:GathI w B v l):∃ a n cap,v=.slice a n cap:=by
 obtain ⟨a,cap,rfl,_⟩:=h.len
 exact ⟨_,_,_,rfl⟩
theorem rowI_tail {w:World} {b o:Nat} {l:List ItemL} {it:ItemL} (h:RowI w (some ⟨b,o,none⟩) (l ++ [it])) (h0:0 < l.length):RowI w (some ⟨b,o + 2,none⟩) (l.tail ++ [it]):=fun k hk=>by
 cases l with
 | nil=>simp at h0
 | cons y t=>
  obtain ⟨b',o',ha,hlt,c0,v,c1,hv⟩:=h (k + 1) (by simpa using hk)
  obtain ⟨rfl,rfl⟩:b=b'∧o=o':=by simpa using ha
  have e:o + (k + 1) * 2=o + 2 + k * 2:=by omega
  rw [e] at c0 c1
  exact ⟨b,_,rfl,hlt,by simpa using c0,v,by simpa using c1,by simpa using hv⟩
theorem small_tail {l:List ItemL} {x:Int} {m:List (ByteArray×Int)} (h:Small1 l) (hm:m.length<=1048576) (h4:l.length=4):Small1 (l.tail ++ [(x,m)]):=⟨by simp;omega,fun j hj=>by
 by_cases e:j < l.tail.length
 ·rw [List.getElem_append_left e,List.getElem_tail];exact h.2 _ _
 ·rw [List.getElem_append_right (by omega)]
  simp only [List.getElem_singleton]
  exact hm⟩
def PutE (w':World) (B:Nat) (l:List ItemL) (x:Int) (m:List (ByteArray×Int)) (e:Ending):Prop:=∃ v r c,e=.returned (.tuple #[v,.int .i64 c])∧IsP l x m r c∧GathI w' B v r
set_option maxHeartbeats 3200000 in
theorem implPut_any (a:Option Addr) (cap:Nat) (l:List ItemL) (x:Int) (am:Option Addr) (cm:Nat) (m:List (ByteArray×Int)) (w:World) (hf:FitI l) (hr:RowI w a l) (hfm:FitM m) (hcm:m.length<=cm) (hrm:Row w am m) :
  Calls Tryz.prog 90 #[.slice a l.length cap,.agg #[.int .i64 x,.slice am m.length cm]] w fun e w'=>PutE w' w.heap.size l x m e∧Below w.heap.size w w':=by
 have hl:=hf.1
 unfold maxLen at hl
 have hb0:Below w.heap.size w (w.alloc (.cells #[.int .i64 x,.slice am m.length cm] 44)):=(Below.refl _ _).alloc (Nat.le_refl _) _
 have d0:=box0 w (.int .i64 x) (.slice am m.length cm) 44
 have d1:=box1 w (.int .i64 x) (.slice am m.length cm) 44
 have hlt:=box_lt w (.cells #[.int .i64 x,.slice am m.length cm] 44)
 go_enter Tryz.func90,Tryz.ntmps90
 go_wp2_with fail
 generalize w.alloc (.cells #[.int .i64 x,.slice am m.length cm] 44)=W1 at *
 refine (readWindow_any a cap l _ hf (hr.below hb0)).mono ?_
 rintro e w2 ⟨hE,b2⟩
 have B2:Below w.heap.size w w2:=hb0.trans (b2.mono hb0.size)
 have BW:Below W1.heap.size W1 w2:=b2
 have hzW:=BW.size
 have hrm1:=hrm.below hb0
 have hz1:=hb0.size
 replace d0:=cell_on b2 hlt d0
 replace d1:=cell_on b2 hlt d1
 have hlt2:w.heap.size < w2.heap.size:=Nat.lt_of_lt_of_le hlt b2.size
 clear hb0 b2 hrm
 rcases hE with ⟨v,rfl,hp,hv⟩ | ⟨v,rfl,hp,hv⟩
 ·have HP:Hid (WinP l):=hp
  clear hp
  obtain ⟨x0,x1,x2,x3,a0,a1,a2,a3,n0,n1,n2,n3,c0,c1,c2,c3,rfl,hw⟩:=hv.laid
  have hW:=hw w2 BW.size
  have hbx:Below w2.heap.size w2 (w2.alloc (.cells #[.int .i64 x0,.slice a0 n0 c0,.int .i64 x1,.slice a1 n1 c1,.int .i64 x2,.slice a2 n2 c2,.int .i64 x3,.slice a3 n3 c3,.int .i64 0,.int .i64 l.length] 190)):=(Below.refl _ _).alloc (Nat.le_refl _) _
  have B3:=B2.trans (hbx.mono B2.size)
  have BW3:=BW.trans (hbx.mono BW.size)
  have D0:Hid _:=cell_on hbx hlt2 d0
  have D1:Hid _:=cell_on hbx hlt2 d1
  have hlt3:w.heap.size < (w2.alloc (.cells #[.int .i64 x0,.slice a0 n0 c0,.int .i64 x1,.slice a1 n1 c1,.int .i64 x2,.slice a2 n2 c2,.int .i64 x3,.slice a3 n3 c3,.int .i64 0,.int .i64 l.length] 190)).heap.size:=Nat.lt_of_lt_of_le hlt2 hbx.size
  clear hw hv hbx
  go_wp2_with fail
  have e0:=D0.out
  have e1:=D1.out
  clear D0 D1 d0 d1
  generalize w2.alloc (.cells #[.int .i64 x0,.slice a0 n0 c0,.int .i64 x1,.slice a1 n1 c1,.int .i64 x2,.slice a2 n2 c2,.int .i64 x3,.slice a3 n3 c3,.int .i64 0,.int .i64 l.length] 190)=W3 at *
  clear B2 BW
  refine (itemOk_any x am cm m _ (hrm1.below BW3) hfm).mono ?_
  rintro e w4 ⟨⟨r,rfl,hr4⟩,b4⟩
  have HR4:Hid (r=true↔StampP m∧m≠[]):=hr4
  have B4:Below w.heap.size w w4:=B3.trans (b4.mono B3.size)
  have BW4:Below W1.heap.size W1 w4:=BW3.trans (b4.mono BW3.size)
  replace e0:=cell_on b4 hlt3 e0
  replace e1:=cell_on b4 hlt3 e1
  replace hW:=hW.below b4
  have hlt4:w.heap.size < w4.heap.size:=Nat.lt_of_lt_of_le hlt3 b4.size
  clear hr4 b4 B3 BW3
  cases r
  ·have HN:Hid (¬ (WinP l∧StampP m∧m≠[])):=fun h=>by simpa using HR4.out.2 h.2
   clear HR4
   go_wp2_with fail
   exact bodyPost_ret (v:=.tuple #[.slice none 0 0,.int .i64 1]) (by simp [results,Tryz.results90,go_sem]) rfl ⟨⟨_,[],1,rfl,isP_bad HN.out,gathI_none _ _⟩,B4⟩
  ·have HM:Hid (WinP l∧StampP m∧m≠[]):=⟨HP.out,HR4.out.1 rfl⟩
   have HSL:Hid (∀ k,(h:k < l.length)->StampP l[k].2):=fun k h=>(HP.out.2.1 k h).1
   clear HR4
   go_wp2_with fail
   refine (takes_any W1 w4 _ 0 l x _ m hW BW4 HSL.out ⟨am,cm,rfl,hcm,hrm1⟩ HM.out.2.1).mono ?_
   rintro e w5 ⟨⟨r,rfl,hr5⟩,b5⟩
   have HR5:Hid (r=true↔TakeP l m):=hr5
   have B5:Below w.heap.size w w5:=B4.trans (b5.mono B4.size)
   have BW5:Below W1.heap.size W1 w5:=BW4.trans (b5.mono BW4.size)
   replace e0:=cell_on b5 hlt4 e0
   replace e1:=cell_on b5 hlt4 e1
   replace hW:=hW.below b5
   have hz5:=B5.size
   clear hr5 b5 B4 BW4
   cases r
   ·have HN:Hid (¬ TakeP l m):=fun h=>by simpa using HR5.out.2 h
    clear HR5
    go_wp2_with fail
    refine (items_any W1 w5 _ 0 l hW BW5 HSL.out).mono ?_
    rintro e w6 ⟨⟨v,rfl,hg⟩,b6⟩
    have B6:Below w.heap.size w w6:=B5.trans (b6.mono B5.size)
    obtain ⟨ag,cg,rfl,_⟩:=hg.len
    have HG:Hid (GathI w6 w5.heap.size (.slice ag l.length cg) l):=hg
    clear hg b6 B5 e0 e1 hW
    go_wp2_with fail
    exact bodyPost_ret (v:=.tuple #[.slice ag l.length cg,.int .i64 2]) (by simp [results,Tryz.results90,go_sem]) rfl ⟨⟨_,l,2,rfl,isP_old HM.out HN.out,HG.out.lower hz5⟩,B6⟩
   ·have HT:Hid (TakeP l m):=HR5.out.1 (by trivial)
    clear HR5
    by_cases h4:l.length < 4
    ·have HPL:Hid (putL l (x,m)=l ++ [(x,m)]):=putL_room h4
     have HS6:Hid (∀ k,(h:k < (l ++ [(x,m)]).length)->StampP (l ++ [(x,m)])[k].2):=stamps_put HSL.out HM.out.2.1
     go_wp2_with fail
     refine (push_room W1 w5 _ 0 l x _ m hW ⟨am,cm,rfl,hcm,hrm1⟩ h4).mono ?_
     rintro e w6 ⟨rfl,hW6,b6⟩
     have B6:Below w.heap.size w w6:=B5.trans (b6.below (by omega) hz5)
     have BW6:Below W1.heap.size W1 w6:=BW5.trans (b6.below (by omega) BW5.size)
     have hz6:=B6.size
     clear b6 B5 BW5 e0 e1 hW
     go_wp2_with fail
     refine (items_any W1 w6 _ 0 (l ++ [(x,m)]) hW6 BW6 HS6.out).mono ?_
     rintro e w7 ⟨⟨v,rfl,hg⟩,b7⟩
     have B7:Below w.heap.size w w7:=B6.trans (b7.mono B6.size)
     obtain ⟨ag,q,cg,rfl⟩:=hg.slice
     have HG:Hid (GathI w7 w6.heap.size (.slice ag q cg) (l ++ [(x,m)])):=hg
     clear hg b7 B6 hW6
     go_wp2_with fail
     exact bodyPost_ret (v:=.tuple #[.slice ag q cg,.int .i64 0]) (by simp [results,Tryz.results90,go_sem]) rfl ⟨⟨_,l ++ [(x,m)],0,rfl,by rw [<- HPL.out];exact isP_taken HM.out HT.out,HG.out.lower hz6⟩,B7⟩
    ·have HPL:Hid (putL l (x,m)=l.tail ++ [(x,m)]):=putL_full h4
     have HS6:Hid (∀ k,(h:k < (l.tail ++ [(x,m)]).length)->StampP (l.tail ++ [(x,m)])[k].2):=stamps_put (stamps_tail HSL.out) HM.out.2.1
     go_wp2_with fail
     refine (push_full W1 w5 _ 0 l x _ m hW ⟨am,cm,rfl,hcm,hrm1⟩ (by have:=HP.out.1;omega)).mono ?_
     rintro e w6 ⟨rfl,hW6,b6⟩
     have B6:Below w.heap.size w w6:=B5.trans (b6.below (by omega) hz5)
     have BW6:Below W1.heap.size W1 w6:=BW5.trans (b6.below (by omega) BW5.size)
     have hz6:=B6.size
     clear b6 B5 BW5 e0 e1 hW
     go_wp2_with fail
     refine (items_any W1 w6 _ ((0 + 1) % 4) (l.tail ++ [(x,m)]) hW6 BW6 HS6.out).mono ?_
     rintro e w7 ⟨⟨v,rfl,hg⟩,b7⟩
     have B7:Below w.heap.size w w7:=B6.trans (b7.mono B6.size)
     obtain ⟨ag,q,cg,rfl⟩:=hg.slice
     have HG:Hid (GathI w7 w6.heap.size (.slice ag q cg) (l.tail ++ [(x,m)])):=hg
     clear hg b7 B6 hW6
     go_wp2_with fail
     exact bodyPost_ret (v:=.tuple #[.slice ag q cg,.int .i64 0]) (by simp [results,Tryz.results90,go_sem]) rfl ⟨⟨_,l.tail ++ [(x,m)],0,rfl,by rw [<- HPL.out];exact isP_taken HM.out HT.out,HG.out.lower hz6⟩,B7⟩
 ·have HN:Hid (¬ (WinP l∧StampP m∧m≠[])):=fun h=>hp h.1
  obtain ⟨x0,x1,x2,x3,a0,a1,a2,a3,n0,n1,n2,n3,c0,c1,c2,c3,rfl,hw⟩:=hv.laid
  clear hp hv hw
  go_wp2_with fail
  exact bodyPost_ret (v:=.tuple #[.slice none 0 0,.int .i64 1]) (by simp [results,Tryz.results90,go_sem]) rfl ⟨⟨_,[],1,rfl,isP_bad HN.out,gathI_none _ _⟩,B2.alloc B2.size _⟩
set_option maxHeartbeats 3200000 in
theorem specPut_any (a:Option Addr) (cap:Nat) (l:List ItemL) (x:Int) (am:Option Addr) (cm:Nat) (m:List (ByteArray×Int)) (w:World) (hf:FitI l) (hr:RowI w a l) (hfm:FitM m) (hrm:Row w am m) :
  Calls Tryz.prog 42 #[.slice a l.length cap,.agg #[.int .i64 x,.slice am m.length cm]] w fun e w'=>PutE w' w.heap.size l x m e∧Below w.heap.size w w':=by
 have hl:=hf.1
 unfold maxLen at hl
 have hb0:Below w.heap.size w (w.alloc (.cells #[.int .i64 x,.slice am m.length cm] 44)):=(Below.refl _ _).alloc (Nat.le_refl _) _
 have d0:=box0 w (.int .i64 x) (.slice am m.length cm) 44
 have d1:=box1 w (.int .i64 x) (.slice am m.length cm) 44
 have hlt:=box_lt w (.cells #[.int .i64 x,.slice am m.length cm] 44)
 go_enter Tryz.func42,Tryz.ntmps42
 go_wp2_with fail
 generalize w.alloc (.cells #[.int .i64 x,.slice am m.length cm] 44)=W1 at *
 refine (specWinOk_any a cap l _ hf (hr.below hb0)).mono ?_
 rintro e w2 ⟨⟨r,rfl,hr2⟩,b2⟩
 have HR2:Hid (r=true↔WinP l):=hr2
 have B2:Below w.heap.size w w2:=hb0.trans (b2.mono hb0.size)
 replace d0:=cell_on b2 hlt d0
 replace d1:=cell_on b2 hlt d1
 have hlt2:w.heap.size < w2.heap.size:=Nat.lt_of_lt_of_le hlt b2.size
 clear hb0 b2 hr2 hlt
 cases r
 ·have HN:Hid (¬ (WinP l∧StampP m∧m≠[])):=fun h=>by simpa using HR2.out.2 h.1
  clear HR2
  go_wp2_with fail
  exact bodyPost_ret (v:=.tuple #[.slice none 0 0,.int .i64 1]) (by simp [results,Tryz.results42,go_sem]) rfl ⟨⟨_,[],1,rfl,isP_bad HN.out,gathI_none _ _⟩,B2⟩
 have HP:Hid (WinP l):=HR2.out.1 rfl
 clear HR2
 go_wp2_with fail
 refine (specOk_b am cm m _ hfm.1 (hrm.below B2) hfm.2).mono ?_
 rintro e w3 ⟨⟨r,rfl,hr3⟩,b3⟩
 have HR3:Hid (r=true↔StampP m):=hr3
 have B3:Below w.heap.size w w3:=B2.trans (b3.mono B2.size)
 replace d0:=cell_on b3 hlt2 d0
 replace d1:=cell_on b3 hlt2 d1
 have hlt3:w.heap.size < w3.heap.size:=Nat.lt_of_lt_of_le hlt2 b3.size
 clear b3 hr3 hlt2 B2
 cases r
 ·have HN:Hid (¬ (WinP l∧StampP m∧m≠[])):=fun h=>by simpa using HR3.out.2 h.2.1
  clear HR3
  go_wp2_with fail
  exact bodyPost_ret (v:=.tuple #[.slice none 0 0,.int .i64 1]) (by simp [results,Tryz.results42,go_sem]) rfl ⟨⟨_,[],1,rfl,isP_bad HN.out,gathI_none _ _⟩,B3⟩
 have HSM:Hid (StampP m):=HR3.out.1 rfl
 clear HR3
 by_cases hz:m.length=0
 ·have hz':((m.length:Int) == 0)=true:=by rw [beq_iff_eq];omega
  have HN:Hid (¬ (WinP l∧StampP m∧m≠[])):=fun h=>h.2.2 (List.length_eq_zero_iff.1 hz)
  clear hz
  go_wp2_with fail
  exact bodyPost_ret (v:=.tuple #[.slice none 0 0,.int .i64 1]) (by simp [results,Tryz.results42,go_sem]) rfl ⟨⟨_,[],1,rfl,isP_bad HN.out,gathI_none _ _⟩,B3⟩
 have hz':((m.length:Int) == 0)=false:=by rw [beq_eq_false_iff_ne];omega
 have HM:Hid (WinP l∧StampP m∧m≠[]):=⟨HP.out,HSM.out,fun e=>hz (by rw [e];rfl)⟩
 clear hz HSM
 go_wp2_with fail
 refine (l2Items_any a cap l _ (win_small HP.out) (hr.below B3)).mono ?_
 rintro e w4 ⟨⟨v,rfl,hg⟩,b4⟩
 have B4:Below w.heap.size w w4:=B3.trans (b4.mono B3.size)
 replace d0:=cell_on b4 hlt3 d0
 replace d1:=cell_on b4 hlt3 d1
 have hlt4:w.heap.size < w4.heap.size:=Nat.lt_of_lt_of_le hlt3 b4.size
 have hz3:=B3.size
 have hz4:=b4.size
 obtain ⟨ag,cg,rfl,hcg⟩:=hg.len
 clear b4 B3
 by_cases h0:0 < l.length
 ·obtain ⟨b,o,rfl,hblt,f0,v,f1,⟨s2,t2,rfl,_,r2⟩⟩:=hr (l.length - 1) (by omega)
  have fk:=hf.2 (l.length - 1) (by omega)
  have k3:(0:Int)<=(l.length:Int) - 1:=by omega
  have hkm:((l.length:Int) - 1)=((l.length - 1:Nat):Int):=by omega
  obtain ⟨q,hq⟩:∃ q:Bool,q=true↔AboveP (l[l.length - 1]'(by omega)).2 m:=boolOf _
  have HQ:Hid (q=true↔TakeP l m):=⟨fun h _=>hq.1 h,fun h=>hq.2 (h h0)⟩
  have HQ':Hid (q=true↔AboveP (l[l.length - 1]'(by omega)).2 m):=hq
  have g0:=cell_on B4 hblt f0
  have g1:=cell_on B4 hblt f1
  have hb4:b < w4.heap.size:=Nat.lt_of_lt_of_le hblt B4.size
  have hne:=Lat.some w4
  have r4:=r2.below B4
  have rm4:=hrm.below B4
  have ce:∀ n:Lat w4,Calls Tryz.prog 82 #[.agg #[.int .i64 (l[l.length - 1]'(by omega)).1,.slice s2 (l[l.length - 1]'(by omega)).2.length t2],.agg #[.int .i64 x,.slice am m.length cm]] n.w fun e w''=>e=.returned (.bool q)∧Below n.w.heap.size n.w w'':=fun n=>
   (l2Above_any _ _ s2 am t2 cm _ _ n.w fk hfm (r4.below n.h) (rm4.below n.h)).mono fun _ _ ⟨⟨q',he,hq'⟩,hb'⟩=>⟨by rw [he,show q'=q by rw [Bool.eq_iff_iff,hq',HQ'.out]],hb'⟩
  have q0:∀ n:Lat w4,n.w.cell? ⟨b,o + (l.length - 1) * 2,none⟩=some (.int .i64 (l[l.length - 1]'(by omega)).1):=fun n=>n.cell hb4 g0
  have q1:∀ n:Lat w4,n.w.cell? ⟨b,o + (l.length - 1) * 2 + 1,none⟩=some (.slice s2 (l[l.length - 1]'(by omega)).2.length t2):=fun n=>n.cell hb4 g1
  have q2:∀ n:Lat w4,n.w.cell? ⟨w.heap.size,0,none⟩=some (.int .i64 x):=fun n=>n.cell hlt4 d0
  have q3:∀ n:Lat w4,n.w.cell? ⟨w.heap.size,1,none⟩=some (.slice am m.length cm):=fun n=>n.cell hlt4 d1
  clear hq f0 f1
  go_wp2_with fail
  refine wp_region_lat (by kernel_rfl) (by kernel_rfl) ?_
  repeat (go_big_quiet_step ((go_at_call 82;exact Calls.lat_of (ce _))))
  refine wpQuiet_nil ?_
  rintro _ ⟨nq,rfl⟩
  have B5:Below w.heap.size w nq.w:=B4.trans (nq.h.mono B4.size)
  have hg5:=hg.keep nq.h
  have hz45:=nq.h.size
  have e0:=q2 nq
  have e1:=q3 nq
  clear ce q0 q1 q2 q3 hg g0 g1 HQ' r4 rm4
  cases q
  ·have HN:Hid (¬ TakeP l m):=fun h=>by simpa using HQ.out.2 h
   have HG:Hid (GathI nq.w w3.heap.size (.slice ag l.length cg) l):=hg5
   clear HQ hg5
   go_wp2_with fail
   exact bodyPost_ret (v:=.tuple #[.slice ag l.length cg,.int .i64 2]) (by simp [results,Tryz.results42,go_sem]) rfl ⟨⟨_,l,2,rfl,isP_old HM.out HN.out,HG.out.lower hz3⟩,B5⟩
  ·have HT:Hid (TakeP l m):=HQ.out.1 rfl
   clear HQ
   go_wp2_with fail
   have SW:((nq.w).drew).cell? ⟨w.heap.size,0,none⟩=some (.int .i64 x)∧((nq.w).drew).cell? ⟨w.heap.size,1,none⟩=some (.slice am m.length cm):=⟨e0,e1⟩
   have hz5:=B5.size
   have rm5:=hrm.below B5
   have hbd:Below (nq.w).heap.size (nq.w) (nq.w).drew:=(Below.refl _ _).drew
   have hm12:m.length<=1048576:=by have:=HM.out.2.1.1;omega
   have hll:l.length<=1048576:=by have:=HP.out.1;omega
   refine wp_region_held_drew (S:=fun u=>u.cell? ⟨w.heap.size,0,none⟩=some (.int .i64 x)∧u.cell? ⟨w.heap.size,1,none⟩=some (.slice am m.length cm)) (by kernel_rfl) SW (fun _=>?_)
   refine wpAnyH_take (i:=0) (v:=.slice ag l.length cg) rfl (by kernel_rfl) (by kernel_rfl) (by kernel_rfl) (fun _ _ _ h=>h) (Or.inl ⟨by rfl, ?_⟩) SW ?_
   ·rintro u ⟨q1,q2⟩
    go_simp
   simp only [Act.put,List.setIfInBounds_toArray]
   refine wpAnyH_take (i:=1) (v:=.pointer (some ⟨w.heap.size,0,none⟩)) rfl (by kernel_rfl) (by kernel_rfl) (by kernel_rfl) (fun _ _ _ h=>h) (Or.inl ⟨by rfl, ?_⟩) SW ?_
   ·rintro u ⟨q1,q2⟩
    go_simp
   simp only [Act.put]
   refine wpAnyH_take (i:=2) (v:=.int .i64 x) rfl (by kernel_rfl) (by kernel_rfl) (by kernel_rfl) (fun _ _ _ h=>h) (Or.inl ⟨by rfl, ?_⟩) SW ?_
   ·rintro u ⟨q1,q2⟩
    go_simp
   simp only [Act.put]
   refine wpAnyH_take (i:=3) (v:=.pointer (some ⟨w.heap.size,1,none⟩)) rfl (by kernel_rfl) (by kernel_rfl) (by kernel_rfl) (fun _ _ _ h=>h) (Or.inl ⟨by rfl, ?_⟩) SW ?_
   ·rintro u ⟨q1,q2⟩
    go_simp
   simp only [Act.put]
   refine wpAnyH_take (i:=4) (v:=.slice am m.length cm) rfl (by kernel_rfl) (by kernel_rfl) (by kernel_rfl) (fun _ _ _ h=>h) (Or.inl ⟨by rfl, ?_⟩) SW ?_
   ·rintro u ⟨q1,q2⟩
    go_simp
   simp only [Act.put]
   refine wpAnyH_ready (rs:=[5]) (by kernel_rfl) (by simp) ?_
   refine AllReadyH.cons rfl (fun K hK=>?_) AllReadyH.nil
   rw [if_pos (by rfl)]
   go_simp
   refine (l2Marks_any am cm m _ (rm5.below hbd) hm12).mono ?_
   rintro e w6 ⟨⟨gm,cq,rfl,hgm,hcm,ho⟩,b6⟩
   have b6':Below (nq.w).heap.size (nq.w) w6:=hbd.trans (b6.mono hbd.size)
   have B6:Below w.heap.size w w6:=B5.trans (b6'.mono hz5)
   have hgm':(nq.w).heap.size<=gm:=hgm
   have hw5:w.heap.size < (nq.w).heap.size:=block_lt_of_cell e0
   have S2:w6.cell? ⟨w.heap.size,0,none⟩=some (.int .i64 x)∧w6.cell? ⟨w.heap.size,1,none⟩=some (.slice am m.length cm):=⟨cell_on b6' hw5 e0,cell_on b6' hw5 e1⟩
   refine hK.out _ _ S2 (fun _=>?_)
   clear hK K b6 SW hbd
   refine wpAnyH_take (i:=6) (v:=.agg #[.int .i64 x,.slice (some ⟨gm,0,none⟩) m.length cq]) rfl (by kernel_rfl) (by kernel_rfl) (by kernel_rfl) (fun _ _ _ h=>h) (Or.inl ⟨by rfl, ?_⟩) S2 ?_
   ·rintro u ⟨q1,q2⟩
    go_simp
   simp only [Act.put,List.setIfInBounds_toArray]
   refine wpAnyH_ready (rs:=[7]) (by kernel_rfl) (by simp) ?_
   refine AllReadyH.cons rfl (fun K hK=>?_) AllReadyH.nil
   rw [if_pos (by rfl)]
   go_simp
   have b7:Below (nq.w).heap.size (nq.w) (w6.alloc (.cells #[.int .i64 x,.slice (some ⟨gm,0,none⟩) m.length cq] 44)):=b6'.alloc b6'.size _
   have S3:(w6.alloc (.cells #[.int .i64 x,.slice (some ⟨gm,0,none⟩) m.length cq] 44)).cell? ⟨w.heap.size,0,none⟩=some (.int .i64 x)∧(w6.alloc (.cells #[.int .i64 x,.slice (some ⟨gm,0,none⟩) m.length cq] 44)).cell? ⟨w.heap.size,1,none⟩=some (.slice am m.length cm):=⟨cell_on b7 hw5 e0,cell_on b7 hw5 e1⟩
   have hbx:Below w6.heap.size w6 (w6.alloc (.cells #[.int .i64 x,.slice (some ⟨gm,0,none⟩) m.length cq] 44)):=(Below.refl _ _).alloc (Nat.le_refl _) _
   have B7:Below w.heap.size w (w6.alloc (.cells #[.int .i64 x,.slice (some ⟨gm,0,none⟩) m.length cq] 44)):=B6.trans (hbx.mono B6.size)
   refine hK.out _ _ S3 (fun _=>?_)
   clear hK K
   refine wpAnyH_ready (rs:=[8]) (by kernel_rfl) (by simp) ?_
   refine AllReadyH.cons rfl (fun K hK=>?_) AllReadyH.nil
   rw [if_pos (by rfl)]
   refine wp_append_item _ _ rfl (nq.w) w3.heap.size _ l rfl hg5 b7 (by omega) w6.heap.size x m gm cq rfl (box0 _ _ _ _) (box1 _ _ _ _) (ho.below hbx) hgm' hcm hll ?_
   intro v' w8 hg8 b8
   have B8:Below w.heap.size w w8:=B7.trans (b8.mono hz3)
   have S4:w8.cell? ⟨w.heap.size,0,none⟩=some (.int .i64 x)∧w8.cell? ⟨w.heap.size,1,none⟩=some (.slice am m.length cm):=⟨(b8.cell (p:=⟨w.heap.size,0,none⟩) hlt3).trans S3.1,(b8.cell (p:=⟨w.heap.size,1,none⟩) hlt3).trans S3.2⟩
   refine hK.out _ _ S4 (fun _=>?_)
   clear hK K
   refine wpAnyH_ready (rs:=[9]) (by kernel_rfl) (by simp) ?_
   refine AllReadyH.cons rfl (fun K hK=>?_) AllReadyH.nil
   rw [if_pos (by rfl)]
   go_simp
   refine hK.out _ _ S4 (fun _=>?_)
   clear hK K
   refine wpAnyH_done (by kernel_rfl) ?_ _
   obtain ⟨a8,c8,rfl,hc8⟩:=hg8.len
   clear S2 S3 S4 b6' b7 b8 hbx B6 B7 ho e0 e1 hg5 rm5
   have hlen:(l ++ [(x,m)]).length=l.length + 1:=by simp
   rw [hlen] at hg8
   rw [hlen]
   have hcl:(((l.length + 1:Nat):Int))=(l.length:Int) + 1:=by omega
   by_cases h4:l.length < 4
   ·have HPL:Hid (putL l (x,m)=l ++ [(x,m)]):=putL_room h4
    have HG:Hid (GathI w8 w3.heap.size (.slice a8 (l.length + 1) c8) (l ++ [(x,m)])):=hg8
    clear hg8 hlen hc8
    go_wp2_with fail
    exact bodyPost_ret (v:=.tuple #[.slice a8 (l.length + 1) c8,.int .i64 0]) (by simp [results,Tryz.results42,go_sem]) rfl ⟨⟨_,l ++ [(x,m)],0,rfl,by rw [<- HPL.out];exact isP_taken HM.out HT.out,HG.out.lower hz3⟩,B8⟩
   ·have HPL:Hid (putL l (x,m)=l.tail ++ [(x,m)]):=putL_full h4
    have h4':l.length=4:=by have:=HP.out.1;omega
    obtain ⟨ga,gc,hge,_,hsa⟩:=hg8.safe
    obtain ⟨rfl,rfl⟩:a8=ga∧c8=gc:=by
     rw [hlen] at hge
     simpa using hge
    obtain ⟨g8,rfl⟩:∃ g8,a8=some ⟨g8,0,none⟩:=by
     rcases hsa with hs | ⟨g,hg,_⟩
     ·simp at hs
     ·exact ⟨g,hg⟩
    have hrt:=rowI_tail (l:=l) hsa.row (by omega)
    have hsm:Small1 (l.tail ++ [(x,m)]):=small_tail (win_small HP.out) hm12 h4'
    have hlt':(l.tail ++ [(x,m)]).length=4:=by simp;omega
    rw [hlen] at hc8
    clear hg8 hlen hsa hge
    go_wp2_with fail
    have hcall:=l2Items_any (some ⟨g8,2,none⟩) (c8 - 1) (l.tail ++ [(x,m)]) w8 hsm hrt
    rw [hlt'] at hcall
    refine hcall.mono ?_
    rintro e w9 ⟨⟨v,rfl,hg9⟩,b9⟩
    have B9:Below w.heap.size w w9:=B8.trans (b9.mono B8.size)
    have hz8:=B8.size
    obtain ⟨a9,q9,c9,rfl⟩:=hg9.slice
    have HG:Hid (GathI w9 w8.heap.size (.slice a9 q9 c9) (l.tail ++ [(x,m)])):=hg9
    clear hg9 b9 hcall hrt hsm
    go_wp2_with fail
    exact bodyPost_ret (v:=.tuple #[.slice a9 q9 c9,.int .i64 0]) (by simp [results,Tryz.results42,go_sem]) rfl ⟨⟨_,l.tail ++ [(x,m)],0,rfl,by rw [<- HPL.out];exact isP_taken HM.out HT.out,HG.out.lower hz8⟩,B9⟩
 ·obtain rfl:l=[]:=List.length_eq_zero_iff.1 (by omega)
  have HT:Hid (TakeP [] m):=fun h=>absurd h (by simp)
  go_wp2_with fail
  go_quiet (fail)
  go_wp2_with fail
  have b5:Below w4.heap.size w4 (w4.drewN nq):=below_drewN (Below.refl _ _) _
  have e0:=cell_on b5 hlt4 d0
  have e1:=cell_on b5 hlt4 d1
  replace hg:=hg.keep b5
  replace B4:=B4.trans (b5.mono B4.size)
  have hz45:=b5.size
  generalize w4.drewN nq=W5 at *
  clear b5 d0 d1
  have SW:((W5).drew).cell? ⟨w.heap.size,0,none⟩=some (.int .i64 x)∧((W5).drew).cell? ⟨w.heap.size,1,none⟩=some (.slice am m.length cm):=⟨e0,e1⟩
  have hz5:=B4.size
  have rm5:=hrm.below B4
  have hbd:Below (W5).heap.size (W5) (W5).drew:=(Below.refl _ _).drew
  have hm12:m.length<=1048576:=by have:=HM.out.2.1.1;omega
  have hll:([]:List ItemL).length<=1048576:=by simp
  refine wp_region_held_drew (S:=fun u=>u.cell? ⟨w.heap.size,0,none⟩=some (.int .i64 x)∧u.cell? ⟨w.heap.size,1,none⟩=some (.slice am m.length cm)) (by kernel_rfl) SW (fun _=>?_)
  refine wpAnyH_take (i:=0) (v:=.slice ag 0 cg) rfl (by kernel_rfl) (by kernel_rfl) (by kernel_rfl) (fun _ _ _ h=>h) (Or.inl ⟨by rfl, ?_⟩) SW ?_
  ·rintro u ⟨q1,q2⟩
   go_simp
  simp only [Act.put,List.setIfInBounds_toArray]
  refine wpAnyH_take (i:=1) (v:=.pointer (some ⟨w.heap.size,0,none⟩)) rfl (by kernel_rfl) (by kernel_rfl) (by kernel_rfl) (fun _ _ _ h=>h) (Or.inl ⟨by rfl, ?_⟩) SW ?_
  ·rintro u ⟨q1,q2⟩
   go_simp
  simp only [Act.put]
  refine wpAnyH_take (i:=2) (v:=.int .i64 x) rfl (by kernel_rfl) (by kernel_rfl) (by kernel_rfl) (fun _ _ _ h=>h) (Or.inl ⟨by rfl, ?_⟩) SW ?_
  ·rintro u ⟨q1,q2⟩
   go_simp
  simp only [Act.put]
  refine wpAnyH_take (i:=3) (v:=.pointer (some ⟨w.heap.size,1,none⟩)) rfl (by kernel_rfl) (by kernel_rfl) (by kernel_rfl) (fun _ _ _ h=>h) (Or.inl ⟨by rfl, ?_⟩) SW ?_
  ·rintro u ⟨q1,q2⟩
   go_simp
  simp only [Act.put]
  refine wpAnyH_take (i:=4) (v:=.slice am m.length cm) rfl (by kernel_rfl) (by kernel_rfl) (by kernel_rfl) (fun _ _ _ h=>h) (Or.inl ⟨by rfl, ?_⟩) SW ?_
  ·rintro u ⟨q1,q2⟩
   go_simp
  simp only [Act.put]
  refine wpAnyH_ready (rs:=[5]) (by kernel_rfl) (by simp) ?_
  refine AllReadyH.cons rfl (fun K hK=>?_) AllReadyH.nil
  rw [if_pos (by rfl)]
  go_simp
  refine (l2Marks_any am cm m _ (rm5.below hbd) hm12).mono ?_
  rintro e w6 ⟨⟨gm,cq,rfl,hgm,hcm,ho⟩,b6⟩
  have b6':Below (W5).heap.size (W5) w6:=hbd.trans (b6.mono hbd.size)
  have B6:Below w.heap.size w w6:=B4.trans (b6'.mono hz5)
  have hgm':(W5).heap.size<=gm:=hgm
  have hw5:w.heap.size < (W5).heap.size:=block_lt_of_cell e0
  have S2:w6.cell? ⟨w.heap.size,0,none⟩=some (.int .i64 x)∧w6.cell? ⟨w.heap.size,1,none⟩=some (.slice am m.length cm):=⟨cell_on b6' hw5 e0,cell_on b6' hw5 e1⟩
  refine hK.out _ _ S2 (fun _=>?_)
  clear hK K b6 SW hbd
  refine wpAnyH_take (i:=6) (v:=.agg #[.int .i64 x,.slice (some ⟨gm,0,none⟩) m.length cq]) rfl (by kernel_rfl) (by kernel_rfl) (by kernel_rfl) (fun _ _ _ h=>h) (Or.inl ⟨by rfl, ?_⟩) S2 ?_
  ·rintro u ⟨q1,q2⟩
   go_simp
  simp only [Act.put,List.setIfInBounds_toArray]
  refine wpAnyH_ready (rs:=[7]) (by kernel_rfl) (by simp) ?_
  refine AllReadyH.cons rfl (fun K hK=>?_) AllReadyH.nil
  rw [if_pos (by rfl)]
  go_simp
  have b7:Below (W5).heap.size (W5) (w6.alloc (.cells #[.int .i64 x,.slice (some ⟨gm,0,none⟩) m.length cq] 44)):=b6'.alloc b6'.size _
  have S3:(w6.alloc (.cells #[.int .i64 x,.slice (some ⟨gm,0,none⟩) m.length cq] 44)).cell? ⟨w.heap.size,0,none⟩=some (.int .i64 x)∧(w6.alloc (.cells #[.int .i64 x,.slice (some ⟨gm,0,none⟩) m.length cq] 44)).cell? ⟨w.heap.size,1,none⟩=some (.slice am m.length cm):=⟨cell_on b7 hw5 e0,cell_on b7 hw5 e1⟩
  have hbx:Below w6.heap.size w6 (w6.alloc (.cells #[.int .i64 x,.slice (some ⟨gm,0,none⟩) m.length cq] 44)):=(Below.refl _ _).alloc (Nat.le_refl _) _
  have B7:Below w.heap.size w (w6.alloc (.cells #[.int .i64 x,.slice (some ⟨gm,0,none⟩) m.length cq] 44)):=B6.trans (hbx.mono B6.size)
  refine hK.out _ _ S3 (fun _=>?_)
  clear hK K
  refine wpAnyH_ready (rs:=[8]) (by kernel_rfl) (by simp) ?_
  refine AllReadyH.cons rfl (fun K hK=>?_) AllReadyH.nil
  rw [if_pos (by rfl)]
  refine wp_append_item _ _ rfl (W5) w3.heap.size _ [] rfl hg b7 (by omega) w6.heap.size x m gm cq rfl (box0 _ _ _ _) (box1 _ _ _ _) (ho.below hbx) hgm' hcm hll ?_
  intro v' w8 hg8 b8
  have B8:Below w.heap.size w w8:=B7.trans (b8.mono hz3)
  have S4:w8.cell? ⟨w.heap.size,0,none⟩=some (.int .i64 x)∧w8.cell? ⟨w.heap.size,1,none⟩=some (.slice am m.length cm):=⟨(b8.cell (p:=⟨w.heap.size,0,none⟩) hlt3).trans S3.1,(b8.cell (p:=⟨w.heap.size,1,none⟩) hlt3).trans S3.2⟩
  refine hK.out _ _ S4 (fun _=>?_)
  clear hK K
  refine wpAnyH_ready (rs:=[9]) (by kernel_rfl) (by simp) ?_
  refine AllReadyH.cons rfl (fun K hK=>?_) AllReadyH.nil
  rw [if_pos (by rfl)]
  go_simp
  refine hK.out _ _ S4 (fun _=>?_)
  clear hK K
  refine wpAnyH_done (by kernel_rfl) ?_ _
  obtain ⟨a8,c8,rfl,hc8⟩:=hg8.len
  clear S2 S3 S4 b6' b7 b8 hbx B6 B7 ho e0 e1 hg rm5
  have HPL:Hid (putL [] (x,m)=[] ++ [(x,m)]):=putL_room (by simp)
  have HG:Hid (GathI w8 w3.heap.size (.slice a8 1 c8) ([] ++ [(x,m)])):=hg8
  clear hg8 hc8
  go_wp2_with fail
  exact bodyPost_ret (v:=.tuple #[.slice a8 1 c8,.int .i64 0]) (by simp [results,Tryz.results42,go_sem]) rfl ⟨⟨_,[] ++ [(x,m)],0,rfl,by rw [<- HPL.out];exact isP_taken HM.out HT.out,HG.out.lower hz3⟩,B8⟩
def StampsP (l:List ItemL):Prop:=l.length<=5∧∀ j,(hj:j < l.length)->StampP l[j].2
theorem StampsP.fit {l:List ItemL} (h:StampsP l):FitI l:=⟨by have:=h.1;unfold maxLen;omega,fun j hj=>stamp_fit (h.2 j hj)⟩
theorem StampsP.small {l:List ItemL} (h:StampsP l):Small1 l:=⟨by have:=h.1;omega,fun j hj=>by have:=(h.2 j hj).1;omega⟩
theorem isP_stamps {l:List ItemL} {x:Int} {m:List (ByteArray×Int)} {r:List ItemL} {c:Int} (h:IsP l x m r c):StampsP r:=by
 by_cases hp:WinP l∧StampP m∧m≠[]
 ·have hs:∀ k,(h:k < l.length)->StampP l[k].2:=fun k hk=>(hp.1.2.1 k hk).1
  have h4:=hp.1.1
  by_cases ht:TakeP l m
  ·rw [(h.2.2 hp ht).1]
   unfold putL
   split
   ·exact ⟨by simp;omega,stamps_put hs hp.2.1⟩
   ·exact ⟨by simp;omega,stamps_put (stamps_tail hs) hp.2.1⟩
  ·rw [(h.2.1 hp ht).1]
   exact ⟨by omega,hs⟩
 ·rw [(h.1 hp).1]
  exact ⟨by simp,fun j hj=>absurd hj (Nat.not_lt_zero j)⟩
end Go.Proofs.YtpfhegengmlkmacGreatDoor
