/- Texts of this claim. -/
import Derived.WalkMore
import Derived.Deep.LoopGhost
import Derived.ArgAppend
import Derived.Test.YtpfhegengmlkmacGreatDoorZt24
import Derived.Test.YtpfhegengmlkmacGreatDoorZt32
namespace Go.Proofs.YtpfhegengmlkmacGreatDoor
open Go.RowKit Go.BigFrame
set_option maxRecDepth 100000
def UpP (ws:List (List ItemL)) (ps:List Int):Prop:=∀ q,ChP ws q->∀ i,(hq:i < q.length)->(ho:i < ps.length)->q[i]<=ps[i]
def farM:List Int->Nat
 | []=>0
 | x :: r=>x.toNat + farM r
theorem farM_set:∀ (l:List Int) (i:Nat) (h:i < l.length),0 < l[i]->farM (l.set i (l[i] - 1)) < farM l
 | x :: r,0,_,h0=>by
  simp only [List.getElem_cons_zero] at h0
  simp only [List.set_cons_zero,farM,List.getElem_cons_zero]
  omega
 | x :: r,i + 1,h,h0=>by
  have:=farM_set r i (by simpa using h) (by simpa using h0)
  simp only [List.getElem_cons_succ,List.set_cons_succ,farM]
  omega
theorem lasts_up {ws:List (List ItemL)}:UpP ws (lastsM ws):=fun q hc i hq ho=>by
 have h1:=hc.2.2.1.2 i hq
 have hw:i < ws.length:=by rw [<- hc.2.1];exact hq
 have e:ws.getD i []=ws[i]:=by simp [List.getD,hw]
 rw [e] at h1
 simp only [lastsM,List.getElem_map]
 omega
theorem up_back {ws:List (List ItemL)} {ps:List Int} {sh:List (List Spot)} (hok:OkW ws) (hl:ps.length=ws.length) (hin:InW ws ps) (hsh:SharedP ws sh) (hub:UpP ws ps) {src:List Spot} (hs:src∈sh) {p:Spot} (hp:p∈src) {x:Int} (hx:∃ r∈src,x=verM ws ps r) (hle:x<=verM ws ps p) (hne:¬ verM ws ps p=x) (hw:p.1 < ps.length) :
  (ps[p.1]=0->∀ q,¬ ChP ws q)∧(¬ ps[p.1]=0->InW ws (ps.set p.1 (ps[p.1] - 1))∧UpP ws (ps.set p.1 (ps[p.1] - 1))∧farM (ps.set p.1 (ps[p.1] - 1)) < farM ps):=by
 obtain ⟨r,hr,e⟩:=hx
 have key:=step_back hok hl hin hsh hub hs hp hr (by omega)
 have h0:=hin.2 p.1 hw
 refine ⟨fun hz q hq=>?_,fun hz=>⟨⟨by rw [List.length_set];exact hin.1,fun i hi=>?_⟩,fun q hq i hiq hio=>?_,farM_set ps p.1 hw (by omega)⟩⟩
 ·have h1:=key q hq (by rw [hq.2.1];omega) hw
  have h2:=hq.2.2.1.2 p.1 (by rw [hq.2.1];omega)
  omega
 ·have hi':i < ps.length:=by simpa using hi
  by_cases e2:i=p.1
  ·subst e2
   rw [List.getElem_set_self]
   omega
  ·rw [List.getElem_set_ne (fun h=>e2 h.symm)]
   exact hin.2 i hi'
 ·have hi':i < ps.length:=by simpa using hio
  by_cases e2:i=p.1
  ·subst e2
   rw [List.getElem_set_self]
   have:=key q hq hiq hw
   omega
  ·rw [List.getElem_set_ne (fun h=>e2 h.symm)]
   exact hub q hq i hiq hi'
def BesE (w w':World) (ws:List (List ItemL)) (e:Ending):Prop:=(∃ g c out,e=.returned (.tuple #[.slice (some ⟨g,0,none⟩) out.length c,.bool true])∧BestP ws out true∧w.heap.size<=g∧NumB w' g out)∨(e=.returned (.tuple #[.slice none 0 0,.bool false])∧BestP ws [] false)
set_option maxHeartbeats 3200000 in
theorem greatest_any (W0 w:World) (b:Nat) (ws:List (List ItemL)) (sh:List (List Spot)) (h:ChB W0 w b ws sh) (hW:Below W0.heap.size W0 w) (hok:OkW ws) (hsh:ShW ws sh) :
  Calls Tryz.prog 138 #[.pointer (some ⟨b,0,none⟩)] w fun e w'=>BesE w w' ws e∧Below w.heap.size w w':=by
 have HOK:Hid (OkW ws):=hok
 have HSH:Hid (ShW ws sh):=hsh
 have HC:Hid (ChB W0 w b ws sh):=h
 have h6:=hok.2.1
 have hshl:=hsh.2.2
 clear hok hsh
 go_enter Tryz.func138,Tryz.ntmps138
 go_wp2_with fail
 go_step3
 go_wp2_with fail
 refine (lasts_any W0 w b ws sh HC.out HOK.out).mono ?_
 rintro e w1 ⟨⟨g,c,ok,rfl,hok2,hge,hnb⟩,b1⟩
 have HR:Hid (ok=true↔InW ws (lastsM ws)):=hok2
 clear hok2
 cases ok with
 | false=>
  have HN:Hid (BestP ws [] false):=.inr ⟨rfl,rfl,fun q hq=>by
   have:InW ws (lastsM ws):=⟨by rw [lastsM_len];exact Nat.le_refl _,fun i hi=>by
    have hi':i < ws.length:=by simpa [lastsM_len] using hi
    have h1:=hq.2.2.1.2 i (by rw [hq.2.1];exact hi')
    have e:ws.getD i []=ws[i]:=by simp [List.getD,hi']
    rw [e] at h1 ⊢
    simp only [lastsM,List.getElem_map]
    omega⟩
   have:=HR.out.2 this
   simp at this⟩
  go_wp2_with fail
  try rw [Exit.noGoto_ret]
  exact bodyPost_ret (v:=.tuple #[.slice none 0 0,.bool false]) (by simp [results,Tryz.results138,go_sem]) rfl ⟨.inr ⟨rfl,HN.out⟩,b1⟩
 | true=>
  have HIN:Hid (InW ws (lastsM ws)):=HR.out.1 rfl
  clear HR
  go_wp2_with fail
  go_step3
  go_wp2_with fail
  go_loopg [23] (farM (lastsM ws)) (fun gk u wr=>∃ ps:List Int,farM ps<=gk∧ps.length=ws.length∧Hid (InW ws ps)∧Hid (UpP ws ps)∧NumB wr g ps∧Below w.heap.size w wr)
  case atStart=>exact ⟨lastsM ws,Nat.le_refl _,lastsM_len ws,HIN,lasts_up,hnb,b1⟩
  case round=>
   clear HIN hnb b1
   obtain ⟨ps,hfar,hlen,HIN,HUP,hnb,hbl⟩:=hrel
   have HLEN:Hid (ps.length=ws.length):=hlen
   clear hlen
   have hcb:=HC.out.below hbl
   obtain ⟨hbb,va,vc,va',vc',e0,_,e1,_,_,hg⟩:=id hcb
   have hWr:Below W0.heap.size W0 wr:=hW.trans (hbl.mono hW.size)
   go_wp2_with fail
   go_loopw [23] (fun i wr2=>∃ k:Nat,k<=sh.length∧i=.int .i64 k∧Hid (∀ j,(h:j < sh.length)->j < k->SameTo ws ps sh[j] sh[j].length)∧Below wr.heap.size wr wr2) (fun i _=>sh.length - (intOf i).toNat)
   case atStart=>exact ⟨0,Nat.zero_le _,rfl,fun _ _ h=>absurd h (Nat.not_lt_zero _),Below.refl _ _⟩
   case round=>
    obtain ⟨k,hk,rfl,HI,hbl2⟩:=hrel
    by_cases hlt:k < sh.length
    ·obtain ⟨b1,o1,rfl,hb1,s1,t1,f1,ht1,hpr⟩:=hg.below hbl2 k hlt
     have k0:(0:Int)<=(k:Int):=by omega
     have k1:(k:Int) < (sh.length:Int):=by omega
     have hsrc:=HSH.out.2.1 sh[k] (List.getElem_mem hlt)
     have hs1:=hsrc.1
     have hs2:=hsrc.2
     have hmem:sh[k]∈sh:=List.getElem_mem hlt
     have hnb2:=hnb.below hbl2
     have hle:=least_any W0 _ b ws sh (some ⟨g,0,none⟩) s1 c t1 ps sh[k] (hcb.below hbl2) (hWr.trans (hbl2.mono hWr.size)) HOK.out HLEN.out HIN.out hnb2.row HSH.out hmem hpr
     rw [HLEN.out] at hle
     clear hsrc
     go_wp2_with fail
     refine hle.mono ?_
     rintro e w3 ⟨⟨x,rfl,hx1,hx2⟩,b3⟩
     have HX:Hid ((∀ p∈sh[k],x<=verM ws ps p)∧∃ p∈sh[k],x=verM ws ps p):=⟨hx1,hx2⟩
     have B3:=hbl2.trans (b3.mono hbl2.size)
     clear hle hx1 hx2 hnb2
     go_wp2_with fail
     have hpr3:=hpr.below b3
     have hnb3:=hnb.below B3
     have hcb3:=hcb.below B3
     have BW3:=hbl.trans (B3.mono hbl.size)
     clear hnb hcb hpr b3 hbl2 f1 hg e0 e1
     go_loopw [33] (fun i3 wr3=>∃ j:Nat,j<=sh[k].length∧i3=.int .i64 j∧Hid (∀ i,(h:i < sh[k].length)->i < j->verM ws ps sh[k][i]=x)∧Below w3.heap.size w3 wr3) (fun i3 _=>sh[k].length - (intOf i3).toNat)
     case atStart=>exact ⟨0,Nat.zero_le _,rfl,fun _ _ h=>absurd h (Nat.not_lt_zero _),Below.refl _ _⟩
     case round=>
      obtain ⟨j,hj,rfl,HJ,hbl3⟩:=hrel
      by_cases hjlt:j < sh[k].length
      ·obtain ⟨b2,o2,rfl,hb2,f2,f3⟩:=hpr3.below hbl3 j hjlt
       have j0:(0:Int)<=(j:Int):=by omega
       have j1:(j:Int) < (sh[k].length:Int):=by omega
       obtain ⟨sn,hall⟩:=HSH.out.1.1 sh[k] hmem
       have hspot:=hall sh[k][j] (List.getElem_mem hjlt)
       obtain ⟨hpw,hpp,_⟩:=ver_facts HOK.out HLEN.out HIN.out hspot
       have hback:=up_back HOK.out HLEN.out HIN.out HSH.out.1 HUP.out hmem (List.getElem_mem hjlt) HX.out.2 (HX.out.1 _ (List.getElem_mem hjlt))
       have HBK:Hid (∀ hne:¬ verM ws ps sh[k][j]=x,(ps[sh[k][j].1]=0->∀ q,¬ ChP ws q)∧(¬ ps[sh[k][j].1]=0->InW ws (ps.set sh[k][j].1 (ps[sh[k][j].1] - 1))∧UpP ws (ps.set sh[k][j].1 (ps[sh[k][j].1] - 1))∧farM (ps.set sh[k][j].1 (ps[sh[k][j].1] - 1)) < farM ps)):=fun hne=>hback hne hpp
       clear hback
       have hb0:Below wr.heap.size wr (wr.alloc (.cells #[.int .i64 (sh[k][j].1:Int),.int .i64 (sh[k][j].2:Int)] 245)):=(Below.refl _ _).alloc (Nat.le_refl _) _
       have hlt0:=box_lt wr (.cells #[.int .i64 (sh[k][j].1:Int),.int .i64 (sh[k][j].2:Int)] 245)
       have d0:=box0 wr (.int .i64 (sh[k][j].1:Int)) (.int .i64 (sh[k][j].2:Int)) 245
       have hcb4:=(hcb3.below hbl3).below hb0
       have hnb4:=(hnb3.below hbl3).below hb0
       have BW:=(BW3.trans (hbl3.mono BW3.size))
       have BW4:=BW.trans (hb0.mono BW.size)
       have hver:=version_any W0 _ b ws sh (some ⟨g,0,none⟩) c ps sh[k][j] sn hcb4 (hW.trans (BW4.mono hW.size)) HOK.out HLEN.out HIN.out hnb4.row hspot
       rw [HLEN.out] at hver
       clear hcb4
       go_wp2_with fail
       generalize wr.alloc (.cells #[.int .i64 (sh[k][j].1:Int),.int .i64 (sh[k][j].2:Int)] 245)=W at *
       refine hver.mono ?_
       rintro e w5 ⟨rfl,b5⟩
       have hnb5:=hnb4.below b5
       have d5:=cell_on b5 hlt0 d0
       have BW5:=BW4.trans (b5.mono BW4.size)
       have hbl5:=(hbl3.trans (hb0.mono hbl3.size)).trans (b5.mono (Nat.le_trans hbl3.size hb0.size))
       clear hver hnb4 d0
       by_cases he:verM ws ps sh[k][j]=x
       ·have HJ2:Hid (∀ i,(h:i < sh[k].length)->i < j + 1->verM ws ps sh[k][i]=x):=fun i hi hlt'=>by
         by_cases e:i=j
         ·subst e;exact he
         ·exact HJ.out i hi (by omega)
        have he':(verM ws ps sh[k][j] == x)=true:=by rw [beq_iff_eq];exact he
        clear he HBK
        go_wp2_with fail
        exact ⟨⟨j + 1,by omega,by go_num,HJ2,hbl5⟩,by simp [intOf];omega⟩
       ·have hb2k:=HBK.out he
        have he':(verM ws ps sh[k][j] == x)=false:=by rw [beq_eq_false_iff_ne];exact he
        have p0:=hnb5.cell hpp
        have p1:=hnb5.frozen sh[k][j].1
        have i0:(0:Int)<=(sh[k][j].1:Int):=by omega
        have i1:(sh[k][j].1:Int) < (ws.length:Int):=by omega
        clear HBK he
        by_cases hz:ps[sh[k][j].1]=0
        ·have HN:Hid (BestP ws [] false):=.inr ⟨rfl,rfl,hb2k.1 hz⟩
         have hz':(ps[sh[k][j].1] == 0)=true:=by rw [beq_iff_eq];exact hz
         clear hb2k hz
         go_wp2_with fail
         try rw [Exit.noGoto_ret]
         exact bodyPost_ret (v:=.tuple #[.slice none 0 0,.bool false]) (by simp [results,Tryz.results138,go_sem]) rfl ⟨.inr ⟨rfl,HN.out⟩,BW5⟩
        ·have HBB:Hid (InW ws (ps.set sh[k][j].1 (ps[sh[k][j].1] - 1))∧UpP ws (ps.set sh[k][j].1 (ps[sh[k][j].1] - 1))∧farM (ps.set sh[k][j].1 (ps[sh[k][j].1] - 1)) < farM ps):=hb2k.2 hz
         have hz':(ps[sh[k][j].1] == 0)=false:=by rw [beq_eq_false_iff_ne];exact hz
         have hpos:0<=ps[sh[k][j].1]∧ps[sh[k][j].1]<=4:=by
          have h3:=HIN.out.2 _ hpp
          have e3:ws.getD sh[k][j].1 []=ws[sh[k][j].1]:=by simp [List.getD,hpw]
          rw [e3] at h3
          have:=(HOK.out.2.2 _ hpw).1
          omega
         have q0:=hpos.1
         have q1:=hpos.2
         clear hb2k hz hpos
         go_wp2_with fail
         go_roundg (farM (ps.set sh[k][j].1 (ps[sh[k][j].1] - 1)))
         case measure=>have:=HBB.out.2.2;omega
         case rel=>exact ⟨ps.set sh[k][j].1 (ps[sh[k][j].1] - 1),Nat.le_refl _,by rw [List.length_set];exact HLEN.out,HBB.out.1,HBB.out.2.1,hnb5.set _ _,BW5.setCell hge _⟩
      ·have HI2:Hid (∀ q,(h:q < sh.length)->q < k + 1->SameTo ws ps sh[q] sh[q].length):=fun q hq hlt'=>by
        by_cases e:q=k
        ·subst e
         exact fun i hi _ h0=>by rw [HJ.out i hi (by omega),HJ.out 0 h0 (by omega)]
        ·exact HI.out q hq (by omega)
       go_wp2_with fail
       exact ⟨⟨k + 1,by omega,by go_num,HI2,B3.trans (hbl3.mono B3.size)⟩,by simp [intOf];omega⟩
    ·have HA:Hid (AgW ws ps):=agW_same HOK.out HLEN.out HIN.out HSH.out.1 (fun j hj=>HI.out j hj (by omega))
     have HB:Hid (BestP ws ps true):=.inl ⟨rfl,⟨HOK.out,HLEN.out,HIN.out,HA.out⟩,HUP.out⟩
     go_wp2_with fail
     try rw [Exit.noGoto_ret]
     exact bodyPost_ret (v:=.tuple #[.slice (some ⟨g,0,none⟩) ps.length c,.bool true]) (by simp [results,Tryz.results138,go_sem,HLEN.out]) rfl ⟨.inl ⟨g,c,ps,rfl,HB.out,hge,hnb.below hbl2⟩,hbl.trans (hbl2.mono hbl.size)⟩
set_option maxHeartbeats 800000 in
theorem implCB_any (a:Option Addr) (cap:Nat) (ws:List (List ItemL)) (w:World) (hf:FitW ws) (hr:RowW w a ws) :
  Calls Tryz.prog 96 #[.slice a ws.length cap] w fun e w'=>BesE w w' ws e∧Below w.heap.size w w':=by
 go_enter Tryz.func96,Tryz.ntmps96
 go_wp2_with fail
 refine (readChoices_any a cap ws _ hf hr).mono ?_
 rintro e w1 ⟨hE,b1⟩
 rcases hE with ⟨a1,c1,a2,c2,sh,rfl,hok,hc1,hc2,hrv,hrg,hsw⟩ | ⟨rfl,hno⟩
 ·have HOK:Hid (OkW ws):=hok
  have HSW:Hid (ShW ws sh):=hsw
  clear hok hsw
  have hcb:=chB_new hrv hrg hc1 hc2
  have hbx:Below w1.heap.size w1 (w1.alloc (.cells #[.slice a1 ws.length c1,.slice a2 sh.length c2] 213)):=(Below.refl _ _).alloc (Nat.le_refl _) _
  have BX:Below w.heap.size w (w1.alloc (.cells #[.slice a1 ws.length c1,.slice a2 sh.length c2] 213)):=b1.trans (hbx.mono b1.size)
  go_wp2_with fail
  generalize w1.alloc (.cells #[.slice a1 ws.length c1,.slice a2 sh.length c2] 213)=W at *
  refine (greatest_any w W w1.heap.size ws sh hcb BX HOK.out HSW.out).mono ?_
  rintro e w2 ⟨hB,b2⟩
  have B2:Below w.heap.size w w2:=BX.trans (b2.mono BX.size)
  rcases hB with ⟨g,c,out,rfl,hbest,hge,hnb⟩ | ⟨rfl,hbest⟩
  ·have HB:Hid (BestP ws out true):=hbest
   clear hbest
   go_wp2_with fail
   exact bodyPost_ret (v:=.tuple #[.slice (some ⟨g,0,none⟩) out.length c,.bool true]) (by simp [results,Tryz.results96,go_sem]) rfl ⟨.inl ⟨g,c,out,rfl,HB.out,Nat.le_trans BX.size hge,hnb⟩,B2⟩
  ·have HB:Hid (BestP ws [] false):=hbest
   clear hbest
   go_wp2_with fail
   exact bodyPost_ret (v:=.tuple #[.slice none 0 0,.bool false]) (by simp [results,Tryz.results96,go_sem]) rfl ⟨.inr ⟨rfl,HB.out⟩,B2⟩
 ·have HN:Hid (BestP ws [] false):=none_best (.inl hno)
  clear hno
  go_wp2_with fail
  exact bodyPost_ret (v:=.tuple #[.slice none 0 0,.bool false]) (by simp [results,Tryz.results96,go_sem]) rfl ⟨.inr ⟨rfl,HN.out⟩,b1.alloc b1.size _⟩
theorem gath_row {w:World} {B:Nat} {v:Value} {l:List (ByteArray×Int)} (h:Gath w B v l):∃ a c,v=.slice a l.length c∧l.length<=c∧Row w a l:=by
 obtain ⟨a,c,rfl,hr⟩:=h.shape
 refine ⟨a,c,rfl, ?_,hr⟩
 rcases h.2 with ⟨e,h0⟩ | ⟨g,cap,cur,e,_,_,hn,_⟩
 ·omega
 ·cases e
  exact hn
set_option maxHeartbeats 1600000 in
theorem specCJ_any (a a':Option Addr) (cap cap':Nat) (ws:List (List ItemL)) (ps:List Int) (w:World) (hf:FitW ws) (hr:RowW w a ws) (hp:ps.length<=maxLen) (hr':RowZ w a' ps) :
  Calls Tryz.prog 45 #[.slice a ws.length cap,.slice a' ps.length cap'] w fun e w'=>(∃ v m ok,e=.returned (.tuple #[v,.bool ok])∧Gath w' w.heap.size v m∧IsCJ ws ps m ok)∧Below w.heap.size w w':=by
 go_enter Tryz.func45,Tryz.ntmps45
 go_wp2_with fail
 refine (specChoiceAgrees_any a cap ws a' cap' ps _ hf hr hp hr').mono ?_
 rintro e w1 ⟨⟨r,rfl,hr1⟩,b1⟩
 have HR:Hid (r=true↔ChP ws ps):=hr1
 clear hr1
 cases r with
 | false=>
  have HN:Hid (¬ ChP ws ps):=fun h=>by have:=HR.out.2 h;simp at this
  go_wp2_with fail
  exact bodyPost_ret (v:=.tuple #[.slice none 0 0,.bool false]) (by simp [results,Tryz.results45,go_sem]) rfl ⟨⟨_,[],false,rfl,Gath.none _ _,.inr ⟨rfl,rfl,.inl HN.out⟩⟩,b1⟩
 | true=>
  have HC:Hid (ChP ws ps):=HR.out.1 rfl
  have hl6:=HC.out.1.2.1
  have hlp:=HC.out.2.1
  have hpl:ps.length<=6:=by omega
  clear HR hlp
  go_wp2_with fail
  go_loopw [6,7] (fun out i wr=>∃ (k:Nat) (m:List (ByteArray×Int)),k<=ps.length∧i=.int .i64 k∧Gath wr w.heap.size out m∧Hid (JoinsTo ws ps k m)∧Below w.heap.size w wr) (fun _ i _=>ps.length - (intOf i).toNat)
  case atStart=>exact ⟨0,[],Nat.zero_le _,rfl,Gath.none _ _,rfl,b1⟩
  case round=>
   obtain ⟨k,m,hk,rfl,hg,HJ,hbl⟩:=hrel
   by_cases hlt:k < ps.length
   ·obtain ⟨hkw,q,hqe,hq,hpk⟩:=in_nat HC.out.2.2.1 hlt
    obtain ⟨b1,o1,rfl,g1,s1,t1,f1,_,r1⟩:=hr.below hbl k hkw
    obtain ⟨b2,o2,rfl,g2,f2⟩:=hr'.below hbl k hlt
    rw [hqe] at f2
    obtain ⟨b3,o3,rfl,g3,_,vv,f3,⟨sa,sc,rfl,hsc,rm⟩⟩:=r1 q hq
    have hfm:=(hf.2 k hkw).2 q hq
    have k0:(0:Int)<=(k:Int):=by omega
    have k1:(k:Int) < (ps.length:Int):=by omega
    have k2:(k:Int) < (ws.length:Int):=by omega
    have q0:(0:Int)<=(q:Int):=by omega
    have q1:(q:Int) < (ws[k].length:Int):=by omega
    have HPK:Hid (pkM ws ps k=(ws[k][q]).2):=hpk
    have hst:=HJ.out.stamp
    have hm12:=hst.1
    have HMS:Hid (∀ j,(h:j < m.length)->m[j].1.size<=maxLen):=fun j hj=>by have:=(hst.2.1 j hj).1.2.1;unfold maxLen;omega
    obtain ⟨oa,oc,rfl,_,horow⟩:=gath_row hg
    clear hqe hpk hst
    have SW:(wr.drew).cell? ⟨b1,o1 + k,none⟩=some (.slice (some ⟨b3,o3,none⟩) ws[k].length t1)∧(wr.drew).cell? ⟨b2,o2 + k,none⟩=some (.int .i64 (q:Int))∧(wr.drew).cell? ⟨b3,o3 + q * 2 + 1,none⟩=some (.slice sa (ws[k][q]).2.length sc):=⟨f1,f2,f3⟩
    go_wp2_with fail
    refine wp_region_held_drew (S:=fun u=>u.cell? ⟨b1,o1 + k,none⟩=some (.slice (some ⟨b3,o3,none⟩) ws[k].length t1)∧u.cell? ⟨b2,o2 + k,none⟩=some (.int .i64 (q:Int))∧u.cell? ⟨b3,o3 + q * 2 + 1,none⟩=some (.slice sa (ws[k][q]).2.length sc)) (by kernel_rfl) SW (fun _=>?_)
    refine wpAnyH_take (i:=0) (v:=.slice oa m.length oc) rfl (by kernel_rfl) (by kernel_rfl) (by kernel_rfl) (fun _ _ _ h=>h) (Or.inl ⟨by rfl, ?_⟩) SW ?_
    ·rintro u ⟨q1,q2,q3⟩
     go_simp
    simp only [Act.put,List.setIfInBounds_toArray]
    refine wpAnyH_take (i:=1) (v:=.slice (some ⟨b1,o1,none⟩) ws.length cap) rfl (by kernel_rfl) (by kernel_rfl) (by kernel_rfl) (fun _ _ _ h=>h) (Or.inl ⟨by rfl, ?_⟩) SW ?_
    ·rintro u ⟨q1,q2,q3⟩
     go_simp
    simp only [Act.put]
    refine wpAnyH_take (i:=2) (v:=.int .i64 k) rfl (by kernel_rfl) (by kernel_rfl) (by kernel_rfl) (fun _ _ _ h=>h) (Or.inl ⟨by rfl, ?_⟩) SW ?_
    ·rintro u ⟨q1,q2,q3⟩
     go_simp
    simp only [Act.put]
    refine wpAnyH_take (i:=3) (v:=.pointer (some ⟨b1,o1 + k,none⟩)) rfl (by kernel_rfl) (by kernel_rfl) (by kernel_rfl) (fun _ _ _ h=>h) (Or.inl ⟨by rfl, ?_⟩) SW ?_
    ·rintro u ⟨q1,q2,q3⟩
     go_simp
    simp only [Act.put]
    refine wpAnyH_take (i:=4) (v:=.slice (some ⟨b3,o3,none⟩) ws[k].length t1) rfl (by kernel_rfl) (by kernel_rfl) (by kernel_rfl) (fun _ _ _ h=>h) (Or.inl ⟨by rfl, ?_⟩) SW ?_
    ·rintro u ⟨q1,q2,q3⟩
     go_simp
    simp only [Act.put]
    refine wpAnyH_take (i:=5) (v:=.slice (some ⟨b2,o2,none⟩) ps.length cap') rfl (by kernel_rfl) (by kernel_rfl) (by kernel_rfl) (fun _ _ _ h=>h) (Or.inl ⟨by rfl, ?_⟩) SW ?_
    ·rintro u ⟨q1,q2,q3⟩
     go_simp
    simp only [Act.put]
    refine wpAnyH_take (i:=6) (v:=.int .i64 k) rfl (by kernel_rfl) (by kernel_rfl) (by kernel_rfl) (fun _ _ _ h=>h) (Or.inl ⟨by rfl, ?_⟩) SW ?_
    ·rintro u ⟨q1,q2,q3⟩
     go_simp
    simp only [Act.put]
    refine wpAnyH_take (i:=7) (v:=.pointer (some ⟨b2,o2 + k,none⟩)) rfl (by kernel_rfl) (by kernel_rfl) (by kernel_rfl) (fun _ _ _ h=>h) (Or.inl ⟨by rfl, ?_⟩) SW ?_
    ·rintro u ⟨q1,q2,q3⟩
     go_simp
    simp only [Act.put]
    refine wpAnyH_take (i:=8) (v:=.int .i64 q) rfl (by kernel_rfl) (by kernel_rfl) (by kernel_rfl) (fun _ _ _ h=>h) (Or.inl ⟨by rfl, ?_⟩) SW ?_
    ·rintro u ⟨q1,q2,q3⟩
     go_simp
    simp only [Act.put]
    refine wpAnyH_take (i:=9) (v:=.pointer (some ⟨b3,o3 + q * 2,none⟩)) rfl (by kernel_rfl) (by kernel_rfl) (by kernel_rfl) (fun _ _ _ h=>h) (Or.inl ⟨by rfl, ?_⟩) SW ?_
    ·rintro u ⟨q1,q2,q3⟩
     go_simp
    simp only [Act.put]
    refine wpAnyH_take (i:=10) (v:=.pointer (some ⟨b3,o3 + q * 2 + 1,none⟩)) rfl (by kernel_rfl) (by kernel_rfl) (by kernel_rfl) (fun _ _ _ h=>h) (Or.inl ⟨by rfl, ?_⟩) SW ?_
    ·rintro u ⟨q1,q2,q3⟩
     go_simp
    simp only [Act.put]
    refine wpAnyH_take (i:=11) (v:=.slice sa (ws[k][q]).2.length sc) rfl (by kernel_rfl) (by kernel_rfl) (by kernel_rfl) (fun _ _ _ h=>h) (Or.inl ⟨by rfl, ?_⟩) SW ?_
    ·rintro u ⟨q1,q2,q3⟩
     go_simp
    simp only [Act.put]
    refine wpAnyH_ready (rs:=[12]) (by kernel_rfl) (by simp) ?_
    refine AllReadyH.cons rfl (fun K hK=>?_) AllReadyH.nil
    rw [if_pos (by rfl)]
    go_simp
    have hbd:Below wr.heap.size wr wr.drew:=(Below.refl _ _).drew
    refine (specJoin_any oa sa oc sc m (ws[k][q]).2 _ (by unfold maxLen;omega) hfm.1 (horow.below hbd) (rm.below hbd) HMS.out hfm.2).mono ?_
    rintro e w2 ⟨⟨v2,m2,ok2,rfl,hg2,hj2⟩,b2'⟩
    obtain ⟨va,vc,rfl,_,_⟩:=gath_row hg2
    rw [<- HPK.out] at hj2
    have HJ2:Hid (IsJ m (pkM ws ps k) m2 ok2):=hj2
    clear hj2
    have b2d:Below wr.heap.size wr w2:=hbd.trans (b2'.mono hbd.size)
    have B2:Below w.heap.size w w2:=hbl.trans (b2d.mono hbl.size)
    have S2:w2.cell? ⟨b1,o1 + k,none⟩=some (.slice (some ⟨b3,o3,none⟩) ws[k].length t1)∧w2.cell? ⟨b2,o2 + k,none⟩=some (.int .i64 (q:Int))∧w2.cell? ⟨b3,o3 + q * 2 + 1,none⟩=some (.slice sa (ws[k][q]).2.length sc):=⟨cell_on b2d g1 f1,cell_on b2d g2 f2,cell_on b2d g3 f3⟩
    refine hK.out _ _ S2 (fun _=>?_)
    clear hK K SW
    refine wpAnyH_take (i:=13) (v:=.tuple #[.slice va m2.length vc,.bool ok2]) rfl (by kernel_rfl) (by kernel_rfl) (by kernel_rfl) (fun _ _ _ h=>h) (Or.inl ⟨by rfl, ?_⟩) S2 ?_
    ·rintro u ⟨q1,q2,q3⟩
     go_simp
    simp only [Act.put,List.setIfInBounds_toArray]
    refine wpAnyH_take (i:=14) (v:=.slice va m2.length vc) rfl (by kernel_rfl) (by kernel_rfl) (by kernel_rfl) (fun _ _ _ h=>h) (Or.inl ⟨by rfl, ?_⟩) S2 ?_
    ·rintro u ⟨q1,q2,q3⟩
     go_simp
    simp only [Act.put]
    refine wpAnyH_take (i:=15) (v:=.bool ok2) rfl (by kernel_rfl) (by kernel_rfl) (by kernel_rfl) (fun _ _ _ h=>h) (Or.inl ⟨by rfl, ?_⟩) S2 ?_
    ·rintro u ⟨q1,q2,q3⟩
     go_simp
    simp only [Act.put]
    refine wpAnyH_ready (rs:=[16]) (by kernel_rfl) (by simp) ?_
    refine AllReadyH.cons rfl (fun K hK=>?_) AllReadyH.nil
    rw [if_pos (by rfl)]
    go_simp
    refine hK.out _ _ S2 (fun _=>?_)
    clear hK K
    refine wpAnyH_ready (rs:=[17]) (by kernel_rfl) (by simp) ?_
    refine AllReadyH.cons rfl (fun K hK=>?_) AllReadyH.nil
    rw [if_pos (by rfl)]
    go_simp
    refine hK.out _ _ S2 (fun _=>?_)
    clear hK K
    refine wpAnyH_done (by kernel_rfl) ?_ _
    clear S2
    cases ok2 with
    | false=>
     have HF:Hid (IsCJ ws ps [] false):=.inr ⟨rfl,rfl,.inr ⟨k,m,m2,hlt,HJ.out,HJ2.out⟩⟩
     go_wp2_with fail
     exact bodyPost_ret (v:=.tuple #[.slice none 0 0,.bool false]) (by simp [results,Tryz.results45,go_sem]) rfl ⟨⟨_,[],false,rfl,Gath.none _ _,HF.out⟩,B2⟩
    | true=>
     have HST:Hid (JoinsTo ws ps (k + 1) m2):=⟨m,HJ.out,HJ2.out⟩
     go_wp2_with fail
     exact ⟨⟨k + 1,m2,by omega,by go_num,hg2.lower hbl.size,HST,B2⟩,by simp [intOf];omega⟩
   ·have HF:Hid (IsCJ ws ps m true):=.inl ⟨rfl,HC.out,by
     have e:k=ps.length:=by omega
     rw [<- e];exact HJ.out⟩
    go_wp2_with fail
    exact bodyPost_ret (by simp [results,Tryz.results45,go_sem]) rfl ⟨⟨_,m,true,rfl,hg,HF.out⟩,hbl⟩
end Go.Proofs.YtpfhegengmlkmacGreatDoor
namespace Go.Proofs.YtpfhegengmlkmacGreatDoor
open Go.RowKit Go.BigFrame
def Appended (base:Nat) (w w':World):Prop:=w.grownBy w' none∨∃ g,base<=g∧(∃ u,w.cell? ⟨g,3,none⟩=some u)∧w.grownBy w' (some g)
theorem run_append_mark (ty:TypeId) (base:Nat) (v:Value) (l:List (ByteArray×Int)) (w:World) (hg:Gath w base v l) (hv:l=[]->v=.slice none 0 0) (ad:Addr) (m:ByteArray×Int)
  (c0:w.cell? ad=some (.string m.1)) (c1:w.cell? (ad.add 1)=some (.int .i64 m.2)) (hl:l.length<=1048576) (hbase:base<=w.heap.size) :
  ∃ v' w',(Builtin.append_ #[34,34] ty #[v,.slice (some ad) 1 1]).run Tryz.prog w=.ok v' w'∧Gath w' base v' (l ++ [m])∧Appended base w w':=by
 obtain ⟨i0,hi,hz0,hz1,hz2⟩:=info_parts Tryz.infoM
 have hnews:∀ j u,([.string m.1,.int .i64 m.2]:List Value)[j]?=some u->w.cell? (ad.add j)=some u:=by
  intro j u hj
  match j,hj with
  | 0,hj=>simp at hj;subst hj;rw [show ad.add 0=ad from by cases ad with | mk b o s=>cases s <;> simp [Addr.add]];exact c0
  | 1,hj=>simp at hj;subst hj;exact c1
 have h1:∀ u∈([.string m.1,.int .i64 m.2]:List Value),u.oneCell'=true:=by simp [Value.oneCell']
 have hmc:mcells (l ++ [m])=mcells l ++ [.string m.1,.int .i64 m.2]:=by rw [mcells_append];rfl
 by_cases hnil:l=[]
 ·obtain rfl:=hv hnil
  obtain ⟨g,cap,w',hr,h2,h3,_,_⟩:=run_append_lies (P:=Tryz.prog) w 34 ty base 144 i0 (.agg #[.string .empty,.int .i64 0]) 2 24 Tryz.underlying34 hi hz0 hz1 hz2 rfl (by decide) _ _ _ hg ad 1 1 [.string m.1,.int .i64 m.2] rfl hnews h1 (by decide) (by unfold maxLen;omega) (by omega) hbase _ rfl
  refine ⟨_,w',hr, ?_,.inl h3⟩
  unfold Gath
  rw [hmc,List.length_append]
  exact h2
 ·have hpos:0 < l.length:=List.length_pos_iff.2 hnil
  obtain ⟨hlen,h | ⟨g,cap,cur,rfl,hbg,hh,hnc,hcm,hcs,htk⟩⟩:=id hg
  ·exact absurd (List.length_eq_zero_iff.1 h.2) hnil
  by_cases hroom:l.length + 1<=cap
  ·obtain ⟨w',hr,h2,h3⟩:=run_append_fits (P:=Tryz.prog) w base 34 ty 144 i0 2 Tryz.underlying34 hi hz1 g l.length cap (mcells l) hg ad 1 1 [.string m.1,.int .i64 m.2] rfl hnews h1 hroom
   refine ⟨_,w',hr, ?_,.inr ⟨g,hbg, ?_,h3⟩⟩
   ·unfold Gath
    rw [hmc,List.length_append]
    exact h2
   ·have h3:3 < cur.size:=by omega
    refine ⟨cur[3], ?_⟩
    unfold World.cell?
    simp [hh,h3]
  ·have holds:∀ j u,(mcells l)[j]?=some u->w.cell? ((⟨g,0,none⟩:Addr).add j)=some u:=by
    intro j u hj
    have hjl:j < (mcells l).length:=(List.getElem?_eq_some_iff.1 hj).1
    rw [<- htk,List.getElem?_take_of_lt (by rw [mcells_length] at hjl;exact hjl)] at hj
    have e:(⟨g,0,none⟩:Addr).add j=⟨g,j,none⟩:=by unfold Addr.add;by_cases h:j=0 <;> simp [h]
    rw [e]
    unfold World.cell?
    simp only [hh]
    simpa using hj
   obtain ⟨v',w',hr,h2,h3⟩:=run_append_arg_grows (P:=Tryz.prog) w 34 ty 144 i0 (.agg #[.string .empty,.int .i64 0]) 2 24 Tryz.underlying34 hi hz0 hz1 hz2 rfl (by decide) ⟨g,0,none⟩ l.length cap (mcells l) (mcells_length l) holds ad 1 1 [.string m.1,.int .i64 m.2] rfl hnews (by omega) (by unfold maxLen;omega) (by omega)
   refine ⟨v',w',hr, ?_,.inl h3⟩
   refine Gath.lower (B:=w.heap.size) ?_ hbase
   unfold Gath
   rw [hmc,List.length_append]
   exact h2
theorem wp_append_mark {o:Oper} {a:Act} {w:World} {K:Act->World->Prop} {Q:Exit->Act->World->Prop} (s x:Operand)
  (ho:o.op=.call { callee:=.builtin .append,args:=#[s,x],argTypes:=#[34,34] }) (base:Nat) (v:Value) (l:List (ByteArray×Int)) (hs:a.eval s=v) (hg:Gath w base v l) (hv:l=[]->v=.slice none 0 0) (ad:Addr) (m:ByteArray×Int)
  (hx:a.eval x=.slice (some ad) 1 1) (c0:w.cell? ad=some (.string m.1)) (c1:w.cell? (ad.add 1)=some (.int .i64 m.2)) (hl:l.length<=1048576) (hbase:base<=w.heap.size)
  (h:∀ v' w',Gath w' base v' (l ++ [m])->Appended base w w'->K (a.put o.dst v') w'):o.wp Tryz.prog a w K Q:=by
 obtain ⟨v',w',hr,h2,h3⟩:=run_append_mark o.type base v l w hg hv ad m c0 c1 hl hbase
 unfold Oper.wp execOp
 simp only [ho,resolve,invoke,builtin,Sem.run_bind,Sem.run_pure,Result.andThen_ok,List.map_toArray,List.map_cons,List.map_nil,hs,hx,hr]
 exact h v' w' h2 h3
theorem Appended.size {base:Nat} {w w':World} (h:Appended base w w'):w.heap.size<=w'.heap.size:=by
 rcases h with h | ⟨g,_,_,h⟩
 ·exact h.size
 ·exact h.size
theorem Appended.below {base B:Nat} {W w w':World} (h:Appended base w w') (hb:Below B W w) (hB:B<=base) (hw:B<=w.heap.size):Below B W w':=by
 rcases h with h | ⟨g,hg,_,h⟩
 ·exact hb.grown h hw (fun k e=>by cases e)
 ·exact hb.grown h hw (fun k e=>by simp at e;omega)
theorem Appended.far {base:Nat} {w w':World} (h:Appended base w w') (hw:base<=w.heap.size):Below base w w':=h.below (Below.refl _ _) (Nat.le_refl _) hw
theorem Appended.ks {base lo hi:Nat} {w w':World} (h:Appended base w w') (hb:lo<=base):KS lo hi w w':=by
 rcases h with h | ⟨g,hg,⟨u,hu⟩,h⟩
 ·exact ⟨h.size,fun k o _ hk _=>(h.block k (Array.getElem?_eq_some_iff.1 hk).1 (by simp)).trans hk⟩
 ·refine ⟨h.size,fun k o hn hk _=>(h.block k (Array.getElem?_eq_some_iff.1 hk).1 ?_).trans hk⟩
  intro e
  obtain rfl:k=g:=by simpa using e
  rcases hn with hn | ⟨_,hn⟩
  ·omega
  ·rw [hu] at hn;cases hn
theorem Appended.keeps {base:Nat} {w w':World} (h:Appended base w w'):KeepsOthers w w':=by
 rcases h with h | ⟨g,hg,⟨u,hu⟩,h⟩
 ·exact KeepsOthers.of_grownBy h (fun j o e=>by cases e)
 ·refine KeepsOthers.of_grownBy h (fun j o e hj=>?_)
  obtain rfl:g=j:=by simpa using e
  obtain ⟨ob,h1,h2⟩:=cell_obj hu
  rw [h1] at hj
  cases hj
  exact h2
end Go.Proofs.YtpfhegengmlkmacGreatDoor
