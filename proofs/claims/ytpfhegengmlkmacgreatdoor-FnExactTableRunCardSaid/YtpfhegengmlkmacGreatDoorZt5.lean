/- Texts of this claim. -/
import Derived.Test.YtpfhegengmlkmacGreatDoorZt4
namespace Go.Proofs.YtpfhegengmlkmacGreatDoor
open Go.RowKit Go.BigFrame
theorem names_take_step {la lb:List (ByteArray×Int)} {k:Nat} (h:namesM (la.take k)=namesM (lb.take k)) (ha:k < la.length) (hb:k < lb.length) (e:la[k].1=lb[k].1):namesM (la.take (k + 1))=namesM (lb.take (k + 1)):=by
 unfold namesM at *
 rw [List.take_succ_eq_append_getElem ha,List.take_succ_eq_append_getElem hb,List.map_append,List.map_append,h]
 simp [e]
theorem names_at {la lb:List (ByteArray×Int)} (h:namesM la=namesM lb) {k:Nat} (ha:k < la.length) (hb:k < lb.length):la[k].1=lb[k].1:=by
 have h1:(namesM la)[k]?=(namesM lb)[k]?:=by rw [h]
 unfold namesM at h1
 simpa [ha,hb] using h1
theorem names_len {la lb:List (ByteArray×Int)} (h:namesM la=namesM lb):la.length=lb.length:=by
 have:=congrArg List.length h
 unfold namesM at this
 simpa using this
set_option maxHeartbeats 800000 in
theorem l2Sources_any (aa ab:Option Addr) (ca cb:Nat) (la lb:List (ByteArray×Int)) (w:World) (hla:la.length<=maxLen) (ha:Row w aa la) (hb:Row w ab lb) :
  Calls Tryz.prog 121 #[.slice aa la.length ca,.slice ab lb.length cb] w fun e w'=>IsB (namesM la=namesM lb) e∧Below w.heap.size w w':=by
 unfold maxLen at hla
 go_enter Tryz.func121,Tryz.ntmps121
 by_cases hlen:la.length=lb.length
 ·have hlen':((la.length:Int) != (lb.length:Int))=false:=by rw [bne_eq_false_iff_eq];omega
  have HLEN:Hid (la.length=lb.length):=hlen
  have hle1:la.length<=lb.length:=by omega
  have hle2:lb.length<=la.length:=by omega
  clear hlen
  go_wp2_with fail
  go_loopw [5] (fun i wr=>∃ k:Nat,k<=la.length∧i=.int .i64 k∧namesM (la.take k)=namesM (lb.take k)∧Below w.heap.size w wr) (fun i _=>la.length - (intOf i).toNat)
  case atStart=>exact ⟨0,Nat.zero_le _,rfl,rfl,Below.refl _ _⟩
  case round=>
   obtain ⟨k,hk,rfl,hinv,hbl⟩:=hrel
   by_cases hlt:k < la.length
   ·have hltb:k < lb.length:=by omega
    obtain ⟨b1,o1,rfl,hlt1,c0,c1⟩:=ha k hlt
    obtain ⟨b2,o2,rfl,hlt2,d0,d1⟩:=hb k hltb
    have e0:=cell_on hbl hlt1 c0
    have f0:=cell_on hbl hlt2 d0
    have k0:(0:Int)<=(k:Int):=by omega
    have k1:(k:Int) < (la.length:Int):=by omega
    have k2:(k:Int) < (lb.length:Int):=by omega
    have HI:Hid (namesM (la.take k)=namesM (lb.take k)):=hinv
    clear hinv
    by_cases hs:la[k].1=lb[k].1
    ·have hs':(la[k].1.toList == lb[k].1.toList)=true:=toList_beq.2 hs
     have HS:Hid (la[k].1=lb[k].1):=hs
     clear hs
     go_wp2_with fail
     go_quiet (fail)
     go_wp2_with fail
     exact ⟨⟨k + 1,by omega,by go_num,names_take_step HI.out hlt hltb HS.out,below_drewN hbl _⟩,by simp [intOf];omega⟩
    ·have hs':(la[k].1.toList == lb[k].1.toList)=false:=toList_bne.2 hs
     go_wp2_with fail
     go_quiet (fail)
     go_wp2_with fail
     go_ret
     exact ⟨isB_false (fun h=>hs (names_at h hlt hltb)),below_drewN hbl _⟩
   ·have HF:Hid (namesM la=namesM lb):=by
     rw [List.take_of_length_le (by omega),List.take_of_length_le (by omega)] at hinv
     exact hinv
    clear hinv
    go_wp2_with fail
    go_ret
    exact ⟨isB_true HF.out,hbl⟩
 ·have hlen':((la.length:Int) != (lb.length:Int))=true:=by rw [bne_iff_ne];omega
  go_wp2_with fail
  go_ret
  exact ⟨isB_false (fun h=>hlen (names_len h)),Below.refl _ _⟩
set_option maxHeartbeats 800000 in
theorem l2Above_any (x y:Int) (aa ab:Option Addr) (ca cb:Nat) (la lb:List (ByteArray×Int)) (w:World) (fa:FitM la) (fb:FitM lb) (ha:Row w aa la) (hb:Row w ab lb) :
  Calls Tryz.prog 82 #[.agg #[.int .i64 x,.slice aa la.length ca],.agg #[.int .i64 y,.slice ab lb.length cb]] w fun e w'=>IsB (AboveP la lb) e∧Below w.heap.size w w':=by
 go_enter Tryz.func82,Tryz.ntmps82
 go_wp2_with fail
 have hsz:((w.alloc (.cells #[.int .i64 x,.slice aa la.length ca] 44)).alloc (.cells #[.int .i64 y,.slice ab lb.length cb] 44)).heap.size=w.heap.size + 2:=by simp
 have c1:((w.alloc (.cells #[.int .i64 x,.slice aa la.length ca] 44)).alloc (.cells #[.int .i64 y,.slice ab lb.length cb] 44)).cell? ⟨w.heap.size,1,none⟩=some (.slice aa la.length ca):=by simp [go_sem]
 have d1:((w.alloc (.cells #[.int .i64 x,.slice aa la.length ca] 44)).alloc (.cells #[.int .i64 y,.slice ab lb.length cb] 44)).cell? ⟨w.heap.size + 1,1,none⟩=some (.slice ab lb.length cb):=by simp [go_sem]
 have hb0:Below w.heap.size w ((w.alloc (.cells #[.int .i64 x,.slice aa la.length ca] 44)).alloc (.cells #[.int .i64 y,.slice ab lb.length cb] 44)):=((Below.refl _ _).alloc (Nat.le_refl _) _).alloc (by simp) _
 generalize (w.alloc (.cells #[.int .i64 x,.slice aa la.length ca] 44)).alloc (.cells #[.int .i64 y,.slice ab lb.length cb] 44)=W0 at *
 have g0:w.heap.size < W0.heap.size:=by omega
 have g1:w.heap.size + 1 < W0.heap.size:=by omega
 refine (l2Sources_any aa ab ca cb la lb _ fa.1 (ha.below hb0) (hb.below hb0)).mono ?_
 rintro e w1 ⟨⟨r,rfl,hr⟩,b1⟩
 replace c1:=cell_on b1 g0 c1
 replace d1:=cell_on b1 g1 d1
 have B1:Below w.heap.size w w1:=hb0.trans (b1.mono hb0.size)
 have HR:Hid (r=true↔namesM la=namesM lb):=hr
 clear hr
 cases r
 ·have HN:Hid (¬ AboveP la lb):=fun h=>by simpa using HR.out.2 h.1
  clear HR
  go_wp2_with fail
  go_ret
  exact ⟨isB_false HN.out,B1⟩
 ·go_wp2_with fail
  refine (specOrder_any aa ab ca cb la lb _ fa.1 fb.1 ((ha.below hb0).below b1) ((hb.below hb0).below b1) fa.2 fb.2).mono ?_
  rintro e w2 ⟨⟨v,rfl,hv⟩,b2⟩
  have B2:Below w.heap.size w w2:=B1.trans (b2.mono B1.size)
  have HV:Hid (v=1↔(StampP la∧StampP lb∧BelowP la lb∧¬ BelowP lb la)):=ord_less hv
  clear hv
  go_wp2_with fail
  go_ret
  refine ⟨⟨v == 1,rfl, ?_⟩,B2⟩
  rw [beq_iff_eq,HV.out]
  exact ⟨fun h=>⟨HR.out.1 (by trivial),h⟩,fun h=>h.2⟩
def WinTo (l:List ItemM) (k:Nat):Prop:=(∀ j,(h:j < l.length)->j < k->StampP l[j].2∧l[j].2≠[])∧∀ j,(h:j + 1 < l.length)->j + 1 < k->AboveP l[j].2 l[j + 1].2
theorem winTo_zero (l:List ItemM):WinTo l 0:=⟨fun _ _ h=>by omega,fun _ _ h=>by omega⟩
theorem winTo_step {l:List ItemM} {k:Nat} (H:WinTo l k) (hk:k < l.length) (hm:StampP l[k].2∧l[k].2≠[]) (ha:0 < k->AboveP (l[k - 1]'(by omega)).2 l[k].2):WinTo l (k + 1):=by
 refine ⟨fun j hj hlt=>?_,fun j hj hlt=>?_⟩
 ·by_cases e:j=k
  ·subst e;exact hm
  ·exact H.1 j hj (by omega)
 ·by_cases e:j + 1=k
  ·subst e;exact ha (by omega)
  ·exact H.2 j hj (by omega)
theorem winP_of {l:List ItemM} {k:Nat} (H:WinTo l k) (hk:¬ k < l.length) (h:l.length<=4):WinP l:=⟨h,fun j hj=>H.1 j hj (by omega),fun j hj=>H.2 j hj (by omega)⟩
theorem winP_above {l:List ItemM} (h:WinP l) {k:Nat} (h0:0 < k) (hk:k < l.length):AboveP (l[k - 1]'(by omega)).2 l[k].2:=by
 obtain ⟨m,rfl⟩:∃ m,k=m + 1:=⟨k - 1,by omega⟩
 exact h.2.2 m hk
theorem boolOf (P:Prop):∃ q:Bool,q=true↔P:=by
 by_cases h:P
 ·exact ⟨true,by simp [h]⟩
 ·exact ⟨false,by simp [h]⟩
set_option maxHeartbeats 1600000 in
theorem specWinOk_any (a:Option Addr) (cap:Nat) (l:List ItemL) (w:World) (hf:FitI l) (hr:RowI w a l) :
  Calls Tryz.prog 80 #[.slice a l.length cap] w fun e w'=>IsB (WinP l) e∧Below w.heap.size w w':=by
 have hl:=hf.1
 unfold maxLen at hl
 by_cases h4:4 < l.length
 ·go_enter Tryz.func80,Tryz.ntmps80
  go_wp2_with fail
  go_ret
  exact ⟨isB_false (fun h=>by have:=h.1;omega),Below.refl _ _⟩
 go_enter Tryz.func80,Tryz.ntmps80
 go_wp2_with fail
 go_loopw [3] (fun i wr=>∃ k:Nat,k<=l.length∧i=.int .i64 k∧WinTo l k∧Below w.heap.size w wr) (fun i _=>l.length - (intOf i).toNat)
 case atStart=>exact ⟨0,Nat.zero_le _,rfl,winTo_zero l,Below.refl _ _⟩
 case round=>
  obtain ⟨k,hk,rfl,hinv,hbl⟩:=hrel
  have HI:Hid (WinTo l k):=hinv
  have hzr:=hbl.size
  clear hinv
  by_cases hlt:k < l.length
  ·obtain ⟨b1,o1,rfl,g1,e0,v1,e1,⟨s1,t1,rfl,_,r1⟩⟩:=hr.below hbl k hlt
   have k0:(0:Int)<=(k:Int):=by omega
   have k1:(k:Int) < (l.length:Int):=by omega
   have fk:=hf.2 k hlt
   go_wp2_with fail
   refine (specOk_b s1 t1 l[k].2 _ fk.1 r1 fk.2).mono ?_
   rintro e w1 ⟨⟨r,rfl,hr1⟩,b1'⟩
   have HR1:Hid (r=true↔StampP l[k].2):=hr1
   replace e0:=cell_on b1' g1 e0
   replace e1:=cell_on b1' g1 e1
   replace r1:=r1.below b1'
   have B1:Below w.heap.size w w1:=hbl.trans (b1'.mono hzr)
   have g1':b1 < w1.heap.size:=Nat.lt_of_lt_of_le g1 b1'.size
   clear hr1
   cases r
   ·have HN:Hid (¬ WinP l):=fun h=>by simpa using HR1.out.2 (h.2.1 k hlt).1
    clear HR1
    go_wp2_with fail
    go_ret
    exact ⟨isB_false HN.out,B1⟩
   have HSP:Hid (StampP l[k].2):=HR1.out.1 rfl
   clear HR1
   by_cases hz:l[k].2.length=0
   ·have hz':((l[k].2.length:Int) == 0)=true:=by rw [beq_iff_eq];omega
    have HN:Hid (¬ WinP l):=fun h=>(h.2.1 k hlt).2 (List.length_eq_zero_iff.1 hz)
    clear hz
    go_wp2_with fail
    go_ret
    exact ⟨isB_false HN.out,B1⟩
   have hz':((l[k].2.length:Int) == 0)=false:=by rw [beq_eq_false_iff_ne];omega
   have HNE:Hid (l[k].2≠[]):=fun e=>hz (by rw [e];rfl)
   clear hz
   by_cases hk0:0 < k
   ·obtain ⟨b2,o2,eb,g2,f0,v2,f1,⟨s2,t2,rfl,_,r2⟩⟩:=(hr.below B1) (k - 1) (by omega)
    obtain ⟨rfl,rfl⟩:b1=b2∧o1=o2:=by simpa using eb
    have fk2:=hf.2 (k - 1) (by omega)
    have k3:(0:Int)<=(k:Int) - 1:=by omega
    have hkm:((k:Int) - 1)=((k - 1:Nat):Int):=by omega
    obtain ⟨q,hq⟩:∃ q:Bool,q=true↔AboveP (l[k - 1]'(by omega)).2 l[k].2:=boolOf _
    have HQ:Hid (q=true↔AboveP (l[k - 1]'(by omega)).2 l[k].2):=hq
    have hne:=Lat.some w1
    have ce:∀ n:Lat w1,Calls Tryz.prog 82 #[.agg #[.int .i64 (l[k - 1]'(by omega)).1,.slice s2 (l[k - 1]'(by omega)).2.length t2],.agg #[.int .i64 l[k].1,.slice s1 l[k].2.length t1]] n.w fun e w''=>e=.returned (.bool q)∧Below n.w.heap.size n.w w'':=fun n=>
     (l2Above_any _ _ s2 s1 t2 t1 _ _ n.w fk2 fk (r2.below n.h) (r1.below n.h)).mono fun _ _ ⟨⟨q',he,hq'⟩,hb'⟩=>⟨by rw [he,show q'=q by rw [Bool.eq_iff_iff,hq',HQ.out]],hb'⟩
    have q0:∀ n:Lat w1,n.w.cell? ⟨b1,o1 + k * 2,none⟩=some (.int .i64 l[k].1):=fun n=>n.cell g1' e0
    have q1:∀ n:Lat w1,n.w.cell? ⟨b1,o1 + k * 2 + 1,none⟩=some (.slice s1 l[k].2.length t1):=fun n=>n.cell g1' e1
    have q2:∀ n:Lat w1,n.w.cell? ⟨b1,o1 + (k - 1) * 2,none⟩=some (.int .i64 (l[k - 1]'(by omega)).1):=fun n=>n.cell g1' f0
    have q3:∀ n:Lat w1,n.w.cell? ⟨b1,o1 + (k - 1) * 2 + 1,none⟩=some (.slice s2 (l[k - 1]'(by omega)).2.length t2):=fun n=>n.cell g1' f1
    clear hq
    go_wp2_with fail
    refine wp_region_lat (by kernel_rfl) (by kernel_rfl) ?_
    repeat (go_big_quiet_step ((go_at_call 82;exact Calls.lat_of (ce _))))
    refine wpQuiet_nil ?_
    rintro _ ⟨nq,rfl⟩
    have Bn:Below w.heap.size w nq.w:=B1.trans (nq.h.mono B1.size)
    cases q
    ·have HN:Hid (¬ WinP l):=fun h=>by simpa using HQ.out.2 (winP_above h hk0 hlt)
     clear HQ ce
     go_wp2_with fail
     go_ret
     exact ⟨isB_false HN.out,Bn⟩
    ·have HST:Hid (WinTo l (k + 1)):=winTo_step HI.out hlt ⟨HSP.out,HNE.out⟩ (fun _=>HQ.out.1 rfl)
     clear HQ ce
     go_wp2_with fail
     exact ⟨⟨k + 1,by omega,by go_num,HST.out,Bn⟩,by simp [intOf];omega⟩
   ·have HST:Hid (WinTo l (k + 1)):=winTo_step HI.out hlt ⟨HSP.out,HNE.out⟩ (fun h=>absurd h hk0)
    go_wp2_with fail
    go_quiet (fail)
    go_wp2_with fail
    exact ⟨⟨k + 1,by omega,by go_num,HST.out,below_drewN B1 _⟩,by simp [intOf];omega⟩
  ·have HF:Hid (WinP l):=winP_of HI.out hlt (by omega)
   go_wp2_with fail
   go_ret
   exact ⟨isB_true HF.out,hbl⟩
def RowW (w:World) (a:Option Addr) (ws:List (List ItemL)):Prop:=
 ∀ k,(h:k < ws.length)->∃ b o,a=some ⟨b,o,none⟩∧b < w.heap.size∧∃ s c,w.cell? ⟨b,o + k,none⟩=some (.slice s ws[k].length c)∧ws[k].length<=c∧RowI w s ws[k]
def RowZ (w:World) (a:Option Addr) (ps:List Int):Prop:=
 ∀ k,(h:k < ps.length)->∃ b o,a=some ⟨b,o,none⟩∧b < w.heap.size∧w.cell? ⟨b,o + k,none⟩=some (.int .i64 ps[k])
theorem RowW.below {w w':World} {a:Option Addr} {ws:List (List ItemL)} (h:RowW w a ws) (hb:Below w.heap.size w w'):RowW w' a ws:=fun k hk=>by
 obtain ⟨b,o,ha,hlt,s,c,h1,h2,h3⟩:=h k hk
 exact ⟨b,o,ha,Nat.lt_of_lt_of_le hlt hb.size,s,c,by rw [hb.cell hlt];exact h1,h2,h3.below hb⟩
theorem RowZ.below {w w':World} {a:Option Addr} {ps:List Int} (h:RowZ w a ps) (hb:Below w.heap.size w w'):RowZ w' a ps:=fun k hk=>by
 obtain ⟨b,o,ha,hlt,h1⟩:=h k hk
 exact ⟨b,o,ha,Nat.lt_of_lt_of_le hlt hb.size,by rw [hb.cell hlt];exact h1⟩
def FitW (ws:List (List ItemL)):Prop:=ws.length<=maxLen∧∀ j,(h:j < ws.length)->FitI ws[j]
def OkW (ws:List (List ItemL)):Prop:=1<=ws.length∧ws.length<=6∧∀ k,(h:k < ws.length)->WinP ws[k]
def pkM (ws:List (List ItemL)) (ps:List Int) (i:Nat):List (ByteArray×Int):=((ws.getD i []).getD (ps.getD i 0).toNat (0,[])).2
def AgW (ws:List (List ItemL)) (ps:List Int):Prop:=∀ i k,k < i->i < ps.length->AgreeP (pkM ws ps i) (pkM ws ps k)
def InW (ws:List (List ItemL)) (ps:List Int):Prop:=ps.length<=ws.length∧∀ i,(h:i < ps.length)->0<=ps[i]∧ps[i] < ((ws.getD i []).length:Int)
def ChP (ws:List (List ItemL)) (ps:List Int):Prop:=OkW ws∧ps.length=ws.length∧InW ws ps∧AgW ws ps
theorem win_step {ws:List (List ItemL)} {k:Nat} (H:∀ j,(h:j < ws.length)->j < k->WinP ws[j]) (hk:k < ws.length) (h:WinP ws[k]):∀ j,(h:j < ws.length)->j < k + 1->WinP ws[j]:=fun j hj hlt=>by
 by_cases e:j=k
 ·subst e;exact h
 ·exact H j hj (by omega)
set_option maxHeartbeats 800000 in
theorem l3Ok_any (a:Option Addr) (cap:Nat) (ws:List (List ItemL)) (w:World) (hf:FitW ws) (hr:RowW w a ws) :
  Calls Tryz.prog 78 #[.slice a ws.length cap] w fun e w'=>IsB (OkW ws) e∧Below w.heap.size w w':=by
 have hl:=hf.1
 unfold maxLen at hl
 by_cases h1:ws.length < 1
 ·go_enter Tryz.func78,Tryz.ntmps78
  go_wp2_with fail
  go_ret
  exact ⟨isB_false (fun h=>by have:=h.1;omega),Below.refl _ _⟩
 by_cases h6:6 < ws.length
 ·go_enter Tryz.func78,Tryz.ntmps78
  go_wp2_with fail
  go_ret
  exact ⟨isB_false (fun h=>by have:=h.2.1;omega),Below.refl _ _⟩
 go_enter Tryz.func78,Tryz.ntmps78
 go_wp2_with fail
 go_loopw [3] (fun i wr=>∃ k:Nat,k<=ws.length∧i=.int .i64 k∧(∀ j,(h:j < ws.length)->j < k->WinP ws[j])∧Below w.heap.size w wr) (fun i _=>ws.length - (intOf i).toNat)
 case atStart=>exact ⟨0,Nat.zero_le _,rfl,fun _ _ h=>by omega,Below.refl _ _⟩
 case round=>
  obtain ⟨k,hk,rfl,hinv,hbl⟩:=hrel
  have HI:Hid (∀ j,(h:j < ws.length)->j < k->WinP ws[j]):=hinv
  clear hinv
  by_cases hlt:k < ws.length
  ·obtain ⟨b1,o1,rfl,g1,s1,t1,e1,_,r1⟩:=hr.below hbl k hlt
   have k0:(0:Int)<=(k:Int):=by omega
   have k1:(k:Int) < (ws.length:Int):=by omega
   go_wp2_with fail
   refine (specWinOk_any s1 t1 ws[k] _ (hf.2 k hlt) r1).mono ?_
   rintro e w1 ⟨⟨r,rfl,hr1⟩,b1'⟩
   have B1:Below w.heap.size w w1:=hbl.trans (b1'.mono hbl.size)
   have HR:Hid (r=true↔WinP ws[k]):=hr1
   clear hr1
   cases r
   ·have HN:Hid (¬ OkW ws):=fun h=>by simpa using HR.out.2 (h.2.2 k hlt)
    clear HR
    go_wp2_with fail
    go_ret
    exact ⟨isB_false HN.out,B1⟩
   ·have HST:Hid (∀ j,(h:j < ws.length)->j < k + 1->WinP ws[j]):=win_step HI.out hlt (HR.out.1 rfl)
    clear HR
    go_wp2_with fail
    exact ⟨⟨k + 1,by omega,by go_num,HST.out,B1⟩,by simp [intOf];omega⟩
  ·have HF:Hid (OkW ws):=⟨by omega,by omega,fun j hj=>HI.out j hj (by omega)⟩
   go_wp2_with fail
   go_ret
   exact ⟨isB_true HF.out,hbl⟩
theorem pkM_at {ws:List (List ItemL)} {ps:List Int} {i:Nat} (hi:i < ps.length) (hw:i < ws.length) {q:Nat} (hq:ps[i]=(q:Int)) (hq2:q < ws[i].length):pkM ws ps i=ws[i][q].2:=by
 unfold pkM
 simp [List.getD_eq_getElem?_getD,hi,hw,hq,hq2]
theorem in_nat {ws:List (List ItemL)} {ps:List Int} (h:InW ws ps) {i:Nat} (hi:i < ps.length):∃ (hw:i < ws.length) (q:Nat),ps[i]=(q:Int)∧∃ h2:q < ws[i].length,pkM ws ps i=ws[i][q].2:=by
 have hw:i < ws.length:=by have:=h.1;omega
 obtain ⟨h1,h2⟩:=h.2 i hi
 have e:ws.getD i []=ws[i]:=by simp [List.getD_eq_getElem?_getD,hw]
 rw [e] at h2
 obtain ⟨q,hq⟩:=Int.eq_ofNat_of_zero_le h1
 have hq2:q < ws[i].length:=by omega
 exact ⟨hw,q,hq,hq2,pkM_at hi hw hq hq2⟩
set_option maxHeartbeats 1600000 in
theorem l3Agrees_any (a:Option Addr) (cap:Nat) (ws:List (List ItemL)) (a':Option Addr) (cap':Nat) (ps:List Int) (w:World) (hf:FitW ws) (hr:RowW w a ws) (hp:ps.length<=maxLen) (hr':RowZ w a' ps) (hin:InW ws ps) :
  Calls Tryz.prog 122 #[.slice a ws.length cap,.slice a' ps.length cap'] w fun e w'=>IsB (AgW ws ps) e∧Below w.heap.size w w':=by
 have hl:=hf.1
 unfold maxLen at hl hp
 go_enter Tryz.func122,Tryz.ntmps122
 go_wp2_with fail
 have HIN:Hid (InW ws ps):=hin
 clear hin
 go_loopw [5,6] (fun iv kv wr=>∃ i:Nat,i<=ps.length∧iv=.int .i64 i∧(∀ i' k',k' < i'->i' < i->AgreeP (pkM ws ps i') (pkM ws ps k'))∧Below w.heap.size w wr∧kv=kv) (fun iv _ _=>ps.length - (intOf iv).toNat)
 case atStart=>exact ⟨0,Nat.zero_le _,rfl,fun _ _ _ h=>by omega,Below.refl _ _,rfl⟩
 case round=>
  obtain ⟨i,hi,rfl,hinv,hbl,_⟩:=hrel
  have HI:Hid (∀ i' k',k' < i'->i' < i->AgreeP (pkM ws ps i') (pkM ws ps k')):=hinv
  clear hinv
  by_cases hlt:i < ps.length
  ·obtain ⟨hwi,q1,hq1,hq1l,hpk1⟩:=in_nat HIN.out hlt
   have i0':(0:Int)<=(i:Int):=by omega
   have i1':(i:Int) < (ps.length:Int):=by omega
   have i2':(i:Int) < (ws.length:Int):=by omega
   have HPK1:Hid (pkM ws ps i=ws[i][q1].2):=hpk1
   clear hpk1
   go_wp2_with fail
   go_loopw [6] (fun kv wr'=>∃ k:Nat,k<=i∧kv=.int .i64 k∧(∀ k',k' < k->AgreeP (pkM ws ps i) (pkM ws ps k'))∧Below w.heap.size w wr') (fun kv _=>i - (intOf kv).toNat)
   case atStart=>exact ⟨0,Nat.zero_le _,rfl,fun _ h=>by omega,hbl⟩
   case round=>
    obtain ⟨k,hk,rfl,hinv2,hbl2⟩:=hrel
    have HI2:Hid (∀ k',k' < k->AgreeP (pkM ws ps i) (pkM ws ps k')):=hinv2
    clear hinv2
    by_cases hlt2:k < i
    ·have hkp:k < ps.length:=by omega
     obtain ⟨hwk,q2,hq2,hq2l,hpk2⟩:=in_nat HIN.out hkp
     have HPK2:Hid (pkM ws ps k=ws[k][q2].2):=hpk2
     clear hpk2
     obtain ⟨b1,o1,rfl,g1,s1,t1,e1,_,r1⟩:=hr.below hbl2 i hwi
     obtain ⟨b1',o1',eb,g1',s2,t2,e2,_,r2⟩:=hr.below hbl2 k hwk
     obtain ⟨rfl,rfl⟩:b1=b1'∧o1=o1':=by simpa using eb
     obtain ⟨c1,p1,rfl,gc,z1⟩:=hr'.below hbl2 i hlt
     obtain ⟨c1',p1',ec,gc',z2⟩:=hr'.below hbl2 k hkp
     obtain ⟨rfl,rfl⟩:c1=c1'∧p1=p1':=by simpa using ec
     obtain ⟨d1,u1,rfl,gd1,_,v1,y1,⟨m1,n1',rfl,_,rm1⟩⟩:=r1 q1 hq1l
     obtain ⟨d2,u2',rfl,gd2,_,v2,y2,⟨m2,n2',rfl,_,rm2⟩⟩:=r2 q2 hq2l
     rw [hq1] at z1
     rw [hq2] at z2
     have f1:=(hf.2 i hwi).2 q1 hq1l
     have f2:=(hf.2 k hwk).2 q2 hq2l
     have k0:(0:Int)<=(k:Int):=by omega
     have k1:(k:Int) < (ps.length:Int):=by omega
     have k2:(k:Int) < (ws.length:Int):=by omega
     have k3:(k:Int) < (i:Int):=by omega
     have x0:(0:Int)<=(q1:Int):=by omega
     have x1:(q1:Int) < (ws[i].length:Int):=by omega
     have x2:(0:Int)<=(q2:Int):=by omega
     have x3:(q2:Int) < (ws[k].length:Int):=by omega
     obtain ⟨q,hq⟩:=boolOf (AgreeP ws[i][q1].2 ws[k][q2].2)
     have HQ:Hid (q=true↔AgreeP ws[i][q1].2 ws[k][q2].2):=hq
     clear hq
     have hne:=Lat.some wr
     have n1:∀ n:Lat wr,n.w.cell? ⟨b1,o1 + i,none⟩=some (.slice (some ⟨d1,u1,none⟩) ws[i].length t1):=fun n=>n.cell g1 e1
     have n2:∀ n:Lat wr,n.w.cell? ⟨b1,o1 + k,none⟩=some (.slice (some ⟨d2,u2',none⟩) ws[k].length t2):=fun n=>n.cell g1' e2
     have n3:∀ n:Lat wr,n.w.cell? ⟨c1,p1 + i,none⟩=some (.int .i64 (q1:Int)):=fun n=>n.cell gc z1
     have n4:∀ n:Lat wr,n.w.cell? ⟨c1,p1 + k,none⟩=some (.int .i64 (q2:Int)):=fun n=>n.cell gc' z2
     have n5:∀ n:Lat wr,n.w.cell? ⟨d1,u1 + q1 * 2 + 1,none⟩=some (.slice m1 ws[i][q1].2.length n1'):=fun n=>n.cell gd1 y1
     have n6:∀ n:Lat wr,n.w.cell? ⟨d2,u2' + q2 * 2 + 1,none⟩=some (.slice m2 ws[k][q2].2.length n2'):=fun n=>n.cell gd2 y2
     have ce:∀ n:Lat wr,Calls Tryz.prog 165 #[.slice m1 ws[i][q1].2.length n1',.slice m2 ws[k][q2].2.length n2'] n.w fun e w''=>e=.returned (.bool q)∧Below n.w.heap.size n.w w'':=fun n=>
      (specAgree_any m1 m2 n1' n2' _ _ n.w f1.1 f2.1 (rm1.below n.h) (rm2.below n.h) f1.2 f2.2).mono fun _ _ ⟨⟨q',he,hq'⟩,hb'⟩=>⟨by rw [he,show q'=q by rw [Bool.eq_iff_iff,hq',HQ.out]],hb'⟩
     clear e1 e2 z1 z2 y1 y2
     go_wp2_with fail
     refine wp_region_lat (by kernel_rfl) (by kernel_rfl) ?_
     repeat (go_big_quiet_step ((go_at_call 165;exact Calls.lat_of (ce _))))
     refine wpQuiet_nil ?_
     rintro _ ⟨nq,rfl⟩
     have Bn:Below w.heap.size w nq.w:=hbl2.trans (nq.h.mono hbl2.size)
     cases q
     ·have HN:Hid (¬ AgW ws ps):=fun h=>by
       have h3:=h i k hlt2 hlt
       rw [HPK1.out,HPK2.out] at h3
       simpa using HQ.out.2 h3
      clear HQ ce
      go_wp2_with fail
      go_ret
      exact ⟨isB_false HN.out,Bn⟩
     ·have HST:Hid (∀ k',k' < k + 1->AgreeP (pkM ws ps i) (pkM ws ps k')):=fun k' hk'=>by
       by_cases e:k'=k
       ·subst e;rw [HPK1.out,HPK2.out];exact HQ.out.1 rfl
       ·exact HI2.out k' (by omega)
      clear HQ ce
      go_wp2_with fail
      exact ⟨⟨k + 1,by omega,by go_num,HST.out,Bn⟩,by simp [intOf];omega⟩
    ·have HO:Hid (∀ i' k',k' < i'->i' < i + 1->AgreeP (pkM ws ps i') (pkM ws ps k')):=fun i' k' h1 h2=>by
      by_cases e:i'=i
      ·subst e;exact HI2.out k' (by omega)
      ·exact HI.out i' k' h1 (by omega)
     go_wp2_with fail
     exact ⟨⟨i + 1,by omega,by go_num,HO.out,hbl2,by trivial⟩,by simp [intOf];omega⟩
  ·have HF:Hid (AgW ws ps):=fun i' k' h1 h2=>HI.out i' k' h1 (by omega)
   go_wp2_with fail
   go_ret
   exact ⟨isB_true HF.out,hbl⟩
theorem getD_at {ws:List (List ItemL)} {i:Nat} (hw:i < ws.length):ws.getD i []=ws[i]:=by simp [List.getD_eq_getElem?_getD,hw]
set_option maxHeartbeats 1600000 in
theorem specChoiceAgrees_any (a:Option Addr) (cap:Nat) (ws:List (List ItemL)) (a':Option Addr) (cap':Nat) (ps:List Int) (w:World) (hf:FitW ws) (hr:RowW w a ws) (hp:ps.length<=maxLen) (hr':RowZ w a' ps) :
  Calls Tryz.prog 84 #[.slice a ws.length cap,.slice a' ps.length cap'] w fun e w'=>IsB (ChP ws ps) e∧Below w.heap.size w w':=by
 have hl:=hf.1
 have hp':=hp
 unfold maxLen at hl hp
 go_enter Tryz.func84,Tryz.ntmps84
 go_wp2_with fail
 refine (l3Ok_any a cap ws _ hf hr).mono ?_
 rintro e w1 ⟨⟨r,rfl,hr1⟩,b1⟩
 have HR:Hid (r=true↔OkW ws):=hr1
 clear hr1
 cases r
 ·have HN:Hid (¬ ChP ws ps):=fun h=>by simpa using HR.out.2 h.1
  clear HR
  go_wp2_with fail
  go_ret
  exact ⟨isB_false HN.out,b1⟩
 have HOK:Hid (OkW ws):=HR.out.1 rfl
 clear HR
 by_cases hlen:ps.length=ws.length
 ·have hlen':((ps.length:Int) != (ws.length:Int))=false:=by rw [bne_eq_false_iff_eq];omega
  have HL:Hid (ps.length=ws.length):=hlen
  have hle1:ps.length<=ws.length:=by omega
  clear hlen
  go_wp2_with fail
  go_loopw [5] (fun iv wr=>∃ k:Nat,k<=ps.length∧iv=.int .i64 k∧(∀ j,(h:j < ps.length)->j < k->0<=ps[j]∧ps[j] < ((ws.getD j []).length:Int))∧Below w.heap.size w wr) (fun iv _=>ps.length - (intOf iv).toNat)
  case atStart=>exact ⟨0,Nat.zero_le _,rfl,fun _ _ h=>by omega,b1⟩
  case round=>
   obtain ⟨k,hk,rfl,hinv,hbl⟩:=hrel
   have HI:Hid (∀ j,(h:j < ps.length)->j < k->0<=ps[j]∧ps[j] < ((ws.getD j []).length:Int)):=hinv
   clear hinv
   by_cases hlt:k < ps.length
   ·have hwk:k < ws.length:=by omega
    obtain ⟨b2,o2,rfl,g1,s1,t1,e1,_,_⟩:=hr.below hbl k hwk
    obtain ⟨c1,p1,rfl,gc,z1⟩:=hr'.below hbl k hlt
    have k0:(0:Int)<=(k:Int):=by omega
    have k1:(k:Int) < (ps.length:Int):=by omega
    have k2:(k:Int) < (ws.length:Int):=by omega
    have HG:Hid (ws.getD k []=ws[k]):=getD_at hwk
    have hwl:ws[k].length<=9223372036854775807:=(hf.2 k hwk).1
    by_cases hn:ps[k] < 0
    ·have HN:Hid (¬ ChP ws ps):=fun h=>by have:=(h.2.2.1.2 k hlt).1;omega
     clear HG
     go_wp2_with fail
     go_quiet (fail)
     go_wp2_with fail
     go_ret
     exact ⟨isB_false HN.out,below_drewN hbl _⟩
    by_cases hg:ps[k] < (ws[k].length:Int)
    ·have HST:Hid (∀ j,(h:j < ps.length)->j < k + 1->0<=ps[j]∧ps[j] < ((ws.getD j []).length:Int)):=fun j hj hlt'=>by
      by_cases e:j=k
      ·subst e;rw [HG.out];exact ⟨by omega,hg⟩
      ·exact HI.out j hj (by omega)
     clear HG
     go_wp2_with fail
     go_quiet (fail)
     go_wp2_with fail
     exact ⟨⟨k + 1,by omega,by go_num,HST.out,below_drewN hbl _⟩,by simp [intOf];omega⟩
    ·have HN:Hid (¬ ChP ws ps):=fun h=>by have h3:=(h.2.2.1.2 k hlt).2;rw [HG.out] at h3;omega
     clear HG
     go_wp2_with fail
     go_quiet (fail)
     go_wp2_with fail
     go_ret
     exact ⟨isB_false HN.out,below_drewN hbl _⟩
   ·have HIN:Hid (InW ws ps):=⟨hle1,fun j hj=>HI.out j hj (by omega)⟩
    go_wp2_with fail
    refine (l3Agrees_any a cap ws a' cap' ps _ hf (hr.below hbl) hp' (hr'.below hbl) HIN.out).mono ?_
    rintro e w3 ⟨⟨q,rfl,hq⟩,b3⟩
    have B3:Below w.heap.size w w3:=hbl.trans (b3.mono hbl.size)
    have HQ:Hid (q=true↔AgW ws ps):=hq
    clear hq
    go_wp2_with fail
    go_ret
    exact ⟨⟨q,rfl,HQ.out.trans ⟨fun h=>⟨HOK.out,HL.out,HIN.out,h⟩,fun h=>h.2.2.2⟩⟩,B3⟩
 ·have hlen':((ps.length:Int) != (ws.length:Int))=true:=by rw [bne_iff_ne];omega
  have HN:Hid (¬ ChP ws ps):=fun h=>hlen h.2.1
  go_wp2_with fail
  go_ret
  exact ⟨isB_false HN.out,b1⟩
end Go.Proofs.YtpfhegengmlkmacGreatDoor
