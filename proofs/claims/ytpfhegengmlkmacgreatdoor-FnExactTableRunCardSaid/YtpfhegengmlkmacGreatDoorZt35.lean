/- Texts of this claim. -/
import Derived.Test.YtpfhegengmlkmacGreatDoorZt29
import Derived.Test.YtpfhegengmlkmacGreatDoorZt34
namespace Go.Proofs.YtpfhegengmlkmacGreatDoor
open Go.RowKit Go.BigFrame
set_option maxRecDepth 100000
set_option maxHeartbeats 1600000 in
theorem implCJ_any (a a':Option Addr) (cap cap':Nat) (ws:List (List ItemL)) (ps:List Int) (w:World) (hf:FitW ws) (hr:RowW w a ws) (hp:ps.length<=maxLen) (hr':RowZ w a' ps) :
  Calls Tryz.prog 97 #[.slice a ws.length cap,.slice a' ps.length cap'] w fun e w'=>(∃ v m ok,e=.returned (.tuple #[v,.bool ok])∧Gath w' w.heap.size v m∧IsCJ ws ps m ok)∧Below w.heap.size w w':=by
 go_enter Tryz.func97,Tryz.ntmps97
 go_wp2_with fail
 refine (readChoices_any a cap ws _ hf hr).mono ?_
 rintro e w1 ⟨hE,b1⟩
 have hr1:=hr'.below b1
 rcases hE with ⟨a1,c1,a2,c2,sh,rfl,hok,hc1,hc2,hrv,hrg,hsw⟩ | ⟨rfl,hno⟩
 ·have HOK:Hid (OkW ws):=hok
  have HSW:Hid (ShW ws sh):=hsw
  clear hok hsw
  have hcb:=chB_new hrv hrg hc1 hc2
  have hbx:Below w1.heap.size w1 (w1.alloc (.cells #[.slice a1 ws.length c1,.slice a2 sh.length c2] 213)):=(Below.refl _ _).alloc (Nat.le_refl _) _
  have BX:Below w.heap.size w (w1.alloc (.cells #[.slice a1 ws.length c1,.slice a2 sh.length c2] 213)):=b1.trans (hbx.mono b1.size)
  have hrx:=hr1.below hbx
  go_wp2_with fail
  generalize w1.alloc (.cells #[.slice a1 ws.length c1,.slice a2 sh.length c2] 213)=W at *
  refine (has_any w W w1.heap.size ws sh a' cap' ps hcb HOK.out.2.1 hp hrx).mono ?_
  rintro e w2 ⟨⟨r,rfl,hr2⟩,b2⟩
  have HR:Hid (r=true↔ps.length=ws.length∧InW ws ps):=hr2
  clear hr2
  have B2:Below w.heap.size w w2:=BX.trans (b2.mono BX.size)
  cases r with
  | false=>
   have HN:Hid (¬ ChP ws ps):=fun h=>by have:=HR.out.2 ⟨h.2.1,h.2.2.1⟩;simp at this
   go_wp2_with fail
   exact bodyPost_ret (v:=.tuple #[.slice none 0 0,.bool false]) (by simp [results,Tryz.results97,go_sem]) rfl ⟨⟨_,[],false,rfl,Gath.none _ _,.inr ⟨rfl,rfl,.inl HN.out⟩⟩,B2⟩
  | true=>
   have hh:=HR.out.1 rfl
   have HIN:Hid (InW ws ps):=hh.2
   have HLEN:Hid (ps.length=ws.length):=hh.1
   clear HR hh
   go_wp2_with fail
   refine (agrees_any w w2 w1.heap.size ws sh a' cap' ps (hcb.below b2) B2 HOK.out HLEN.out HIN.out (hrx.below b2) HSW.out).mono ?_
   rintro e w3 ⟨⟨r,rfl,hr3⟩,b3⟩
   have HR:Hid (r=true↔ChP ws ps):=hr3.trans ⟨fun h=>⟨HOK.out,HLEN.out,HIN.out,h⟩,fun h=>h.2.2.2⟩
   clear hr3
   have B3:Below w.heap.size w w3:=B2.trans (b3.mono B2.size)
   cases r with
   | false=>
    have HN:Hid (¬ ChP ws ps):=fun h=>by have:=HR.out.2 h;simp at this
    go_wp2_with fail
    exact bodyPost_ret (v:=.tuple #[.slice none 0 0,.bool false]) (by simp [results,Tryz.results97,go_sem]) rfl ⟨⟨_,[],false,rfl,Gath.none _ _,.inr ⟨rfl,rfl,.inl HN.out⟩⟩,B3⟩
   | true=>
    have HC:Hid (ChP ws ps):=HR.out.1 rfl
    have hpl:ps.length<=6:=by have:=HLEN.out;have:=HOK.out.2.1;omega
    clear HR
    replace hcb:=(hcb.below b2).below b3
    replace hrx:=(hrx.below b2).below b3
    go_wp2_with fail
    go_loopw [7,8,30] (fun okv jv i wr=>∃ (k:Nat) (m:List (ByteArray×Int)),k<=ps.length∧i=.int .i64 k∧Gath wr w.heap.size jv m∧Hid (JoinsTo ws ps k m)∧Below w3.heap.size w3 wr) (fun _ _ i _=>ps.length - (intOf i).toNat)
    case atStart=>exact ⟨0,[],Nat.zero_le _,rfl,Gath.none _ _,rfl,Below.refl _ _⟩
    case round=>
     obtain ⟨k,m,hk,rfl,hg,HJ,hbl⟩:=hrel
     have B4:Below w.heap.size w wr:=B3.trans (hbl.mono B3.size)
     by_cases hlt:k < ps.length
     ·obtain ⟨hkw,q,hqe,hq,hpk⟩:=in_nat HC.out.2.2.1 hlt
      obtain ⟨hcl,va,vc,va',vc',e0,hvc,e1,hvc',hv,hgg⟩:=hcb.below hbl
      obtain ⟨g,o,rfl,hwo⟩:=hv k hkw
      obtain ⟨b2,o2,rfl,g2,f2⟩:=hrx.below hbl k hlt
      rw [hqe] at f2
      have hfm:=(hf.2 k hkw).2 q hq
      have k0:(0:Int)<=(k:Int):=by omega
      have k1:(k:Int) < (ps.length:Int):=by omega
      have k2:(k:Int) < (ws.length:Int):=by omega
      have HPK:Hid (pkM ws ps k=(ws[k][q]).2):=hpk
      have hst:=HJ.out.stamp
      have hm12:=hst.1
      have HMS:Hid (∀ j,(h:j < m.length)->m[j].1.size<=maxLen):=fun j hj=>by have:=(hst.2.1 j hj).1.2.1;unfold maxLen;omega
      obtain ⟨oa,oc,rfl,hoc,horow⟩:=gath_row hg
      clear hqe hpk hst hgg hv
      go_wp2_with fail
      refine (at_off w wr g (o + k * 10) ws[k] q hwo hq).mono ?_
      rintro e w4 ⟨⟨vv,rfl,⟨sa,sc,rfl,hsc,hrow⟩⟩,b4⟩
      have B5:Below w.heap.size w w4:=B4.trans (b4.mono B4.size)
      have hfd:=field_stamp (ws[k][q]).1 sa (ws[k][q]).2.length sc
      go_wp2_with fail
      refine (implJoin_any oa sa oc sc m (ws[k][q]).2 _ (by unfold maxLen;omega) hfm.1 hoc hsc (horow.below b4) (hrow.below B5) HMS.out hfm.2).mono ?_
      rintro e w5 ⟨⟨v2,m2,ok2,rfl,hg2,hj2⟩,b5⟩
      obtain ⟨va2,vc2,rfl,_,_⟩:=gath_row hg2
      rw [<- HPK.out] at hj2
      have HJ2:Hid (IsJ m (pkM ws ps k) m2 ok2):=hj2
      clear hj2
      have b45:Below wr.heap.size wr w5:=b4.trans (b5.mono b4.size)
      cases ok2 with
      | false=>
       have HF:Hid (IsCJ ws ps [] false):=.inr ⟨rfl,rfl,.inr ⟨k,m,m2,hlt,HJ.out,HJ2.out⟩⟩
       go_wp2_with fail
       exact bodyPost_ret (v:=.tuple #[.slice none 0 0,.bool false]) (by simp [results,Tryz.results97,go_sem]) rfl ⟨⟨_,[],false,rfl,Gath.none _ _,HF.out⟩,B4.trans (b45.mono B4.size)⟩
      | true=>
       have HST:Hid (JoinsTo ws ps (k + 1) m2):=⟨m,HJ.out,HJ2.out⟩
       go_wp2_with fail
       exact ⟨⟨k + 1,m2,by omega,by go_num,hg2.lower B5.size,HST,hbl.trans (b45.mono hbl.size)⟩,by simp [intOf];omega⟩
     ·have HF:Hid (IsCJ ws ps m true):=.inl ⟨rfl,HC.out,by
       have e:k=ps.length:=by omega
       rw [<- e];exact HJ.out⟩
      go_wp2_with fail
      exact bodyPost_ret (by simp [results,Tryz.results97,go_sem]) rfl ⟨⟨_,m,true,rfl,hg,HF.out⟩,B4⟩
 ·have HN:Hid (¬ ChP ws ps):=fun h=>hno h.1
  clear hno
  go_wp2_with fail
  exact bodyPost_ret (v:=.tuple #[.slice none 0 0,.bool false]) (by simp [results,Tryz.results97,go_sem]) rfl ⟨⟨_,[],false,rfl,Gath.none _ _,.inr ⟨rfl,rfl,.inl HN.out⟩⟩,b1.alloc b1.size _⟩
end Go.Proofs.YtpfhegengmlkmacGreatDoor
namespace Go.Proofs.YtpfhegengmlkmacGreatDoor
open Go.RowKit Go.BigFrame
theorem NumB.span {w w':World} {g lo hi:Nat} {l:List Int} (h:NumB w g l) (hs:Span lo hi w w') (hd:g < lo∨hi<=g):NumB w' g l:=by
 have hlt:=h.lt
 obtain ⟨m,f,h,hf⟩:=h
 exact ⟨m,f,h.of_block (hs.block g hlt hd),hf⟩
def SafeZ (w:World) (lo hi:Nat) (a:Option Addr) (l:List Int):Prop:=l=[]∨∃ g,a=some ⟨g,0,none⟩∧lo<=g∧g < hi∧NumB w g l
theorem SafeZ.row {w:World} {lo hi:Nat} {a:Option Addr} {l:List Int} (h:SafeZ w lo hi a l):RowZ w a l:=by
 rcases h with rfl | ⟨g,rfl,_,_,hn⟩
 ·exact fun k hk=>absurd hk (Nat.not_lt_zero k)
 ·exact hn.row
theorem SafeZ.below {w w':World} {lo hi:Nat} {a:Option Addr} {l:List Int} (h:SafeZ w lo hi a l) (hb:Below w.heap.size w w'):SafeZ w' lo hi a l:=by
 rcases h with rfl | ⟨g,rfl,h1,h2,hn⟩
 ·exact .inl rfl
 ·exact .inr ⟨g,rfl,h1,h2,hn.below hb⟩
theorem SafeZ.span {w w':World} {lo hi lo' hi':Nat} {a:Option Addr} {l:List Int} (h:SafeZ w lo hi a l) (hs:Span lo' hi' w w') (hd:hi<=lo'∨hi'<=lo):SafeZ w' lo hi a l:=by
 rcases h with rfl | ⟨g,rfl,h1,h2,hn⟩
 ·exact .inl rfl
 ·exact .inr ⟨g,rfl,h1,h2,hn.span hs (by omega)⟩
end Go.Proofs.YtpfhegengmlkmacGreatDoor
namespace Go.Proofs.YtpfhegengmlkmacGreatDoor
open Go.RowKit Go.BigFrame
set_option maxRecDepth 100000
theorem valsM_take {ws:List (List ItemL)} {ps:List Int} {k:Nat} (h:k < ps.length):(valsM ws ps).take (k + 1)=(valsM ws ps).take k ++ [pkV ws ps k]:=by
 rw [List.take_succ_eq_append_getElem (by rw [valsM_len];exact h)]
 simp [valsM]
set_option maxHeartbeats 1600000 in
theorem valsAt_any (a0 a1 a2 a':Option Addr) (c0 c1 c2 c' n0 n2:Nat) (ws:List (List ItemL)) (ps:List Int) (w:World) (h6:ws.length<=6) (r1:RowW w a1 ws) (hp:ps.length=ws.length) (hin:InW ws ps) (hr':RowZ w a' ps) (hcap:∀ k,(h:k < ws.length)->ws[k].length<=1048576) :
  Calls Tryz.prog 99 #[.agg #[.slice a0 n0 c0,.slice a1 ws.length c1,.slice a2 n2 c2],.slice a' ps.length c'] w fun e w'=>(∃ g c,e=.returned (.slice (some ⟨g,0,none⟩) ps.length c)∧w.heap.size<=g∧NumB w' g (valsM ws ps))∧Below w.heap.size w w':=by
 have HP:Hid (ps.length=ws.length):=hp
 have HIN:Hid (InW ws ps):=hin
 have HC:Hid (∀ k,(h:k < ws.length)->ws[k].length<=1048576):=hcap
 have hp6:ps.length<=6:=by omega
 clear hp hin hcap
 obtain ⟨i0,hi,hy0,hy1,hy2⟩:=info_parts Tryz.infoZ
 have hmk:∀ u:World,(Instr.makeSlice 37 (.int .i64 0) (.int .i64 (ps.length:Int))).run Tryz.prog u=.ok (.slice (some ⟨u.heap.size,0,none⟩) 0 ps.length) (u.alloc (.cells (madeCells #[.int .i64 0] ps.length) 3)):=fun u=>by
  have h:=run_make (P:=Tryz.prog) u 37 3 i0 (.int .i64 0) Tryz.underlying37 hi hy0 .i64 .i64 0 (ps.length:Int) (by omega) (by omega) (by rw [hy2];omega) (by omega)
  simpa [hy1,Value.cells] using h
 have bG:Below w.heap.size w (w.alloc (.cells #[.slice a0 n0 c0,.slice a1 ws.length c1,.slice a2 n2 c2] 36)):=(Below.refl _ _).alloc (Nat.le_refl _) _
 have tG:=tri_new w (.slice a0 n0 c0) (.slice a1 ws.length c1) (.slice a2 n2 c2) 36
 have hgz:(w.alloc (.cells #[.slice a0 n0 c0,.slice a1 ws.length c1,.slice a2 n2 c2] 36)).heap.size=w.heap.size + 1:=by simp
 go_enter Tryz.func99,Tryz.ntmps99
 go_wp2_with fail
 generalize w.alloc (.cells #[.slice a0 n0 c0,.slice a1 ws.length c1,.slice a2 n2 c2] 36)=WG at *
 have hg0:GathN (WG.alloc (.cells (madeCells #[.int .i64 0] ps.length) 3)) WG.heap.size (.slice (some ⟨WG.heap.size,0,none⟩) 0 ps.length) []:=
  ⟨rfl,.inr ⟨WG.heap.size,ps.length,madeCells #[.int .i64 0] ps.length,rfl,Nat.le_refl _,heap_alloc_new WG _,Nat.zero_le _,by unfold maxLen;omega,by rw [size_madeCells];omega,rfl⟩⟩
 have hb0:Below WG.heap.size WG (WG.alloc (.cells (madeCells #[.int .i64 0] ps.length) 3)):=(Below.refl _ _).alloc (Nat.le_refl _) _
 have HZ:Hid (WG.heap.size=w.heap.size + 1):=hgz
 rw [<- hgz]
 clear hgz
 generalize WG.alloc (.cells (madeCells #[.int .i64 0] ps.length) 3)=WA at *
 clear hmk
 go_loopw [5,13] (fun pv i wr=>∃ k:Nat,k<=ps.length∧i=.int .i64 k∧(∃ g cap,pv=.slice (some ⟨g,0,none⟩) k cap∧GathN wr WG.heap.size (.slice (some ⟨g,0,none⟩) k cap) ((valsM ws ps).take k))∧Below WG.heap.size WG wr) (fun _ i _=>ps.length - (intOf i).toNat)
 case atStart=>exact ⟨0,Nat.zero_le _,rfl,⟨_,_,rfl,hg0⟩,hb0⟩
 case round=>
  clear hg0 hb0
  obtain ⟨k,hk,rfl,⟨g,cap,rfl,hgn⟩,hbl⟩:=hrel
  have hz:=hbl.size
  have hBw:Below w.heap.size w wr:=bG.trans (hbl.mono bG.size)
  have htl:((valsM ws ps).take k).length=k:=by rw [List.length_take,valsM_len];omega
  by_cases hlt:k < ps.length
  ·have hkw:k < ws.length:=by rw [<- HP.out];exact hlt
   obtain ⟨bp,op,rfl,hbp,cp⟩:=hr'.below hBw k hlt
   have hpk:=HIN.out.2 k hlt
   rw [getD_get _ _ hkw] at hpk
   obtain ⟨q,hq⟩:∃ q:Nat,ps[k]=(q:Int):=⟨ps[k].toNat,by omega⟩
   rw [hq] at cp hpk
   have hqw:q < ws[k].length:=by omega
   obtain ⟨bw,ow,rfl,hbw,s1,t1,cw,ht1,hri⟩:=r1.below hBw k hkw
   obtain ⟨bi,oi,rfl,hbi,ci,_⟩:=hri q hqw
   have cG:=cell_on hbl (by have:=HZ.out;omega) tG.c1
   have HV:Hid (pkV ws ps k=ws[k][q].1):=by
    unfold Hid pkV
    rw [getD_get _ _ hkw,getD_get _ _ hlt,hq,Int.toNat_natCast,getD_get _ _ hqw]
   have HT:Hid ((valsM ws ps).take (k + 1)=(valsM ws ps).take k ++ [ws[k][q].1]):=by unfold Hid;rw [valsM_take hlt,HV.out]
   have k0:(0:Int)<=(k:Int):=by omega
   have k1:(k:Int) < (ps.length:Int):=by omega
   have k2:(k:Int) < (ws.length:Int):=by omega
   have q0:(0:Int)<=(q:Int):=by omega
   have q1:(q:Int) < (ws[k].length:Int):=by omega
   clear hq hpk
   generalize ws[k][q].1=vv at *
   go_wp2_with (first | (at_builtin;refine wpList_append_lies _ rfl _ _ 37 rfl WG.heap.size 3 i0 (.int .i64 0) 1 8 Tryz.underlying37 hi hy0 hy1 hy2 rfl (by decide) _ _ _ rfl (own_keep (show World.ownsRow _ _ _ _ _ _ _ from hgn) ((Below.refl _ _).alloc (Nat.le_refl _) _)) ⟨wr.heap.size,0,none⟩ 1 1 [.int .i64 vv] rfl rfl (one_new wr _ _) (by simp [Value.oneCell']) (by decide) (by unfold maxLen;omega) (by omega) (by simp;omega) _ rfl ?_;intro g' cap' w5 hown' hgrow _ _))
   have hgs:=GathN.snoc hown'
   rw [<- HT.out,htl] at hgs
   have hB5:Below WG.heap.size WG w5:=(hbl.alloc hz _).grown hgrow (by simp;omega) (fun q hq=>by have:=own_from (show World.ownsRow _ _ _ _ _ _ _ from hgn) q hq;omega)
   exact ⟨⟨k + 1,by omega,by go_num,⟨g',cap',rfl,hgs⟩,hB5⟩,by simp [intOf];omega⟩
  ·obtain rfl:k=ps.length:=by omega
   have he:(valsM ws ps).take ps.length=valsM ws ps:=List.take_of_length_le (by rw [valsM_len];exact Nat.le_refl _)
   rw [he] at hgn
   have hz':=HZ.out
   obtain ⟨hgB,hnb⟩:=hgn.block
   clear he hz'
   go_wp2_with fail
   go_ret
   exact ⟨⟨g,cap,rfl,by have:=HZ.out;omega,hnb⟩,hBw⟩
theorem Safe.widenS {w:World} {lo hi lo' hi':Nat} {a:Option Addr} {m:List (ByteArray×Int)} (h:Safe w lo hi a m) (h1:lo'<=lo) (h2:hi<=hi'):Safe w lo' hi' a m:=by
 rcases h with e | ⟨g,e,h3,h4,h5⟩
 ·exact .inl e
 ·exact .inr ⟨g,e,by omega,by omega,h5⟩
def ComE (w w':World) (ws:List (List ItemL)) (sh:List (ByteArray×Int)) (e:Ending):Prop:=
 ∃ out ok,BestP ws out ok∧((ok=false∧e=.returned (.iface 161 (.agg #[])))∨(ok=true∧∃ j okj,IsCJ ws out j okj ∧
  ((okj=false∧e=.returned (.iface 162 (.agg #[])))∨(okj=true∧∃ o,IsOrd sh j o ∧
   ((o≠1∧e=.returned (.iface 161 (.agg #[])))∨(o=1∧∃ gv cv ja cj mid,e=.returned (.iface 165 (.agg #[.slice (some ⟨gv,0,none⟩) (valsM ws out).length cv,.slice ja j.length cj]))∧w.heap.size<=mid∧mid<=w'.heap.size∧j.length<=cj∧Safe w' w.heap.size mid ja j∧mid<=gv∧NumB w' gv (valsM ws out)))))))
set_option maxHeartbeats 1600000 in
theorem comes_any (a0 a1 a2:Option Addr) (c0 c1 c2 n0:Nat) (ws:List (List ItemL)) (sh:List (ByteArray×Int)) (w:World) (h6:ws.length<=6) (hst:∀ l∈ws,StampsP l) (r1:RowW w a1 ws) (hs:StampP sh) (hc2:sh.length<=c2) (r2:Row w a2 sh) :
  Calls Tryz.prog 53 #[.agg #[.slice a0 n0 c0,.slice a1 ws.length c1,.slice a2 sh.length c2]] w fun e w'=>ComE w w' ws sh e∧Below w.heap.size w w':=by
 have hf:=stamps_fitW h6 hst
 have hfs:=stamp_fit hs
 have bG:Below w.heap.size w (w.alloc (.cells #[.slice a0 n0 c0,.slice a1 ws.length c1,.slice a2 sh.length c2] 36)):=(Below.refl _ _).alloc (Nat.le_refl _) _
 have tG:=tri_new w (.slice a0 n0 c0) (.slice a1 ws.length c1) (.slice a2 sh.length c2) 36
 go_enter Tryz.func53,Tryz.ntmps53
 go_wp2_with fail
 generalize w.alloc (.cells #[.slice a0 n0 c0,.slice a1 ws.length c1,.slice a2 sh.length c2] 36)=WG at *
 refine (implCB_any a1 c1 ws _ hf (r1.below bG)).mono ?_
 rintro e w1 ⟨hE,b1⟩
 have B1:Below w.heap.size w w1:=bG.trans (b1.mono bG.size)
 replace tG:=tG.keep b1
 rcases hE with ⟨gp,cp,out,rfl,hbest,hgp,hnb⟩ | ⟨rfl,hbest⟩
 ·have HB:Hid (BestP ws out true):=hbest
  have hch:=best_in hbest
  have HCH:Hid (ChP ws out):=hch
  have hol:out.length<=6:=by have:=hch.2.1;have:=hch.1.2.1;omega
  clear hch hbest
  obtain ⟨p0,p1,p2,_,_,_⟩:=id tG
  go_wp2_with fail
  refine (implCJ_any a1 (some ⟨gp,0,none⟩) c1 cp ws out _ hf (r1.below B1) (by unfold maxLen;omega) hnb.row).mono ?_
  rintro e w2 ⟨⟨v2,j,okj,rfl,hg2,hj⟩,b2⟩
  obtain ⟨ja,cj,hv2,hsj⟩:=hg2.safe
  obtain ⟨ja',cj',hv2',hcj,_⟩:=gath_row hg2
  obtain ⟨rfl,rfl⟩:ja=ja'∧cj=cj':=by
   have h:=hv2.symm.trans hv2'
   simp only [Value.slice.injEq] at h
   exact ⟨h.1,h.2.2⟩
  subst hv2
  have HJ:Hid (IsCJ ws out j okj):=hj
  have hjs:=hj.stamp
  have hjf:=stamp_fit hjs
  clear hj
  have B2:Below w.heap.size w w2:=B1.trans (b2.mono B1.size)
  replace tG:=tG.keep b2
  have hnb2:=hnb.below b2
  clear p0 p1 p2
  obtain ⟨p0,p1,p2,_,_,_⟩:=id tG
  have z1:=B1.size
  cases okj with
  | false=>
   go_wp2_with fail
   go_ret
   exact ⟨⟨out,true,HB.out,.inr ⟨rfl,j,false,HJ.out,.inl ⟨rfl,rfl⟩⟩⟩,B2⟩
  | true=>
   go_wp2_with fail
   refine (implOrder_any a2 ja c2 cj sh j _ hfs.1 hjf.1 hc2 hcj (r2.below B2) hsj.row hfs.2 hjf.2).mono ?_
   rintro e w3 ⟨⟨o,rfl,ho⟩,b3⟩
   have HO:Hid (IsOrd sh j o):=ho
   clear ho
   have B3:Below w.heap.size w w3:=B2.trans (b3.mono B2.size)
   replace tG:=tG.keep b3
   replace hsj:=hsj.below b3
   have hnb3:=hnb2.below b3
   clear p0 p1 p2
   obtain ⟨p0,p1,p2,_,_,_⟩:=id tG
   by_cases ho1:o=1
   ·subst ho1
    go_wp2_with fail
    refine (valsAt_any a0 a1 a2 (some ⟨gp,0,none⟩) c0 c1 c2 cp n0 sh.length ws out _ h6 (r1.below B3) HCH.out.2.1 HCH.out.2.2.1 hnb3.row (fun k hk=>by have:=(hst _ (List.getElem_mem hk)).1;omega)).mono ?_
    rintro e w4 ⟨⟨gv,cv,rfl,hgv,hnv⟩,b4⟩
    have hvl:=valsM_len ws out
    have HVL:Hid ((valsM ws out).length=out.length):=hvl
    clear hvl
    go_wp2_with fail
    go_ret
    exact ⟨⟨out,true,HB.out,.inr ⟨rfl,j,true,HJ.out,.inr ⟨rfl,1,HO.out,.inr ⟨rfl,gv,cv,ja,cj,w3.heap.size,by rw [HVL.out];rfl,B3.size,b4.size,hcj,(hsj.widenS (by omega) b3.size).below b4,hgv,hnv⟩⟩⟩⟩,B3.trans (b4.mono B3.size)⟩
   ·go_wp2_with fail
    go_ret
    exact ⟨⟨out,true,HB.out,.inr ⟨rfl,j,true,HJ.out,.inr ⟨rfl,o,HO.out,.inl ⟨ho1,rfl⟩⟩⟩⟩,B3⟩
 ·have HB:Hid (BestP ws [] false):=hbest
  clear hbest
  go_wp2_with fail
  go_ret
  exact ⟨⟨[],false,HB.out,.inl ⟨rfl,rfl⟩⟩,B1⟩
theorem Tri.span {w w':World} {b lo hi:Nat} {x y z:Value} (h:Tri w b x y z) (hs:Span lo hi w w') (hd:b < lo∨hi<=b):Tri w' b x y z:=by
 have hlt:b < w.heap.size:=block_lt_of_cell h.c0
 have e:=hs.block b hlt hd
 exact ⟨(World.cell?_of_block (a:=⟨b,0,none⟩) e).trans h.c0,(World.cell?_of_block (a:=⟨b,1,none⟩) e).trans h.c1,(World.cell?_of_block (a:=⟨b,2,none⟩) e).trans h.c2,(World.frozen?_of_block (a:=⟨b,0,none⟩) e).trans h.f0,(World.frozen?_of_block (a:=⟨b,1,none⟩) e).trans h.f1,(World.frozen?_of_block (a:=⟨b,2,none⟩) e).trans h.f2⟩
end Go.Proofs.YtpfhegengmlkmacGreatDoor
