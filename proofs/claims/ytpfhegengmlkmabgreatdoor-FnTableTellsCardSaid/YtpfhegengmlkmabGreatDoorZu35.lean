/- Texts of this claim. -/
import Derived.Test.YtpfhegengmlkmabGreatDoorZu31
import Derived.Test.YtpfhegengmlkmabGreatDoorZu34
namespace Go.Proofs.YtpfhegengmlkmabGreatDoor
open Go.RowKit Go.BigFrame
set_option maxRecDepth 100000
theorem iY.at {w:World}{B sa sc n q:Nat}{SL:List (Nat×Nat)}(h:iY w B (.slice (some ⟨sa,0,none⟩) n sc) SL)(hn:n=SL.length)(hq:q<SL.length):∃gq cq,w.cell? ⟨sa,q,none⟩=some (.slice (some ⟨gq,0,none⟩) 4 cq)/\Four w gq 1000/\B<=gq/\B<=sa:=by
 subst hn
 have h1:=World.ownsRow.cellAt h.1 q (by omega)
 have h2:(L:List (Nat×Nat))->(hq:q<L.length)->(L.map fun p=>(.slice (some ⟨p.1,0,none⟩) 4 p.2:Value))[q]?=some (.slice (some ⟨L[q].1,0,none⟩) 4 L[q].2):=fun L hq=>by simp[hq]
 obtain⟨h3,h4,_⟩:=h.2 _ (List.getElem_mem hq)
 refine⟨SL[q].1,SL[q].2, ?_,h4,h3, ?_⟩
 ·rw[h1];exact h2 SL hq
 ·exact fH h.1 sa rfl
theorem nG {w:World}{B:Nat}{v:Value}{l:List (ByteArray×Int)}(h:az w B v l):∃a c,v=.slice a l.length c/\l.length<=c/\Row w a l:=by
 obtain⟨a,c,rfl,hr⟩:=h.shape
 refine⟨a,c,rfl, ?_,hr⟩
 rcases h.2 with⟨e,h0⟩|⟨g,cap,cur,e,_,_,hn,_⟩
 ·omega
 ·cases e
  exact hn
set_option maxHeartbeats 1600000 in
theorem EU (a a':Option Addr)(cap cap':Nat)(ws:List (List af))(ps:List Int)(w:World)(hf:wM ws)(hr:iF w a ws)(hp:ps.length<=maxLen)(hr':iC w a' ps) :
  Calls Tryz.prog 113 #[.slice a ws.length cap,.slice a' ps.length cap'] w fun e w'=>(∃v m ok,e=.returned (.tuple #[v,.bool ok])/\az w' w.heap.size v m/\qf ws ps m ok)/\Below w.heap.size w w':=by
 go_enter Tryz.func113,Tryz.ntmps113
 go_wp2_with fail
 refine(nI a cap ws a' cap' ps _ hf hr hp hr').mono ?_
 rintro e w1 ⟨⟨r,rfl,hr1⟩,b1⟩
 have HR:Hid (r=true↔oQ ws ps):=hr1
 clear hr1
 cases r with
 |false=>
  have HN:Hid (¬oQ ws ps):=fun h=>by have:=HR.out.2 h;simp at this
  go_wp2_with fail
  exact bodyPost_ret (v:=.tuple #[.slice none 0 0,.bool false]) (by simp[results,Tryz.results113,go_sem]) rfl ⟨⟨_,[],false,rfl,az.none _ _,.inr ⟨rfl,rfl,.inl HN.out⟩⟩,b1⟩
 |true=>
  have HC:Hid (oQ ws ps):=HR.out.1 rfl
  have hl6:=HC.out.1.2.1
  have hlp:=HC.out.2.1
  have hpl:ps.length<=6:=by omega
  clear HR hlp
  go_wp2_with fail
  go_loopw [6,7] (fun out i wr=>∃(k:Nat) (m:List (ByteArray×Int)),k<=ps.length/\i=.int .i64 k/\az wr w.heap.size out m/\Hid (fB ws ps k m)/\Below w.heap.size w wr) (fun _ i _=>ps.length-(intOf i).toNat)
  case atStart=>exact⟨0,[],Nat.zero_le _,rfl,az.none _ _,rfl,b1⟩
  case round=>
   obtain⟨k,m,hk,rfl,hg,HJ,hbl⟩:=hrel
   by_cases hlt:k<ps.length
   ·obtain⟨hkw,q,hqe,hq,hpk⟩:=vK HC.out.2.2.1 hlt
    obtain⟨b1,o1,rfl,g1,s1,t1,f1,_,r1⟩:=hr.below hbl k hkw
    obtain⟨b2,o2,rfl,g2,f2⟩:=hr'.below hbl k hlt
    rw[hqe]at f2
    obtain⟨b3,o3,rfl,g3,_,vv,f3,⟨sa,sc,rfl,hsc,rm⟩⟩:=r1 q hq
    have hfm:=(hf.2 k hkw).2 q hq
    have k0:(0:Int)<=(k:Int):=by omega
    have k1:(k:Int)<(ps.length:Int):=by omega
    have k2:(k:Int)<(ws.length:Int):=by omega
    have q0:(0:Int)<=(q:Int):=by omega
    have q1:(q:Int)<(ws[k].length:Int):=by omega
    have HPK:Hid (lM ws ps k=(ws[k][q]).2):=hpk
    have hst:=HJ.out.stamp
    have hm12:=hst.1
    have HMS:Hid (∀j,(h:j<m.length)->m[j].1.size<=maxLen):=fun j hj=>by have:=(hst.2.1 j hj).1.2.1;unfold maxLen;omega
    obtain⟨oa,oc,rfl,_,horow⟩:=nG hg
    clear hqe hpk hst
    have SW:(wr.drew).cell? ⟨b1,o1+k,none⟩=some (.slice (some ⟨b3,o3,none⟩) ws[k].length t1)/\(wr.drew).cell? ⟨b2,o2+k,none⟩=some (.int .i64 (q:Int))/\(wr.drew).cell? ⟨b3,o3+q*2+1,none⟩=some (.slice sa (ws[k][q]).2.length sc):=⟨f1,f2,f3⟩
    go_wp2_with fail
    refine wp_region_held_drew (S:=fun u=>u.cell? ⟨b1,o1+k,none⟩=some (.slice (some ⟨b3,o3,none⟩) ws[k].length t1)/\u.cell? ⟨b2,o2+k,none⟩=some (.int .i64 (q:Int))/\u.cell? ⟨b3,o3+q*2+1,none⟩=some (.slice sa (ws[k][q]).2.length sc)) (by kernel_rfl) SW (fun _=>?_)
    refine wpAnyH_take (i:=0) (v:=.slice oa m.length oc) rfl (by kernel_rfl) (by kernel_rfl) (by kernel_rfl) (fun _ _ _ h=>h) (Or.inl ⟨by rfl, ?_⟩) SW ?_
    ·rintro u ⟨q1,q2,q3⟩
     go_simp
    simp only[Act.put,List.setIfInBounds_toArray]
    refine wpAnyH_take (i:=1) (v:=.slice (some ⟨b1,o1,none⟩) ws.length cap) rfl (by kernel_rfl) (by kernel_rfl) (by kernel_rfl) (fun _ _ _ h=>h) (Or.inl ⟨by rfl, ?_⟩) SW ?_
    ·rintro u ⟨q1,q2,q3⟩
     go_simp
    simp only[Act.put]
    refine wpAnyH_take (i:=2) (v:=.int .i64 k) rfl (by kernel_rfl) (by kernel_rfl) (by kernel_rfl) (fun _ _ _ h=>h) (Or.inl ⟨by rfl, ?_⟩) SW ?_
    ·rintro u ⟨q1,q2,q3⟩
     go_simp
    simp only[Act.put]
    refine wpAnyH_take (i:=3) (v:=.pointer (some ⟨b1,o1+k,none⟩)) rfl (by kernel_rfl) (by kernel_rfl) (by kernel_rfl) (fun _ _ _ h=>h) (Or.inl ⟨by rfl, ?_⟩) SW ?_
    ·rintro u ⟨q1,q2,q3⟩
     go_simp
    simp only[Act.put]
    refine wpAnyH_take (i:=4) (v:=.slice (some ⟨b3,o3,none⟩) ws[k].length t1) rfl (by kernel_rfl) (by kernel_rfl) (by kernel_rfl) (fun _ _ _ h=>h) (Or.inl ⟨by rfl, ?_⟩) SW ?_
    ·rintro u ⟨q1,q2,q3⟩
     go_simp
    simp only[Act.put]
    refine wpAnyH_take (i:=5) (v:=.slice (some ⟨b2,o2,none⟩) ps.length cap') rfl (by kernel_rfl) (by kernel_rfl) (by kernel_rfl) (fun _ _ _ h=>h) (Or.inl ⟨by rfl, ?_⟩) SW ?_
    ·rintro u ⟨q1,q2,q3⟩
     go_simp
    simp only[Act.put]
    refine wpAnyH_take (i:=6) (v:=.int .i64 k) rfl (by kernel_rfl) (by kernel_rfl) (by kernel_rfl) (fun _ _ _ h=>h) (Or.inl ⟨by rfl, ?_⟩) SW ?_
    ·rintro u ⟨q1,q2,q3⟩
     go_simp
    simp only[Act.put]
    refine wpAnyH_take (i:=7) (v:=.pointer (some ⟨b2,o2+k,none⟩)) rfl (by kernel_rfl) (by kernel_rfl) (by kernel_rfl) (fun _ _ _ h=>h) (Or.inl ⟨by rfl, ?_⟩) SW ?_
    ·rintro u ⟨q1,q2,q3⟩
     go_simp
    simp only[Act.put]
    refine wpAnyH_take (i:=8) (v:=.int .i64 q) rfl (by kernel_rfl) (by kernel_rfl) (by kernel_rfl) (fun _ _ _ h=>h) (Or.inl ⟨by rfl, ?_⟩) SW ?_
    ·rintro u ⟨q1,q2,q3⟩
     go_simp
    simp only[Act.put]
    refine wpAnyH_take (i:=9) (v:=.pointer (some ⟨b3,o3+q*2,none⟩)) rfl (by kernel_rfl) (by kernel_rfl) (by kernel_rfl) (fun _ _ _ h=>h) (Or.inl ⟨by rfl, ?_⟩) SW ?_
    ·rintro u ⟨q1,q2,q3⟩
     go_simp
    simp only[Act.put]
    refine wpAnyH_take (i:=10) (v:=.pointer (some ⟨b3,o3+q*2+1,none⟩)) rfl (by kernel_rfl) (by kernel_rfl) (by kernel_rfl) (fun _ _ _ h=>h) (Or.inl ⟨by rfl, ?_⟩) SW ?_
    ·rintro u ⟨q1,q2,q3⟩
     go_simp
    simp only[Act.put]
    refine wpAnyH_take (i:=11) (v:=.slice sa (ws[k][q]).2.length sc) rfl (by kernel_rfl) (by kernel_rfl) (by kernel_rfl) (fun _ _ _ h=>h) (Or.inl ⟨by rfl, ?_⟩) SW ?_
    ·rintro u ⟨q1,q2,q3⟩
     go_simp
    simp only[Act.put]
    refine wpAnyH_ready (rs:=[12]) (by kernel_rfl) (by simp) ?_
    refine AllReadyH.cons rfl (fun K hK=>?_) AllReadyH.nil
    rw[if_pos (by rfl)]
    go_simp
    have hbd:Below wr.heap.size wr wr.drew:=(Below.refl _ _).drew
    refine(AC oa sa oc sc m (ws[k][q]).2 _ (by unfold maxLen;omega) hfm.1 (horow.below hbd) (rm.below hbd) HMS.out hfm.2).mono ?_
    rintro e w2 ⟨⟨v2,m2,ok2,rfl,hg2,hj2⟩,b2'⟩
    obtain⟨va,vc,rfl,_,_⟩:=nG hg2
    rw[<- HPK.out]at hj2
    have HJ2:Hid (DT m (lM ws ps k) m2 ok2):=hj2
    clear hj2
    have b2d:Below wr.heap.size wr w2:=hbd.trans (b2'.mono hbd.size)
    have B2:Below w.heap.size w w2:=hbl.trans (b2d.mono hbl.size)
    have S2:w2.cell? ⟨b1,o1+k,none⟩=some (.slice (some ⟨b3,o3,none⟩) ws[k].length t1)/\w2.cell? ⟨b2,o2+k,none⟩=some (.int .i64 (q:Int))/\w2.cell? ⟨b3,o3+q*2+1,none⟩=some (.slice sa (ws[k][q]).2.length sc):=⟨ae b2d g1 f1,ae b2d g2 f2,ae b2d g3 f3⟩
    refine hK.out _ _ S2 (fun _=>?_)
    clear hK K SW
    refine wpAnyH_take (i:=13) (v:=.tuple #[.slice va m2.length vc,.bool ok2]) rfl (by kernel_rfl) (by kernel_rfl) (by kernel_rfl) (fun _ _ _ h=>h) (Or.inl ⟨by rfl, ?_⟩) S2 ?_
    ·rintro u ⟨q1,q2,q3⟩
     go_simp
    simp only[Act.put,List.setIfInBounds_toArray]
    refine wpAnyH_take (i:=14) (v:=.slice va m2.length vc) rfl (by kernel_rfl) (by kernel_rfl) (by kernel_rfl) (fun _ _ _ h=>h) (Or.inl ⟨by rfl, ?_⟩) S2 ?_
    ·rintro u ⟨q1,q2,q3⟩
     go_simp
    simp only[Act.put]
    refine wpAnyH_take (i:=15) (v:=.bool ok2) rfl (by kernel_rfl) (by kernel_rfl) (by kernel_rfl) (fun _ _ _ h=>h) (Or.inl ⟨by rfl, ?_⟩) S2 ?_
    ·rintro u ⟨q1,q2,q3⟩
     go_simp
    simp only[Act.put]
    refine wpAnyH_ready (rs:=[16]) (by kernel_rfl) (by simp) ?_
    refine AllReadyH.cons rfl (fun K hK=>?_) AllReadyH.nil
    rw[if_pos (by rfl)]
    go_simp
    refine hK.out _ _ S2 (fun _=>?_)
    clear hK K
    refine wpAnyH_ready (rs:=[17]) (by kernel_rfl) (by simp) ?_
    refine AllReadyH.cons rfl (fun K hK=>?_) AllReadyH.nil
    rw[if_pos (by rfl)]
    go_simp
    refine hK.out _ _ S2 (fun _=>?_)
    clear hK K
    refine wpAnyH_done (by kernel_rfl) ?_ _
    clear S2
    cases ok2 with
    |false=>
     have HF:Hid (qf ws ps [] false):=.inr ⟨rfl,rfl,.inr ⟨k,m,m2,hlt,HJ.out,HJ2.out⟩⟩
     go_wp2_with fail
     exact bodyPost_ret (v:=.tuple #[.slice none 0 0,.bool false]) (by simp[results,Tryz.results113,go_sem]) rfl ⟨⟨_,[],false,rfl,az.none _ _,HF.out⟩,B2⟩
    |true=>
     have HST:Hid (fB ws ps (k+1) m2):=⟨m,HJ.out,HJ2.out⟩
     go_wp2_with fail
     exact⟨⟨k+1,m2,by omega,by go_num,hg2.lower hbl.size,HST,B2⟩,by simp[intOf];omega⟩
   ·have HF:Hid (qf ws ps m true):=.inl ⟨rfl,HC.out,by
     have e:k=ps.length:=by omega
     rw[<- e];exact HJ.out⟩
    go_wp2_with fail
    exact bodyPost_ret (by simp[results,Tryz.results113,go_sem]) rfl ⟨⟨_,m,true,rfl,hg,HF.out⟩,hbl⟩
set_option maxHeartbeats 1600000 in
theorem Eo (a a':Option Addr)(cap cap':Nat)(ws:List (List af))(ps:List Int)(w:World)(hf:wM ws)(hr:iF w a ws)(hp:ps.length<=maxLen)(hr':iC w a' ps) :
  Calls Tryz.prog 88 #[.slice a ws.length cap,.slice a' ps.length cap'] w fun e w'=>(∃v m ok,e=.returned (.tuple #[v,.bool ok])/\az w' w.heap.size v m/\qf ws ps m ok)/\Below w.heap.size w w':=by
 go_enter Tryz.func88,Tryz.ntmps88
 go_wp2_with fail
 refine(mJ a cap ws _ hf hr).mono ?_
 rintro e w1 ⟨hE,b1⟩
 have hr1:=hr'.below b1
 rcases hE with⟨a1,c1,a2,c2,sh,rfl,hok,hc1,hc2,hrv,hrg,hsw⟩|⟨rfl,hno⟩
 ·have HOK:Hid (OkW ws):=hok
  have HSW:Hid (IL ws sh):=hsw
  clear hok hsw
  have hcb:=Fv hrv hrg hc1 hc2
  have hbx:Below w1.heap.size w1 (w1.alloc (.cells #[.slice a1 ws.length c1,.slice a2 sh.length c2] 204)):=(Below.refl _ _).alloc (Nat.le_refl _) _
  have BX:Below w.heap.size w (w1.alloc (.cells #[.slice a1 ws.length c1,.slice a2 sh.length c2] 204)):=b1.trans (hbx.mono b1.size)
  have hrx:=hr1.below hbx
  go_wp2_with fail
  generalize w1.alloc (.cells #[.slice a1 ws.length c1,.slice a2 sh.length c2] 204)=W at *
  refine(FI w W w1.heap.size ws sh a' cap' ps hcb HOK.out.2.1 hp hrx).mono ?_
  rintro e w2 ⟨⟨r,rfl,hr2⟩,b2⟩
  have HR:Hid (r=true↔ps.length=ws.length/\kH ws ps):=hr2
  clear hr2
  have B2:Below w.heap.size w w2:=BX.trans (b2.mono BX.size)
  cases r with
  |false=>
   have HN:Hid (¬oQ ws ps):=fun h=>by have:=HR.out.2 ⟨h.2.1,h.2.2.1⟩;simp at this
   go_wp2_with fail
   exact bodyPost_ret (v:=.tuple #[.slice none 0 0,.bool false]) (by simp[results,Tryz.results88,go_sem]) rfl ⟨⟨_,[],false,rfl,az.none _ _,.inr ⟨rfl,rfl,.inl HN.out⟩⟩,B2⟩
  |true=>
   have hh:=HR.out.1 rfl
   have HIN:Hid (kH ws ps):=hh.2
   have HLEN:Hid (ps.length=ws.length):=hh.1
   clear HR hh
   go_wp2_with fail
   refine(Ej w w2 w1.heap.size ws sh a' cap' ps (hcb.below b2) B2 HOK.out HLEN.out HIN.out (hrx.below b2) HSW.out).mono ?_
   rintro e w3 ⟨⟨r,rfl,hr3⟩,b3⟩
   have HR:Hid (r=true↔oQ ws ps):=hr3.trans ⟨fun h=>⟨HOK.out,HLEN.out,HIN.out,h⟩,fun h=>h.2.2.2⟩
   clear hr3
   have B3:Below w.heap.size w w3:=B2.trans (b3.mono B2.size)
   cases r with
   |false=>
    have HN:Hid (¬oQ ws ps):=fun h=>by have:=HR.out.2 h;simp at this
    go_wp2_with fail
    exact bodyPost_ret (v:=.tuple #[.slice none 0 0,.bool false]) (by simp[results,Tryz.results88,go_sem]) rfl ⟨⟨_,[],false,rfl,az.none _ _,.inr ⟨rfl,rfl,.inl HN.out⟩⟩,B3⟩
   |true=>
    have HC:Hid (oQ ws ps):=HR.out.1 rfl
    have hpl:ps.length<=6:=by have:=HLEN.out;have:=HOK.out.2.1;omega
    clear HR
    replace hcb:=(hcb.below b2).below b3
    replace hrx:=(hrx.below b2).below b3
    go_wp2_with fail
    go_loopw [7,8,30] (fun okv jv i wr=>∃(k:Nat) (m:List (ByteArray×Int)),k<=ps.length/\i=.int .i64 k/\az wr w.heap.size jv m/\Hid (fB ws ps k m)/\Below w3.heap.size w3 wr) (fun _ _ i _=>ps.length-(intOf i).toNat)
    case atStart=>exact⟨0,[],Nat.zero_le _,rfl,az.none _ _,rfl,Below.refl _ _⟩
    case round=>
     obtain⟨k,m,hk,rfl,hg,HJ,hbl⟩:=hrel
     have B4:Below w.heap.size w wr:=B3.trans (hbl.mono B3.size)
     by_cases hlt:k<ps.length
     ·obtain⟨hkw,q,hqe,hq,hpk⟩:=vK HC.out.2.2.1 hlt
      obtain⟨hcl,va,vc,va',vc',e0,hvc,e1,hvc',hv,hgg⟩:=hcb.below hbl
      obtain⟨g,o,rfl,hwo⟩:=hv k hkw
      obtain⟨b2,o2,rfl,g2,f2⟩:=hrx.below hbl k hlt
      rw[hqe]at f2
      have hfm:=(hf.2 k hkw).2 q hq
      have k0:(0:Int)<=(k:Int):=by omega
      have k1:(k:Int)<(ps.length:Int):=by omega
      have k2:(k:Int)<(ws.length:Int):=by omega
      have HPK:Hid (lM ws ps k=(ws[k][q]).2):=hpk
      have hst:=HJ.out.stamp
      have hm12:=hst.1
      have HMS:Hid (∀j,(h:j<m.length)->m[j].1.size<=maxLen):=fun j hj=>by have:=(hst.2.1 j hj).1.2.1;unfold maxLen;omega
      obtain⟨oa,oc,rfl,hoc,horow⟩:=nG hg
      clear hqe hpk hst hgg hv
      go_wp2_with fail
      refine(JF w wr g (o+k*10) ws[k] q hwo hq).mono ?_
      rintro e w4 ⟨⟨vv,rfl,⟨sa,sc,rfl,hsc,hrow⟩⟩,b4⟩
      have B5:Below w.heap.size w w4:=B4.trans (b4.mono B4.size)
      have hfd:=kN (ws[k][q]).1 sa (ws[k][q]).2.length sc
      go_wp2_with fail
      refine(AQ oa sa oc sc m (ws[k][q]).2 _ (by unfold maxLen;omega) hfm.1 hoc hsc (horow.below b4) (hrow.below B5) HMS.out hfm.2).mono ?_
      rintro e w5 ⟨⟨v2,m2,ok2,rfl,hg2,hj2⟩,b5⟩
      obtain⟨va2,vc2,rfl,_,_⟩:=nG hg2
      rw[<- HPK.out]at hj2
      have HJ2:Hid (DT m (lM ws ps k) m2 ok2):=hj2
      clear hj2
      have b45:Below wr.heap.size wr w5:=b4.trans (b5.mono b4.size)
      cases ok2 with
      |false=>
       have HF:Hid (qf ws ps [] false):=.inr ⟨rfl,rfl,.inr ⟨k,m,m2,hlt,HJ.out,HJ2.out⟩⟩
       go_wp2_with fail
       exact bodyPost_ret (v:=.tuple #[.slice none 0 0,.bool false]) (by simp[results,Tryz.results88,go_sem]) rfl ⟨⟨_,[],false,rfl,az.none _ _,HF.out⟩,B4.trans (b45.mono B4.size)⟩
      |true=>
       have HST:Hid (fB ws ps (k+1) m2):=⟨m,HJ.out,HJ2.out⟩
       go_wp2_with fail
       exact⟨⟨k+1,m2,by omega,by go_num,hg2.lower B5.size,HST,hbl.trans (b45.mono hbl.size)⟩,by simp[intOf];omega⟩
     ·have HF:Hid (qf ws ps m true):=.inl ⟨rfl,HC.out,by
       have e:k=ps.length:=by omega
       rw[<- e];exact HJ.out⟩
      go_wp2_with fail
      exact bodyPost_ret (by simp[results,Tryz.results88,go_sem]) rfl ⟨⟨_,m,true,rfl,hg,HF.out⟩,B4⟩
 ·have HN:Hid (¬oQ ws ps):=fun h=>hno h.1
  clear hno
  go_wp2_with fail
  exact bodyPost_ret (v:=.tuple #[.slice none 0 0,.bool false]) (by simp[results,Tryz.results88,go_sem]) rfl ⟨⟨_,[],false,rfl,az.none _ _,.inr ⟨rfl,rfl,.inl HN.out⟩⟩,b1.alloc b1.size _⟩
theorem xP {ws:List (List af)}{ps:List Int}{k:Nat}(h:k<ps.length):(bZ ws ps).take (k+1)=(bZ ws ps).take k++[MM ws ps k]:=by
 rw[List.take_succ_eq_append_getElem (by rw[gX];exact h)]
 simp[bZ]
set_option maxHeartbeats 1600000 in
theorem D5 (a0 a1 a2 a':Option Addr)(c0 c1 c2 c' n0 n2:Nat)(ws:List (List af))(ps:List Int)(w:World)(h6:ws.length<=6)(r1:iF w a1 ws)(hp:ps.length=ws.length)(hin:kH ws ps)(hr':iC w a' ps)(hcap:∀k,(h:k<ws.length)->ws[k].length<=1048576) :
  Calls Tryz.prog 90 #[.agg #[.slice a0 n0 c0,.slice a1 ws.length c1,.slice a2 n2 c2],.slice a' ps.length c'] w fun e w'=>(∃g c,e=.returned (.slice (some ⟨g,0,none⟩) ps.length c)/\w.heap.size<=g/\gZ w' g (bZ ws ps))/\Below w.heap.size w w':=by
 have HP:Hid (ps.length=ws.length):=hp
 have HIN:Hid (kH ws ps):=hin
 have HC:Hid (∀k,(h:k<ws.length)->ws[k].length<=1048576):=hcap
 have hp6:ps.length<=6:=by omega
 clear hp hin hcap
 obtain⟨i0,hi,hy0,hy1,hy2⟩:=info_parts Tryz.infoZ
 have hmk:∀u:World,(Instr.makeSlice 41 (.int .i64 0) (.int .i64 (ps.length:Int))).run Tryz.prog u=.ok (.slice (some ⟨u.heap.size,0,none⟩) 0 ps.length) (u.alloc (.cells (madeCells #[.int .i64 0] ps.length) 3)):=fun u=>by
  have h:=run_make (P:=Tryz.prog) u 41 3 i0 (.int .i64 0) Tryz.underlying41 hi hy0 .i64 .i64 0 (ps.length:Int) (by omega) (by omega) (by rw[hy2];omega) (by omega)
  simpa[hy1,Value.cells]using h
 have bG:Below w.heap.size w (w.alloc (.cells #[.slice a0 n0 c0,.slice a1 ws.length c1,.slice a2 n2 c2] 30)):=(Below.refl _ _).alloc (Nat.le_refl _) _
 have tG:=aQ w (.slice a0 n0 c0) (.slice a1 ws.length c1) (.slice a2 n2 c2) 30
 have hgz:(w.alloc (.cells #[.slice a0 n0 c0,.slice a1 ws.length c1,.slice a2 n2 c2] 30)).heap.size=w.heap.size+1:=by simp
 go_enter Tryz.func90,Tryz.ntmps90
 go_wp2_with fail
 generalize w.alloc (.cells #[.slice a0 n0 c0,.slice a1 ws.length c1,.slice a2 n2 c2] 30)=WG at *
 have hg0:dZ (WG.alloc (.cells (madeCells #[.int .i64 0] ps.length) 3)) WG.heap.size (.slice (some ⟨WG.heap.size,0,none⟩) 0 ps.length) []:=
  ⟨rfl,.inr ⟨WG.heap.size,ps.length,madeCells #[.int .i64 0] ps.length,rfl,Nat.le_refl _,heap_alloc_new WG _,Nat.zero_le _,by unfold maxLen;omega,by rw[size_madeCells];omega,rfl⟩⟩
 have hb0:Below WG.heap.size WG (WG.alloc (.cells (madeCells #[.int .i64 0] ps.length) 3)):=(Below.refl _ _).alloc (Nat.le_refl _) _
 have HZ:Hid (WG.heap.size=w.heap.size+1):=hgz
 rw[<- hgz]
 clear hgz
 generalize WG.alloc (.cells (madeCells #[.int .i64 0] ps.length) 3)=WA at *
 clear hmk
 go_loopw [5,13] (fun pv i wr=>∃k:Nat,k<=ps.length/\i=.int .i64 k/\(∃g cap,pv=.slice (some ⟨g,0,none⟩) k cap/\dZ wr WG.heap.size (.slice (some ⟨g,0,none⟩) k cap) ((bZ ws ps).take k))/\Below WG.heap.size WG wr) (fun _ i _=>ps.length-(intOf i).toNat)
 case atStart=>exact⟨0,Nat.zero_le _,rfl,⟨_,_,rfl,hg0⟩,hb0⟩
 case round=>
  clear hg0 hb0
  obtain⟨k,hk,rfl,⟨g,cap,rfl,hgn⟩,hbl⟩:=hrel
  have hz:=hbl.size
  have hBw:Below w.heap.size w wr:=bG.trans (hbl.mono bG.size)
  have htl:((bZ ws ps).take k).length=k:=by rw[List.length_take,gX];omega
  by_cases hlt:k<ps.length
  ·have hkw:k<ws.length:=by rw[<- HP.out];exact hlt
   obtain⟨bp,op,rfl,hbp,cp⟩:=hr'.below hBw k hlt
   have hpk:=HIN.out.2 k hlt
   rw[ig _ _ hkw]at hpk
   obtain⟨q,hq⟩:∃q:Nat,ps[k]=(q:Int):=⟨ps[k].toNat,by omega⟩
   rw[hq]at cp hpk
   have hqw:q<ws[k].length:=by omega
   obtain⟨bw,ow,rfl,hbw,s1,t1,cw,ht1,hri⟩:=r1.below hBw k hkw
   obtain⟨bi,oi,rfl,hbi,ci,_⟩:=hri q hqw
   have cG:=ae hbl (by have:=HZ.out;omega) tG.c1
   have HV:Hid (MM ws ps k=ws[k][q].1):=by
    unfold Hid MM
    rw[ig _ _ hkw,ig _ _ hlt,hq,Int.toNat_natCast,ig _ _ hqw]
   have HT:Hid ((bZ ws ps).take (k+1)=(bZ ws ps).take k++[ws[k][q].1]):=by unfold Hid;rw[xP hlt,HV.out]
   have k0:(0:Int)<=(k:Int):=by omega
   have k1:(k:Int)<(ps.length:Int):=by omega
   have k2:(k:Int)<(ws.length:Int):=by omega
   have q0:(0:Int)<=(q:Int):=by omega
   have q1:(q:Int)<(ws[k].length:Int):=by omega
   clear hq hpk
   generalize ws[k][q].1=vv at *
   go_wp2_with (first|(at_builtin;refine wpList_append_lies _ rfl _ _ 41 rfl WG.heap.size 3 i0 (.int .i64 0) 1 8 Tryz.underlying41 hi hy0 hy1 hy2 rfl (by decide) _ _ _ rfl (dh (show World.ownsRow _ _ _ _ _ _ _ from hgn) ((Below.refl _ _).alloc (Nat.le_refl _) _)) ⟨wr.heap.size,0,none⟩ 1 1 [.int .i64 vv] rfl rfl (fA wr _ _) (by simp[Value.oneCell']) (by decide) (by unfold maxLen;omega) (by omega) (by simp;omega) _ rfl ?_;intro g' cap' w5 hown' hgrow _ _))
   have hgs:=dZ.snoc hown'
   rw[<- HT.out,htl]at hgs
   have hB5:Below WG.heap.size WG w5:=(hbl.alloc hz _).grown hgrow (by simp;omega) (fun q hq=>by have:=aT (show World.ownsRow _ _ _ _ _ _ _ from hgn) q hq;omega)
   exact⟨⟨k+1,by omega,by go_num,⟨g',cap',rfl,hgs⟩,hB5⟩,by simp[intOf];omega⟩
  ·obtain rfl:k=ps.length:=by omega
   have he:(bZ ws ps).take ps.length=bZ ws ps:=List.take_of_length_le (by rw[gX];exact Nat.le_refl _)
   rw[he]at hgn
   have hz':=HZ.out
   obtain⟨hgB,hnb⟩:=hgn.block
   clear he hz'
   go_wp2_with fail
   go_ret
   exact⟨⟨g,cap,rfl,by have:=HZ.out;omega,hnb⟩,hBw⟩
theorem Safe.widenS {w:World}{lo hi lo' hi':Nat}{a:Option Addr}{m:List (ByteArray×Int)}(h:Safe w lo hi a m)(h1:lo'<=lo)(h2:hi<=hi'):Safe w lo' hi' a m:=by
 rcases h with e|⟨g,e,h3,h4,h5⟩
 ·exact .inl e
 ·exact .inr ⟨g,e,by omega,by omega,h5⟩
def NS (w w':World)(ws:List (List af))(sh:List (ByteArray×Int))(e:Ending):Prop:=
 ∃out ok,fC ws out ok/\((ok=false/\e=.returned (.iface 151 (.agg #[])))∨(ok=true/\∃j okj,qf ws out j okj /\
  ((okj=false/\e=.returned (.iface 153 (.agg #[])))∨(okj=true/\∃o,kC sh j o /\
   ((o≠1/\e=.returned (.iface 151 (.agg #[])))∨(o=1/\∃gv cv ja cj mid,e=.returned (.iface 156 (.agg #[.slice (some ⟨gv,0,none⟩) (bZ ws out).length cv,.slice ja j.length cj]))/\w.heap.size<=mid/\mid<=w'.heap.size/\j.length<=cj/\Safe w' w.heap.size mid ja j/\mid<=gv/\gZ w' gv (bZ ws out)))))))
set_option maxHeartbeats 1600000 in
theorem Ic (a0 a1 a2:Option Addr)(c0 c1 c2 n0:Nat)(ws:List (List af))(sh:List (ByteArray×Int))(w:World)(h6:ws.length<=6)(hst:∀l∈ws,gu l)(r1:iF w a1 ws)(hs:ah sh)(hc2:sh.length<=c2)(r2:Row w a2 sh) :
  Calls Tryz.prog 50 #[.agg #[.slice a0 n0 c0,.slice a1 ws.length c1,.slice a2 sh.length c2]] w fun e w'=>NS w w' ws sh e/\Below w.heap.size w w':=by
 have hf:=nV h6 hst
 have hfs:=dH hs
 have bG:Below w.heap.size w (w.alloc (.cells #[.slice a0 n0 c0,.slice a1 ws.length c1,.slice a2 sh.length c2] 30)):=(Below.refl _ _).alloc (Nat.le_refl _) _
 have tG:=aQ w (.slice a0 n0 c0) (.slice a1 ws.length c1) (.slice a2 sh.length c2) 30
 go_enter Tryz.func50,Tryz.ntmps50
 go_wp2_with fail
 generalize w.alloc (.cells #[.slice a0 n0 c0,.slice a1 ws.length c1,.slice a2 sh.length c2] 30)=WG at *
 refine(ER a1 c1 ws _ hf (r1.below bG)).mono ?_
 rintro e w1 ⟨hE,b1⟩
 have B1:Below w.heap.size w w1:=bG.trans (b1.mono bG.size)
 replace tG:=tG.keep b1
 rcases hE with⟨gp,cp,out,rfl,hbest,hgp,hnb⟩|⟨rfl,hbest⟩
 ·have HB:Hid (fC ws out true):=hbest
  have hch:=Af hbest
  have HCH:Hid (oQ ws out):=hch
  have hol:out.length<=6:=by have:=hch.2.1;have:=hch.1.2.1;omega
  clear hch hbest
  obtain⟨p0,p1,p2,_,_,_⟩:=id tG
  go_wp2_with fail
  refine(Eo a1 (some ⟨gp,0,none⟩) c1 cp ws out _ hf (r1.below B1) (by unfold maxLen;omega) hnb.row).mono ?_
  rintro e w2 ⟨⟨v2,j,okj,rfl,hg2,hj⟩,b2⟩
  obtain⟨ja,cj,hv2,hsj⟩:=hg2.safe
  obtain⟨ja',cj',hv2',hcj,_⟩:=nG hg2
  obtain⟨rfl,rfl⟩:ja=ja'/\cj=cj':=by
   have h:=hv2.symm.trans hv2'
   simp only[Value.slice.injEq]at h
   exact⟨h.1,h.2.2⟩
  subst hv2
  have HJ:Hid (qf ws out j okj):=hj
  have hjs:=hj.stamp
  have hjf:=dH hjs
  clear hj
  have B2:Below w.heap.size w w2:=B1.trans (b2.mono B1.size)
  replace tG:=tG.keep b2
  have hnb2:=hnb.below b2
  clear p0 p1 p2
  obtain⟨p0,p1,p2,_,_,_⟩:=id tG
  have z1:=B1.size
  cases okj with
  |false=>
   go_wp2_with fail
   go_ret
   exact⟨⟨out,true,HB.out,.inr ⟨rfl,j,false,HJ.out,.inl ⟨rfl,rfl⟩⟩⟩,B2⟩
  |true=>
   go_wp2_with fail
   refine(pM a2 ja c2 cj sh j _ hfs.1 hjf.1 hc2 hcj (r2.below B2) hsj.row hfs.2 hjf.2).mono ?_
   rintro e w3 ⟨⟨o,rfl,ho⟩,b3⟩
   have HO:Hid (kC sh j o):=ho
   clear ho
   have B3:Below w.heap.size w w3:=B2.trans (b3.mono B2.size)
   replace tG:=tG.keep b3
   replace hsj:=hsj.below b3
   have hnb3:=hnb2.below b3
   clear p0 p1 p2
   obtain⟨p0,p1,p2,_,_,_⟩:=id tG
   by_cases ho1:o=1
   ·subst ho1
    go_wp2_with fail
    refine(D5 a0 a1 a2 (some ⟨gp,0,none⟩) c0 c1 c2 cp n0 sh.length ws out _ h6 (r1.below B3) HCH.out.2.1 HCH.out.2.2.1 hnb3.row (fun k hk=>by have:=(hst _ (List.getElem_mem hk)).1;omega)).mono ?_
    rintro e w4 ⟨⟨gv,cv,rfl,hgv,hnv⟩,b4⟩
    have hvl:=gX ws out
    have HVL:Hid ((bZ ws out).length=out.length):=hvl
    clear hvl
    go_wp2_with fail
    go_ret
    exact⟨⟨out,true,HB.out,.inr ⟨rfl,j,true,HJ.out,.inr ⟨rfl,1,HO.out,.inr ⟨rfl,gv,cv,ja,cj,w3.heap.size,by rw[HVL.out];rfl,B3.size,b4.size,hcj,(hsj.widenS (by omega) b3.size).below b4,hgv,hnv⟩⟩⟩⟩,B3.trans (b4.mono B3.size)⟩
   ·go_wp2_with fail
    go_ret
    exact⟨⟨out,true,HB.out,.inr ⟨rfl,j,true,HJ.out,.inr ⟨rfl,o,HO.out,.inl ⟨ho1,rfl⟩⟩⟩⟩,B3⟩
 ·have HB:Hid (fC ws [] false):=hbest
  clear hbest
  go_wp2_with fail
  go_ret
  exact⟨⟨[],false,HB.out,.inl ⟨rfl,rfl⟩⟩,B1⟩
theorem DV (w:World):Calls Tryz.prog 251 #[.agg #[]] w fun e w'=>e=.returned (.int .i64 0)/\Below w.heap.size w w':=by
 go_enter Tryz.func251,Tryz.ntmps251
 go_wp2
 go_ret
 exact⟨rfl,(Below.refl _ _).alloc (Nat.le_refl _) _⟩
theorem vO (w:World):Calls Tryz.prog 252 #[.agg #[]] w fun e w'=>e=.returned (.int .i64 4)/\Below w.heap.size w w':=by
 go_enter Tryz.func252,Tryz.ntmps252
 go_wp2
 go_ret
 exact⟨rfl,(Below.refl _ _).alloc (Nat.le_refl _) _⟩
theorem EO (a b:Value)(w:World):Calls Tryz.prog 253 #[.agg #[a,b]] w fun e w'=>e=.returned (.int .i64 1)/\Below w.heap.size w w':=by
 go_enter Tryz.func253,Tryz.ntmps253
 go_wp2
 go_ret
 exact⟨rfl,(Below.refl _ _).alloc (Nat.le_refl _) _⟩
theorem Tryz.taKeeps (w:World):(Instr.typeAssert (.iface 151 (.agg #[])) 107 156 true).run Tryz.prog w=.ok (.tuple #[.agg #[.slice none 0 0,.slice none 0 0],.bool false]) w:=by kernel_rfl
theorem Tryz.taOverflows (w:World):(Instr.typeAssert (.iface 153 (.agg #[])) 107 156 true).run Tryz.prog w=.ok (.tuple #[.agg #[.slice none 0 0,.slice none 0 0],.bool false]) w:=by kernel_rfl
theorem Tryz.taShows (x y:Value)(w:World):(Instr.typeAssert (.iface 156 (.agg #[x,y])) 107 156 true).run Tryz.prog w=.ok (.tuple #[.agg #[x,y],.bool true]) w:=by kernel_rfl
set_option maxHeartbeats 1600000 in
theorem qJ (a0 a1 a2:Option Addr)(n0 n1 n2 c0 c1 c2:Nat)(tt:TypeId)(htt:tt=151∨tt=153)(w:World) :
  Calls Tryz.prog 51 #[.agg #[.slice a0 n0 c0,.slice a1 n1 c1,.slice a2 n2 c2],.iface tt (.agg #[])] w fun e w'=>e=.returned (.tuple #[.agg #[.slice a0 n0 c0,.slice a1 n1 c1,.slice a2 n2 c2],.agg #[.slice none 0 0,.slice none 0 0]])/\Below w.heap.size w w':=by
 have k1:=Tryz.taKeeps
 have k2:=Tryz.taOverflows
 rcases htt with rfl|rfl
 all_goals
  go_enter Tryz.func51,Tryz.ntmps51
  go_wp2_with fail
  exact bodyPost_ret (v:=.tuple #[.agg #[.slice a0 n0 c0,.slice a1 n1 c1,.slice a2 n2 c2],.agg #[.slice none 0 0,.slice none 0 0]]) (by simp[results,Tryz.results51,go_sem]) rfl ⟨rfl,(((Below.refl _ _).alloc (Nat.le_refl _) _).alloc (by simp) _).alloc (by simp;omega) _⟩
set_option maxHeartbeats 3200000 in
theorem yl (a0 a1 a2 ja:Option Addr)(n0 n1 n2 c0 c1 c2 gv nv cv cj:Nat)(j:List (ByteArray×Int))(w:World)(hj:ah j)(hr:Row w ja j) :
  Calls Tryz.prog 51 #[.agg #[.slice a0 n0 c0,.slice a1 n1 c1,.slice a2 n2 c2],.iface 156 (.agg #[.slice (some ⟨gv,0,none⟩) nv cv,.slice ja j.length cj])] w fun e w'=>(∃gs cs,e=.returned (.tuple #[.agg #[.slice a0 n0 c0,.slice a1 n1 c1,.slice ja j.length cj],.agg #[.slice (some ⟨gv,0,none⟩) nv cv,.slice (some ⟨gs,0,none⟩) j.length cs]])/\w.heap.size<=gs/\j.length<=cs/\Own w' gs j)/\Below w.heap.size w w':=by
 have k1:=Tryz.taShows
 obtain⟨W0,hW0⟩:∃W0,(((w.alloc (.cells #[.slice a0 n0 c0,.slice a1 n1 c1,.slice ja j.length cj] 30)).alloc (.cells #[.slice none 0 0,.slice none 0 0,.slice none 0 0] 30)).alloc (.cells #[.slice none 0 0,.slice none 0 0] 73)).alloc (.cells #[.slice (some ⟨gv,0,none⟩) nv cv,.slice ja j.length cj] 156)=W0:=⟨_,rfl⟩
 have hz:W0.heap.size=w.heap.size+4:=by rw[<- hW0];simp
 have hb0:Below w.heap.size w W0:=by rw[<- hW0];exact((((Below.refl _ _).alloc (Nat.le_refl _) _).alloc (by simp) _).alloc (by simp;omega) _).alloc (by simp;omega) _
 have SF:∀u:World,u=W0->u.cell? ⟨w.heap.size,0,none⟩=some (.slice a0 n0 c0)/\u.cell? ⟨w.heap.size,1,none⟩=some (.slice a1 n1 c1)/\u.cell? ⟨w.heap.size,2,none⟩=some (.slice ja j.length cj)/\u.cell? ⟨w.heap.size+1+1+1,0,none⟩=some (.slice (some ⟨gv,0,none⟩) nv cv)/\u.cell? ⟨w.heap.size+1+1+1,1,none⟩=some (.slice ja j.length cj):=fun u e=>by rw[e,<- hW0];refine⟨?_, ?_, ?_, ?_, ?_⟩ <;> simp[go_sem]
 have r0:W0.cell? ⟨w.heap.size+1,0,none⟩=some (.slice none 0 0):=by rw[<- hW0];simp[go_sem]
 have r1:W0.cell? ⟨w.heap.size+1,1,none⟩=some (.slice none 0 0):=by rw[<- hW0];simp[go_sem]
 have r2:W0.cell? ⟨w.heap.size+1,2,none⟩=some (.slice none 0 0):=by rw[<- hW0];simp[go_sem]
 have f0:∀q,W0.frozen? ⟨w.heap.size+1,q,none⟩=false:=fun q=>by rw[<- hW0];simp[go_sem]
 have q0:W0.cell? ⟨w.heap.size+1+1,0,none⟩=some (.slice none 0 0):=by rw[<- hW0];simp[go_sem]
 have q1:W0.cell? ⟨w.heap.size+1+1,1,none⟩=some (.slice none 0 0):=by rw[<- hW0];simp[go_sem]
 have f1:∀q,W0.frozen? ⟨w.heap.size+1+1,q,none⟩=false:=fun q=>by rw[<- hW0];simp[go_sem]
 have HS:Hid (∀u:World,u=W0->u.cell? ⟨w.heap.size,0,none⟩=some (.slice a0 n0 c0)/\u.cell? ⟨w.heap.size,1,none⟩=some (.slice a1 n1 c1)/\u.cell? ⟨w.heap.size,2,none⟩=some (.slice ja j.length cj)/\u.cell? ⟨w.heap.size+1+1+1,0,none⟩=some (.slice (some ⟨gv,0,none⟩) nv cv)/\u.cell? ⟨w.heap.size+1+1+1,1,none⟩=some (.slice ja j.length cj)):=SF
 have HW:Hid (((((w.alloc (.cells #[.slice a0 n0 c0,.slice a1 n1 c1,.slice ja j.length cj] 30)).alloc (.cells #[.slice none 0 0,.slice none 0 0,.slice none 0 0] 30)).alloc (.cells #[.slice none 0 0,.slice none 0 0] 73)).alloc (.cells #[.slice (some ⟨gv,0,none⟩) nv cv,.slice ja j.length cj] 156))=W0):=hW0
 clear SF hW0
 go_enter Tryz.func51,Tryz.ntmps51
 go_wp2_with fail
 rw[HW.out]
 clear HW
 have hbd:Below W0.heap.size W0 W0.drew:=(Below.refl _ _).drew
 have hS0:=HS.out W0 rfl
 have HSB:Hid (∀u:World,Below W0.heap.size W0 u->u.cell? ⟨w.heap.size,0,none⟩=some (.slice a0 n0 c0)/\u.cell? ⟨w.heap.size,1,none⟩=some (.slice a1 n1 c1)/\u.cell? ⟨w.heap.size,2,none⟩=some (.slice ja j.length cj)/\u.cell? ⟨w.heap.size+1+1+1,0,none⟩=some (.slice (some ⟨gv,0,none⟩) nv cv)/\u.cell? ⟨w.heap.size+1+1+1,1,none⟩=some (.slice ja j.length cj)):=fun u hu=>⟨ae hu (by omega) hS0.1,ae hu (by omega) hS0.2.1,ae hu (by omega) hS0.2.2.1,ae hu (by omega) hS0.2.2.2.1,ae hu (by omega) hS0.2.2.2.2⟩
 have SW:=HSB.out _ hbd
 refine wp_region_held_drew (S:=fun u=>u.cell? ⟨w.heap.size,0,none⟩=some (.slice a0 n0 c0)/\u.cell? ⟨w.heap.size,1,none⟩=some (.slice a1 n1 c1)/\u.cell? ⟨w.heap.size,2,none⟩=some (.slice ja j.length cj)/\u.cell? ⟨w.heap.size+1+1+1,0,none⟩=some (.slice (some ⟨gv,0,none⟩) nv cv)/\u.cell? ⟨w.heap.size+1+1+1,1,none⟩=some (.slice ja j.length cj)) (by kernel_rfl) SW (fun _=>?_)
 refine wpAnyH_take (i:=0) (v:=.agg #[.slice a0 n0 c0,.slice a1 n1 c1,.slice ja j.length cj]) rfl (by kernel_rfl) (by kernel_rfl) (by kernel_rfl) (fun _ _ _ h=>h) (Or.inl ⟨by rfl, ?_⟩) SW ?_
 ·rintro u ⟨x1,x2,x3,x4,x5⟩
  go_simp
 simp only[Act.put,List.setIfInBounds_toArray]
 refine wpAnyH_take (i:=1) (v:=.pointer (some ⟨w.heap.size+1+1+1,0,none⟩)) rfl (by kernel_rfl) (by kernel_rfl) (by kernel_rfl) (fun _ _ _ h=>h) (Or.inl ⟨by rfl, ?_⟩) SW ?_
 ·rintro u ⟨x1,x2,x3,x4,x5⟩
  go_simp
 simp only[Act.put]
 refine wpAnyH_take (i:=2) (v:=.slice (some ⟨gv,0,none⟩) nv cv) rfl (by kernel_rfl) (by kernel_rfl) (by kernel_rfl) (fun _ _ _ h=>h) (Or.inl ⟨by rfl, ?_⟩) SW ?_
 ·rintro u ⟨x1,x2,x3,x4,x5⟩
  go_simp
 simp only[Act.put]
 refine wpAnyH_take (i:=3) (v:=.pointer (some ⟨w.heap.size+1+1+1,1,none⟩)) rfl (by kernel_rfl) (by kernel_rfl) (by kernel_rfl) (fun _ _ _ h=>h) (Or.inl ⟨by rfl, ?_⟩) SW ?_
 ·rintro u ⟨x1,x2,x3,x4,x5⟩
  go_simp
 simp only[Act.put]
 refine wpAnyH_take (i:=4) (v:=.slice ja j.length cj) rfl (by kernel_rfl) (by kernel_rfl) (by kernel_rfl) (fun _ _ _ h=>h) (Or.inl ⟨by rfl, ?_⟩) SW ?_
 ·rintro u ⟨x1,x2,x3,x4,x5⟩
  go_simp
 simp only[Act.put]
 refine wpAnyH_ready (rs:=[5]) (by kernel_rfl) (by simp) ?_
 refine AllReadyH.cons rfl (fun K hK=>?_) AllReadyH.nil
 rw[if_pos (by rfl)]
 go_simp
 refine(kE ja cj j _ (hr.below (hb0.trans (hbd.mono hb0.size))) (by have:=hj.1;omega) (fun i hi=>by have:=(hj.2.1 i hi).1.2.1;omega)).mono ?_
 rintro e w2 ⟨⟨gs,cs,rfl,hgs,hcs,hos⟩,b2⟩
 have hb2:Below W0.heap.size W0 w2:=hbd.trans (b2.mono hbd.size)
 have B2:Below w.heap.size w w2:=hb0.trans (hb2.mono hb0.size)
 have S2:=HSB.out _ hb2
 refine hK.out _ _ S2 (fun _=>?_)
 clear hK K SW
 refine wpAnyH_take (i:=6) (v:=.agg #[.slice (some ⟨gv,0,none⟩) nv cv,.slice (some ⟨gs,0,none⟩) j.length cs]) rfl (by kernel_rfl) (by kernel_rfl) (by kernel_rfl) (fun _ _ _ h=>h) (Or.inl ⟨by rfl, ?_⟩) S2 ?_
 ·rintro u ⟨x1,x2,x3,x4,x5⟩
  go_simp
 simp only[Act.put,List.setIfInBounds_toArray]
 have z2:=hb2.size
 replace r0:=ae hb2 (by omega) r0
 replace r1:=ae hb2 (by omega) r1
 replace r2:=ae hb2 (by omega) r2
 replace q0:=ae hb2 (by omega) q0
 replace q1:=ae hb2 (by omega) q1
 have f0':∀q,w2.frozen? ⟨w.heap.size+1,q,none⟩=false:=fun q=>(hb2.frozen (p:=⟨w.heap.size+1,q,none⟩) (by simp only;omega)).trans (f0 q)
 have f1':∀q,w2.frozen? ⟨w.heap.size+1+1,q,none⟩=false:=fun q=>(hb2.frozen (p:=⟨w.heap.size+1+1,q,none⟩) (by simp only;omega)).trans (f1 q)
 have hgz:W0.heap.size<=gs:=Nat.le_trans hbd.size hgs
 clear f0 f1
 refine wpAnyH_ready (rs:=[7]) (by kernel_rfl) (by simp) ?_
 refine AllReadyH.cons rfl (fun K hK=>?_) AllReadyH.nil
 rw[if_pos (by rfl)]
 go_simp
 obtain⟨w3,h3⟩:∃w3,((w2.setCell ⟨w.heap.size+1,0,none⟩ (.slice a0 n0 c0)).setCell ⟨w.heap.size+1,1,none⟩ (.slice a1 n1 c1)).setCell ⟨w.heap.size+1,2,none⟩ (.slice ja j.length cj)=w3:=⟨_,rfl⟩
 have s3:aJ (w.heap.size+1) (w.heap.size+2) w2 w3:=by rw[<- h3];exact(((aJ.refl _ _ _).setCell (by omega) (by omega) _ _).setCell (by omega) (by omega) _ _).setCell (by omega) (by omega) _ _
 have B3:Below w.heap.size w w3:=by rw[<- h3];exact((B2.setCell (by simp only;omega) _).setCell (by simp only;omega) _).setCell (by simp only;omega) _
 have y0:w3.cell? ⟨w.heap.size+1,0,none⟩=some (.slice a0 n0 c0):=by rw[<- h3];simp[go_sem,r0]
 have y1:w3.cell? ⟨w.heap.size+1,1,none⟩=some (.slice a1 n1 c1):=by rw[<- h3];simp[go_sem,r1]
 have y2:w3.cell? ⟨w.heap.size+1,2,none⟩=some (.slice ja j.length cj):=by rw[<- h3];simp[go_sem,r2]
 have hc3:∀b q v,w2.cell? ⟨b,q,none⟩=some v->b≠w.heap.size+1->w3.cell? ⟨b,q,none⟩=some v:=fun b q v hv hb=>by rw[World.cell?_of_block (s3.block b (block_lt_of_cell hv) (by omega))];exact hv
 have S3:(fun u:World=>u.cell? ⟨w.heap.size,0,none⟩=some (.slice a0 n0 c0)/\u.cell? ⟨w.heap.size,1,none⟩=some (.slice a1 n1 c1)/\u.cell? ⟨w.heap.size,2,none⟩=some (.slice ja j.length cj)/\u.cell? ⟨w.heap.size+1+1+1,0,none⟩=some (.slice (some ⟨gv,0,none⟩) nv cv)/\u.cell? ⟨w.heap.size+1+1+1,1,none⟩=some (.slice ja j.length cj)) w3:=⟨hc3 _ _ _ S2.1 (by omega),hc3 _ _ _ S2.2.1 (by omega),hc3 _ _ _ S2.2.2.1 (by omega),hc3 _ _ _ S2.2.2.2.1 (by omega),hc3 _ _ _ S2.2.2.2.2 (by omega)⟩
 have q0':=hc3 _ _ _ q0 (by omega)
 have q1':=hc3 _ _ _ q1 (by omega)
 have f2':∀q,w3.frozen? ⟨w.heap.size+1+1,q,none⟩=false:=fun q=>by rw[<- h3];simp[go_sem,f1']
 have z3:=s3.size
 have os3:Own w3 gs j:=by obtain⟨mm,f,h7,hf⟩:=id hos;exact⟨mm,f,h7.of_block (s3.block gs hos.lt (by omega)),hf⟩
 rw[h3]
 clear h3 hc3
 refine hK.out _ _ S3 (fun _=>?_)
 clear hK K S2 q0 q1
 refine wpAnyH_ready (rs:=[8]) (by kernel_rfl) (by simp) ?_
 refine AllReadyH.cons rfl (fun K hK=>?_) AllReadyH.nil
 rw[if_pos (by rfl)]
 go_simp
 obtain⟨w4,h4⟩:∃w4,(w3.setCell ⟨w.heap.size+1+1,0,none⟩ (.slice (some ⟨gv,0,none⟩) nv cv)).setCell ⟨w.heap.size+1+1,1,none⟩ (.slice (some ⟨gs,0,none⟩) j.length cs)=w4:=⟨_,rfl⟩
 have s4:aJ (w.heap.size+2) (w.heap.size+3) w3 w4:=by rw[<- h4];exact((aJ.refl _ _ _).setCell (by omega) (by omega) _ _).setCell (by omega) (by omega) _ _
 have B4:Below w.heap.size w w4:=by rw[<- h4];exact(B3.setCell (by simp only;omega) _).setCell (by simp only;omega) _
 have u0:w4.cell? ⟨w.heap.size+1+1,0,none⟩=some (.slice (some ⟨gv,0,none⟩) nv cv):=by rw[<- h4];simp[go_sem,q0']
 have u1:w4.cell? ⟨w.heap.size+1+1,1,none⟩=some (.slice (some ⟨gs,0,none⟩) j.length cs):=by rw[<- h4];simp[go_sem,q1']
 have hc4:∀b q v,w3.cell? ⟨b,q,none⟩=some v->b≠w.heap.size+2->w4.cell? ⟨b,q,none⟩=some v:=fun b q v hv hb=>by rw[World.cell?_of_block (s4.block b (block_lt_of_cell hv) (by omega))];exact hv
 have S4:(fun u:World=>u.cell? ⟨w.heap.size,0,none⟩=some (.slice a0 n0 c0)/\u.cell? ⟨w.heap.size,1,none⟩=some (.slice a1 n1 c1)/\u.cell? ⟨w.heap.size,2,none⟩=some (.slice ja j.length cj)/\u.cell? ⟨w.heap.size+1+1+1,0,none⟩=some (.slice (some ⟨gv,0,none⟩) nv cv)/\u.cell? ⟨w.heap.size+1+1+1,1,none⟩=some (.slice ja j.length cj)) w4:=⟨hc4 _ _ _ S3.1 (by omega),hc4 _ _ _ S3.2.1 (by omega),hc4 _ _ _ S3.2.2.1 (by omega),hc4 _ _ _ S3.2.2.2.1 (by omega),hc4 _ _ _ S3.2.2.2.2 (by omega)⟩
 replace y0:=hc4 _ _ _ y0 (by omega)
 replace y1:=hc4 _ _ _ y1 (by omega)
 replace y2:=hc4 _ _ _ y2 (by omega)
 have os4:Own w4 gs j:=by obtain⟨mm,f,h7,hf⟩:=id os3;exact⟨mm,f,h7.of_block (s4.block gs os3.lt (by omega)),hf⟩
 rw[h4]
 clear h4 hc4
 refine hK.out _ _ S4 (fun _=>?_)
 clear hK K S3
 refine wpAnyH_done (by kernel_rfl) ?_ _
 go_wp2_with fail
 exact bodyPost_ret (v:=.tuple #[.agg #[.slice a0 n0 c0,.slice a1 n1 c1,.slice ja j.length cj],.agg #[.slice (some ⟨gv,0,none⟩) nv cv,.slice (some ⟨gs,0,none⟩) j.length cs]]) (by simp[results,Tryz.results51,go_sem,y0,y1,y2,u0,u1]) rfl ⟨⟨gs,cs,rfl,by omega,hcs,os4⟩,B4⟩
end Go.Proofs.YtpfhegengmlkmabGreatDoor
