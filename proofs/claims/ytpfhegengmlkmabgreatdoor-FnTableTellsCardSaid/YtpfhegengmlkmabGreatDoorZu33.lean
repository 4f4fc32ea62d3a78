/- Texts of this claim. -/
import Derived.Test.YtpfhegengmlkmabGreatDoorIter
import Derived.Test.YtpfhegengmlkmabGreatDoorZu21
import Derived.Test.YtpfhegengmlkmabGreatDoorZu23
namespace Go.Proofs.YtpfhegengmlkmabGreatDoor
open Go.RowKit Go.BigFrame
set_option maxRecDepth 100000
open Classical in
set_option maxHeartbeats 1600000 in
theorem uU (W0 w:World)(a:Option Addr)(c:Nat)(ws:List (List af))(hr:Dz W0 w a ws)(hW:Below W0.heap.size W0 w)(hok:OkW ws) :
  Calls Tryz.prog 160 #[.slice a ws.length c] w fun e w'=>(∃v L,e=.returned v/\kK w' (w.heap.size+1) v L/\IL ws (L.map (·.1)))/\Below w.heap.size w w':=by
 have h6:=hok.2.1
 have hmm:=@run_makeMap Tryz.prog
 go_enter Tryz.func160,Tryz.ntmps160
 go_wp2_with fail
 have HOK:Hid (OkW ws):=hok
 have hz0:=hW.size
 clear hok hmm
 go_loopw [13] (fun i wr=>∃(k n:Nat) (D:DataW Value) (V:ByteArray->Value) (S:ByteArray->List aW),k<=ws.length/\i=.int .i64 k/\n<=k*12/\mY wr (w.heap.size+1) w.heap.size n D V S/\Hid (eH ws k 0 S)/\Hid (∀s,(S s).length<=n)/\Below w.heap.size w wr) (fun i _=>ws.length-(intOf i).toNat)
 case atStart=>exact⟨0,0,_,_,_,Nat.zero_le _,rfl,by omega,Gs w,yx ws,fun s=>Nat.le_refl _,(Below.refl _ _).alloc (Nat.le_refl _) _⟩
 case round=>
  obtain⟨k,n,D,V,S,hk,rfl,hn,hg,HS,HL,hbl⟩:=hrel
  by_cases hlt:k<ws.length
  ·obtain⟨g,o,rfl,hwo⟩:=hr.below hbl k hlt
   have k0:(0:Int)<=(k:Int):=by omega
   have k1:(k:Int)<(ws.length:Int):=by omega
   go_wp2_with fail
   refine(vJ W0 _ g (o+k*10) ws[k] hwo).mono ?_
   rintro e w2 ⟨rfl,rfl⟩
   by_cases h0:ws[k].length=0
   ·have HST:Hid (eH ws (k+1) 0 S):=HS.out.empty hlt h0
    have h0':((ws[k].length:Int)==0)=true:=by rw[beq_iff_eq];omega
    go_wp2_with fail
    exact⟨⟨k+1,n,D,V,S,by omega,by go_num,by omega,hg,HST,HL,hbl⟩,by simp[intOf];omega⟩
   ·have h0':((ws[k].length:Int)==0)=false:=by rw[beq_eq_false_iff_ne];omega
    go_wp2_with fail
    refine(Ky W0 _ g (o+k*10) ws[k] hwo (by omega)).mono ?_
    rintro e w3 ⟨⟨v,rfl,hv⟩,b3⟩
    obtain⟨sa,sc,rfl,hcap,hrow⟩:=hv
    have B3:Below w.heap.size w w3:=hbl.trans (b3.mono hbl.size)
    replace hg:=hg.keep b3
    have hst:=(HOK.out.2.2 k hlt).2.1 (ws[k].length-1) (by omega)
    have HST:Hid (ah (ws[k][ws[k].length-1]).2):=hst.1
    have h12:=hst.1.1
    clear hst
    have hfd:=kN (ws[k][ws[k].length-1]).1 sa (ws[k][ws[k].length-1]).2.length sc
    go_wp2_with fail
    go_loopw [29] (fun i2 wr2=>∃(j n:Nat) (D:DataW Value) (V:ByteArray->Value) (S:ByteArray->List aW),j<=(ws[k][ws[k].length-1]).2.length/\i2=.int .i64 j/\n<=k*12+j/\mY wr2 (w.heap.size+1) w.heap.size n D V S/\Hid (eH ws k j S)/\Hid (∀s,(S s).length<=n)/\Below w.heap.size w wr2) (fun i2 _=>(ws[k][ws[k].length-1]).2.length-(intOf i2).toNat)
    case atStart=>exact⟨0,n,D,V,S,Nat.zero_le _,rfl,by omega,hg,HS,HL,B3⟩
    case round=>
     clear hg HS HL hn
     obtain⟨j,n,D,V,S,hj,rfl,hn,hg,HS,HL,B4⟩:=hrel
     by_cases hjlt:j<(ws[k][ws[k].length-1]).2.length
     ·obtain⟨bm,om,rfl,hbm,m0,m1⟩:=hrow j hjlt
      have j0:(0:Int)<=(j:Int):=by omega
      have j1:(j:Int)<((ws[k][ws[k].length-1]).2.length:Int):=by omega
      have hbm':bm<w.heap.size:=by omega
      replace m0:=ae B4 hbm' (ae hW hbm m0)
      replace m1:=ae B4 hbm' (ae hW hbm m1)
      have hname:=(HST.out.2.1 j hjlt).1
      have hss:((ws[k][ws[k].length-1]).2[j]).1.size<=maxLen:=by have:=hname.2.1;unfold maxLen;omega
      clear hname
      obtain⟨s,hsn⟩:∃s,((ws[k][ws[k].length-1]).2[j]).1=s:=⟨_,rfl⟩
      obtain⟨x,hxn⟩:∃x,((ws[k][ws[k].length-1]).2[j]).2=x:=⟨_,rfl⟩
      rw[hsn]at m0 hss
      rw[hxn]at m1
      have HSN:Hid (((ws[k][ws[k].length-1]).2[j]).1=s):=hsn
      clear hsn hxn
      go_wp2_with fail
      have hb0:Below wr.heap.size wr (wr.alloc (.cells #[.string s,.int .i64 x] 54)):=(Below.refl _ _).alloc (Nat.le_refl _) _
      have hlt0:=bP wr (.cells #[.string s,.int .i64 x] 54)
      have d0:=box0 wr (.string s) (.int .i64 x) 54
      generalize wr.alloc (.cells #[.string s,.int .i64 x] 54)=W at *
      have hgd:mY W.drew (w.heap.size+1) w.heap.size n D V S:=(hg.keep hb0).keep (Below.refl _ _).drew
      have hl1:=nN hgd s hss
      have hb1:Below W.heap.size W ((W.alloc (.cells #[.int .i64 (k:Int),.int .i64 (j:Int)] 231)).drew):=((Below.refl _ _).alloc (Nat.le_refl _) _).drew
      have hga:=(hg.keep hb0).keep hb1
      have hl2:=nN hga s hss
      have SW:(W.drew).cell? ⟨wr.heap.size,0,none⟩=some (.string s):=d0
      have S2:((W.alloc (.cells #[.int .i64 (k:Int),.int .i64 (j:Int)] 231)).drew).cell? ⟨wr.heap.size,0,none⟩=some (.string s):=ae hb1 hlt0 d0
      have z4:=B4.size
      have zm:=hg.own.lt
      have zx:=hb0.size
      have BX:Below w.heap.size w ((W.alloc (.cells #[.int .i64 (k:Int),.int .i64 (j:Int)] 231)).drew):=(B4.trans (hb0.mono z4)).trans (hb1.mono (Nat.le_trans z4 zx))
      have hXs:=BX.size
      have hfar:some wr.heap.size≠(V s).ownBlock:=fun e=>by have:=(World.ownsRow.lt (hg.row s) _ e.symm).2;omega
      have hown:some w.heap.size≠(V s).ownBlock:=fun e=>by have:=aT (hg.row s) _ e.symm;omega
      have HST2:Hid (eH ws k (j+1) (fun t=>if t=s then S s++[(k,j)]else S t)):=HS.out.step hlt (by omega) hjlt HSN.out
      have HL2:Hid (∀t,(if t=s then S s++[(k,j)]else S t).length<=n+1):=fun t=>by
       by_cases e:t=s
       ·rw[if_pos e,List.length_append]
        have:=HL.out s
        simp only[List.length_singleton]
        omega
       ·rw[if_neg e]
        have:=HL.out t
        omega
      refine wp_region_held_drew (S:=fun u=>u.cell? ⟨wr.heap.size,0,none⟩=some (.string s)) (by kernel_rfl) SW (fun _=>?_)
      refine wpAnyH_take (i:=0) (v:=.map (some w.heap.size)) rfl (by kernel_rfl) (by kernel_rfl) (by kernel_rfl) (fun _ _ _ h=>h) (Or.inl ⟨by rfl, ?_⟩) SW ?_
      ·rintro u q1
       go_simp
      simp only[Act.put,List.setIfInBounds_toArray]
      refine wpAnyH_take (i:=1) (v:=.pointer (some ⟨wr.heap.size,0,none⟩)) rfl (by kernel_rfl) (by kernel_rfl) (by kernel_rfl) (fun _ _ _ h=>h) (Or.inl ⟨by rfl, ?_⟩) SW ?_
      ·rintro u q1
       go_simp
      simp only[Act.put]
      refine wpAnyH_take (i:=2) (v:=.string s) rfl (by kernel_rfl) (by kernel_rfl) (by kernel_rfl) (fun _ _ _ h=>h) (Or.inl ⟨by rfl, ?_⟩) SW ?_
      ·rintro u q1
       go_simp
      simp only[Act.put]
      refine wpAnyH_take (i:=3) (v:=.map (some w.heap.size)) rfl (by kernel_rfl) (by kernel_rfl) (by kernel_rfl) (fun _ _ _ h=>h) (Or.inl ⟨by rfl, ?_⟩) SW ?_
      ·rintro u q1
       go_simp
      simp only[Act.put]
      refine wpAnyH_take (i:=4) (v:=.pointer (some ⟨wr.heap.size,0,none⟩)) rfl (by kernel_rfl) (by kernel_rfl) (by kernel_rfl) (fun _ _ _ h=>h) (Or.inl ⟨by rfl, ?_⟩) SW ?_
      ·rintro u q1
       go_simp
      simp only[Act.put]
      refine wpAnyH_take (i:=5) (v:=.string s) rfl (by kernel_rfl) (by kernel_rfl) (by kernel_rfl) (fun _ _ _ h=>h) (Or.inl ⟨by rfl, ?_⟩) SW ?_
      ·rintro u q1
       go_simp
      simp only[Act.put]
      refine wpAnyH_take (i:=7) (v:=.int .i64 k) rfl (by kernel_rfl) (by kernel_rfl) (by kernel_rfl) (fun _ _ _ h=>h) (Or.inl ⟨by rfl, ?_⟩) SW ?_
      ·rintro u q1
       go_simp
      simp only[Act.put]
      refine wpAnyH_take (i:=8) (v:=.int .i64 j) rfl (by kernel_rfl) (by kernel_rfl) (by kernel_rfl) (fun _ _ _ h=>h) (Or.inl ⟨by rfl, ?_⟩) SW ?_
      ·rintro u q1
       go_simp
      simp only[Act.put]
      refine wpAnyH_take (i:=9) (v:=.agg #[.int .i64 k,.int .i64 j]) rfl (by kernel_rfl) (by kernel_rfl) (by kernel_rfl) (fun _ _ _ h=>h) (Or.inl ⟨by rfl, ?_⟩) SW ?_
      ·rintro u q1
       go_simp
      simp only[Act.put]
      refine wpAnyH_ready (rs:=[6,10]) (by kernel_rfl) (by simp) ?_
      refine AllReadyH.cons rfl (fun K hK=>?_) (AllReadyH.cons rfl (fun K hK=>?_) AllReadyH.nil)
      ·rw[if_pos (by rfl)]
       go_simp
       refine hK.out _ _ SW (fun _=>?_)
       clear hK K
       refine wpAnyH_ready (rs:=[10]) (by kernel_rfl) (by simp) ?_
       refine AllReadyH.cons rfl (fun K hK=>?_) AllReadyH.nil
       rw[if_pos (by rfl)]
       go_simp
       refine hK.out _ _ S2 (fun _=>?_)
       clear hK K
       refine wpAnyH_ready (rs:=[11]) (by kernel_rfl) (by simp) ?_
       refine AllReadyH.cons rfl (fun K hK=>?_) AllReadyH.nil
       rw[if_pos (by rfl)]
       refine nY _ _ rfl (w.heap.size+1) (V s) (S s) rfl (hga.row s) (by have:=hb1.size;omega) W.heap.size (k,j) rfl (by simp[go_sem]) (by simp[go_sem]) (by have:=HL.out s;omega) ?_
       intro v' w4 ho hgb hloc
       have S4:w4.cell? ⟨wr.heap.size,0,none⟩=some (.string s):=dn hgb hfar S2
       refine hK.out _ _ S4 (fun _=>?_)
       clear hK K
       refine wpAnyH_ready (rs:=[12]) (by kernel_rfl) (by simp) ?_
       refine AllReadyH.cons rfl (fun K hK=>?_) AllReadyH.nil
       rw[if_pos (by rfl)]
       refine nU _ _ _ rfl w.heap.size n D rfl (hga.own.kept hgb hown) (by unfold maxLen;omega) s hss v' rfl rfl ?_
       intro w5 h2 hg2
       have S5:w5.cell? ⟨wr.heap.size,0,none⟩=some (.string s):=dn hg2 (fun q=>by have:=Option.some.inj q;omega) S4
       refine hK.out _ _ S5 (fun _=>?_)
       clear hK K
       refine wpAnyH_done (by kernel_rfl) ?_ _
       go_wp2_with fail
       exact⟨⟨j+1,n+1,_,_,_,by omega,by go_num,by omega,hga.put s (k,j) hgb ho (hloc.imp_right fun e=>⟨_,e,Nat.le_refl _⟩) h2 hg2,HST2,HL2,(BX.grown hgb hXs (fun q hq=>by have:=aT (hga.row s) q hq;omega)).grown hg2 (Nat.le_trans hXs hgb.size) (fun q hq=>by cases hq;exact Nat.le_refl _)⟩,by simp[intOf];omega⟩
      ·rw[if_pos (by rfl)]
       go_simp
       refine hK.out _ _ S2 (fun _=>?_)
       clear hK K
       refine wpAnyH_ready (rs:=[6]) (by kernel_rfl) (by simp) ?_
       refine AllReadyH.cons rfl (fun K hK=>?_) AllReadyH.nil
       rw[if_pos (by rfl)]
       go_simp
       refine hK.out _ _ S2 (fun _=>?_)
       clear hK K
       refine wpAnyH_ready (rs:=[11]) (by kernel_rfl) (by simp) ?_
       refine AllReadyH.cons rfl (fun K hK=>?_) AllReadyH.nil
       rw[if_pos (by rfl)]
       refine nY _ _ rfl (w.heap.size+1) (V s) (S s) rfl (hga.row s) (by have:=hb1.size;omega) W.heap.size (k,j) rfl (by simp[go_sem]) (by simp[go_sem]) (by have:=HL.out s;omega) ?_
       intro v' w4 ho hgb hloc
       have S4:w4.cell? ⟨wr.heap.size,0,none⟩=some (.string s):=dn hgb hfar S2
       refine hK.out _ _ S4 (fun _=>?_)
       clear hK K
       refine wpAnyH_ready (rs:=[12]) (by kernel_rfl) (by simp) ?_
       refine AllReadyH.cons rfl (fun K hK=>?_) AllReadyH.nil
       rw[if_pos (by rfl)]
       refine nU _ _ _ rfl w.heap.size n D rfl (hga.own.kept hgb hown) (by unfold maxLen;omega) s hss v' rfl rfl ?_
       intro w5 h2 hg2
       have S5:w5.cell? ⟨wr.heap.size,0,none⟩=some (.string s):=dn hg2 (fun q=>by have:=Option.some.inj q;omega) S4
       refine hK.out _ _ S5 (fun _=>?_)
       clear hK K
       refine wpAnyH_done (by kernel_rfl) ?_ _
       go_wp2_with fail
       exact⟨⟨j+1,n+1,_,_,_,by omega,by go_num,by omega,hga.put s (k,j) hgb ho (hloc.imp_right fun e=>⟨_,e,Nat.le_refl _⟩) h2 hg2,HST2,HL2,(BX.grown hgb hXs (fun q hq=>by have:=aT (hga.row s) q hq;omega)).grown hg2 (Nat.le_trans hXs hgb.size) (fun q hq=>by cases hq;exact Nat.le_refl _)⟩,by simp[intOf];omega⟩
     ·have HX:Hid (eH ws (k+1) 0 S):=eH.whole hlt (by omega) (by
       have e:j=(ws[k][ws[k].length-1]).2.length:=by omega
       rw[<- e];exact HS.out)
      go_wp2_with fail
      exact⟨⟨k+1,n,D,V,S,by omega,by go_num,by omega,hg,HX,HL,B4⟩,by simp[intOf];omega⟩
  ·clear hr
   have HOW:Hid (∃n0,n0<=72/\mY wr (w.heap.size+1) w.heap.size n0 D V S/\∀s,(S s).length<=n0):=⟨n,by omega,hg,HL.out⟩
   go_wp2_with fail
   refine(callsIn_wide.1 (Tryz.maps_Keys_177 (some w.heap.size) _)).mono ?_
   rintro e w1 ⟨rfl,rfl⟩
   go_wp2_with fail
   have hsz:=hg.own.size_le
   refine(callsIn_wide.1 (Tryz.slices_Sorted_keys_176_177 w.heap.size n D uk _ hg.own (by unfold maxLen;omega) (by omega))).mono ?_
   rintro e w2 ⟨v,ss,rfl,hperm,hsown,_,b2⟩
   obtain⟨names,hnm⟩:∃l,l=qh (ss.mergeSort (fun x y=>decide (x<=y))):=⟨_,rfl⟩
   have hnl:names.length=ss.length:=by rw[hnm];simp[qh]
   have hgs:aI w2 (wr.alloc (.cells #[.map (some w.heap.size)] 247)).heap.size v names:=by
    unfold aI
    rw[hnl,hnm,<- Ai]
    exact hsown
   obtain⟨sa,sc,rfl,hnrow⟩:=hgs.shape
   have HN:Hid (∀s,S s≠[]->s∈names):=fun s hs=>by rw[hnm];exact hg.listed hperm hs
   have hn72:names.length<=72:=by
    rw[hnl,hperm.length_eq]
    have e:(strKeys D).length=Maps.size D:=by
     obtain⟨es,rfl,_⟩:=World.ownsMap.keysOf hg.own
     simp[strKeys,Maps.size]
    omega
   have HSZ:Hid (∀q,(h:q<names.length)->names[q].size<=maxLen):=fun q hq=>by
    subst hnm
    have hm:=(List.mergeSort_perm ss (fun x y=>decide (x<=y))).mem_iff.1 (List.getElem_mem (by simpa[qh]using hq:q<(ss.mergeSort (fun x y=>decide (x<=y))).length))
    have:=strKeys_le hg.own Tryz.underlying9 _ (hperm.mem_iff.1 hm)
    simpa[qh,ByteArray.size]using this
   have hb2:Below wr.heap.size wr w2:=((Below.refl _ _).alloc (Nat.le_refl _) _).trans (b2.mono (by simp))
   have B2:Below w.heap.size w w2:=hbl.trans (hb2.mono hbl.size)
   have hg2:=hg.keep hb2
   have hgn:aI w2 (w.heap.size+1) (.slice sa names.length sc) names:=hgs.lower (by have:=hg.own.lt;simp;omega)
   have hmlt:=hg2.own.lt
   clear hg hsown hgs hperm hnm hnl b2 hsz HOW hnrow
   obtain⟨i0,hi,hy0,hy1,hy2⟩:=info_parts Tryz.infoQ
   go_wp2_with fail
   go_loopw [7,52] (fun vs i wr3=>∃(q:Nat) (L:List (List aW×Value)),q<=names.length/\i=.int .i64 q/\L.length<=q/\kK wr3 (w.heap.size+1) vs L/\Hid (fU S names q L)/\mY wr3 (w.heap.size+1) w.heap.size n D V S/\aI wr3 (w.heap.size+1) (.slice sa names.length sc) names/\Below w.heap.size w wr3) (fun _ i _=>names.length-(intOf i).toNat)
   case atStart=>exact⟨0,[],Nat.zero_le _,rfl,Nat.le_refl _,Ee _ _,⟨fun p hp=>by simp at hp,fun q _ h=>by omega⟩,hg2,hgn,B2⟩
   case round=>
    clear hg2 hgn B2 hb2
    obtain⟨q,L,hq,rfl,hLq,hL,HSH,hg,hgn,B3⟩:=hrel
    have hmlt:=hg.own.lt
    by_cases hqlt:q<names.length
    ·have hnrow:dQ wr sa names:=by
      obtain⟨a9,c9,e9,h9⟩:=hgn.shape
      cases e9
      exact h9
     obtain⟨bn,on,rfl,hbn,n0⟩:=hnrow q hqlt
     have q0:(0:Int)<=(q:Int):=by omega
     have q1:(q:Int)<(names.length:Int):=by omega
     have hlk:=nN hg names[q] (HSZ.out q hqlt)
     have hgp:=hg.row names[q]
     obtain⟨va,vc,ev,hvc,_⟩:=jd.row hgp
     rw[ev]at hlk hgp
     by_cases h1:1<(S names[q]).length
     ·have HX:Hid (fU S names (q+1) (L++[(S names[q],.slice va (S names[q]).length vc)])):=HSH.out.take hqlt h1 _
      have h1':decide (1<((S names[q]).length:Int))=true:=decide_eq_true (by omega)
      go_wp2_with (first|(at_builtin;refine wpList_append_own_at _ rfl _ _ 202 rfl (w.heap.size+1) 228 i0 (.slice none 0 0) 1 24 Tryz.underlying202 hi hy0 hy1 hy2 rfl (by decide) _ L.length (L.map (·.2)) rfl (dh hL.1 ((Below.refl _ _).alloc (Nat.le_refl _) _)) ⟨wr.heap.size,0,none⟩ 1 1 [.slice va (S names[q]).length vc] rfl rfl (fA _ _ _) (by simp[Value.oneCell']) (by unfold maxLen;omega) (by omega) (by simp;omega) ?_;intro v' w5 hown' hgrow _ hloc))
      have hbx:Below wr.heap.size wr (wr.alloc (.cells #[.slice va (S names[q]).length vc] 228)):=(Below.refl _ _).alloc (Nat.le_refl _) _
      have hkL:=hL.keep hbx
      exact⟨⟨q+1,L++[(S names[q],.slice va (S names[q]).length vc)],by omega,by go_num,by simp;omega,hkL.snoc (hgp.keep hbx) uz hown' hgrow,HX,(hg.keep hbx).kept hkL.1 hgrow uz,(hgn.keep hbx).beside hkL.1 hgrow,((B3.trans (hbx.mono B3.size)).grown hgrow (by simp;omega) (fun k hk=>by have:=aT hkL.1 k hk;omega))⟩,by simp[intOf];omega⟩
     ·have HX:Hid (fU S names (q+1) L):=HSH.out.skip hqlt h1
      have h1':decide (1<((S names[q]).length:Int))=false:=decide_eq_false (by omega)
      go_wp2_with fail
      exact⟨⟨q+1,L,by omega,by go_num,by omega,hL,HX,hg,hgn,B3⟩,by simp[intOf];omega⟩
    ·have HF:Hid (IL ws (L.map (·.1))):=by
      have e:q=names.length:=by omega
      have e2:ws.length=k:=by omega
      exact fU.shared (by rw[<- e];exact HSH.out) (by rw[e2];exact HS.out) HN.out (fun s=>by have:=HL.out s;omega) (by omega)
     obtain⟨fa,fc,rfl,_,_⟩:=hL.row
     go_wp2_with fail
     go_ret
     exact⟨⟨_,L,rfl,hL,HF.out⟩,B3⟩
set_option maxHeartbeats 3200000 in
theorem uV (W0:World)(a:Option Addr)(cap:Nat)(l:List af)(w:World)(hf:Be l)(hr:pg W0 a l)(h0:Below W0.heap.size W0 w) :
  Calls Tryz.prog 126 #[.slice a l.length cap] w fun e w'=>LY W0 l e/\Below w.heap.size w w':=by
 have hl:=hf.1
 unfold maxLen at hl
 by_cases h4:4<l.length
 ·have HN:Hid (¬aX l):=fun h=>by have:=h.1;omega
  go_enter Tryz.func126,Tryz.ntmps126
  go_wp2_with fail
  exact bodyPost_ret (v:=.tuple #[.agg bH,.bool false]) (by simp[results,Tryz.results126,go_sem]) rfl ⟨.inr ⟨_,rfl,HN.out,jQ _⟩,((Below.refl _ _).alloc (Nat.le_refl _) _).alloc (by simp) _⟩
 go_enter Tryz.func126,Tryz.ntmps126
 go_wp2_with fail
 have hA1:Below w.heap.size w (w.alloc (.cells bH 181)):=(Below.refl _ _).alloc (Nat.le_refl _) _
 have hA2:Below w.heap.size w ((w.alloc (.cells bH 181)).alloc (.cells bH 181)):=hA1.alloc hA1.size _
 have hZ:jZ ((w.alloc (.cells bH 181)).alloc (.cells bH 181)) w.heap.size:=(zQ w).below ((Below.refl _ _).alloc (Nat.le_refl _) _)
 have hWn:gY W0 ((w.alloc (.cells bH 181)).alloc (.cells bH 181)) (w.heap.size+1) 0 []:=by
  have h:=Bf W0 (w.alloc (.cells bH 181)) (Nat.le_trans h0.size hA1.size)
  rw[World.size_alloc]at h
  exact h
 go_loopw [13] (fun i wr=>∃k:Nat,k<=l.length/\i=.int .i64 k/\gY W0 wr (w.heap.size+1) 0 (l.take k)/\Hid (lH l k)/\jZ wr w.heap.size/\Below w.heap.size w wr) (fun i _=>l.length-(intOf i).toNat)
 case atStart=>exact⟨0,Nat.zero_le _,rfl,hWn,qx l,hZ,hA2⟩
 case round=>
  obtain⟨k,hk,rfl,hW,HTO,hz,hb⟩:=hrel
  clear hA1 hA2 hZ hWn
  by_cases hlt:k<l.length
  ·obtain⟨b1,o1,rfl,g1,e0,v1,e1,⟨s1,t1,rfl,hc1,r1⟩⟩:=hr k hlt
   have k0:(0:Int)<=(k:Int):=by omega
   have k1:(k:Int)<(l.length:Int):=by omega
   have x0:=ae (h0.trans (hb.mono h0.size)) g1 e0
   have x1:=ae (h0.trans (hb.mono h0.size)) g1 e1
   have fk:=hf.2 k hlt
   clear e0 e1
   go_wp2_with fail
   have hb0:Below wr.heap.size wr (wr.alloc (.cells #[.int .i64 l[k].1,.slice s1 l[k].2.length t1] 34)):=(Below.refl _ _).alloc (Nat.le_refl _) _
   have d0:=box0 wr (.int .i64 l[k].1) (.slice s1 l[k].2.length t1) 34
   have d1:=box1 wr (.int .i64 l[k].1) (.slice s1 l[k].2.length t1) 34
   have hlt0:=bP wr (.cells #[.int .i64 l[k].1,.slice s1 l[k].2.length t1] 34)
   replace hW:=hW.below hb0
   replace hz:=hz.below hb0
   have B1:Below w.heap.size w (wr.alloc (.cells #[.int .i64 l[k].1,.slice s1 l[k].2.length t1] 34)):=hb.trans (hb0.mono hb.size)
   generalize hq:wr.heap.size=q at *
   generalize wr.alloc (.cells #[.int .i64 l[k].1,.slice s1 l[k].2.length t1] 34)=W1 at *
   clear hb0 x0 x1 hq hb
   refine(qw l[k].1 s1 t1 l[k].2 W1 (r1.below (h0.trans (B1.mono h0.size))) fk).mono ?_
   rintro e w2 ⟨⟨r,rfl,hr2⟩,b2⟩
   replace hW:=hW.below b2
   replace hz:=hz.below b2
   replace d0:=ae b2 hlt0 d0
   replace d1:=ae b2 hlt0 d1
   have B2:Below w.heap.size w w2:=B1.trans (b2.mono B1.size)
   have hlt2:q<w2.heap.size:=Nat.lt_of_lt_of_le hlt0 b2.size
   have HR2:Hid (r=true↔ah l[k].2/\l[k].2≠[]):=hr2
   clear hr2 b2 B1 hlt0
   cases r
   ·have HN:Hid (¬aX l):=fun h=>by simpa using HR2.out.2 (h.2.1 k hlt)
    obtain⟨z0,z1,z2,z3,z4,z5,z6,z7,z8,z9⟩:=hz.cells
    obtain⟨y0,y1,y2,y3,y4,y5,y6,y7,y8,y9⟩:=hz.free
    have HY:Hid _:=iM hz (.int .i64 0) (.slice none 0 0) (.int .i64 0) (.slice none 0 0) (.int .i64 0) (.slice none 0 0) (.int .i64 0) (.slice none 0 0) (.int .i64 0) (.int .i64 0)
    clear HR2 hz hW
    go_wp2_with fail
    obtain⟨Y0,Y1,Y2,Y3,Y4,Y5,Y6,Y7,Y8,Y9⟩:=HY.out
    unfold jC at Y0 Y1 Y2 Y3 Y4 Y5 Y6 Y7 Y8 Y9
    exact bodyPost_ret (v:=.tuple #[.agg bH,.bool false]) (by simp[results,Tryz.results126,go_sem,Y0,Y1,Y2,Y3,Y4,Y5,Y6,Y7,Y8,Y9]) rfl ⟨.inr ⟨_,rfl,HN.out,jQ _⟩,iJ B2 (Nat.le_refl _) _ _ _ _ _ _ _ _ _ _⟩
   ·go_wp2_with fail
    refine(su W0 w2 _ 0 (l.take k) l[k].1 _ l[k].2 hW (h0.trans (B2.mono h0.size)) (ui HTO.out) ⟨s1,t1,rfl,hc1,r1⟩ (HR2.out.1 (by trivial)).1).mono ?_
    rintro e w3 ⟨⟨r,rfl,hr3⟩,b3⟩
    replace hW:=hW.below b3
    replace hz:=hz.below b3
    replace d0:=ae b3 hlt2 d0
    replace d1:=ae b3 hlt2 d1
    have B3:Below w.heap.size w w3:=B2.trans (b3.mono B2.size)
    have HR3:Hid (r=true↔∀h:0<(l.take k).length,eU ((l.take k)[(l.take k).length-1]'(by omega)).2 l[k].2):=hr3
    clear hr3 b3 B2 hlt2
    cases r
    ·have HN:Hid (¬aX l):=fun h=>by
      have h3:=HR3.out.2 (vN h hlt)
      simp at h3
     obtain⟨z0,z1,z2,z3,z4,z5,z6,z7,z8,z9⟩:=hz.cells
     obtain⟨y0,y1,y2,y3,y4,y5,y6,y7,y8,y9⟩:=hz.free
     have HY:Hid _:=iM hz (.int .i64 0) (.slice none 0 0) (.int .i64 0) (.slice none 0 0) (.int .i64 0) (.slice none 0 0) (.int .i64 0) (.slice none 0 0) (.int .i64 0) (.int .i64 0)
     clear HR2 HR3 hz hW
     go_wp2_with fail
     obtain⟨Y0,Y1,Y2,Y3,Y4,Y5,Y6,Y7,Y8,Y9⟩:=HY.out
     unfold jC at Y0 Y1 Y2 Y3 Y4 Y5 Y6 Y7 Y8 Y9
     exact bodyPost_ret (v:=.tuple #[.agg bH,.bool false]) (by simp[results,Tryz.results126,go_sem,Y0,Y1,Y2,Y3,Y4,Y5,Y6,Y7,Y8,Y9]) rfl ⟨.inr ⟨_,rfl,HN.out,jQ _⟩,iJ B3 (Nat.le_refl _) _ _ _ _ _ _ _ _ _ _⟩
    ·have HST:Hid (lH l (k+1)):=mr HTO.out hlt (HR2.out.1 (by trivial)) (fun h=>xk hlt h (HR3.out.1 (by trivial)))
     have HT:Hid (l.take (k+1)=l.take k++[(l[k].1,l[k].2)]):=List.take_succ_eq_append_getElem hlt
     clear HR2 HR3 HTO
     go_wp2_with fail
     refine(push_room W0 w3 _ 0 (l.take k) l[k].1 _ l[k].2 hW ⟨s1,t1,rfl,hc1,r1⟩ (by rw[List.length_take];omega)).mono ?_
     rintro e w4 ⟨rfl,hW4,b4⟩
     have hz4:=hz.but b4 (by omega)
     have B4:Below w.heap.size w w4:=B3.trans (b4.below (by omega) B3.size)
     clear hW hz d0 d1 b4
     go_wp2_with fail
     exact⟨⟨k+1,by omega,by go_num,by rw[HT.out];exact hW4,HST,hz4,B4⟩,by simp[intOf];omega⟩
  ·have HF:Hid (aX l):=zY HTO.out hlt (by omega)
   rw[List.take_of_length_le (by omega)]at hW
   obtain⟨z0,z1,z2,z3,z4,z5,z6,z7,z8,z9⟩:=hz.cells
   obtain⟨y0,y1,y2,y3,y4,y5,y6,y7,y8,y9⟩:=hz.free
   obtain⟨_,_,_,f,⟨hrow,hsh⟩,e8,e9,hf'⟩:=hW
   obtain⟨x0,a0,n0,c0,p0,p1⟩:=hsh 0 (by omega)
   obtain⟨x1,a1,n1,c1,p2,p3⟩:=hsh 1 (by omega)
   obtain⟨x2,a2,n2,c2,p4,p5⟩:=hsh 2 (by omega)
   obtain⟨x3,a3,n3,c3,p6,p7⟩:=hsh 3 (by omega)
   have HV:Hid (uM W0 (.agg #[.int .i64 x0,.slice a0 n0 c0,.int .i64 x1,.slice a1 n1 c1,.int .i64 x2,.slice a2 n2 c2,.int .i64 x3,.slice a3 n3 c3,.int .i64 0,.int .i64 l.length]) l):=Fz (by omega) p0 p1 p2 p3 p4 p5 p6 p7 hf'
   have r0:wr.cell? ⟨w.heap.size+1,0,none⟩=some (.int .i64 x0):=by rw[hrow.cell (by omega),<- p0]
   have r1:wr.cell? ⟨w.heap.size+1,1,none⟩=some (.slice a0 n0 c0):=by rw[hrow.cell (by omega),<- p1]
   have r2:wr.cell? ⟨w.heap.size+1,2,none⟩=some (.int .i64 x1):=by rw[hrow.cell (by omega),<- p2]
   have r3:wr.cell? ⟨w.heap.size+1,3,none⟩=some (.slice a1 n1 c1):=by rw[hrow.cell (by omega),<- p3]
   have r4:wr.cell? ⟨w.heap.size+1,4,none⟩=some (.int .i64 x2):=by rw[hrow.cell (by omega),<- p4]
   have r5:wr.cell? ⟨w.heap.size+1,5,none⟩=some (.slice a2 n2 c2):=by rw[hrow.cell (by omega),<- p5]
   have r6:wr.cell? ⟨w.heap.size+1,6,none⟩=some (.int .i64 x3):=by rw[hrow.cell (by omega),<- p6]
   have r7:wr.cell? ⟨w.heap.size+1,7,none⟩=some (.slice a3 n3 c3):=by rw[hrow.cell (by omega),<- p7]
   have r8:wr.cell? ⟨w.heap.size+1,8,none⟩=some (.int .i64 0):=by rw[hrow.cell (by omega),e8];rfl
   have r9:wr.cell? ⟨w.heap.size+1,9,none⟩=some (.int .i64 l.length):=by rw[hrow.cell (by omega),e9]
   have HY:Hid _:=iM hz (.int .i64 x0) (.slice a0 n0 c0) (.int .i64 x1) (.slice a1 n1 c1) (.int .i64 x2) (.slice a2 n2 c2) (.int .i64 x3) (.slice a3 n3 c3) (.int .i64 0) (.int .i64 l.length)
   clear HTO hz hrow hsh e8 e9 hf' p0 p1 p2 p3 p4 p5 p6 p7 f
   go_wp2_with fail
   obtain⟨Y0,Y1,Y2,Y3,Y4,Y5,Y6,Y7,Y8,Y9⟩:=HY.out
   unfold jC at Y0 Y1 Y2 Y3 Y4 Y5 Y6 Y7 Y8 Y9
   exact bodyPost_ret (v:=.tuple #[.agg #[.int .i64 x0,.slice a0 n0 c0,.int .i64 x1,.slice a1 n1 c1,.int .i64 x2,.slice a2 n2 c2,.int .i64 x3,.slice a3 n3 c3,.int .i64 0,.int .i64 l.length],.bool true]) (by simp[results,Tryz.results126,go_sem,Y0,Y1,Y2,Y3,Y4,Y5,Y6,Y7,Y8,Y9]) rfl ⟨.inl ⟨_,rfl,HF.out,HV.out⟩,iJ hb (Nat.le_refl _) _ _ _ _ _ _ _ _ _ _⟩
theorem Tryz.infoV:(Tryz.prog.info? 181).map (fun i=>(i.zero,i.size,i.bytes))=some (some (.agg bH),10,144):=by kernel_rfl
theorem Ik (w:World)(cs:Array Value)(t:TypeId):∀j u,cs.toList[j]?=some u->(w.alloc (.cells cs t)).cell? ((⟨w.heap.size,0,none⟩:Addr).add j)=some u:=by
 intro j u hj
 have e:(⟨w.heap.size,0,none⟩:Addr).add j=⟨w.heap.size,j,none⟩:=by unfold Addr.add;split <;> simp_all
 rw[e,World.cell?_alloc_new]
 simpa using hj
def NT (w w':World)(ws:List (List af))(e:Ending):Prop:=(∃a1 c1 a2 c2 sh,e=.returned (.tuple #[.agg #[.slice a1 ws.length c1,.slice a2 sh.length c2],.bool true])/\OkW ws/\ws.length<=c1/\sh.length<=c2/\Dz w w' a1 ws/\Eg w' a2 sh/\IL ws sh)∨(e=.returned (.tuple #[.agg #[.slice none 0 0,.slice none 0 0],.bool false])/\¬OkW ws)
def Two (w:World)(b:Nat)(x y:Value):Prop:=w.cell? ⟨b,0,none⟩=some x/\w.cell? ⟨b,1,none⟩=some y/\w.frozen? ⟨b,0,none⟩=false/\w.frozen? ⟨b,1,none⟩=false
theorem Two.keep {w w':World}{b:Nat}{x y:Value}(h:Two w b x y)(hb:Below w.heap.size w w'):Two w' b x y:=by
 have hlt:=block_lt_of_cell h.1
 exact⟨ae hb hlt h.1,ae hb hlt h.2.1,(hb.frozen (p:=⟨b,0,none⟩) hlt).trans h.2.2.1,(hb.frozen (p:=⟨b,1,none⟩) hlt).trans h.2.2.2⟩
theorem Two.grown {w w':World}{b:Nat}{x y:Value}{r:Option Nat}(h:Two w b x y)(hg:w.grownBy w' r)(hne:some b≠r):Two w' b x y:=by
 have hlt:=block_lt_of_cell h.1
 exact⟨dn hg hne h.1,dn hg hne h.2.1,(hg.frozen_far ⟨b,0,none⟩ hlt hne).trans h.2.2.1,(hg.frozen_far ⟨b,1,none⟩ hlt hne).trans h.2.2.2⟩
theorem Two.set0 {w:World}{b:Nat}{x y:Value}(h:Two w b x y)(z:Value):Two (w.setCell ⟨b,0,none⟩ z) b z y:=by
 obtain⟨h0,h1,h2,h3⟩:=h
 exact⟨by simp[go_sem,h0],by simp[go_sem,h1],by simp[go_sem,h2],by simp[go_sem,h3]⟩
theorem Two.far {w:World}{b q:Nat}{x y:Value}(h:Two w b x y)(hq:b≠q)(i:Nat)(z:Value):Two (w.setCell ⟨q,i,none⟩ z) b x y:=by
 obtain⟨h0,h1,h2,h3⟩:=h
 exact⟨by rw[aV _ _ _ _ hq];exact h0,by rw[aV _ _ _ _ hq];exact h1,by simp[go_sem,h2],by simp[go_sem,h3]⟩
theorem vk {w:World}{B e size n q:Nat}{v:Value}{xs:List Value}(h:w.ownsRow B e size v n xs)(hq:q<B)(i:Nat)(z:Value):(w.setCell ⟨q,i,none⟩ z).ownsRow B e size v n xs:=by
 obtain⟨hl,h|⟨g,cap,cur,hv,hgB,hh,r⟩⟩:=h
 ·exact⟨hl,.inl h⟩
 ·exact⟨hl,.inr ⟨g,cap,cur,hv,hgB,(Below.heap_setCell _ _ _ _ (by simp only;omega)).trans hh,r⟩⟩
theorem mM.far {W0 w:World}{B q:Nat}{v:Value}{L:List (List af×List Value)}(h:mM W0 w B v L)(hq:q<B)(i:Nat)(z:Value):mM W0 (w.setCell ⟨q,i,none⟩ z) B v L:=⟨vk h.1 hq i z,h.2⟩
theorem kK.far {w:World}{B q:Nat}{v:Value}{L:List (List aW×Value)}(h:kK w B v L)(hq:q<B)(i:Nat)(z:Value):kK (w.setCell ⟨q,i,none⟩ z) B v L:=⟨vk h.1 hq i z,fun p hp=>vk (h.2 p hp) hq i z⟩
set_option maxHeartbeats 3200000 in
theorem mJ (a:Option Addr)(cap:Nat)(ws:List (List af))(w:World)(hf:wM ws)(hr:iF w a ws) :
  Calls Tryz.prog 134 #[.slice a ws.length cap] w fun e w'=>NT w w' ws e/\Below w.heap.size w w':=by
 have hl:=hf.1
 unfold maxLen at hl
 obtain⟨i0,hi,hy0,hy1,hy2⟩:=info_parts Tryz.infoV
 by_cases h1:ws.length<1
 ·go_enter Tryz.func134,Tryz.ntmps134
  go_wp2_with fail
  exact bodyPost_ret (v:=.tuple #[.agg #[.slice none 0 0,.slice none 0 0],.bool false]) (by simp[results,Tryz.results134,go_sem]) rfl ⟨.inr ⟨rfl,fun h=>by have:=h.1;omega⟩,((Below.refl _ _).alloc (Nat.le_refl _) _).alloc (by simp) _⟩
 by_cases h6:6<ws.length
 ·go_enter Tryz.func134,Tryz.ntmps134
  go_wp2_with fail
  exact bodyPost_ret (v:=.tuple #[.agg #[.slice none 0 0,.slice none 0 0],.bool false]) (by simp[results,Tryz.results134,go_sem]) rfl ⟨.inr ⟨rfl,fun h=>by have:=h.2.1;omega⟩,((Below.refl _ _).alloc (Nat.le_refl _) _).alloc (by simp) _⟩
 have B0:Below w.heap.size w ((w.alloc (.cells #[.slice none 0 0,.slice none 0 0] 204)).alloc (.cells #[.slice none 0 0,.slice none 0 0] 204)):=((Below.refl _ _).alloc (Nat.le_refl _) _).alloc (by simp) _
 have T0:Two ((w.alloc (.cells #[.slice none 0 0,.slice none 0 0] 204)).alloc (.cells #[.slice none 0 0,.slice none 0 0] 204)) w.heap.size (.slice none 0 0) (.slice none 0 0):=⟨by simp[go_sem],by simp[go_sem],by simp[go_sem],by simp[go_sem]⟩
 have T1:Two ((w.alloc (.cells #[.slice none 0 0,.slice none 0 0] 204)).alloc (.cells #[.slice none 0 0,.slice none 0 0] 204)) (w.heap.size+1) (.slice none 0 0) (.slice none 0 0):=⟨by simp[go_sem],by simp[go_sem],by simp[go_sem],by simp[go_sem]⟩
 have hsz:w.heap.size+2<=((w.alloc (.cells #[.slice none 0 0,.slice none 0 0] 204)).alloc (.cells #[.slice none 0 0,.slice none 0 0] 204)).heap.size:=by simp
 go_enter Tryz.func134,Tryz.ntmps134
 go_wp2_with fail
 go_loopw [20] (fun i wr=>∃(k:Nat) (L:List (List af×List Value)) (v:Value),k<=ws.length/\i=.int .i64 k/\L.length=k/\Hid (L.map (·.1)=ws.take k)/\mM w wr (w.heap.size+2) v L/\Two wr w.heap.size (.slice none 0 0) (.slice none 0 0)/\Two wr (w.heap.size+1) v (.slice none 0 0)/\Hid (∀j,(h:j<ws.length)->j<k->aX ws[j])/\w.heap.size+2<=wr.heap.size/\Below w.heap.size w wr) (fun i _=>ws.length-(intOf i).toNat)
 case atStart=>exact⟨0,[],_,Nat.zero_le _,rfl,rfl,by simp[Hid],⟨World.ownsRow_nil _ _ _ _,by simp⟩,T0,T1,fun _ _ h=>absurd h (Nat.not_lt_zero _),hsz,B0⟩
 case round=>
  clear B0 T0 T1 hsz
  obtain⟨k,L,v,hk,rfl,hLk,HLT,hL,T0,T1,HI,hsz,hbl⟩:=hrel
  by_cases hlt:k<ws.length
  ·obtain⟨b1,o1,rfl,g1,s1,t1,f1,hc1,q1⟩:=hr k hlt
   have f1':=ae hbl g1 f1
   have k0:(0:Int)<=(k:Int):=by omega
   have k1:(k:Int)<(ws.length:Int):=by omega
   obtain⟨fy0,fy1,fy2,fy3⟩:=id T1
   go_wp2_with fail
   refine(uV w s1 t1 ws[k] _ (hf.2 k hlt) q1 hbl).mono ?_
   rintro e w1 ⟨hE,b1'⟩
   have B1:Below w.heap.size w w1:=hbl.trans (b1'.mono hbl.size)
   replace T0:=T0.keep b1'
   replace T1:=T1.keep b1'
   replace hL:=hL.keep b1'
   have z1:=b1'.size
   rcases hE with⟨vv,rfl,hp,hv⟩|⟨vv,rfl,hp,hv⟩
   ·have HP:Hid (aX ws[k]):=hp
    clear hp
    obtain⟨x0,x1,x2,x3,a0,a1,a2,a3,n0,n1,n2,n3,c0,c1,c2,c3,rfl,hwc⟩:=hv.cells
    have hbw:Below w1.heap.size w1 (w1.alloc (.cells #[.int .i64 x0,.slice a0 n0 c0,.int .i64 x1,.slice a1 n1 c1,.int .i64 x2,.slice a2 n2 c2,.int .i64 x3,.slice a3 n3 c3,.int .i64 0,.int .i64 ws[k].length] 181)):=(Below.refl _ _).alloc (Nat.le_refl _) _
    have T1w:=T1.keep hbw
    obtain⟨u0,u1,u2,u3⟩:=T1w
    have hbx:Below w1.heap.size w1 ((w1.alloc (.cells #[.int .i64 x0,.slice a0 n0 c0,.int .i64 x1,.slice a1 n1 c1,.int .i64 x2,.slice a2 n2 c2,.int .i64 x3,.slice a3 n3 c3,.int .i64 0,.int .i64 ws[k].length] 181)).alloc (.cells #[.int .i64 x0,.slice a0 n0 c0,.int .i64 x1,.slice a1 n1 c1,.int .i64 x2,.slice a2 n2 c2,.int .i64 x3,.slice a3 n3 c3,.int .i64 0,.int .i64 ws[k].length] 181)):=hbw.alloc hbw.size _
    have hL2:=hL.keep hbx
    have T02:=T0.keep hbx
    have T12:=T1.keep hbx
    have hfar0:some w.heap.size≠v.ownBlock:=fun e=>by have:=aT hL.1 _ e.symm;omega
    have hfar1:some (w.heap.size+1)≠v.ownBlock:=fun e=>by have:=aT hL.1 _ e.symm;omega
    have hzz:w.heap.size+2<=((w1.alloc (.cells #[.int .i64 x0,.slice a0 n0 c0,.int .i64 x1,.slice a1 n1 c1,.int .i64 x2,.slice a2 n2 c2,.int .i64 x3,.slice a3 n3 c3,.int .i64 0,.int .i64 ws[k].length] 181)).alloc (.cells #[.int .i64 x0,.slice a0 n0 c0,.int .i64 x1,.slice a1 n1 c1,.int .i64 x2,.slice a2 n2 c2,.int .i64 x3,.slice a3 n3 c3,.int .i64 0,.int .i64 ws[k].length] 181)).heap.size:=by simp;omega
    clear hv
    go_wp2_with (first|(at_builtin;refine Hid.out ?_))
    unfold Hid
    refine wpList_append_lies _ rfl _ _ 201 rfl (w.heap.size+2) 181 i0 (.agg bH) 10 144 Tryz.underlying201 hi hy0 hy1 hy2 rfl (by decide) _ L.length (mg L) rfl hL2.1 ⟨w1.heap.size+1,0,none⟩ 1 1 #[.int .i64 x0,.slice a0 n0 c0,.int .i64 x1,.slice a1 n1 c1,.int .i64 x2,.slice a2 n2 c2,.int .i64 x3,.slice a3 n3 c3,.int .i64 0,.int .i64 ws[k].length].toList rfl rfl (by have h:=Ik (w1.alloc (.cells #[.int .i64 x0,.slice a0 n0 c0,.int .i64 x1,.slice a1 n1 c1,.int .i64 x2,.slice a2 n2 c2,.int .i64 x3,.slice a3 n3 c3,.int .i64 0,.int .i64 ws[k].length] 181)) #[.int .i64 x0,.slice a0 n0 c0,.int .i64 x1,.slice a1 n1 c1,.int .i64 x2,.slice a2 n2 c2,.int .i64 x3,.slice a3 n3 c3,.int .i64 0,.int .i64 ws[k].length] 181;rw[World.size_alloc]at h;exact h) (by simp[Value.oneCell']) (by decide) (by unfold maxLen;omega) (by omega) hzz _ rfl ?_
    intro g' cap' w5 hown' hgrow _ hloc
    have T15:=T12.grown hgrow hfar1
    have T05:=T02.grown hgrow hfar0
    have p0:=T15.1
    have p1:=T15.2.2.1
    go_wp2_with fail
    have BX:Below w.heap.size w ((w1.alloc (.cells #[.int .i64 x0,.slice a0 n0 c0,.int .i64 x1,.slice a1 n1 c1,.int .i64 x2,.slice a2 n2 c2,.int .i64 x3,.slice a3 n3 c3,.int .i64 0,.int .i64 ws[k].length] 181)).alloc (.cells #[.int .i64 x0,.slice a0 n0 c0,.int .i64 x1,.slice a1 n1 c1,.int .i64 x2,.slice a2 n2 c2,.int .i64 x3,.slice a3 n3 c3,.int .i64 0,.int .i64 ws[k].length] 181)):=B1.trans (hbx.mono B1.size)
    have B5:=BX.grown hgrow BX.size (fun q hq=>by have:=aT hL.1 q hq;omega)
    rw[hLk]at hown'
    have HT:Hid (ws.take (k+1)=ws.take k++[ws[k]]):=List.take_succ_eq_append_getElem hlt
    have HST:Hid (∀j,(h:j<ws.length)->j<k+1->aX ws[j]):=wP HI.out hlt HP.out
    have hG5:=hL2.snoc hwc (by rw[hLk];exact hown')
    have z5:=hgrow.size
    exact⟨⟨k+1,_,_,by omega,by go_num,by simp[hLk],by rw[HT.out,List.map_append,HLT.out];rfl,⟨vk hG5.1 (by omega) _ _,hG5.2⟩,T05.far (by omega) _ _,T15.set0 _,HST,by simp only[World.size_setCell];omega,B5.setCell (by simp only;omega) _⟩,by simp[intOf];omega⟩
   ·have HN:Hid (¬OkW ws):=fun h=>hp (h.2.2 k hlt)
    clear hp
    obtain⟨x0,x1,x2,x3,a0,a1,a2,a3,n0,n1,n2,n3,c0,c1,c2,c3,rfl,_⟩:=hv.laid
    have hbw:Below w1.heap.size w1 (w1.alloc (.cells #[.int .i64 x0,.slice a0 n0 c0,.int .i64 x1,.slice a1 n1 c1,.int .i64 x2,.slice a2 n2 c2,.int .i64 x3,.slice a3 n3 c3,.int .i64 0,.int .i64 0] 181)):=(Below.refl _ _).alloc (Nat.le_refl _) _
    have T0w:=T0.keep hbw
    obtain⟨u0,u1,u2,u3⟩:=T0w
    have BW:=B1.trans (hbw.mono B1.size)
    go_wp2_with fail
    generalize w1.alloc (.cells #[.int .i64 x0,.slice a0 n0 c0,.int .i64 x1,.slice a1 n1 c1,.int .i64 x2,.slice a2 n2 c2,.int .i64 x3,.slice a3 n3 c3,.int .i64 0,.int .i64 0] 181)=WX at *
    have e0:((WX.setCell ⟨w.heap.size,0,none⟩ (.slice none 0 0)).setCell ⟨w.heap.size,1,none⟩ (.slice none 0 0)).cell? ⟨w.heap.size,0,none⟩=some (.slice none 0 0):=by simp[go_sem,u0]
    have e1:((WX.setCell ⟨w.heap.size,0,none⟩ (.slice none 0 0)).setCell ⟨w.heap.size,1,none⟩ (.slice none 0 0)).cell? ⟨w.heap.size,1,none⟩=some (.slice none 0 0):=by simp[go_sem,u1]
    exact bodyPost_ret (v:=.tuple #[.agg #[.slice none 0 0,.slice none 0 0],.bool false]) (by simp[results,Tryz.results134,go_sem,e0,e1]) rfl ⟨.inr ⟨rfl,HN.out⟩,(BW.setCell (Nat.le_refl _) _).setCell (Nat.le_refl _) _⟩
  ·obtain⟨va,vc,rfl,hvc,hrow⟩:=hL.row
   have HOK:Hid (OkW ws):=⟨by omega,by omega,fun j hj=>HI.out j hj (by omega)⟩
   have hLw:L.length=ws.length:=by omega
   replace HLT:Hid (L.map (·.1)=ws):=by unfold Hid;rw[HLT.out,List.take_of_length_le (by omega)]
   rw[HLT.out]at hrow
   rw[hLw]at hvc T1 hL
   obtain⟨u0,u1,u2,u3⟩:=id T1
   clear HI
   go_wp2_with fail
   refine(uU w wr va vc ws hrow hbl HOK.out).mono ?_
   rintro e w1 ⟨⟨vs,M,rfl,hM,hsw⟩,b1⟩
   obtain⟨sa,sc,rfl,hsc,_⟩:=hM.row
   have HSW:Hid (IL ws (M.map (·.1))):=hsw
   clear hsw
   have B1:Below w.heap.size w w1:=hbl.trans (b1.mono hbl.size)
   have hL1:=hL.keep b1
   have T01:=T0.keep b1
   have T11:=T1.keep b1
   have z1:=b1.size
   clear u0 u1 u2 u3 hrow T0 T1
   obtain⟨u0,u1,u2,u3⟩:=id T11
   obtain⟨y0,y1,y2,y3⟩:=id T01
   go_wp2_with fail
   have hLf:=((hL1.far (q:=w.heap.size+1) (by omega) 1 (.slice sa M.length sc)).far (q:=w.heap.size) (by omega) 0 (.slice va ws.length vc)).far (q:=w.heap.size) (by omega) 1 (.slice sa M.length sc)
   have hMf:=((hM.far (q:=w.heap.size+1) (by omega) 1 (.slice sa M.length sc)).far (q:=w.heap.size) (by omega) 0 (.slice va ws.length vc)).far (q:=w.heap.size) (by omega) 1 (.slice sa M.length sc)
   have BF:=((B1.setCell (p:=⟨w.heap.size+1,1,none⟩) (by simp only;omega) (.slice sa M.length sc)).setCell (p:=⟨w.heap.size,0,none⟩) (Nat.le_refl _) (.slice va ws.length vc)).setCell (p:=⟨w.heap.size,1,none⟩) (Nat.le_refl _) (.slice sa M.length sc)
   have e0:(((w1.setCell ⟨w.heap.size+1,1,none⟩ (.slice sa M.length sc)).setCell ⟨w.heap.size,0,none⟩ (.slice va ws.length vc)).setCell ⟨w.heap.size,1,none⟩ (.slice sa M.length sc)).cell? ⟨w.heap.size,0,none⟩=some (.slice va ws.length vc):=by simp[go_sem,y0]
   have e1:(((w1.setCell ⟨w.heap.size+1,1,none⟩ (.slice sa M.length sc)).setCell ⟨w.heap.size,0,none⟩ (.slice va ws.length vc)).setCell ⟨w.heap.size,1,none⟩ (.slice sa M.length sc)).cell? ⟨w.heap.size,1,none⟩=some (.slice sa M.length sc):=by simp[go_sem,y1]
   generalize ((w1.setCell ⟨w.heap.size+1,1,none⟩ (.slice sa M.length sc)).setCell ⟨w.heap.size,0,none⟩ (.slice va ws.length vc)).setCell ⟨w.heap.size,1,none⟩ (.slice sa M.length sc)=WF at *
   obtain⟨a8,c8,q8,_,r8⟩:=hLf.row
   obtain⟨a9,c9,q9,_,r9⟩:=hMf.row
   rw[hLw]at q8
   cases q8
   cases q9
   rw[HLT.out]at r8
   exact bodyPost_ret (v:=.tuple #[.agg #[.slice va ws.length vc,.slice sa M.length sc],.bool true]) (by simp[results,Tryz.results134,go_sem,e0,e1]) rfl ⟨.inl ⟨va,vc,sa,sc,M.map (·.1),by simp,HOK.out,hvc,by rw[List.length_map];exact hsc,r8,r9,HSW.out⟩,BF⟩
theorem Fv {W0 w:World}{a1 a2:Option Addr}{c1 c2:Nat}{ws:List (List af)}{sh:List (List aW)}(hv:Dz W0 w a1 ws)(hg:Eg w a2 sh)(h1:ws.length<=c1)(h2:sh.length<=c2):Ew W0 (w.alloc (.cells #[.slice a1 ws.length c1,.slice a2 sh.length c2] 204)) w.heap.size ws sh:=
 have hb:Below w.heap.size w (w.alloc (.cells #[.slice a1 ws.length c1,.slice a2 sh.length c2] 204)):=(Below.refl _ _).alloc (Nat.le_refl _) _
 ⟨bP _ _,a1,c1,a2,c2,box0 _ _ _ _,h1,box1 _ _ _ _,h2,hv.below hb,hg.below hb⟩
def eX (ws:List (List af)):List Int:=ws.map fun l=>(l.length:Int)-1
theorem gK (ws:List (List af)):(eX ws).length=ws.length:=by simp[eX]
theorem dZ.snoc {w:World}{B:Nat}{v:Value}{l:List Int}{x:Int}(h:w.ownsRow B 3 1 v (l.length+1) ((l.map fun y=>.int .i64 y)++[.int .i64 x])):dZ w B v (l++[x]):=by
 unfold dZ
 rw[List.length_append,List.map_append]
 exact h
set_option maxHeartbeats 1600000 in
theorem IK (W0 w:World)(b:Nat)(ws:List (List af))(sh:List (List aW))(h:Ew W0 w b ws sh)(hok:OkW ws) :
  Calls Tryz.prog 161 #[.pointer (some ⟨b,0,none⟩)] w fun e w'=>(∃g c ok,e=.returned (.tuple #[.slice (some ⟨g,0,none⟩) ws.length c,.bool ok])/\(ok=true↔kH ws (eX ws))/\w.heap.size<=g/\gZ w' g (eX ws))/\Below w.heap.size w w':=by
 have h6:=hok.2.1
 have HC:Hid (Ew W0 w b ws sh):=h
 obtain⟨hb,a,c,a2,c2,e0,hc,e1,hc2,hv,hg⟩:=h
 obtain⟨i0,hi,hy0,hy1,hy2⟩:=info_parts Tryz.infoZ
 have hmk:∀u:World,(Instr.makeSlice 41 (.int .i64 0) (.int .i64 (ws.length:Int))).run Tryz.prog u=.ok (.slice (some ⟨u.heap.size,0,none⟩) 0 ws.length) (u.alloc (.cells (madeCells #[.int .i64 0] ws.length) 3)):=fun u=>by
  have h:=run_make (P:=Tryz.prog) u 41 3 i0 (.int .i64 0) Tryz.underlying41 hi hy0 .i64 .i64 0 (ws.length:Int) (by omega) (by omega) (by rw[hy2];omega) (by omega)
  simpa[hy1,Value.cells]using h
 have hg0:dZ (w.alloc (.cells (madeCells #[.int .i64 0] ws.length) 3)) w.heap.size (.slice (some ⟨w.heap.size,0,none⟩) 0 ws.length) []:=
  ⟨rfl,.inr ⟨w.heap.size,ws.length,madeCells #[.int .i64 0] ws.length,rfl,Nat.le_refl _,heap_alloc_new w _,Nat.zero_le _,by unfold maxLen;omega,by rw[size_madeCells];omega,rfl⟩⟩
 have hb0:Below w.heap.size w (w.alloc (.cells (madeCells #[.int .i64 0] ws.length) 3)):=(Below.refl _ _).alloc (Nat.le_refl _) _
 have e0':=ae hb0 hb e0
 go_enter Tryz.func161,Tryz.ntmps161
 go_wp2_with fail
 generalize (w.alloc (.cells (madeCells #[.int .i64 0] ws.length) 3))=WA at *
 clear hmk
 go_loopw [4,17] (fun pv i wr=>∃k:Nat,k<=ws.length/\i=.int .i64 k/\(∃g cap,pv=.slice (some ⟨g,0,none⟩) k cap/\dZ wr w.heap.size (.slice (some ⟨g,0,none⟩) k cap) ((eX ws).take k))/\Below w.heap.size w wr) (fun _ i _=>ws.length-(intOf i).toNat)
 case atStart=>exact⟨0,Nat.zero_le _,rfl,⟨_,_,rfl,hg0⟩,hb0⟩
 case round=>
  obtain⟨k,hk,rfl,⟨g,cap,rfl,hgn⟩,hbl⟩:=hrel
  have hz:=hbl.size
  have htl:((eX ws).take k).length=k:=by rw[List.length_take,gK];omega
  by_cases hlt:k<ws.length
  ·obtain⟨gv,ov,rfl,hwo⟩:=(hv.below hbl) k hlt
   have f0:=ae hbl hb e0
   have k0:(0:Int)<=(k:Int):=by omega
   have k1:(k:Int)<(ws.length:Int):=by omega
   have h4:=hwo.2.1
   have HT:Hid ((eX ws).take (k+1)=(eX ws).take k++[(ws[k].length:Int)-1]):=by
    unfold Hid
    rw[List.take_succ_eq_append_getElem (by rw[gK];exact hlt)]
    simp[eX]
   go_wp2_with fail
   refine(vJ W0 _ gv (ov+k*10) ws[k] hwo).mono ?_
   rintro e w2 ⟨rfl,rfl⟩
   go_wp2_with (at_builtin;refine wpList_append_lies _ rfl _ _ 41 rfl w.heap.size 3 i0 (.int .i64 0) 1 8 Tryz.underlying41 hi hy0 hy1 hy2 rfl (by decide) _ _ _ rfl (dh (show World.ownsRow _ _ _ _ _ _ _ from hgn) ((Below.refl _ _).alloc (Nat.le_refl _) _)) ⟨w2.heap.size,0,none⟩ 1 1 [.int .i64 ((ws[k].length:Int)-1)] rfl rfl (fA w2 _ _) (by simp[Value.oneCell']) (by decide) (by unfold maxLen;omega) (by omega) (by simp;omega) _ rfl ?_;intro g' cap' w5 hown' hgrow _ _)
   have hgs:=dZ.snoc hown'
   rw[<- HT.out,htl]at hgs
   have hB5:Below w.heap.size w w5:=(hbl.alloc hz _).grown hgrow (by simp;omega) (fun q hq=>by have:=aT (show World.ownsRow _ _ _ _ _ _ _ from hgn) q hq;omega)
   exact⟨⟨k+1,by omega,by go_num,⟨g',cap',rfl,hgs⟩,hB5⟩,by simp[intOf];omega⟩
  ·obtain rfl:k=ws.length:=by omega
   have hfull:(eX ws).take ws.length=eX ws:=List.take_of_length_le (by rw[gK];omega)
   rw[hfull]at hgn
   obtain⟨hgB,hnb⟩:=dZ.block hgn
   have hhas:=FI W0 wr b ws sh (some ⟨g,0,none⟩) cap (eX ws) (HC.out.below hbl) h6 (by rw[gK];unfold maxLen;omega) hnb.row
   rw[gK]at hhas
   clear htl hfull hgn
   go_wp2_with fail
   refine hhas.mono ?_
   rintro e w2 ⟨⟨r,rfl,hr2⟩,b2⟩
   have HR:Hid (r=true↔kH ws (eX ws)):=hr2.trans ⟨fun h=>h.2,fun h=>⟨trivial,h⟩⟩
   clear hr2
   go_wp2_with fail
   exact bodyPost_ret (v:=.tuple #[.slice (some ⟨g,0,none⟩) ws.length cap,.bool r]) (by simp[results,Tryz.results161,go_sem]) rfl ⟨⟨g,cap,r,rfl,HR.out,hgB,hnb.below b2⟩,hbl.trans (b2.mono hbl.size)⟩
theorem MN {ws:List (List af)}{ps:List Int}(hok:OkW ws)(hl:ps.length=ws.length)(hin:kH ws ps){s:ByteArray}{p:aW}(hs:jW ws s p):dJ ws ps p<=1099511627776:=by
 obtain⟨hw,_,q,hq,hm,_,e⟩:=sV hok hl hin hs
 rw[e]
 exact((((hok.2.2 p.1 hw).2.1 q hq).1).2.1 p.2 hm).2.2
set_option maxHeartbeats 1600000 in
theorem GG (W0 w:World)(b:Nat)(ws:List (List af))(sh:List (List aW))(a' s':Option Addr)(cap' cs:Nat)(ps:List Int)(src:List aW)(h:Ew W0 w b ws sh)(hW:Below W0.heap.size W0 w)(hok:OkW ws)(hl:ps.length=ws.length)(hin:kH ws ps)(hr':iC w a' ps)(hsh:IL ws sh)(hs:src∈sh)(hrow:Ir w s' src) :
  Calls Tryz.prog 162 #[.pointer (some ⟨b,0,none⟩),.slice a' ps.length cap',.slice s' src.length cs] w fun e w'=>(∃x:Int,e=.returned (.int .i64 x)/\(∀p∈src,x<=dJ ws ps p)/\∃p∈src,x=dJ ws ps p)/\Below w.heap.size w w':=by
 have HIN:Hid (kH ws ps):=hin
 have HOK:Hid (OkW ws):=hok
 have HSH:Hid (IL ws sh):=hsh
 have HC:Hid (Ew W0 w b ws sh):=h
 have HL:Hid (ps.length=ws.length):=hl
 have HZ:Hid (iC w a' ps):=hr'
 have hs1:=hsh.2.1 src hs
 have hsl:=hs1.2
 have hs0:=hs1.1
 clear hin hok hsh h hl hr' hs1
 go_enter Tryz.func162,Tryz.ntmps162
 go_wp2_with fail
 go_loopw [7,12] (fun lv i wr=>∃(k:Nat) (x:Int),k<=src.length/\i=.int .i64 k/\lv=.int .i64 x/\Hid ((∀j,(h:j<src.length)->j<k->x<=dJ ws ps src[j])/\(x=1099511627776∨∃j,∃h:j<src.length,x=dJ ws ps src[j]))/\Below w.heap.size w wr) (fun _ i _=>src.length-(intOf i).toNat)
 case atStart=>exact⟨0,_,Nat.zero_le _,rfl,rfl,⟨fun _ _ h=>absurd h (Nat.not_lt_zero _),.inl rfl⟩,Below.refl _ _⟩
 case round=>
  obtain⟨k,x,hk,rfl,rfl,HI,hbl⟩:=hrel
  by_cases hlt:k<src.length
  ·obtain⟨b2,o2,rfl,hb2,f2,f3⟩:=hrow.below hbl k hlt
   have k0:(0:Int)<=(k:Int):=by omega
   have k1:(k:Int)<(src.length:Int):=by omega
   go_wp2_with fail
   have hb0:Below wr.heap.size wr (wr.alloc (.cells #[.int .i64 (src[k].1:Int),.int .i64 (src[k].2:Int)] 231)):=(Below.refl _ _).alloc (Nat.le_refl _) _
   have B3:Below w.heap.size w (wr.alloc (.cells #[.int .i64 (src[k].1:Int),.int .i64 (src[k].2:Int)] 231)):=hbl.trans (hb0.mono hbl.size)
   obtain⟨sn,hall⟩:=HSH.out.1.1 src hs
   refine(nO W0 _ b ws sh a' cap' ps src[k] sn (HC.out.below B3) (hW.trans (B3.mono hW.size)) HOK.out HL.out HIN.out (HZ.out.below B3) (hall _ (List.getElem_mem hlt))).mono ?_
   rintro e w2 ⟨rfl,b2'⟩
   have B4:Below w.heap.size w w2:=B3.trans (b2'.mono B3.size)
   go_wp2_with fail
   have HX:Hid ((∀j,(h:j<src.length)->j<k+1->min x (dJ ws ps src[k])<=dJ ws ps src[j])/\(min x (dJ ws ps src[k])=1099511627776∨∃j,∃h:j<src.length,min x (dJ ws ps src[k])=dJ ws ps src[j])):=by
    obtain⟨h1,h2⟩:=HI.out
    refine⟨fun j hj hlt'=>?_, ?_⟩
    ·by_cases e:j=k
     ·subst e;omega
     ·have:=h1 j hj (by omega);omega
    ·by_cases e:x<=dJ ws ps src[k]
     ·rw[Int.min_eq_left e];exact h2
     ·exact .inr ⟨k,hlt,by rw[Int.min_eq_right (by omega)]⟩
   exact⟨⟨k+1,_,by omega,by go_num,rfl,HX,B4⟩,by simp[intOf];omega⟩
  ·have HX:Hid ((∀p∈src,x<=dJ ws ps p)/\∃p∈src,x=dJ ws ps p):=by
    obtain⟨h1,h2⟩:=HI.out
    obtain⟨sn,hall⟩:=HSH.out.1.1 src hs
    refine⟨fun p hp=>?_, ?_⟩
    ·obtain⟨j,hj,rfl⟩:=List.mem_iff_getElem.1 hp
     exact h1 j hj (by omega)
    ·rcases h2 with h2|⟨j,hj,h2⟩
     ·have h3:=h1 0 (by omega) (by omega)
      have h4:=MN HOK.out HL.out HIN.out (hall _ (List.getElem_mem (show 0<src.length by omega)))
      exact⟨src[0],List.getElem_mem _,by omega⟩
     ·exact⟨_,List.getElem_mem hj,h2⟩
   go_wp2_with fail
   go_ret
   exact⟨⟨x,rfl,HX.out⟩,hbl⟩
end Go.Proofs.YtpfhegengmlkmabGreatDoor
