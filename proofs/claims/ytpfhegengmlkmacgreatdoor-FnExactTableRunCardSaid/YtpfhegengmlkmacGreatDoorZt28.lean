/- Texts of this claim. -/
import Derived.LaidEql
import Derived.Stop.Asserts
import Derived.RowKitTokens
import Derived.Test.YtpfhegengmlkmacGreatDoorZt27
namespace Go.Proofs.YtpfhegengmlkmacGreatDoor
open Go.RowKit Go.BigFrame
set_option maxRecDepth 100000
theorem own_ne {w:World} {B e size n q:Nat} {v:Value} {xs:List Value} (h:w.ownsRow B e size v n xs) (hq:v.ownBlock≠some q) (i:Nat) (z:Value):(w.setCell ⟨q,i,none⟩ z).ownsRow B e size v n xs:=by
 obtain ⟨hl,h | ⟨g,cap,cur,hv,hgB,hh,r⟩⟩:=h
 ·exact ⟨hl,.inl h⟩
 ·refine ⟨hl,.inr ⟨g,cap,cur,hv,hgB,(Below.heap_setCell _ _ _ _ ?_).trans hh,r⟩⟩
  intro e
  exact hq (by rw [hv];simp only at e;rw [e];rfl)
theorem GathY.lower {w:World} {B B':Nat} {v:Value} {L:List WinY} (h:GathY w B v L) (hB:B'<=B):GathY w B' v L:=⟨own_lower h.own hB,fun p hp=>⟨(h.at_ p hp).1,Nat.le_trans hB (h.at_ p hp).2.1,(h.at_ p hp).2.2⟩,h.far,h.dis⟩
theorem replicate_snoc (n:Nat):List.replicate n ([]:List ItemL) ++ [[]]=List.replicate (n + 1) []:=by rw [List.replicate_succ']
set_option maxHeartbeats 3200000 in
theorem specGN_any (a:Option Addr) (cap:Nat) (ins:List ByteArray) (w:World) (hl:ins.length<=1048576) (hr:RowS w a ins) (hs:∀ j,(h:j < ins.length)->ins[j].size<=maxLen) :
  Calls Tryz.prog 64 #[.slice a ins.length cap] w fun e w'=>NewE w w' ins e∧Below w.heap.size w w':=by
 have hb0:Below w.heap.size w (w.alloc (.cells #[.slice none 0 0,.slice none 0 0,.slice none 0 0] 36)):=(Below.refl _ _).alloc (Nat.le_refl _) _
 have tR:=tri_new w (.slice none 0 0) (.slice none 0 0) (.slice none 0 0) 36
 go_enter Tryz.func64,Tryz.ntmps64
 go_wp2_with fail
 generalize w.alloc (.cells #[.slice none 0 0,.slice none 0 0,.slice none 0 0] 36)=W0 at *
 refine (l4Ins_any a cap ins _ hl (hr.below hb0) hs).mono ?_
 rintro e w1 ⟨⟨r,rfl,hr1⟩,b1⟩
 have HR:Hid (r=true↔InsP ins):=hr1
 clear hr1
 have B1:Below w.heap.size w w1:=hb0.trans (b1.mono hb0.size)
 replace tR:=tR.keep b1
 cases r with
 | false=>
  have HN:Hid (¬ InsP ins):=fun h=>by have:=HR.out.2 h;simp at this
  obtain ⟨r0,r1,r2,f0,f1,f2⟩:=id tR
  go_wp2_with fail
  have e0:(((w1.setCell ⟨w.heap.size,0,none⟩ (.slice none 0 0)).setCell ⟨w.heap.size,1,none⟩ (.slice none 0 0)).setCell ⟨w.heap.size,2,none⟩ (.slice none 0 0)).cell? ⟨w.heap.size,0,none⟩=some (.slice none 0 0):=by simp [go_sem,r0]
  have e1:(((w1.setCell ⟨w.heap.size,0,none⟩ (.slice none 0 0)).setCell ⟨w.heap.size,1,none⟩ (.slice none 0 0)).setCell ⟨w.heap.size,2,none⟩ (.slice none 0 0)).cell? ⟨w.heap.size,1,none⟩=some (.slice none 0 0):=by simp [go_sem,r1]
  have e2:(((w1.setCell ⟨w.heap.size,0,none⟩ (.slice none 0 0)).setCell ⟨w.heap.size,1,none⟩ (.slice none 0 0)).setCell ⟨w.heap.size,2,none⟩ (.slice none 0 0)).cell? ⟨w.heap.size,2,none⟩=some (.slice none 0 0):=by simp [go_sem,r2]
  exact bodyPost_ret (v:=.tuple #[.agg #[.slice none 0 0,.slice none 0 0,.slice none 0 0],.bool false]) (by simp [results,Tryz.results64,go_sem,e0,e1,e2]) rfl ⟨.inr ⟨rfl,HN.out⟩,((B1.setCell (Nat.le_refl _) _).setCell (Nat.le_refl _) _).setCell (Nat.le_refl _) _⟩
 | true=>
  have HP:Hid (InsP ins):=HR.out.1 rfl
  clear HR
  have h1:=HP.out.1
  have h6:=HP.out.2.1
  obtain ⟨bn,on,rfl,hbn,_⟩:=hr 0 (by omega)
  obtain ⟨i0,hi,hz0,hz1,hz2⟩:=info_parts Tryz.infoS
  have bE:Below w1.heap.size w1 (w1.alloc (.cells #[] 9)):=(Below.refl _ _).alloc (Nat.le_refl _) _
  have BE:Below w.heap.size w (w1.alloc (.cells #[] 9)):=B1.trans (bE.mono B1.size)
  have hnews:∀ j u,(ins.map Value.string)[j]?=some u->(w1.alloc (.cells #[] 9)).cell? ((⟨bn,on,none⟩:Addr).add j)=some u:=fun j u hj=>by
   have hj':j < ins.length:=by
    rcases Nat.lt_or_ge j ins.length with h | h
    ·exact h
    ·rw [List.getElem?_eq_none (by simpa using h)] at hj;cases hj
   obtain ⟨b,o,e,_,hc⟩:=hr.below BE j hj'
   cases e
   have ea:(⟨bn,on,none⟩:Addr).add j=⟨bn,on + j,none⟩:=by unfold Addr.add;split <;> simp_all
   rw [ea,hc]
   simpa [hj'] using hj
  have hown0:(w1.alloc (.cells #[] 9)).ownsRow w1.heap.size 9 1 (.slice (some ⟨w1.heap.size,0,none⟩) 0 0) 0 []:=⟨rfl,.inr ⟨w1.heap.size,0,#[],rfl,Nat.le_refl _,heap_alloc_new w1 _,Nat.le_refl _,Nat.zero_le _,rfl,rfl⟩⟩
  go_wp2_with (first | (at_builtin;refine wpList_append_lies _ rfl _ _ 22 rfl w1.heap.size 9 i0 (.string .empty) 1 16 Tryz.underlying22 hi hz0 hz1 hz2 rfl (by decide) _ 0 [] rfl hown0 ⟨bn,on,none⟩ ins.length cap (ins.map Value.string) rfl (by simp) hnews (by simp [Value.oneCell']) (by omega) (by unfold maxLen;omega) (by omega) (by simp) _ rfl ?_;intro g3 c3 w3 hown3 hgr3 _ _))
  simp only [Nat.zero_add,List.nil_append] at hown3 ⊢
  have hgs3:GathS w3 w1.heap.size (.slice (some ⟨g3,0,none⟩) ins.length c3) ins:=hown3
  have b3:Below w1.heap.size w1 w3:=bE.grown hgr3 (by simp) (fun q hq=>by cases hq;exact Nat.le_refl _)
  have hg3:g3 < w3.heap.size:=by have:=World.ownsRow.lt hown3 g3 rfl;exact this.2
  have bT:Below w3.heap.size w3 (w3.alloc (.cells #[.slice (some ⟨g3,0,none⟩) ins.length c3,.slice none 0 0,.slice none 0 0] 36)):=(Below.refl _ _).alloc (Nat.le_refl _) _
  have tT:=tri_new w3 (.slice (some ⟨g3,0,none⟩) ins.length c3) (.slice none 0 0) (.slice none 0 0) 36
  have tR3:=(tR.keep b3).keep bT
  have hgsT:=hgs3.keep bT
  have B3:Below w.heap.size w w3:=B1.trans (b3.mono B1.size)
  have BT:Below w.heap.size w (w3.alloc (.cells #[.slice (some ⟨g3,0,none⟩) ins.length c3,.slice none 0 0,.slice none 0 0] 36)):=B3.trans (bT.mono B3.size)
  have zR:w.heap.size < w1.heap.size:=block_lt_of_cell tR.c0
  have z13:=b3.size
  clear hown3 hgr3 hown0 hnews bE BE
  go_wp2_with fail
  generalize w3.alloc (.cells #[.slice (some ⟨g3,0,none⟩) ins.length c3,.slice none 0 0,.slice none 0 0] 36)=WT at *
  have zT:w3.heap.size < WT.heap.size:=block_lt_of_cell tT.c0
  go_loopw [5] (fun i wr=>∃ (k:Nat) (vw:Value) (L:List WinY),k<=ins.length∧i=.int .i64 k∧GathY wr (w3.heap.size + 1) vw L∧Hid (L.map (·.l)=List.replicate k [])∧GathS wr w1.heap.size (.slice (some ⟨g3,0,none⟩) ins.length c3) ins∧Tri wr w.heap.size (.slice none 0 0) (.slice none 0 0) (.slice none 0 0)∧Tri wr w3.heap.size (.slice (some ⟨g3,0,none⟩) ins.length c3) vw (.slice none 0 0)∧w3.heap.size + 1<=wr.heap.size∧Below w.heap.size w wr) (fun i _=>ins.length - (intOf i).toNat)
  case atStart=>exact ⟨0,_,[],Nat.zero_le _,rfl,gathY_none _ _,by simp [Hid],hgsT,tR3,tT,zT,BT⟩
  case round=>
   clear tT tR3 hgsT BT
   obtain ⟨k,vw,L,hk,rfl,hgy,HL,hgs,tR',tT,hsz,hbl⟩:=hrel
   have zz:=hbl.size
   by_cases hlt:k < ins.length
   ·have k0:(0:Int)<=(k:Int):=by omega
    have k1:(k:Int) < (ins.length:Int):=by omega
    have q0:=tT.c1
    have hbx:Below wr.heap.size wr (wr.alloc (.cells #[.slice none 0 0] 78)):=(Below.refl _ _).alloc (Nat.le_refl _) _
    have hlL:L.length<=1048576:=by have:=congrArg List.length HL.out;rw [List.length_map,List.length_replicate] at this;omega
    have hin:(WinY.mk [] (.slice none 0 0) wr.heap.size wr.heap.size).In (wr.alloc (.cells #[.slice none 0 0] 78)) (w3.heap.size + 1):=⟨⟨none,0,rfl,Nat.le_refl _,.inl rfl⟩,hsz,Nat.le_refl _,hbx.size⟩
    have hfar:∀ q,q < w3.heap.size + 1->some q≠vw.ownBlock:=fun q hq e=>by have:=own_from hgy.own q e.symm;omega
    go_wp2_with (first | (at_builtin;refine wpList_plain rfl (fun K hK=>?_);refine wp_append_win _ _ rfl (w3.heap.size + 1) vw L rfl (hgy.keep hbx) (by have:=hbx.size;omega) wr.heap.size (WinY.mk [] (.slice none 0 0) wr.heap.size wr.heap.size) (fun q hq=>(hgy.at_ q hq).2.2.2) hin (fun q hq=>.inl (World.ownsRow.lt hgy.own q hq).2) rfl (by simp [go_sem]) hlL ?_;intro vw' w5 hgy5 hgr5 hloc5;obtain ⟨vwa,vwc,rfl,_,_⟩:=hgy5.row;have tT5:=(tT.keep hbx).grown hgr5 (hfar _ (by omega));have q5:=tT5.c1;have q6:=tT5.f1;refine hK _ _ ?_))
    have tR5:=(tR'.keep hbx).grown hgr5 (hfar _ (by omega))
    have hgs5:GathS w5 w1.heap.size (.slice (some ⟨g3,0,none⟩) ins.length c3) ins:=World.ownsRow.kept (hgs.keep hbx) hgr5 (own_types (show World.ownsRow _ _ _ _ _ _ _ from hgs) hgy.own str_unlike)
    have B5:Below w.heap.size w w5:=(hbl.trans (hbx.mono hbl.size)).grown hgr5 (by have:=hbx.size;omega) (fun q hq=>by have:=own_from hgy.own q hq;omega)
    have z5:=hgr5.size
    have z6:=hbx.size
    have HL5:Hid ((L ++ [WinY.mk [] (.slice none 0 0) wr.heap.size wr.heap.size]).map (·.l)=List.replicate (k + 1) []):=by
     unfold Hid
     rw [List.map_append,HL.out]
     exact replicate_snoc k
    simp only [List.length_append,List.length_cons,List.length_nil,Nat.zero_add] at hgy5
    exact ⟨⟨k + 1,_,_,by omega,by go_num,hgy5.set (by omega) 1 _,HL5,own_ne hgs5 (by simp [Value.ownBlock];omega) 1 _,tR5.far (by omega) 1 _,tT5.set1 _,by simp only [World.size_setCell];omega,B5.setCell (by simp only;omega) _⟩,by simp [intOf];omega⟩
   ·obtain rfl:k=ins.length:=by omega
    obtain ⟨d0,d1,d2,_,_,_⟩:=id tT
    obtain ⟨r0,r1,r2,f0,f1,f2⟩:=id tR'
    obtain ⟨swa,swc,rfl,_,_⟩:=hgy.row
    go_wp2_with fail
    have e0:(((wr.setCell ⟨w.heap.size,0,none⟩ (.slice (some ⟨g3,0,none⟩) ins.length c3)).setCell ⟨w.heap.size,1,none⟩ (.slice swa L.length swc)).setCell ⟨w.heap.size,2,none⟩ (.slice none 0 0)).cell? ⟨w.heap.size,0,none⟩=some (.slice (some ⟨g3,0,none⟩) ins.length c3):=by simp [go_sem,r0]
    have e1:(((wr.setCell ⟨w.heap.size,0,none⟩ (.slice (some ⟨g3,0,none⟩) ins.length c3)).setCell ⟨w.heap.size,1,none⟩ (.slice swa L.length swc)).setCell ⟨w.heap.size,2,none⟩ (.slice none 0 0)).cell? ⟨w.heap.size,1,none⟩=some (.slice swa L.length swc):=by simp [go_sem,r1]
    have e2:(((wr.setCell ⟨w.heap.size,0,none⟩ (.slice (some ⟨g3,0,none⟩) ins.length c3)).setCell ⟨w.heap.size,1,none⟩ (.slice swa L.length swc)).setCell ⟨w.heap.size,2,none⟩ (.slice none 0 0)).cell? ⟨w.heap.size,2,none⟩=some (.slice none 0 0):=by simp [go_sem,r2]
    have g1:GathS (((wr.setCell ⟨w.heap.size,0,none⟩ (.slice (some ⟨g3,0,none⟩) ins.length c3)).setCell ⟨w.heap.size,1,none⟩ (.slice swa L.length swc)).setCell ⟨w.heap.size,2,none⟩ (.slice none 0 0)) w1.heap.size (.slice (some ⟨g3,0,none⟩) ins.length c3) ins:=own_farY (own_farY (own_farY (show World.ownsRow _ _ _ _ _ _ _ from hgs) zR 0 _) zR 1 _) zR 2 _
    have g2:=(((hgy.lower (show w1.heap.size<=w3.heap.size + 1 by omega)).set zR 0 (.slice (some ⟨g3,0,none⟩) ins.length c3)).set zR 1 (.slice swa L.length swc)).set zR 2 (.slice none 0 0)
    exact bodyPost_ret (v:=.tuple #[.agg #[.slice (some ⟨g3,0,none⟩) ins.length c3,.slice swa L.length swc,.slice none 0 0],.bool true]) (by simp [results,Tryz.results64,go_sem,e0,e1,e2]) rfl ⟨.inl ⟨w1.heap.size,_,_,L,_,by omega,rfl,HP.out,g1,g2,HL.out,⟨_,_,rfl⟩⟩,((hbl.setCell (Nat.le_refl _) _).setCell (Nat.le_refl _) _).setCell (Nat.le_refl _) _⟩
def WinE (w:World) (g n:Nat):Prop:=∃ m f,w.rowIs g 78 m f∧n<=m∧∀ j,j < n->∃ s c,f j=.slice s 0 c
theorem WinE.lt {w:World} {g n:Nat} (h:WinE w g n):g < w.heap.size:=by
 obtain ⟨m,f,h,_⟩:=h
 exact h.lt
theorem GathY.block {w:World} {B n:Nat} {v:Value} {L:List WinY} (h:GathY w B v L) (hL:L.map (·.l)=List.replicate n []) (h0:0 < n):∃ g c,v=.slice (some ⟨g,0,none⟩) n c∧B<=g∧WinE w g n:=by
 have hn:L.length=n:=by have:=congrArg List.length hL;simpa using this
 rcases h.own.2 with ⟨_,e⟩ | ⟨g,cap,cur,e,hB,hh,hnc,hc,hs,ht⟩
 ·omega
 ·refine ⟨g,cap,by rw [<- hn];exact e,hB,cap * 1,fun i=>(cur[i]?).getD undef,⟨cur,hh,hs,fun i hi=>?_⟩,by omega,fun k hk=>?_⟩
  ·have hi':i < cur.size:=by omega
   simp [Array.getElem?_eq_getElem hi']
  ·have hk':k < L.length:=by omega
   obtain ⟨⟨a,c,e2,_⟩,_⟩:=h.at_ L[k] (List.getElem_mem hk')
   have e3:L[k].l=[]:=by
    have h4:(L.map (·.l))[k]?=some []:=by rw [hL];simp [hk]
    simpa [hk'] using h4
   have h2:(L.map (·.v))[k]?=some L[k].v:=by simp [hk']
   rw [<- ht,List.getElem?_take_of_lt (by simp;omega)] at h2
   simp only [Array.getElem?_toList] at h2
   refine ⟨a,c, ?_⟩
   simp only [h2,Option.getD_some]
   rw [e2,e3]
   rfl
def SafeN (w:World) (lo hi:Nat) (a0 a1:Option Addr) (nm:List ByteArray):Prop:=nm=[]∨∃ g t,a0=some ⟨g,0,none⟩∧a1=some ⟨t,0,none⟩∧lo<=g∧g < hi∧lo<=t∧t < hi∧g≠t∧StrB w g nm∧WinE w t nm.length
def IsN (ins nm:List ByteArray) (ok:Bool):Prop:=(ok=true∧InsP ins∧nm=ins)∨(ok=false∧¬ InsP ins∧nm=[])
theorem NewE.safe {w w':World} {ins:List ByteArray} {e:Ending} (h:NewE w w' ins e):∃ nm ok a0 c0 a1 c1 a2 c2,e=.returned (.tuple #[.agg #[.slice a0 nm.length c0,.slice a1 nm.length c1,.slice a2 0 c2],.bool ok])∧IsN ins nm ok∧SafeN w' w.heap.size w'.heap.size a0 a1 nm:=by
 rcases h with ⟨B,v0,v1,L,v2,hB,rfl,hp,h1,h2,h3,⟨a2,c2,rfl⟩⟩ | ⟨rfl,hp⟩
 ·have hpos:0 < ins.length:=hp.1
  obtain ⟨g,c,rfl,hg,hs⟩:=h1.block hpos
  obtain ⟨t,c',rfl,ht,hw⟩:=h2.block h3 hpos
  have hne:g≠t:=fun e=>by
   have hx:=own_types (show World.ownsRow _ _ _ _ _ _ _ from h1) h2.own str_unlike
   rcases hx with hx | hx
   ·simp [Value.ownBlock] at hx
   ·exact hx (by rw [e];rfl)
  exact ⟨ins,true,_,c,_,c',a2,c2,rfl,.inl ⟨rfl,hp,rfl⟩,.inr ⟨g,t,rfl,rfl,by omega,hs.lt,by omega,hw.lt,hne,hs,hw⟩⟩
 ·exact ⟨[],false,none,0,none,0,none,0,rfl,.inr ⟨rfl,hp,rfl⟩,.inl rfl⟩
theorem YW.span {w w':World} {lo hi t lo' hi':Nat} {L:List WinY} (h:YW w lo hi t L) (hs:Span lo' hi' w w') (ht:t < lo'∨hi'<=t) (hd:hi<=lo'∨hi'<=lo):YW w' lo hi t L:=
 ⟨Nat.lt_of_lt_of_le h.lt hs.size,fun k hk=>by rw [World.cell?_of_block (hs.block t h.lt ht)];exact h.cell k hk,fun p hp=>by
  obtain ⟨a,c,h1,h2,h3⟩:=h.at_ p hp
  have:=h.in_ p hp
  exact ⟨a,c,h1,h2,h3.span hs (by omega)⟩,h.far,h.in_,h.dis⟩
def StG (w:World) (lo hi b t:Nat) (a2:Option Addr) (L:List WinY) (m:List (ByteArray×Int)):Prop:=m=[]∨∃ s,a2=some ⟨s,0,none⟩∧lo<=s∧s < hi∧s≠b∧s≠t∧Own w s m∧∀ p∈L,s < p.lo∨p.hi<=s
structure FullG (w:World) (lo hi b t:Nat) (a2:Option Addr) (nm:List ByteArray) (L:List WinY) (m:List (ByteArray×Int)):Prop where
 names:StrB w b nm
 wins:YW w lo hi t L
 bt:b≠t
 bin:lo<=b∧b < hi
 tin:lo<=t∧t < hi
 bfar:∀ p∈L,b < p.lo∨p.hi<=b
 stamp:StG w lo hi b t a2 L m
def SafeG (w:World) (lo hi:Nat) (a0 a1 a2:Option Addr) (nm:List ByteArray) (L:List WinY) (m:List (ByteArray×Int)):Prop:=
 (nm=[]∧L=[]∧m=[])∨∃ b t,a0=some ⟨b,0,none⟩∧a1=some ⟨t,0,none⟩∧FullG w lo hi b t a2 nm L m
theorem StG.row {w:World} {lo hi b t:Nat} {a2:Option Addr} {L:List WinY} {m:List (ByteArray×Int)} (h:StG w lo hi b t a2 L m):Row w a2 m:=by
 rcases h with rfl | ⟨s,rfl,_,_,_,_,ho,_⟩
 ·exact fun k hk=>absurd hk (Nat.not_lt_zero k)
 ·exact ho.row
theorem SafeG.rows {w:World} {lo hi:Nat} {a0 a1 a2:Option Addr} {nm:List ByteArray} {L:List WinY} {m:List (ByteArray×Int)} (h:SafeG w lo hi a0 a1 a2 nm L m):RowS w a0 nm∧RowW w a1 (L.map (·.l))∧Row w a2 m:=by
 rcases h with ⟨rfl,rfl,rfl⟩ | ⟨b,t,rfl,rfl,h⟩
 ·exact ⟨fun k hk=>absurd hk (Nat.not_lt_zero k),fun k hk=>absurd hk (Nat.not_lt_zero k),fun k hk=>absurd hk (Nat.not_lt_zero k)⟩
 ·exact ⟨h.names.row,h.wins.row,h.stamp.row⟩
theorem FullG.below {w w':World} {lo hi b t:Nat} {a2:Option Addr} {nm:List ByteArray} {L:List WinY} {m:List (ByteArray×Int)} (h:FullG w lo hi b t a2 nm L m) (hb:Below w.heap.size w w'):FullG w' lo hi b t a2 nm L m:=
 ⟨h.names.below hb,h.wins.below hb,h.bt,h.bin,h.tin,h.bfar,by
  rcases h.stamp with e | ⟨s,e,h1,h2,h3,h4,h5,h6⟩
  ·exact .inl e
  ·exact .inr ⟨s,e,h1,h2,h3,h4,h5.below hb,h6⟩⟩
theorem FullG.span {w w':World} {lo hi b t lo' hi':Nat} {a2:Option Addr} {nm:List ByteArray} {L:List WinY} {m:List (ByteArray×Int)} (h:FullG w lo hi b t a2 nm L m) (hs:Span lo' hi' w w') (hd:hi<=lo'∨hi'<=lo):FullG w' lo hi b t a2 nm L m:=
 ⟨h.names.span hs (by have:=h.bin;omega),h.wins.span hs (by have:=h.tin;omega) hd,h.bt,h.bin,h.tin,h.bfar,by
  rcases h.stamp with e | ⟨s,e,h1,h2,h3,h4,h5,h6⟩
  ·exact .inl e
  ·obtain ⟨mm,f,h7,hf⟩:=id h5
   exact .inr ⟨s,e,h1,h2,h3,h4,⟨mm,f,h7.of_block (hs.block s h5.lt (by omega)),hf⟩,h6⟩⟩
theorem SafeG.below {w w':World} {lo hi:Nat} {a0 a1 a2:Option Addr} {nm:List ByteArray} {L:List WinY} {m:List (ByteArray×Int)} (h:SafeG w lo hi a0 a1 a2 nm L m) (hb:Below w.heap.size w w'):SafeG w' lo hi a0 a1 a2 nm L m:=by
 rcases h with h | ⟨b,t,e1,e2,h⟩
 ·exact .inl h
 ·exact .inr ⟨b,t,e1,e2,h.below hb⟩
theorem SafeG.span {w w':World} {lo hi lo' hi':Nat} {a0 a1 a2:Option Addr} {nm:List ByteArray} {L:List WinY} {m:List (ByteArray×Int)} (h:SafeG w lo hi a0 a1 a2 nm L m) (hs:Span lo' hi' w w') (hd:hi<=lo'∨hi'<=lo):SafeG w' lo hi a0 a1 a2 nm L m:=by
 rcases h with h | ⟨b,t,e1,e2,h⟩
 ·exact .inl h
 ·exact .inr ⟨b,t,e1,e2,h.span hs hd⟩
end Go.Proofs.YtpfhegengmlkmacGreatDoor
namespace Go.Proofs.YtpfhegengmlkmacGreatDoor
open Go.RowKit Go.Extern.Stop Go.Stop Go.Extern
theorem as_nil (t:Value) (w:World) :
  Calls Tryz.prog 52 #[.nilIface,t] w fun e w'=>e=.returned (.bool false)∧w'=w:=by
 go_enter Tryz.func52,Tryz.ntmps52
 go_wp2
 go_ret
 exact ⟨rfl,rfl⟩
theorem Tryz.valueOfP (t:Addr) (w:World):(ReflectliteValue.unpack (.iface 98 (.pointer (some t)))).run Tryz.prog w
  = .ok (.agg #[.pointer (some ⟨11,98,none⟩),.pointer (some ⟨w.heap.size,0,none⟩),.int .u64 150]) (w.alloc (.cells #[.pointer (some t)] 98)):=by kernel_rfl
theorem Tryz.typeP (a:Addr) (w:World):(ReflectliteValue.methodAny (ReflectliteValue.valueError "reflectlite.Value.Type" 0) (fun t _ _ _=>ReflectliteType.toType t) #[.agg #[.pointer (some ⟨11,98,none⟩),.pointer (some a),.int .u64 150]]).run Tryz.prog w
  = .ok (.iface 197 (.agg #[.pointer (some ⟨11,98,none⟩)])) w:=by kernel_rfl
theorem Tryz.methodKind (h:Value) (w:World):(Go.method 466 197 (.agg #[h]) "Kind").run Tryz.prog w=.ok (284,h) w:=by kernel_rfl
theorem Tryz.kindP (w:World):((ReflectliteType.abiMethod fun t=>(fun a:Nat=>Value.int IntKind.u8 (a:Int)) <$> Rtype.kind t) #[.pointer (some ⟨11,98,none⟩)]).run Tryz.prog w=.ok (.int .u8 22) w:=by kernel_rfl
theorem Tryz.kindR (w:World):((ReflectliteType.abiMethod fun t=>(fun a:Nat=>Value.int IntKind.u8 (a:Int)) <$> Rtype.kind t) #[.pointer (some ⟨11,96,none⟩)]).run Tryz.prog w=.ok (.int .u8 25) w:=by kernel_rfl
theorem method_parts (z:Sem Value) (f:TypeId->Addr->Nat->Nat->Sem Value) (v:Value):∃ g,ReflectliteValue.method z f #[v]=(ReflectliteValue.parts v >>= g)∧∀ t a fl,g (some (t,a,fl))=f t a fl (fl % 32):=⟨_,rfl,fun _ _ _=>rfl⟩
theorem Tryz.partsP (a:Addr) (w:World):(ReflectliteValue.parts (.agg #[.pointer (some ⟨11,98,none⟩),.pointer (some a),.int .u64 150])).run Tryz.prog w=.ok (some (98,a,150)) w:=by kernel_rfl
theorem Tryz.isNilP (a p:Addr) (W:World) (ha:W.cell? a=some (.pointer (some p))) :
  (ReflectliteValue.method (ReflectliteValue.valueError "reflectlite.Value.IsNil" 0) ReflectliteValue.isNil #[.agg #[.pointer (some ⟨11,98,none⟩),.pointer (some a),.int .u64 150]]).run Tryz.prog W=.ok (.bool false) W:=by
 obtain ⟨g,e1,e2⟩:=method_parts _ _ _
 rw [e1]
 simp only [Sem.run_bind,Tryz.partsP,Result.andThen,e2]
 simp [ReflectliteValue.isNil,loadVar,isAgg,underlying,Tryz.underlying98,ha,Result.andThen]
theorem Tryz.methodElem (h:Value) (w:World):(Go.method 466 197 (.agg #[h]) "Elem").run Tryz.prog w=.ok (298,.agg #[h]) w:=by kernel_rfl
theorem Tryz.methodImplements (h:Value) (w:World):(Go.method 466 197 (.agg #[h]) "Implements").run Tryz.prog w=.ok (299,.agg #[h]) w:=by kernel_rfl
theorem Tryz.methodAssignableTo (h:Value) (w:World):(Go.method 466 197 (.agg #[h]) "AssignableTo").run Tryz.prog w=.ok (296,.agg #[h]) w:=by kernel_rfl
theorem Tryz.elemP (w:World):(ReflectliteType.method ReflectliteType.elem #[.agg #[.pointer (some ⟨11,98,none⟩)]]).run Tryz.prog w=.ok (.iface 197 (.agg #[.pointer (some ⟨11,96,none⟩)])) w:=by kernel_rfl
theorem Tryz.implementsR (w:World):(ReflectliteType.relation "Implements" ReflectliteType.implements_ #[.agg #[.pointer (some ⟨11,96,none⟩)],.iface 197 (.agg #[.pointer (some ⟨11,92,none⟩)])]).run Tryz.prog w=.ok (.bool true) w:=by kernel_rfl
theorem Tryz.typeOfR (v:Value) (w:World):(ReflectliteType.typeOf #[.iface 96 v]).run Tryz.prog w=.ok (.iface 197 (.agg #[.pointer (some ⟨11,96,none⟩)])) w:=by kernel_rfl
theorem Tryz.assignableR (w:World):(ReflectliteType.relation "AssignableTo" ReflectliteType.assignableTo #[.agg #[.pointer (some ⟨11,96,none⟩)],.iface 197 (.agg #[.pointer (some ⟨11,96,none⟩)])]).run Tryz.prog w=.ok (.bool true) w:=by kernel_rfl
theorem Tryz.valueOfR (c:Int) (w:World):(ReflectliteValue.unpack (.iface 96 (.agg #[.int .i64 c]))).run Tryz.prog w
  = .ok (.agg #[.pointer (some ⟨11,96,none⟩),.pointer (some ⟨w.heap.size,0,none⟩),.int .u64 153]) (w.alloc (.cells #[.int .i64 c] 96)):=by kernel_rfl
theorem Tryz.elemOfP (w:World):(Rtype.elem? 98).run Tryz.prog w=.ok (some 96) w:=by kernel_rfl
theorem Tryz.mkR (p:Addr) (w:World):(ReflectliteValue.mk 96 p ReflectliteValue.flagAddr).run Tryz.prog w=.ok (.agg #[.pointer (some ⟨11,96,none⟩),.pointer (some p),.int .u64 409]) w:=by kernel_rfl
theorem Tryz.elemVP (a p:Addr) (W:World) (ha:W.cell? a=some (.pointer (some p))) :
  (ReflectliteValue.method (ReflectliteValue.valueError "reflectlite.Value.Elem" 0) ReflectliteValue.elem #[.agg #[.pointer (some ⟨11,98,none⟩),.pointer (some a),.int .u64 150]]).run Tryz.prog W
   = .ok (.agg #[.pointer (some ⟨11,96,none⟩),.pointer (some p),.int .u64 409]) W:=by
 obtain ⟨g,e1,e2⟩:=method_parts _ _ _
 rw [e1]
 simp only [Sem.run_bind,Tryz.partsP,Result.andThen,e2]
 simp [ReflectliteValue.elem,loadVar,isAgg,underlying,Tryz.underlying98,ha,Result.andThen,Tryz.elemOfP,Tryz.mkR]
theorem Tryz.setR0 (ta b:Addr) (W:World):(ReflectliteValue.set #[.agg #[.pointer (some ⟨11,96,none⟩),.pointer (some ta),.int .u64 409],.agg #[.pointer (some ⟨11,96,none⟩),.pointer (some b),.int .u64 153]]).run Tryz.prog W
   = (do let v <- loadVar 96 b;storeVar 96 ta v;pure (Value.tuple #[])).run Tryz.prog W:=by kernel_rfl
theorem Tryz.setR (ta b:Addr) (c:Int) (old:Value) (W:World) (hb:W.cell? b=some (.int .i64 c)) (ht:W.cell? ta=some old) (hf:W.frozen? ta=false) :
  (ReflectliteValue.set #[.agg #[.pointer (some ⟨11,96,none⟩),.pointer (some ta),.int .u64 409],.agg #[.pointer (some ⟨11,96,none⟩),.pointer (some b),.int .u64 153]]).run Tryz.prog W
   = .ok (.tuple #[]) (W.setCell ta (.int .i64 c)):=by
 rw [Tryz.setR0]
 simp [loadVar,storeVar,isAgg,underlying,Tryz.underlying96,loadCells,loadCellsFrom,hb,Result.andThen,Value.cells,storeCells,Addr.add]
 rw [run_store Tryz.prog W ta _ _ (by rfl)]
 simp [ht,hf]
def AsTo (c:Int) (t:Addr) (w w':World):Prop:=∃ W,Below w.heap.size w W∧w'=W.setCell t (.int .i64 c)
set_option maxRecDepth 100000 in
set_option maxHeartbeats 4000000 in
theorem as_hit (c:Int) (t:Addr) (old:Value) (w:World) (hg:w.cell? ⟨0,0,none⟩=some (.iface 197 (.agg #[.pointer (some ⟨11,92,none⟩)]))) (ht0:w.cell? t=some old) (hf0:w.frozen? t=false) :
  Calls Tryz.prog 52 #[.iface 96 (.agg #[.int .i64 c]),.iface 98 (.pointer (some t))] w fun ev w'=>ev=.returned (.bool true)∧AsTo c t w w':=by
 have h1:=@run_callFunc_extern Tryz.prog 92 _ (fun args=>ReflectliteValue.unpack (args.getD 0 (.tuple #[]))) Tryz.func92 (by kernel_rfl) (by kernel_rfl) (by kernel_rfl) (by kernel_rfl)
 have h2:=@run_callFunc_extern Tryz.prog 93 _ (ReflectliteValue.methodAny (ReflectliteValue.valueError "reflectlite.Value.Type" 0) (fun t _ _ _=>ReflectliteType.toType t)) Tryz.func93 (by kernel_rfl) (by kernel_rfl) (by kernel_rfl) (by kernel_rfl)
 have h3:=@run_callFunc_extern Tryz.prog 94 _ (ReflectliteValue.method (ReflectliteValue.valueError "reflectlite.Value.IsNil" 0) ReflectliteValue.isNil) Tryz.func94 (by kernel_rfl) (by kernel_rfl) (by kernel_rfl) (by kernel_rfl)
 have h4:=@run_callFunc_extern Tryz.prog 284 _ (ReflectliteType.abiMethod fun t=>do pure (.int .u8 (<- Rtype.kind t))) Tryz.func284 (by kernel_rfl) (by kernel_rfl) (by kernel_rfl) (by kernel_rfl)
 have h5:=@run_callFunc_extern Tryz.prog 298 _ (ReflectliteType.method ReflectliteType.elem) Tryz.func298 (by kernel_rfl) (by kernel_rfl) (by kernel_rfl) (by kernel_rfl)
 have h6:=@run_callFunc_extern Tryz.prog 299 _ (ReflectliteType.relation "Implements" ReflectliteType.implements_) Tryz.func299 (by kernel_rfl) (by kernel_rfl) (by kernel_rfl) (by kernel_rfl)
 have h7:=@run_callFunc_extern Tryz.prog 134 _ ReflectliteType.typeOf Tryz.func134 (by kernel_rfl) (by kernel_rfl) (by kernel_rfl) (by kernel_rfl)
 have h8:=@run_callFunc_extern Tryz.prog 296 _ (ReflectliteType.relation "AssignableTo" ReflectliteType.assignableTo) Tryz.func296 (by kernel_rfl) (by kernel_rfl) (by kernel_rfl) (by kernel_rfl)
 have h9:=@run_callFunc_extern Tryz.prog 135 _ (ReflectliteValue.method (ReflectliteValue.valueError "reflectlite.Value.Elem" 0) ReflectliteValue.elem) Tryz.func135 (by kernel_rfl) (by kernel_rfl) (by kernel_rfl) (by kernel_rfl)
 have h10:=@run_callFunc_extern Tryz.prog 136 _ ReflectliteValue.set Tryz.func136 (by kernel_rfl) (by kernel_rfl) (by kernel_rfl) (by kernel_rfl)
 have k1:=Tryz.typeOfR
 have k2:=Tryz.methodAssignableTo
 have k3:=Tryz.assignableR
 have k4:=Tryz.valueOfR
 have k5:=Tryz.valueOfP
 have k6:=Tryz.typeP
 have k7:=Tryz.methodKind
 have k8:=Tryz.methodElem
 have k9:=Tryz.methodImplements
 have k10:=Tryz.kindP
 have k11:=Tryz.kindR
 have k12:=Tryz.elemP
 have k13:=Tryz.implementsR
 have hlt:0 < w.heap.size:=block_lt_of_cell hg
 have htl:t.block < w.heap.size:=by
  rcases Nat.lt_or_ge t.block w.heap.size with h | h
  ·exact h
  ·simp [World.cell?,Array.getElem?_eq_none h] at ht0
 obtain ⟨W1,hW1⟩:∃ W1,(w.alloc (.cells #[.pointer (some t)] 98)).alloc (.cells #[.pointer (some ⟨11,98,none⟩),.pointer (some ⟨w.heap.size,0,none⟩),.int .u64 150] 150)=W1:=⟨_,rfl⟩
 have b1:Below w.heap.size w W1:=by rw [<- hW1];exact ((Below.refl _ _).alloc (Nat.le_refl _) _).alloc (by simp) _
 have n1:=Tryz.isNilP ⟨w.heap.size,0,none⟩ t W1 (by rw [<- hW1];simp)
 have hg1:W1.cell? ⟨0,0,none⟩=some (.iface 197 (.agg #[.pointer (some ⟨11,92,none⟩)])):=cell_on b1 hlt hg
 rw [<- hW1] at n1 hg1 b1
 clear hW1 W1
 have b3:Below w.heap.size w ((((w.alloc (.cells #[.pointer (some t)] 98)).alloc (.cells #[.pointer (some ⟨11,98,none⟩),.pointer (some ⟨w.heap.size,0,none⟩),.int .u64 150] 150)).alloc (.cells #[.pointer (some ⟨11,98,none⟩),.pointer (some ⟨w.heap.size,0,none⟩),.int .u64 150] 150)).alloc (.cells #[.int .i64 c] 96)):=(b1.alloc (by simp;omega) _).alloc (by simp;omega) _
 have n2:=Tryz.elemVP ⟨w.heap.size,0,none⟩ t (((w.alloc (.cells #[.pointer (some t)] 98)).alloc (.cells #[.pointer (some ⟨11,98,none⟩),.pointer (some ⟨w.heap.size,0,none⟩),.int .u64 150] 150)).alloc (.cells #[.pointer (some ⟨11,98,none⟩),.pointer (some ⟨w.heap.size,0,none⟩),.int .u64 150] 150)) (by rw [World.cell?_alloc_lt _ _ ⟨w.heap.size,0,none⟩ (by simp;omega)];simp)
 have n3:=Tryz.setR t ⟨w.heap.size + 1 + 1 + 1,0,none⟩ c old ((((w.alloc (.cells #[.pointer (some t)] 98)).alloc (.cells #[.pointer (some ⟨11,98,none⟩),.pointer (some ⟨w.heap.size,0,none⟩),.int .u64 150] 150)).alloc (.cells #[.pointer (some ⟨11,98,none⟩),.pointer (some ⟨w.heap.size,0,none⟩),.int .u64 150] 150)).alloc (.cells #[.int .i64 c] 96)) (by rw [World.cell?_alloc_at _ _ _ _ (by simp)];rfl) ((b3.cell htl).trans ht0) ((b3.frozen htl).trans hf0)
 go_enter Tryz.func52,Tryz.ntmps52
 go_wp2
 refine wp_loop_rounds 1 ?_
 rw [rounds_succ]
 go_wp2
 go_ret
 exact ⟨rfl,_,b3,rfl⟩
end Go.Proofs.YtpfhegengmlkmacGreatDoor
