/- Texts of this claim. -/
import Derived.Test.YtpfhegengmlkmacGreatDoorZt31
namespace Go.Proofs.YtpfhegengmlkmacGreatDoor
open Go.RowKit Go.BigFrame
set_option maxRecDepth 100000
theorem Tryz.infoV:(Tryz.prog.info? 190).map (fun i=>(i.zero,i.size,i.bytes))=some (some (.agg zero10),10,144):=by kernel_rfl
theorem block_new (w:World) (cs:Array Value) (t:TypeId):∀ j u,cs.toList[j]?=some u->(w.alloc (.cells cs t)).cell? ((⟨w.heap.size,0,none⟩:Addr).add j)=some u:=by
 intro j u hj
 have e:(⟨w.heap.size,0,none⟩:Addr).add j=⟨w.heap.size,j,none⟩:=by unfold Addr.add;split <;> simp_all
 rw [e,World.cell?_alloc_new]
 simpa using hj
def ChoE (w w':World) (ws:List (List ItemL)) (e:Ending):Prop:=(∃ a1 c1 a2 c2 sh,e=.returned (.tuple #[.agg #[.slice a1 ws.length c1,.slice a2 sh.length c2],.bool true])∧OkW ws∧ws.length<=c1∧sh.length<=c2∧RowV w w' a1 ws∧RowG w' a2 sh∧ShW ws sh)∨(e=.returned (.tuple #[.agg #[.slice none 0 0,.slice none 0 0],.bool false])∧¬ OkW ws)
def Two (w:World) (b:Nat) (x y:Value):Prop:=w.cell? ⟨b,0,none⟩=some x∧w.cell? ⟨b,1,none⟩=some y∧w.frozen? ⟨b,0,none⟩=false∧w.frozen? ⟨b,1,none⟩=false
theorem Two.keep {w w':World} {b:Nat} {x y:Value} (h:Two w b x y) (hb:Below w.heap.size w w'):Two w' b x y:=by
 have hlt:=block_lt_of_cell h.1
 exact ⟨cell_on hb hlt h.1,cell_on hb hlt h.2.1,(hb.frozen (p:=⟨b,0,none⟩) hlt).trans h.2.2.1,(hb.frozen (p:=⟨b,1,none⟩) hlt).trans h.2.2.2⟩
theorem Two.grown {w w':World} {b:Nat} {x y:Value} {r:Option Nat} (h:Two w b x y) (hg:w.grownBy w' r) (hne:some b≠r):Two w' b x y:=by
 have hlt:=block_lt_of_cell h.1
 exact ⟨grown_cell hg hne h.1,grown_cell hg hne h.2.1,(hg.frozen_far ⟨b,0,none⟩ hlt hne).trans h.2.2.1,(hg.frozen_far ⟨b,1,none⟩ hlt hne).trans h.2.2.2⟩
theorem Two.set0 {w:World} {b:Nat} {x y:Value} (h:Two w b x y) (z:Value):Two (w.setCell ⟨b,0,none⟩ z) b z y:=by
 obtain ⟨h0,h1,h2,h3⟩:=h
 exact ⟨by simp [go_sem,h0],by simp [go_sem,h1],by simp [go_sem,h2],by simp [go_sem,h3]⟩
theorem Two.far {w:World} {b q:Nat} {x y:Value} (h:Two w b x y) (hq:b≠q) (i:Nat) (z:Value):Two (w.setCell ⟨q,i,none⟩ z) b x y:=by
 obtain ⟨h0,h1,h2,h3⟩:=h
 exact ⟨by rw [set_far _ _ _ _ hq];exact h0,by rw [set_far _ _ _ _ hq];exact h1,by simp [go_sem,h2],by simp [go_sem,h3]⟩
theorem own_far {w:World} {B e size n q:Nat} {v:Value} {xs:List Value} (h:w.ownsRow B e size v n xs) (hq:q < B) (i:Nat) (z:Value):(w.setCell ⟨q,i,none⟩ z).ownsRow B e size v n xs:=by
 obtain ⟨hl,h | ⟨g,cap,cur,hv,hgB,hh,r⟩⟩:=h
 ·exact ⟨hl,.inl h⟩
 ·exact ⟨hl,.inr ⟨g,cap,cur,hv,hgB,(Below.heap_setCell _ _ _ _ (by simp only;omega)).trans hh,r⟩⟩
theorem GathW.far {W0 w:World} {B q:Nat} {v:Value} {L:List (List ItemL×List Value)} (h:GathW W0 w B v L) (hq:q < B) (i:Nat) (z:Value):GathW W0 (w.setCell ⟨q,i,none⟩ z) B v L:=⟨own_far h.1 hq i z,h.2⟩
theorem GathG.far {w:World} {B q:Nat} {v:Value} {L:List (List Spot×Value)} (h:GathG w B v L) (hq:q < B) (i:Nat) (z:Value):GathG (w.setCell ⟨q,i,none⟩ z) B v L:=⟨own_far h.1 hq i z,fun p hp=>own_far (h.2 p hp) hq i z⟩
set_option maxHeartbeats 3200000 in
theorem readChoices_any (a:Option Addr) (cap:Nat) (ws:List (List ItemL)) (w:World) (hf:FitW ws) (hr:RowW w a ws) :
  Calls Tryz.prog 137 #[.slice a ws.length cap] w fun e w'=>ChoE w w' ws e∧Below w.heap.size w w':=by
 have hl:=hf.1
 unfold maxLen at hl
 obtain ⟨i0,hi,hy0,hy1,hy2⟩:=info_parts Tryz.infoV
 by_cases h1:ws.length < 1
 ·go_enter Tryz.func137,Tryz.ntmps137
  go_wp2_with fail
  exact bodyPost_ret (v:=.tuple #[.agg #[.slice none 0 0,.slice none 0 0],.bool false]) (by simp [results,Tryz.results137,go_sem]) rfl ⟨.inr ⟨rfl,fun h=>by have:=h.1;omega⟩,((Below.refl _ _).alloc (Nat.le_refl _) _).alloc (by simp) _⟩
 by_cases h6:6 < ws.length
 ·go_enter Tryz.func137,Tryz.ntmps137
  go_wp2_with fail
  exact bodyPost_ret (v:=.tuple #[.agg #[.slice none 0 0,.slice none 0 0],.bool false]) (by simp [results,Tryz.results137,go_sem]) rfl ⟨.inr ⟨rfl,fun h=>by have:=h.2.1;omega⟩,((Below.refl _ _).alloc (Nat.le_refl _) _).alloc (by simp) _⟩
 have B0:Below w.heap.size w ((w.alloc (.cells #[.slice none 0 0,.slice none 0 0] 213)).alloc (.cells #[.slice none 0 0,.slice none 0 0] 213)):=((Below.refl _ _).alloc (Nat.le_refl _) _).alloc (by simp) _
 have T0:Two ((w.alloc (.cells #[.slice none 0 0,.slice none 0 0] 213)).alloc (.cells #[.slice none 0 0,.slice none 0 0] 213)) w.heap.size (.slice none 0 0) (.slice none 0 0):=⟨by simp [go_sem],by simp [go_sem],by simp [go_sem],by simp [go_sem]⟩
 have T1:Two ((w.alloc (.cells #[.slice none 0 0,.slice none 0 0] 213)).alloc (.cells #[.slice none 0 0,.slice none 0 0] 213)) (w.heap.size + 1) (.slice none 0 0) (.slice none 0 0):=⟨by simp [go_sem],by simp [go_sem],by simp [go_sem],by simp [go_sem]⟩
 have hsz:w.heap.size + 2<=((w.alloc (.cells #[.slice none 0 0,.slice none 0 0] 213)).alloc (.cells #[.slice none 0 0,.slice none 0 0] 213)).heap.size:=by simp
 go_enter Tryz.func137,Tryz.ntmps137
 go_wp2_with fail
 go_loopw [20] (fun i wr=>∃ (k:Nat) (L:List (List ItemL×List Value)) (v:Value),k<=ws.length∧i=.int .i64 k∧L.length=k∧Hid (L.map (·.1)=ws.take k)∧GathW w wr (w.heap.size + 2) v L∧Two wr w.heap.size (.slice none 0 0) (.slice none 0 0)∧Two wr (w.heap.size + 1) v (.slice none 0 0)∧Hid (∀ j,(h:j < ws.length)->j < k->WinP ws[j])∧w.heap.size + 2<=wr.heap.size∧Below w.heap.size w wr) (fun i _=>ws.length - (intOf i).toNat)
 case atStart=>exact ⟨0,[],_,Nat.zero_le _,rfl,rfl,by simp [Hid],⟨World.ownsRow_nil _ _ _ _,by simp⟩,T0,T1,fun _ _ h=>absurd h (Nat.not_lt_zero _),hsz,B0⟩
 case round=>
  clear B0 T0 T1 hsz
  obtain ⟨k,L,v,hk,rfl,hLk,HLT,hL,T0,T1,HI,hsz,hbl⟩:=hrel
  by_cases hlt:k < ws.length
  ·obtain ⟨b1,o1,rfl,g1,s1,t1,f1,hc1,q1⟩:=hr k hlt
   have f1':=cell_on hbl g1 f1
   have k0:(0:Int)<=(k:Int):=by omega
   have k1:(k:Int) < (ws.length:Int):=by omega
   obtain ⟨fy0,fy1,fy2,fy3⟩:=id T1
   go_wp2_with fail
   refine (readWindow_from w s1 t1 ws[k] _ (hf.2 k hlt) q1 hbl).mono ?_
   rintro e w1 ⟨hE,b1'⟩
   have B1:Below w.heap.size w w1:=hbl.trans (b1'.mono hbl.size)
   replace T0:=T0.keep b1'
   replace T1:=T1.keep b1'
   replace hL:=hL.keep b1'
   have z1:=b1'.size
   rcases hE with ⟨vv,rfl,hp,hv⟩ | ⟨vv,rfl,hp,hv⟩
   ·have HP:Hid (WinP ws[k]):=hp
    clear hp
    obtain ⟨x0,x1,x2,x3,a0,a1,a2,a3,n0,n1,n2,n3,c0,c1,c2,c3,rfl,hwc⟩:=hv.cells
    have hbw:Below w1.heap.size w1 (w1.alloc (.cells #[.int .i64 x0,.slice a0 n0 c0,.int .i64 x1,.slice a1 n1 c1,.int .i64 x2,.slice a2 n2 c2,.int .i64 x3,.slice a3 n3 c3,.int .i64 0,.int .i64 ws[k].length] 190)):=(Below.refl _ _).alloc (Nat.le_refl _) _
    have T1w:=T1.keep hbw
    obtain ⟨u0,u1,u2,u3⟩:=T1w
    have hbx:Below w1.heap.size w1 ((w1.alloc (.cells #[.int .i64 x0,.slice a0 n0 c0,.int .i64 x1,.slice a1 n1 c1,.int .i64 x2,.slice a2 n2 c2,.int .i64 x3,.slice a3 n3 c3,.int .i64 0,.int .i64 ws[k].length] 190)).alloc (.cells #[.int .i64 x0,.slice a0 n0 c0,.int .i64 x1,.slice a1 n1 c1,.int .i64 x2,.slice a2 n2 c2,.int .i64 x3,.slice a3 n3 c3,.int .i64 0,.int .i64 ws[k].length] 190)):=hbw.alloc hbw.size _
    have hL2:=hL.keep hbx
    have T02:=T0.keep hbx
    have T12:=T1.keep hbx
    have hfar0:some w.heap.size≠v.ownBlock:=fun e=>by have:=own_from hL.1 _ e.symm;omega
    have hfar1:some (w.heap.size + 1)≠v.ownBlock:=fun e=>by have:=own_from hL.1 _ e.symm;omega
    have hzz:w.heap.size + 2<=((w1.alloc (.cells #[.int .i64 x0,.slice a0 n0 c0,.int .i64 x1,.slice a1 n1 c1,.int .i64 x2,.slice a2 n2 c2,.int .i64 x3,.slice a3 n3 c3,.int .i64 0,.int .i64 ws[k].length] 190)).alloc (.cells #[.int .i64 x0,.slice a0 n0 c0,.int .i64 x1,.slice a1 n1 c1,.int .i64 x2,.slice a2 n2 c2,.int .i64 x3,.slice a3 n3 c3,.int .i64 0,.int .i64 ws[k].length] 190)).heap.size:=by simp;omega
    clear hv
    go_wp2_with (first | (at_builtin;refine Hid.out ?_))
    unfold Hid
    refine wpList_append_lies _ rfl _ _ 210 rfl (w.heap.size + 2) 190 i0 (.agg zero10) 10 144 Tryz.underlying210 hi hy0 hy1 hy2 rfl (by decide) _ L.length (vcells L) rfl hL2.1 ⟨w1.heap.size + 1,0,none⟩ 1 1 #[.int .i64 x0,.slice a0 n0 c0,.int .i64 x1,.slice a1 n1 c1,.int .i64 x2,.slice a2 n2 c2,.int .i64 x3,.slice a3 n3 c3,.int .i64 0,.int .i64 ws[k].length].toList rfl rfl (by have h:=block_new (w1.alloc (.cells #[.int .i64 x0,.slice a0 n0 c0,.int .i64 x1,.slice a1 n1 c1,.int .i64 x2,.slice a2 n2 c2,.int .i64 x3,.slice a3 n3 c3,.int .i64 0,.int .i64 ws[k].length] 190)) #[.int .i64 x0,.slice a0 n0 c0,.int .i64 x1,.slice a1 n1 c1,.int .i64 x2,.slice a2 n2 c2,.int .i64 x3,.slice a3 n3 c3,.int .i64 0,.int .i64 ws[k].length] 190;rw [World.size_alloc] at h;exact h) (by simp [Value.oneCell']) (by decide) (by unfold maxLen;omega) (by omega) hzz _ rfl ?_
    intro g' cap' w5 hown' hgrow _ hloc
    have T15:=T12.grown hgrow hfar1
    have T05:=T02.grown hgrow hfar0
    have p0:=T15.1
    have p1:=T15.2.2.1
    go_wp2_with fail
    have BX:Below w.heap.size w ((w1.alloc (.cells #[.int .i64 x0,.slice a0 n0 c0,.int .i64 x1,.slice a1 n1 c1,.int .i64 x2,.slice a2 n2 c2,.int .i64 x3,.slice a3 n3 c3,.int .i64 0,.int .i64 ws[k].length] 190)).alloc (.cells #[.int .i64 x0,.slice a0 n0 c0,.int .i64 x1,.slice a1 n1 c1,.int .i64 x2,.slice a2 n2 c2,.int .i64 x3,.slice a3 n3 c3,.int .i64 0,.int .i64 ws[k].length] 190)):=B1.trans (hbx.mono B1.size)
    have B5:=BX.grown hgrow BX.size (fun q hq=>by have:=own_from hL.1 q hq;omega)
    rw [hLk] at hown'
    have HT:Hid (ws.take (k + 1)=ws.take k ++ [ws[k]]):=List.take_succ_eq_append_getElem hlt
    have HST:Hid (∀ j,(h:j < ws.length)->j < k + 1->WinP ws[j]):=win_step HI.out hlt HP.out
    have hG5:=hL2.snoc hwc (by rw [hLk];exact hown')
    have z5:=hgrow.size
    exact ⟨⟨k + 1,_,_,by omega,by go_num,by simp [hLk],by rw [HT.out,List.map_append,HLT.out];rfl,⟨own_far hG5.1 (by omega) _ _,hG5.2⟩,T05.far (by omega) _ _,T15.set0 _,HST,by simp only [World.size_setCell];omega,B5.setCell (by simp only;omega) _⟩,by simp [intOf];omega⟩
   ·have HN:Hid (¬ OkW ws):=fun h=>hp (h.2.2 k hlt)
    clear hp
    obtain ⟨x0,x1,x2,x3,a0,a1,a2,a3,n0,n1,n2,n3,c0,c1,c2,c3,rfl,_⟩:=hv.laid
    have hbw:Below w1.heap.size w1 (w1.alloc (.cells #[.int .i64 x0,.slice a0 n0 c0,.int .i64 x1,.slice a1 n1 c1,.int .i64 x2,.slice a2 n2 c2,.int .i64 x3,.slice a3 n3 c3,.int .i64 0,.int .i64 0] 190)):=(Below.refl _ _).alloc (Nat.le_refl _) _
    have T0w:=T0.keep hbw
    obtain ⟨u0,u1,u2,u3⟩:=T0w
    have BW:=B1.trans (hbw.mono B1.size)
    go_wp2_with fail
    generalize w1.alloc (.cells #[.int .i64 x0,.slice a0 n0 c0,.int .i64 x1,.slice a1 n1 c1,.int .i64 x2,.slice a2 n2 c2,.int .i64 x3,.slice a3 n3 c3,.int .i64 0,.int .i64 0] 190)=WX at *
    have e0:((WX.setCell ⟨w.heap.size,0,none⟩ (.slice none 0 0)).setCell ⟨w.heap.size,1,none⟩ (.slice none 0 0)).cell? ⟨w.heap.size,0,none⟩=some (.slice none 0 0):=by simp [go_sem,u0]
    have e1:((WX.setCell ⟨w.heap.size,0,none⟩ (.slice none 0 0)).setCell ⟨w.heap.size,1,none⟩ (.slice none 0 0)).cell? ⟨w.heap.size,1,none⟩=some (.slice none 0 0):=by simp [go_sem,u1]
    exact bodyPost_ret (v:=.tuple #[.agg #[.slice none 0 0,.slice none 0 0],.bool false]) (by simp [results,Tryz.results137,go_sem,e0,e1]) rfl ⟨.inr ⟨rfl,HN.out⟩,(BW.setCell (Nat.le_refl _) _).setCell (Nat.le_refl _) _⟩
  ·obtain ⟨va,vc,rfl,hvc,hrow⟩:=hL.row
   have HOK:Hid (OkW ws):=⟨by omega,by omega,fun j hj=>HI.out j hj (by omega)⟩
   have hLw:L.length=ws.length:=by omega
   replace HLT:Hid (L.map (·.1)=ws):=by unfold Hid;rw [HLT.out,List.take_of_length_le (by omega)]
   rw [HLT.out] at hrow
   rw [hLw] at hvc T1 hL
   obtain ⟨u0,u1,u2,u3⟩:=id T1
   clear HI
   go_wp2_with fail
   refine (sharedSpots_any w wr va vc ws hrow hbl HOK.out).mono ?_
   rintro e w1 ⟨⟨vs,M,rfl,hM,hsw⟩,b1⟩
   obtain ⟨sa,sc,rfl,hsc,_⟩:=hM.row
   have HSW:Hid (ShW ws (M.map (·.1))):=hsw
   clear hsw
   have B1:Below w.heap.size w w1:=hbl.trans (b1.mono hbl.size)
   have hL1:=hL.keep b1
   have T01:=T0.keep b1
   have T11:=T1.keep b1
   have z1:=b1.size
   clear u0 u1 u2 u3 hrow T0 T1
   obtain ⟨u0,u1,u2,u3⟩:=id T11
   obtain ⟨y0,y1,y2,y3⟩:=id T01
   go_wp2_with fail
   have hLf:=((hL1.far (q:=w.heap.size + 1) (by omega) 1 (.slice sa M.length sc)).far (q:=w.heap.size) (by omega) 0 (.slice va ws.length vc)).far (q:=w.heap.size) (by omega) 1 (.slice sa M.length sc)
   have hMf:=((hM.far (q:=w.heap.size + 1) (by omega) 1 (.slice sa M.length sc)).far (q:=w.heap.size) (by omega) 0 (.slice va ws.length vc)).far (q:=w.heap.size) (by omega) 1 (.slice sa M.length sc)
   have BF:=((B1.setCell (p:=⟨w.heap.size + 1,1,none⟩) (by simp only;omega) (.slice sa M.length sc)).setCell (p:=⟨w.heap.size,0,none⟩) (Nat.le_refl _) (.slice va ws.length vc)).setCell (p:=⟨w.heap.size,1,none⟩) (Nat.le_refl _) (.slice sa M.length sc)
   have e0:(((w1.setCell ⟨w.heap.size + 1,1,none⟩ (.slice sa M.length sc)).setCell ⟨w.heap.size,0,none⟩ (.slice va ws.length vc)).setCell ⟨w.heap.size,1,none⟩ (.slice sa M.length sc)).cell? ⟨w.heap.size,0,none⟩=some (.slice va ws.length vc):=by simp [go_sem,y0]
   have e1:(((w1.setCell ⟨w.heap.size + 1,1,none⟩ (.slice sa M.length sc)).setCell ⟨w.heap.size,0,none⟩ (.slice va ws.length vc)).setCell ⟨w.heap.size,1,none⟩ (.slice sa M.length sc)).cell? ⟨w.heap.size,1,none⟩=some (.slice sa M.length sc):=by simp [go_sem,y1]
   generalize ((w1.setCell ⟨w.heap.size + 1,1,none⟩ (.slice sa M.length sc)).setCell ⟨w.heap.size,0,none⟩ (.slice va ws.length vc)).setCell ⟨w.heap.size,1,none⟩ (.slice sa M.length sc)=WF at *
   obtain ⟨a8,c8,q8,_,r8⟩:=hLf.row
   obtain ⟨a9,c9,q9,_,r9⟩:=hMf.row
   rw [hLw] at q8
   cases q8
   cases q9
   rw [HLT.out] at r8
   exact bodyPost_ret (v:=.tuple #[.agg #[.slice va ws.length vc,.slice sa M.length sc],.bool true]) (by simp [results,Tryz.results137,go_sem,e0,e1]) rfl ⟨.inl ⟨va,vc,sa,sc,M.map (·.1),by simp,HOK.out,hvc,by rw [List.length_map];exact hsc,r8,r9,HSW.out⟩,BF⟩
theorem chB_new {W0 w:World} {a1 a2:Option Addr} {c1 c2:Nat} {ws:List (List ItemL)} {sh:List (List Spot)} (hv:RowV W0 w a1 ws) (hg:RowG w a2 sh) (h1:ws.length<=c1) (h2:sh.length<=c2):ChB W0 (w.alloc (.cells #[.slice a1 ws.length c1,.slice a2 sh.length c2] 213)) w.heap.size ws sh:=
 have hb:Below w.heap.size w (w.alloc (.cells #[.slice a1 ws.length c1,.slice a2 sh.length c2] 213)):=(Below.refl _ _).alloc (Nat.le_refl _) _
 ⟨box_lt _ _,a1,c1,a2,c2,box0 _ _ _ _,h1,box1 _ _ _ _,h2,hv.below hb,hg.below hb⟩
def lastsM (ws:List (List ItemL)):List Int:=ws.map fun l=>(l.length:Int) - 1
theorem lastsM_len (ws:List (List ItemL)):(lastsM ws).length=ws.length:=by simp [lastsM]
theorem GathN.snoc {w:World} {B:Nat} {v:Value} {l:List Int} {x:Int} (h:w.ownsRow B 3 1 v (l.length + 1) ((l.map fun y=>.int .i64 y) ++ [.int .i64 x])):GathN w B v (l ++ [x]):=by
 unfold GathN
 rw [List.length_append,List.map_append]
 exact h
set_option maxHeartbeats 1600000 in
theorem lasts_any (W0 w:World) (b:Nat) (ws:List (List ItemL)) (sh:List (List Spot)) (h:ChB W0 w b ws sh) (hok:OkW ws) :
  Calls Tryz.prog 174 #[.pointer (some ⟨b,0,none⟩)] w fun e w'=>(∃ g c ok,e=.returned (.tuple #[.slice (some ⟨g,0,none⟩) ws.length c,.bool ok])∧(ok=true↔InW ws (lastsM ws))∧w.heap.size<=g∧NumB w' g (lastsM ws))∧Below w.heap.size w w':=by
 have h6:=hok.2.1
 have HC:Hid (ChB W0 w b ws sh):=h
 obtain ⟨hb,a,c,a2,c2,e0,hc,e1,hc2,hv,hg⟩:=h
 obtain ⟨i0,hi,hy0,hy1,hy2⟩:=info_parts Tryz.infoZ
 have hmk:∀ u:World,(Instr.makeSlice 37 (.int .i64 0) (.int .i64 (ws.length:Int))).run Tryz.prog u=.ok (.slice (some ⟨u.heap.size,0,none⟩) 0 ws.length) (u.alloc (.cells (madeCells #[.int .i64 0] ws.length) 3)):=fun u=>by
  have h:=run_make (P:=Tryz.prog) u 37 3 i0 (.int .i64 0) Tryz.underlying37 hi hy0 .i64 .i64 0 (ws.length:Int) (by omega) (by omega) (by rw [hy2];omega) (by omega)
  simpa [hy1,Value.cells] using h
 have hg0:GathN (w.alloc (.cells (madeCells #[.int .i64 0] ws.length) 3)) w.heap.size (.slice (some ⟨w.heap.size,0,none⟩) 0 ws.length) []:=
  ⟨rfl,.inr ⟨w.heap.size,ws.length,madeCells #[.int .i64 0] ws.length,rfl,Nat.le_refl _,heap_alloc_new w _,Nat.zero_le _,by unfold maxLen;omega,by rw [size_madeCells];omega,rfl⟩⟩
 have hb0:Below w.heap.size w (w.alloc (.cells (madeCells #[.int .i64 0] ws.length) 3)):=(Below.refl _ _).alloc (Nat.le_refl _) _
 have e0':=cell_on hb0 hb e0
 go_enter Tryz.func174,Tryz.ntmps174
 go_wp2_with fail
 generalize (w.alloc (.cells (madeCells #[.int .i64 0] ws.length) 3))=WA at *
 clear hmk
 go_loopw [4,17] (fun pv i wr=>∃ k:Nat,k<=ws.length∧i=.int .i64 k∧(∃ g cap,pv=.slice (some ⟨g,0,none⟩) k cap∧GathN wr w.heap.size (.slice (some ⟨g,0,none⟩) k cap) ((lastsM ws).take k))∧Below w.heap.size w wr) (fun _ i _=>ws.length - (intOf i).toNat)
 case atStart=>exact ⟨0,Nat.zero_le _,rfl,⟨_,_,rfl,hg0⟩,hb0⟩
 case round=>
  obtain ⟨k,hk,rfl,⟨g,cap,rfl,hgn⟩,hbl⟩:=hrel
  have hz:=hbl.size
  have htl:((lastsM ws).take k).length=k:=by rw [List.length_take,lastsM_len];omega
  by_cases hlt:k < ws.length
  ·obtain ⟨gv,ov,rfl,hwo⟩:=(hv.below hbl) k hlt
   have f0:=cell_on hbl hb e0
   have k0:(0:Int)<=(k:Int):=by omega
   have k1:(k:Int) < (ws.length:Int):=by omega
   have h4:=hwo.2.1
   have HT:Hid ((lastsM ws).take (k + 1)=(lastsM ws).take k ++ [(ws[k].length:Int) - 1]):=by
    unfold Hid
    rw [List.take_succ_eq_append_getElem (by rw [lastsM_len];exact hlt)]
    simp [lastsM]
   go_wp2_with fail
   refine (size_off W0 _ gv (ov + k * 10) ws[k] hwo).mono ?_
   rintro e w2 ⟨rfl,rfl⟩
   go_wp2_with (at_builtin;refine wpList_append_lies _ rfl _ _ 37 rfl w.heap.size 3 i0 (.int .i64 0) 1 8 Tryz.underlying37 hi hy0 hy1 hy2 rfl (by decide) _ _ _ rfl (own_keep (show World.ownsRow _ _ _ _ _ _ _ from hgn) ((Below.refl _ _).alloc (Nat.le_refl _) _)) ⟨w2.heap.size,0,none⟩ 1 1 [.int .i64 ((ws[k].length:Int) - 1)] rfl rfl (one_new w2 _ _) (by simp [Value.oneCell']) (by decide) (by unfold maxLen;omega) (by omega) (by simp;omega) _ rfl ?_;intro g' cap' w5 hown' hgrow _ _)
   have hgs:=GathN.snoc hown'
   rw [<- HT.out,htl] at hgs
   have hB5:Below w.heap.size w w5:=(hbl.alloc hz _).grown hgrow (by simp;omega) (fun q hq=>by have:=own_from (show World.ownsRow _ _ _ _ _ _ _ from hgn) q hq;omega)
   exact ⟨⟨k + 1,by omega,by go_num,⟨g',cap',rfl,hgs⟩,hB5⟩,by simp [intOf];omega⟩
  ·obtain rfl:k=ws.length:=by omega
   have hfull:(lastsM ws).take ws.length=lastsM ws:=List.take_of_length_le (by rw [lastsM_len];omega)
   rw [hfull] at hgn
   obtain ⟨hgB,hnb⟩:=GathN.block hgn
   have hhas:=has_any W0 wr b ws sh (some ⟨g,0,none⟩) cap (lastsM ws) (HC.out.below hbl) h6 (by rw [lastsM_len];unfold maxLen;omega) hnb.row
   rw [lastsM_len] at hhas
   clear htl hfull hgn
   go_wp2_with fail
   refine hhas.mono ?_
   rintro e w2 ⟨⟨r,rfl,hr2⟩,b2⟩
   have HR:Hid (r=true↔InW ws (lastsM ws)):=hr2.trans ⟨fun h=>h.2,fun h=>⟨trivial,h⟩⟩
   clear hr2
   go_wp2_with fail
   exact bodyPost_ret (v:=.tuple #[.slice (some ⟨g,0,none⟩) ws.length cap,.bool r]) (by simp [results,Tryz.results174,go_sem]) rfl ⟨⟨g,cap,r,rfl,HR.out,hgB,hnb.below b2⟩,hbl.trans (b2.mono hbl.size)⟩
theorem ver_le {ws:List (List ItemL)} {ps:List Int} (hok:OkW ws) (hl:ps.length=ws.length) (hin:InW ws ps) {s:ByteArray} {p:Spot} (hs:SpotOf ws s p):verM ws ps p<=1099511627776:=by
 obtain ⟨hw,_,q,hq,hm,_,e⟩:=ver_facts hok hl hin hs
 rw [e]
 exact ((((hok.2.2 p.1 hw).2.1 q hq).1).2.1 p.2 hm).2.2
set_option maxHeartbeats 1600000 in
theorem least_any (W0 w:World) (b:Nat) (ws:List (List ItemL)) (sh:List (List Spot)) (a' s':Option Addr) (cap' cs:Nat) (ps:List Int) (src:List Spot) (h:ChB W0 w b ws sh) (hW:Below W0.heap.size W0 w) (hok:OkW ws) (hl:ps.length=ws.length) (hin:InW ws ps) (hr':RowZ w a' ps) (hsh:ShW ws sh) (hs:src∈sh) (hrow:RowP w s' src) :
  Calls Tryz.prog 175 #[.pointer (some ⟨b,0,none⟩),.slice a' ps.length cap',.slice s' src.length cs] w fun e w'=>(∃ x:Int,e=.returned (.int .i64 x)∧(∀ p∈src,x<=verM ws ps p)∧∃ p∈src,x=verM ws ps p)∧Below w.heap.size w w':=by
 have HIN:Hid (InW ws ps):=hin
 have HOK:Hid (OkW ws):=hok
 have HSH:Hid (ShW ws sh):=hsh
 have HC:Hid (ChB W0 w b ws sh):=h
 have HL:Hid (ps.length=ws.length):=hl
 have HZ:Hid (RowZ w a' ps):=hr'
 have hs1:=hsh.2.1 src hs
 have hsl:=hs1.2
 have hs0:=hs1.1
 clear hin hok hsh h hl hr' hs1
 go_enter Tryz.func175,Tryz.ntmps175
 go_wp2_with fail
 go_loopw [7,12] (fun lv i wr=>∃ (k:Nat) (x:Int),k<=src.length∧i=.int .i64 k∧lv=.int .i64 x∧Hid ((∀ j,(h:j < src.length)->j < k->x<=verM ws ps src[j])∧(x=1099511627776∨∃ j,∃ h:j < src.length,x=verM ws ps src[j]))∧Below w.heap.size w wr) (fun _ i _=>src.length - (intOf i).toNat)
 case atStart=>exact ⟨0,_,Nat.zero_le _,rfl,rfl,⟨fun _ _ h=>absurd h (Nat.not_lt_zero _),.inl rfl⟩,Below.refl _ _⟩
 case round=>
  obtain ⟨k,x,hk,rfl,rfl,HI,hbl⟩:=hrel
  by_cases hlt:k < src.length
  ·obtain ⟨b2,o2,rfl,hb2,f2,f3⟩:=hrow.below hbl k hlt
   have k0:(0:Int)<=(k:Int):=by omega
   have k1:(k:Int) < (src.length:Int):=by omega
   go_wp2_with fail
   have hb0:Below wr.heap.size wr (wr.alloc (.cells #[.int .i64 (src[k].1:Int),.int .i64 (src[k].2:Int)] 245)):=(Below.refl _ _).alloc (Nat.le_refl _) _
   have B3:Below w.heap.size w (wr.alloc (.cells #[.int .i64 (src[k].1:Int),.int .i64 (src[k].2:Int)] 245)):=hbl.trans (hb0.mono hbl.size)
   obtain ⟨sn,hall⟩:=HSH.out.1.1 src hs
   refine (version_any W0 _ b ws sh a' cap' ps src[k] sn (HC.out.below B3) (hW.trans (B3.mono hW.size)) HOK.out HL.out HIN.out (HZ.out.below B3) (hall _ (List.getElem_mem hlt))).mono ?_
   rintro e w2 ⟨rfl,b2'⟩
   have B4:Below w.heap.size w w2:=B3.trans (b2'.mono B3.size)
   go_wp2_with fail
   have HX:Hid ((∀ j,(h:j < src.length)->j < k + 1->min x (verM ws ps src[k])<=verM ws ps src[j])∧(min x (verM ws ps src[k])=1099511627776∨∃ j,∃ h:j < src.length,min x (verM ws ps src[k])=verM ws ps src[j])):=by
    obtain ⟨h1,h2⟩:=HI.out
    refine ⟨fun j hj hlt'=>?_, ?_⟩
    ·by_cases e:j=k
     ·subst e;omega
     ·have:=h1 j hj (by omega);omega
    ·by_cases e:x<=verM ws ps src[k]
     ·rw [Int.min_eq_left e];exact h2
     ·exact .inr ⟨k,hlt,by rw [Int.min_eq_right (by omega)]⟩
   exact ⟨⟨k + 1,_,by omega,by go_num,rfl,HX,B4⟩,by simp [intOf];omega⟩
  ·have HX:Hid ((∀ p∈src,x<=verM ws ps p)∧∃ p∈src,x=verM ws ps p):=by
    obtain ⟨h1,h2⟩:=HI.out
    obtain ⟨sn,hall⟩:=HSH.out.1.1 src hs
    refine ⟨fun p hp=>?_, ?_⟩
    ·obtain ⟨j,hj,rfl⟩:=List.mem_iff_getElem.1 hp
     exact h1 j hj (by omega)
    ·rcases h2 with h2 | ⟨j,hj,h2⟩
     ·have h3:=h1 0 (by omega) (by omega)
      have h4:=ver_le HOK.out HL.out HIN.out (hall _ (List.getElem_mem (show 0 < src.length by omega)))
      exact ⟨src[0],List.getElem_mem _,by omega⟩
     ·exact ⟨_,List.getElem_mem hj,h2⟩
   go_wp2_with fail
   go_ret
   exact ⟨⟨x,rfl,HX.out⟩,hbl⟩
end Go.Proofs.YtpfhegengmlkmacGreatDoor
