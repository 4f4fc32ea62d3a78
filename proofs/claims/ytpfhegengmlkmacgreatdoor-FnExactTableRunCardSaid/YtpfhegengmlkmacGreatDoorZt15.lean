/- Texts of this claim. -/
import Derived.Test.YtpfhegengmlkmacGreatDoorZt14
namespace Go.Proofs.YtpfhegengmlkmacGreatDoor
open Go.RowKit Go.BigFrame
set_option maxRecDepth 100000
def IsL (l:List ItemL) (x:Int) (m:List (ByteArray×Int)) (ok:Bool):Prop:=
 (∀ h:WinP l∧0 < l.length,ok=true∧(x,m)=l[l.length - 1]'(by omega))∧(¬ (WinP l∧0 < l.length)->ok=false∧x=0∧m=[])
theorem IsL.one {l:List ItemL} {x x':Int} {m m':List (ByteArray×Int)} {ok ok':Bool} (h:IsL l x m ok) (h':IsL l x' m' ok'):x=x'∧m=m'∧ok=ok':=by
 by_cases hp:WinP l∧0 < l.length
 ·have e:=(h.1 hp).2.trans (h'.1 hp).2.symm
  exact ⟨(Prod.mk.inj e).1,(Prod.mk.inj e).2,(h.1 hp).1.trans (h'.1 hp).1.symm⟩
 ·obtain ⟨h1,h2,h3⟩:=h.2 hp
  obtain ⟨h1',h2',h3'⟩:=h'.2 hp
  exact ⟨h2.trans h2'.symm,h3.trans h3'.symm,h1.trans h1'.symm⟩
def LastE (w':World) (B:Nat) (l:List ItemL) (e:Ending):Prop:=∃ x a c m ok,e=.returned (.tuple #[.agg #[.int .i64 x,.slice a m.length c],.bool ok])∧IsL l x m ok∧m.length<=c∧Safe w' B w'.heap.size a m
theorem win_small {l:List ItemL} (h:WinP l):Small1 l:=⟨by have:=h.1;omega,fun j hj=>by have:=(h.2.1 j hj).1.1;omega⟩
theorem Own.safe {w:World} {B g:Nat} {m:List (ByteArray×Int)} (h:Own w g m) (hB:B<=g):Safe w B w.heap.size (some ⟨g,0,none⟩) m:=.inr ⟨g,rfl,hB,h.lt,h⟩
theorem gathI_one {w:World} {B:Nat} {v:Value} {x:Int} {m:List (ByteArray×Int)} (h:GathI w B v [(x,m)]):∃ g gm cm cap,v=.slice (some ⟨g,0,none⟩) 1 cap∧w.cell? ⟨g,0,none⟩=some (.int .i64 x)∧w.cell? ⟨g,1,none⟩=some (.slice (some ⟨gm,0,none⟩) m.length cm)∧m.length<=cm∧Own w gm m∧B<=gm∧g < w.heap.size:=by
 obtain ⟨a,cap,rfl,_,hs⟩:=h.safe
 rcases hs with hs | ⟨g,rfl,_,hg,G,C,n,f,hr,hn,hf,_⟩
 ·cases hs
 ·obtain ⟨e0,e1,e2,e3,e4,_⟩:=hf 0 (by simp) (by simp)
  simp only [List.length_cons,List.length_nil] at hn
  refine ⟨g,G 0,C 0,cap,rfl, ?_, ?_,e2,e3,e4,hg⟩
  ·rw [hr.cell (by omega)];exact congrArg some e0
  ·rw [hr.cell (by omega)];exact congrArg some e1
theorem rowI_last {w:World} {b o:Nat} {l:List ItemL} (h:RowI w (some ⟨b,o,none⟩) l) (h0:0 < l.length):RowI w (some ⟨b,o + (l.length - 1) * 2,none⟩) [((l[l.length - 1]'(by omega)).1,(l[l.length - 1]'(by omega)).2)]:=fun k hk=>by
 obtain rfl:k=0:=by simpa using hk
 obtain ⟨b',o',ha,hlt,c0,v,c1,hv⟩:=h (l.length - 1) (by omega)
 obtain ⟨rfl,rfl⟩:b=b'∧o=o':=by simpa using ha
 exact ⟨b,_,rfl,hlt,by simpa using c0,v,by simpa using c1,hv⟩
theorem isL_no {l:List ItemL} (h:¬ (WinP l∧0 < l.length)):IsL l 0 [] false:=⟨fun q=>absurd q h,fun _=>⟨rfl,rfl,rfl⟩⟩
theorem isL_yes {l:List ItemL} (h:WinP l) (h0:0 < l.length):IsL l (l[l.length - 1]'(by omega)).1 (l[l.length - 1]'(by omega)).2 true:=⟨fun _=>⟨rfl,rfl⟩,fun q=>absurd ⟨h,h0⟩ q⟩
set_option maxHeartbeats 1600000 in
theorem specLast_any (a:Option Addr) (cap:Nat) (l:List ItemL) (w:World) (hf:FitI l) (hc:l.length<=cap) (hr:RowI w a l) :
  Calls Tryz.prog 154 #[.slice a l.length cap] w fun e w'=>LastE w' w.heap.size l e∧Below w.heap.size w w':=by
 have hl:=hf.1
 unfold maxLen at hl
 have hb0:Below w.heap.size w (w.alloc (.cells #[.int .i64 0,.slice none 0 0] 44)):=(Below.refl _ _).alloc (Nat.le_refl _) _
 have d0:=box0 w (.int .i64 0) (.slice none 0 0) 44
 have d1:=box1 w (.int .i64 0) (.slice none 0 0) 44
 have f0:(w.alloc (.cells #[.int .i64 0,.slice none 0 0] 44)).frozen? ⟨w.heap.size,0,none⟩=false:=by simp [go_sem]
 have f1:(w.alloc (.cells #[.int .i64 0,.slice none 0 0] 44)).frozen? ⟨w.heap.size,1,none⟩=false:=by simp [go_sem]
 have hlt:=box_lt w (.cells #[.int .i64 0,.slice none 0 0] 44)
 go_enter Tryz.func154,Tryz.ntmps154
 go_wp2_with fail
 generalize w.alloc (.cells #[.int .i64 0,.slice none 0 0] 44)=W1 at *
 refine (specWinOk_any a cap l _ hf (hr.below hb0)).mono ?_
 rintro e w2 ⟨⟨r,rfl,hr2⟩,b2⟩
 have HR:Hid (r=true↔WinP l):=hr2
 replace d0:=cell_on b2 hlt d0
 replace d1:=cell_on b2 hlt d1
 replace f0:=(b2.frozen (p:=⟨w.heap.size,0,none⟩) hlt).trans f0
 replace f1:=(b2.frozen (p:=⟨w.heap.size,1,none⟩) hlt).trans f1
 have B2:Below w.heap.size w w2:=hb0.trans (b2.mono hb0.size)
 have hlt2:w.heap.size < w2.heap.size:=Nat.lt_of_lt_of_le hlt b2.size
 clear hr2 b2 hb0 hlt
 have HZ:Hid (¬ (WinP l∧0 < l.length)->LastE ((w2.setCell ⟨w.heap.size,0,none⟩ (.int .i64 0)).setCell ⟨w.heap.size,1,none⟩ (.slice none 0 0)) w.heap.size l (.returned (.tuple #[.agg #[.int .i64 0,.slice none 0 0],.bool false]))∧Below w.heap.size w ((w2.setCell ⟨w.heap.size,0,none⟩ (.int .i64 0)).setCell ⟨w.heap.size,1,none⟩ (.slice none 0 0))):=
  fun hn=>⟨⟨0,none,0,[],false,rfl,isL_no hn,Nat.le_refl _,.inl rfl⟩,(B2.setCell (Nat.le_refl _) _).setCell (Nat.le_refl _) _⟩
 have z0:((w2.setCell ⟨w.heap.size,0,none⟩ (.int .i64 0)).setCell ⟨w.heap.size,1,none⟩ (.slice none 0 0)).cell? ⟨w.heap.size,0,none⟩=some (.int .i64 0):=by simp [go_sem,d0]
 have z1:((w2.setCell ⟨w.heap.size,0,none⟩ (.int .i64 0)).setCell ⟨w.heap.size,1,none⟩ (.slice none 0 0)).cell? ⟨w.heap.size,1,none⟩=some (.slice none 0 0):=by simp [go_sem,d1]
 have HZ0:Hid _:=z0
 have HZ1:Hid _:=z1
 clear z0 z1
 cases r
 ·have HN:Hid (¬ (WinP l∧0 < l.length)):=fun h=>by simpa using HR.out.2 h.1
  clear HR
  go_wp2_with fail
  exact bodyPost_ret (v:=.tuple #[.agg #[.int .i64 0,.slice none 0 0],.bool false]) (by simp [results,Tryz.results154,go_sem,HZ0.out,HZ1.out]) rfl (HZ.out HN.out)
 ·by_cases h0:0 < l.length
  ·have HP:Hid (WinP l):=HR.out.1 rfl
   have h0':((l.length:Int) == 0)=false:=by rw [beq_eq_false_iff_ne];omega
   obtain ⟨b,o,rfl,hblt,_⟩:=hr 0 h0
   have hrl:=rowI_last (hr.below B2) h0
   have hsm:Small1 [((l[l.length - 1]'(by omega)).1,(l[l.length - 1]'(by omega)).2)]:=⟨by simp,fun j hj=>by
    obtain rfl:j=0:=by simpa using hj
    exact (win_small HP.out).2 _ (by omega)⟩
   have HL:Hid (IsL l (l[l.length - 1]'(by omega)).1 (l[l.length - 1]'(by omega)).2 true):=isL_yes HP.out h0
   generalize hq:l[l.length - 1]=q at *
   obtain ⟨q1,q2⟩:=q
   simp only at hrl hsm HL
   clear hq HR HZ HZ0 HZ1
   go_wp2_with fail
   have e1:l.length - (l.length - 1)=1:=by omega
   rw [e1]
   refine (l2Items_any (some ⟨b,o + (l.length - 1) * 2,none⟩) (cap - (l.length - 1)) [(q1,q2)] _ hsm hrl).mono ?_
   rintro e w3 ⟨⟨v,rfl,hg⟩,b3⟩
   obtain ⟨g,gm,cm,cg,rfl,y0,y1,hcm,ho,hB,hgl⟩:=gathI_one hg
   replace d0:=cell_on b3 hlt2 d0
   replace d1:=cell_on b3 hlt2 d1
   replace f0:=(b3.frozen (p:=⟨w.heap.size,0,none⟩) hlt2).trans f0
   replace f1:=(b3.frozen (p:=⟨w.heap.size,1,none⟩) hlt2).trans f1
   have B3:Below w.heap.size w w3:=B2.trans (b3.mono B2.size)
   clear b3 B2 hg hrl hsm e1
   go_wp2_with fail
   have z0:((w3.setCell ⟨w.heap.size,0,none⟩ (.int .i64 q1)).setCell ⟨w.heap.size,1,none⟩ (.slice (some ⟨gm,0,none⟩) q2.length cm)).cell? ⟨w.heap.size,0,none⟩=some (.int .i64 q1):=by simp [go_sem,d0]
   have z1:((w3.setCell ⟨w.heap.size,0,none⟩ (.int .i64 q1)).setCell ⟨w.heap.size,1,none⟩ (.slice (some ⟨gm,0,none⟩) q2.length cm)).cell? ⟨w.heap.size,1,none⟩=some (.slice (some ⟨gm,0,none⟩) q2.length cm):=by simp [go_sem,d1]
   exact bodyPost_ret (v:=.tuple #[.agg #[.int .i64 q1,.slice (some ⟨gm,0,none⟩) q2.length cm],.bool true]) (by simp [results,Tryz.results154,go_sem,z0,z1]) rfl
    ⟨⟨q1,_,cm,q2,true,rfl,HL.out,hcm,((ho.setOther (by omega) _ _).setOther (by omega) _ _).safe (by omega)⟩,(B3.setCell (Nat.le_refl _) _).setCell (Nat.le_refl _) _⟩
  ·have h0':((l.length:Int) == 0)=true:=by rw [beq_iff_eq];omega
   have HN:Hid (¬ (WinP l∧0 < l.length)):=fun h=>h0 h.2
   clear HR
   go_wp2_with fail
   exact bodyPost_ret (v:=.tuple #[.agg #[.int .i64 0,.slice none 0 0],.bool false]) (by simp [results,Tryz.results154,go_sem,HZ0.out,HZ1.out]) rfl (HZ.out HN.out)
set_option maxHeartbeats 1600000 in
theorem implLast_any (a:Option Addr) (cap:Nat) (l:List ItemL) (w:World) (hf:FitI l) (hr:RowI w a l) :
  Calls Tryz.prog 194 #[.slice a l.length cap] w fun e w'=>LastE w' w.heap.size l e∧Below w.heap.size w w':=by
 have hl:=hf.1
 unfold maxLen at hl
 have hb0:Below w.heap.size w (w.alloc (.cells #[.int .i64 0,.slice none 0 0] 44)):=(Below.refl _ _).alloc (Nat.le_refl _) _
 have d0:=box0 w (.int .i64 0) (.slice none 0 0) 44
 have d1:=box1 w (.int .i64 0) (.slice none 0 0) 44
 have f0:(w.alloc (.cells #[.int .i64 0,.slice none 0 0] 44)).frozen? ⟨w.heap.size,0,none⟩=false:=by simp [go_sem]
 have f1:(w.alloc (.cells #[.int .i64 0,.slice none 0 0] 44)).frozen? ⟨w.heap.size,1,none⟩=false:=by simp [go_sem]
 have hlt:=box_lt w (.cells #[.int .i64 0,.slice none 0 0] 44)
 go_enter Tryz.func194,Tryz.ntmps194
 go_wp2_with fail
 generalize w.alloc (.cells #[.int .i64 0,.slice none 0 0] 44)=W1 at *
 refine (readWindow_any a cap l _ hf (hr.below hb0)).mono ?_
 rintro e w2 ⟨hE,b2⟩
 have B2:Below w.heap.size w w2:=hb0.trans (b2.mono hb0.size)
 have BW:Below W1.heap.size W1 w2:=b2
 replace d0:=cell_on b2 hlt d0
 replace d1:=cell_on b2 hlt d1
 replace f0:=(b2.frozen (p:=⟨w.heap.size,0,none⟩) hlt).trans f0
 replace f1:=(b2.frozen (p:=⟨w.heap.size,1,none⟩) hlt).trans f1
 have hlt2:w.heap.size < w2.heap.size:=Nat.lt_of_lt_of_le hlt b2.size
 clear hb0 b2
 rcases hE with ⟨v,rfl,hp,hv⟩ | ⟨v,rfl,hp,hv⟩
 ·have HP:Hid (WinP l):=hp
  clear hp
  obtain ⟨x0,x1,x2,x3,a0,a1,a2,a3,n0,n1,n2,n3,c0,c1,c2,c3,rfl,hw⟩:=hv.laid
  have hW:=hw w2 BW.size
  have hbx:Below w2.heap.size w2 (w2.alloc (.cells #[.int .i64 x0,.slice a0 n0 c0,.int .i64 x1,.slice a1 n1 c1,.int .i64 x2,.slice a2 n2 c2,.int .i64 x3,.slice a3 n3 c3,.int .i64 0,.int .i64 l.length] 190)):=(Below.refl _ _).alloc (Nat.le_refl _) _
  have B3:=B2.trans (hbx.mono B2.size)
  have BW3:=BW.trans (hbx.mono BW.size)
  replace d0:=cell_on hbx hlt2 d0
  replace d1:=cell_on hbx hlt2 d1
  replace f0:=(hbx.frozen (p:=⟨w.heap.size,0,none⟩) hlt2).trans f0
  replace f1:=(hbx.frozen (p:=⟨w.heap.size,1,none⟩) hlt2).trans f1
  have hlt3:w.heap.size < (w2.alloc (.cells #[.int .i64 x0,.slice a0 n0 c0,.int .i64 x1,.slice a1 n1 c1,.int .i64 x2,.slice a2 n2 c2,.int .i64 x3,.slice a3 n3 c3,.int .i64 0,.int .i64 l.length] 190)).heap.size:=Nat.lt_of_lt_of_le hlt2 hbx.size
  clear hw hv hbx
  go_wp2_with fail
  generalize w2.alloc (.cells #[.int .i64 x0,.slice a0 n0 c0,.int .i64 x1,.slice a1 n1 c1,.int .i64 x2,.slice a2 n2 c2,.int .i64 x3,.slice a3 n3 c3,.int .i64 0,.int .i64 l.length] 190)=W3 at *
  clear B2 BW
  refine (size_any W1 W3 _ 0 l hW).mono ?_
  rintro e w4 ⟨rfl,rfl⟩
  by_cases h0:0 < l.length
  ·have h0':((l.length:Int) == 0)=false:=by rw [beq_eq_false_iff_ne];omega
   have HL:Hid (IsL l (l[l.length - 1]'(by omega)).1 (l[l.length - 1]'(by omega)).2 true):=isL_yes HP.out h0
   have hst:=(HP.out.2.1 (l.length - 1) (by omega)).1
   go_wp2_with fail
   refine (last_any W1 w4 _ 0 l hW h0).mono ?_
   rintro e w5 ⟨⟨v,rfl,sa,sc,rfl,hcap,hrow⟩,b5⟩
   generalize hq:l[l.length - 1]=q at *
   obtain ⟨q1,q2⟩:=q
   simp only at hst HL hcap hrow
   replace d0:=cell_on b5 hlt3 d0
   replace d1:=cell_on b5 hlt3 d1
   replace f0:=(b5.frozen (p:=⟨w.heap.size,0,none⟩) hlt3).trans f0
   replace f1:=(b5.frozen (p:=⟨w.heap.size,1,none⟩) hlt3).trans f1
   have hlt5:w.heap.size < w5.heap.size:=Nat.lt_of_lt_of_le hlt3 b5.size
   have B5:Below w.heap.size w w5:=B3.trans (b5.mono B3.size)
   have BW5:Below W1.heap.size W1 w5:=BW3.trans (b5.mono BW3.size)
   have hrow5:=hrow.below BW5
   have hlk:q2.length<=1048576:=by have:=hst.1;omega
   have HS:Hid (∀ j,(h:j < q2.length)->q2[j].1.size<=281474976710656):=fun j hj=>by have:=(hst.2.1 j hj).1.2.1;omega
   clear b5 B3 BW3 BW5 hrow hst hq hW hlt3
   go_wp2_with fail
   refine (freshItem_any q1 sa sc q2 _ hrow5 hlk HS.out).mono ?_
   rintro e w6 ⟨⟨gm,cm,rfl,hgm,hcm,ho⟩,b6⟩
   replace d0:=cell_on b6 hlt5 d0
   replace d1:=cell_on b6 hlt5 d1
   replace f0:=(b6.frozen (p:=⟨w.heap.size,0,none⟩) hlt5).trans f0
   replace f1:=(b6.frozen (p:=⟨w.heap.size,1,none⟩) hlt5).trans f1
   have B6:Below w.heap.size w w6:=B5.trans (b6.mono B5.size)
   clear b6 B5 hrow5
   go_wp2_with fail
   have z0:((w6.setCell ⟨w.heap.size,0,none⟩ (.int .i64 q1)).setCell ⟨w.heap.size,1,none⟩ (.slice (some ⟨gm,0,none⟩) q2.length cm)).cell? ⟨w.heap.size,0,none⟩=some (.int .i64 q1):=by simp [go_sem,d0]
   have z1:((w6.setCell ⟨w.heap.size,0,none⟩ (.int .i64 q1)).setCell ⟨w.heap.size,1,none⟩ (.slice (some ⟨gm,0,none⟩) q2.length cm)).cell? ⟨w.heap.size,1,none⟩=some (.slice (some ⟨gm,0,none⟩) q2.length cm):=by simp [go_sem,d1]
   exact bodyPost_ret (v:=.tuple #[.agg #[.int .i64 q1,.slice (some ⟨gm,0,none⟩) q2.length cm],.bool true]) (by simp [results,Tryz.results194,go_sem,z0,z1]) rfl
    ⟨⟨q1,_,cm,q2,true,rfl,HL.out,hcm,((ho.setOther (by omega) _ _).setOther (by omega) _ _).safe (by omega)⟩,(B6.setCell (Nat.le_refl _) _).setCell (Nat.le_refl _) _⟩
  ·have h0':((l.length:Int) == 0)=true:=by rw [beq_iff_eq];omega
   have HN:Hid (¬ (WinP l∧0 < l.length)):=fun h=>h0 h.2
   go_wp2_with fail
   have z0:((w4.setCell ⟨w.heap.size,0,none⟩ (.int .i64 0)).setCell ⟨w.heap.size,1,none⟩ (.slice none 0 0)).cell? ⟨w.heap.size,0,none⟩=some (.int .i64 0):=by simp [go_sem,d0]
   have z1:((w4.setCell ⟨w.heap.size,0,none⟩ (.int .i64 0)).setCell ⟨w.heap.size,1,none⟩ (.slice none 0 0)).cell? ⟨w.heap.size,1,none⟩=some (.slice none 0 0):=by simp [go_sem,d1]
   exact bodyPost_ret (v:=.tuple #[.agg #[.int .i64 0,.slice none 0 0],.bool false]) (by simp [results,Tryz.results194,go_sem,z0,z1]) rfl ⟨⟨0,none,0,[],false,rfl,isL_no HN.out,Nat.le_refl _,.inl rfl⟩,(B3.setCell (Nat.le_refl _) _).setCell (Nat.le_refl _) _⟩
 ·have HN:Hid (¬ (WinP l∧0 < l.length)):=fun h=>hp h.1
  obtain ⟨x0,x1,x2,x3,a0,a1,a2,a3,n0,n1,n2,n3,c0,c1,c2,c3,rfl,hw⟩:=hv.laid
  have z0:((w2.setCell ⟨w.heap.size,0,none⟩ (.int .i64 0)).setCell ⟨w.heap.size,1,none⟩ (.slice none 0 0)).cell? ⟨w.heap.size,0,none⟩=some (.int .i64 0):=by simp [go_sem,d0]
  have z1:((w2.setCell ⟨w.heap.size,0,none⟩ (.int .i64 0)).setCell ⟨w.heap.size,1,none⟩ (.slice none 0 0)).cell? ⟨w.heap.size,1,none⟩=some (.slice none 0 0):=by simp [go_sem,d1]
  have HZ:Hid (((w2.setCell ⟨w.heap.size,0,none⟩ (.int .i64 0)).setCell ⟨w.heap.size,1,none⟩ (.slice none 0 0)).cell? ⟨w.heap.size,0,none⟩=some (.int .i64 0)∧((w2.setCell ⟨w.heap.size,0,none⟩ (.int .i64 0)).setCell ⟨w.heap.size,1,none⟩ (.slice none 0 0)).cell? ⟨w.heap.size,1,none⟩=some (.slice none 0 0)):=⟨z0,z1⟩
  clear hp hv hw z0 z1
  go_wp2_with fail
  obtain ⟨z0,z1⟩:=HZ.out
  have B4:Below w.heap.size w ((w2.setCell ⟨w.heap.size,0,none⟩ (.int .i64 0)).setCell ⟨w.heap.size,1,none⟩ (.slice none 0 0)):=(B2.setCell (Nat.le_refl _) _).setCell (Nat.le_refl _) _
  generalize (w2.setCell ⟨w.heap.size,0,none⟩ (.int .i64 0)).setCell ⟨w.heap.size,1,none⟩ (.slice none 0 0)=W4 at *
  have y0:=cell_on ((Below.refl W4.heap.size W4).alloc (Nat.le_refl _) (.cells #[.int .i64 x0,.slice a0 n0 c0,.int .i64 x1,.slice a1 n1 c1,.int .i64 x2,.slice a2 n2 c2,.int .i64 x3,.slice a3 n3 c3,.int .i64 0,.int .i64 0] 190)) (block_lt_of_cell z0) z0
  have y1:=cell_on ((Below.refl W4.heap.size W4).alloc (Nat.le_refl _) (.cells #[.int .i64 x0,.slice a0 n0 c0,.int .i64 x1,.slice a1 n1 c1,.int .i64 x2,.slice a2 n2 c2,.int .i64 x3,.slice a3 n3 c3,.int .i64 0,.int .i64 0] 190)) (block_lt_of_cell z0) z1
  exact bodyPost_ret (v:=.tuple #[.agg #[.int .i64 0,.slice none 0 0],.bool false]) (by simp [results,Tryz.results194,go_sem,y0,y1]) rfl ⟨⟨0,none,0,[],false,rfl,isL_no HN.out,Nat.le_refl _,.inl rfl⟩,B4.alloc B4.size _⟩
end Go.Proofs.YtpfhegengmlkmacGreatDoor
