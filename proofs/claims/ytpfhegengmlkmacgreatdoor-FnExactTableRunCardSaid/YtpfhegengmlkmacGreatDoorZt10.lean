/- Texts of this claim. -/
import Derived.Maps.AppendAt
import Derived.Laws.OwnMore
import Derived.Maps.OwnOps
import Derived.Maps.OwnSet
import Derived.Test.YtpfhegengmlkmacGreatDoorZt8
import Derived.Test.YtpfhegengmlkmacGreatDoorZt9
namespace Go.Proofs.YtpfhegengmlkmacGreatDoor
open Go.RowKit Go.BigFrame
set_option maxRecDepth 100000
theorem stamp_fit {l:List (ByteArray×Int)} (h:StampP l):FitM l:=⟨by have:=h.1;unfold maxLen;omega,fun j hj=>by have:=(h.2.1 j hj).1.2.1;unfold maxLen;omega⟩
theorem field_stamp (y:Int) (a:Option Addr) (n c:Nat) (u:World):(Instr.field 44 (.agg #[.int .i64 y,.slice a n c]) 1).run Tryz.prog u=.ok (.slice a n c) u:=by kernel_rfl
set_option maxHeartbeats 800000 in
theorem takes_any (W0 w:World) (b s:Nat) (l:List ItemL) (x:Int) (v:Value) (m:List (ByteArray×Int)) (h:WinB W0 w b s l) (hW:Below W0.heap.size W0 w) (hl:∀ k,(h:k < l.length)->StampP l[k].2) (hv:IsSl W0 v m) (hm:StampP m) :
  Calls Tryz.prog 129 #[.pointer (some ⟨b,0,none⟩),.agg #[.int .i64 x,v]] w fun e w'=>IsB (∀ h:0 < l.length,AboveP (l[l.length - 1]'(by omega)).2 m) e∧Below w.heap.size w w':=by
 have h4:=h.2.2.1
 have hz:=hW.size
 obtain ⟨sa,sc,rfl,hcap,hrow⟩:=hv
 go_enter Tryz.func129,Tryz.ntmps129
 go_wp2_with fail
 have hb0:Below w.heap.size w (w.alloc (.cells #[.int .i64 x,.slice sa m.length sc] 44)):=(Below.refl _ _).alloc (Nat.le_refl _) _
 have d0:=box0 w (.int .i64 x) (.slice sa m.length sc) 44
 have d1:=box1 w (.int .i64 x) (.slice sa m.length sc) 44
 have hlt:=box_lt w (.cells #[.int .i64 x,.slice sa m.length sc] 44)
 have hW1:=h.below hb0
 generalize w.alloc (.cells #[.int .i64 x,.slice sa m.length sc] 44)=W1 at *
 refine (size_any W0 W1 b s l hW1).mono ?_
 rintro e w1 ⟨rfl,rfl⟩
 by_cases h0:0 < l.length
 ·have h0':((l.length:Int) == 0)=false:=by rw [beq_eq_false_iff_ne];omega
  go_wp2_with fail
  refine (last_any W0 _ b s l hW1 h0).mono ?_
  rintro e w2 ⟨⟨v2,rfl,sb,sd,rfl,hcap2,hrow2⟩,b2⟩
  have B2:Below w.heap.size w w2:=hb0.trans (b2.mono hb0.size)
  have BW:Below W0.heap.size W0 w2:=hW.trans (B2.mono hz)
  replace d0:=cell_on b2 hlt d0
  replace d1:=cell_on b2 hlt d1
  have hs1:=hl (l.length - 1) (by omega)
  have hlt2:w.heap.size < w2.heap.size:=Nat.lt_of_lt_of_le hlt b2.size
  generalize hq:l[l.length - 1]=q at *
  obtain ⟨q1,q2⟩:=q
  simp only at hs1 hcap2 hrow2
  have HG:Hid (∀ P:List (ByteArray×Int)->Prop,P q2->P (l[l.length - 1]'(by omega)).2):=fun P hP=>by rw [hq];exact hP
  have hfd:=field_stamp q1 sb q2.length sd
  clear b2 hW1 hq
  go_wp2_with fail
  refine (same_any sb sa sd sc q2 m _ hcap2 hcap (hrow2.below BW) (hrow.below BW) hs1 hm).mono ?_
  rintro e w3 ⟨⟨r,rfl,hr⟩,b3⟩
  have B3:Below w.heap.size w w3:=B2.trans (b3.mono B2.size)
  have BW3:Below W0.heap.size W0 w3:=hW.trans (B3.mono hz)
  replace d0:=cell_on b3 hlt2 d0
  replace d1:=cell_on b3 hlt2 d1
  have HR:Hid (r=true↔namesM q2=namesM m):=hr
  clear hr b3
  cases r
  ·have HN:Hid (¬ ∀ h:0 < l.length,AboveP (l[l.length - 1]'(by omega)).2 m):=fun h=>by
    have h1:=HG.out (fun z=>¬ AboveP z m) (fun z=>by simpa using HR.out.2 z.1)
    exact h1 (h h0)
   clear HR HG
   go_wp2_with fail
   go_ret
   exact ⟨isB_false HN.out,B3⟩
  ·go_wp2_with fail
   refine (implOrder_any sb sa sd sc q2 m _ (stamp_fit hs1).1 (stamp_fit hm).1 hcap2 hcap (hrow2.below BW3) (hrow.below BW3) (stamp_fit hs1).2 (stamp_fit hm).2).mono ?_
   rintro e w4 ⟨⟨v,rfl,hv⟩,b4⟩
   have B4:Below w.heap.size w w4:=B3.trans (b4.mono B3.size)
   have HV:Hid (v=1↔(StampP q2∧StampP m∧BelowP q2 m∧¬ BelowP m q2)):=ord_less hv
   clear hv
   go_wp2_with fail
   go_ret
   refine ⟨⟨v == 1,rfl, ?_⟩,B4⟩
   rw [beq_iff_eq,HV.out]
   constructor
   ·intro h _
    exact HG.out (fun z=>AboveP z m) ⟨HR.out.1 (by trivial),h⟩
   ·intro h
    have h1:=HG.out (fun z=>AboveP z m->(StampP q2∧StampP m∧BelowP q2 m∧¬ BelowP m q2)) (fun z=>z.2)
    exact h1 (h h0)
 ·have h0':((l.length:Int) == 0)=true:=by rw [beq_iff_eq];omega
  go_wp2_with fail
  go_ret
  exact ⟨isB_true (fun q=>absurd q h0),hb0⟩
def WinV (W0:World) (v:Value) (l:List ItemL):Prop:=∃ (x0 x1 x2 x3:Int) (a0 a1 a2 a3:Option Addr) (n0 n1 n2 n3 c0 c1 c2 c3:Nat),
 v=.agg #[.int .i64 x0,.slice a0 n0 c0,.int .i64 x1,.slice a1 n1 c1,.int .i64 x2,.slice a2 n2 c2,.int .i64 x3,.slice a3 n3 c3,.int .i64 0,.int .i64 l.length]∧l.length<=4 ∧
  ∀ k,(h:k < l.length)->[x0,x1,x2,x3][k]?=some l[k].1∧∃ a n c,[(a0,n0,c0),(a1,n1,c1),(a2,n2,c2),(a3,n3,c3)][k]?=some (a,n,c)∧IsSl W0 (.slice a n c) l[k].2
theorem winV_of {W0:World} {f:Nat->Value} {l:List ItemL} (h4:l.length<=4) {x0 x1 x2 x3:Int} {a0 a1 a2 a3:Option Addr} {n0 n1 n2 n3 c0 c1 c2 c3:Nat}
  (p0:f (0 * 2)=.int .i64 x0) (p1:f (0 * 2 + 1)=.slice a0 n0 c0) (p2:f (1 * 2)=.int .i64 x1) (p3:f (1 * 2 + 1)=.slice a1 n1 c1) (p4:f (2 * 2)=.int .i64 x2) (p5:f (2 * 2 + 1)=.slice a2 n2 c2) (p6:f (3 * 2)=.int .i64 x3) (p7:f (3 * 2 + 1)=.slice a3 n3 c3)
  (hf:∀ k,(h:k < l.length)->f ((0 + k) % 4 * 2)=.int .i64 l[k].1∧∃ v,f ((0 + k) % 4 * 2 + 1)=v∧IsSl W0 v l[k].2) :
  WinV W0 (.agg #[.int .i64 x0,.slice a0 n0 c0,.int .i64 x1,.slice a1 n1 c1,.int .i64 x2,.slice a2 n2 c2,.int .i64 x3,.slice a3 n3 c3,.int .i64 0,.int .i64 l.length]) l:=by
 refine ⟨x0,x1,x2,x3,a0,a1,a2,a3,n0,n1,n2,n3,c0,c1,c2,c3,rfl,h4,fun k hk=>?_⟩
 rcases (by omega:k=0∨k=1∨k=2∨k=3) with rfl | rfl | rfl | rfl
 ·obtain ⟨q1,v,q2,q3⟩:=hf 0 hk
  have e1:x0=l[0].1:=by have h:=p0.symm.trans q1;simpa using h
  have e2:v=.slice a0 n0 c0:=q2.symm.trans p1
  exact ⟨by rw [<- e1];rfl,a0,n0,c0,rfl,by rw [<- e2];exact q3⟩
 ·obtain ⟨q1,v,q2,q3⟩:=hf 1 hk
  have e1:x1=l[1].1:=by have h:=p2.symm.trans q1;simpa using h
  have e2:v=.slice a1 n1 c1:=q2.symm.trans p3
  exact ⟨by rw [<- e1];rfl,a1,n1,c1,rfl,by rw [<- e2];exact q3⟩
 ·obtain ⟨q1,v,q2,q3⟩:=hf 2 hk
  have e1:x2=l[2].1:=by have h:=p4.symm.trans q1;simpa using h
  have e2:v=.slice a2 n2 c2:=q2.symm.trans p5
  exact ⟨by rw [<- e1];rfl,a2,n2,c2,rfl,by rw [<- e2];exact q3⟩
 ·obtain ⟨q1,v,q2,q3⟩:=hf 3 hk
  have e1:x3=l[3].1:=by have h:=p6.symm.trans q1;simpa using h
  have e2:v=.slice a3 n3 c3:=q2.symm.trans p7
  exact ⟨by rw [<- e1];rfl,a3,n3,c3,rfl,by rw [<- e2];exact q3⟩
theorem WinV.ring {W0:World} {v:Value} {l:List ItemL} (h:WinV W0 v l):∃ cs:Array Value,v=.agg cs∧cs.size=10∧∀ (w:World) (b:Nat),W0.heap.size<=b->w.rowIs b 190 10 (fun i=>(cs[i]?).getD undef)->WinB W0 w b 0 l:=by
 obtain ⟨x0,x1,x2,x3,a0,a1,a2,a3,n0,n1,n2,n3,c0,c1,c2,c3,rfl,h4,hk⟩:=h
 refine ⟨_,rfl,rfl,fun w b hb hr=>⟨hb,by omega,h4,_,⟨hr,fun i hi=>?_⟩,rfl,rfl,fun k h=>?_⟩⟩
 ·rcases (by omega:i=0∨i=1∨i=2∨i=3) with rfl | rfl | rfl | rfl
  ·exact ⟨_,_,_,_,rfl,rfl⟩
  ·exact ⟨_,_,_,_,rfl,rfl⟩
  ·exact ⟨_,_,_,_,rfl,rfl⟩
  ·exact ⟨_,_,_,_,rfl,rfl⟩
 ·rcases (by omega:k=0∨k=1∨k=2∨k=3) with rfl | rfl | rfl | rfl
  ·obtain ⟨q1,a,n,c,q2,q3⟩:=hk 0 h
   obtain ⟨rfl,rfl,rfl⟩:a0=a∧n0=n∧c0=c:=by simpa using q2
   have e1:x0=l[0].1:=by simpa using q1
   exact ⟨by rw [<- e1];rfl,_,rfl,q3⟩
  ·obtain ⟨q1,a,n,c,q2,q3⟩:=hk 1 h
   obtain ⟨rfl,rfl,rfl⟩:a1=a∧n1=n∧c1=c:=by simpa using q2
   have e1:x1=l[1].1:=by simpa using q1
   exact ⟨by rw [<- e1];rfl,_,rfl,q3⟩
  ·obtain ⟨q1,a,n,c,q2,q3⟩:=hk 2 h
   obtain ⟨rfl,rfl,rfl⟩:a2=a∧n2=n∧c2=c:=by simpa using q2
   have e1:x2=l[2].1:=by simpa using q1
   exact ⟨by rw [<- e1];rfl,_,rfl,q3⟩
  ·obtain ⟨q1,a,n,c,q2,q3⟩:=hk 3 h
   obtain ⟨rfl,rfl,rfl⟩:a3=a∧n3=n∧c3=c:=by simpa using q2
   have e1:x3=l[3].1:=by simpa using q1
   exact ⟨by rw [<- e1];rfl,_,rfl,q3⟩
theorem WinV.laid {W0:World} {v:Value} {l:List ItemL} (h:WinV W0 v l):∃ (x0 x1 x2 x3:Int) (a0 a1 a2 a3:Option Addr) (n0 n1 n2 n3 c0 c1 c2 c3:Nat),v=.agg #[.int .i64 x0,.slice a0 n0 c0,.int .i64 x1,.slice a1 n1 c1,.int .i64 x2,.slice a2 n2 c2,.int .i64 x3,.slice a3 n3 c3,.int .i64 0,.int .i64 l.length] ∧
  ∀ w:World,W0.heap.size<=w.heap.size->WinB W0 (w.alloc (.cells #[.int .i64 x0,.slice a0 n0 c0,.int .i64 x1,.slice a1 n1 c1,.int .i64 x2,.slice a2 n2 c2,.int .i64 x3,.slice a3 n3 c3,.int .i64 0,.int .i64 l.length] 190)) w.heap.size 0 l:=by
 obtain ⟨cs,hv,hs,hw⟩:=h.ring
 obtain ⟨x0,x1,x2,x3,a0,a1,a2,a3,n0,n1,n2,n3,c0,c1,c2,c3,rfl,h4,hk⟩:=h
 obtain rfl:#[.int .i64 x0,.slice a0 n0 c0,.int .i64 x1,.slice a1 n1 c1,.int .i64 x2,.slice a2 n2 c2,.int .i64 x3,.slice a3 n3 c3,.int .i64 0,.int .i64 l.length]=cs:=by simpa using hv
 exact ⟨x0,x1,x2,x3,a0,a1,a2,a3,n0,n1,n2,n3,c0,c1,c2,c3,rfl,fun w hW=>hw _ _ hW (World.rowIs_alloc w _ 190 _ (fun i hi=>by simp only [Array.getElem?_eq_getElem hi,Option.getD_some]))⟩
def ReadE (W0:World) (l:List ItemL) (e:Ending):Prop:=(∃ v,e=.returned (.tuple #[v,.bool true])∧WinP l∧WinV W0 v l)∨(∃ v,e=.returned (.tuple #[v,.bool false])∧¬ WinP l∧WinV W0 v [])
abbrev zero10:Array Value:=#[.int .i64 0,.slice none 0 0,.int .i64 0,.slice none 0 0,.int .i64 0,.slice none 0 0,.int .i64 0,.slice none 0 0,.int .i64 0,.int .i64 0]
theorem winV_zero (W0:World):WinV W0 (.agg zero10) []:=⟨0,0,0,0,none,none,none,none,0,0,0,0,0,0,0,0,rfl,Nat.zero_le _,fun k h=>absurd h (Nat.not_lt_zero k)⟩
theorem winB_new (W0 w:World) (h:W0.heap.size<=w.heap.size):WinB W0 (w.alloc (.cells zero10 190)) w.heap.size 0 []:=by
 refine ⟨h,by omega,Nat.zero_le _,fun i=>(zero10[i]?).getD undef,⟨?_, ?_⟩,rfl,rfl,fun k h=>absurd h (Nat.not_lt_zero k)⟩
 ·exact World.rowIs_alloc w zero10 190 _ (fun i hi=>by simp [Array.getElem?_eq_getElem hi])
 ·intro i hi
  match i,hi with
  | 0,_=>exact ⟨0,none,0,0,rfl,rfl⟩
  | 1,_=>exact ⟨0,none,0,0,rfl,rfl⟩
  | 2,_=>exact ⟨0,none,0,0,rfl,rfl⟩
  | 3,_=>exact ⟨0,none,0,0,rfl,rfl⟩
def ZeroB (w:World) (H:Nat):Prop:=w.rowIs H 190 10 (fun i=>(zero10[i]?).getD undef)
theorem zeroB_new (w:World):ZeroB (w.alloc (.cells zero10 190)) w.heap.size:=World.rowIs_alloc w zero10 190 _ (fun i hi=>by simp [Array.getElem?_eq_getElem hi])
theorem ZeroB.cells {w:World} {H:Nat} (h:ZeroB w H):w.cell? ⟨H,0,none⟩=some (.int .i64 0)∧w.cell? ⟨H,1,none⟩=some (.slice none 0 0)∧w.cell? ⟨H,2,none⟩=some (.int .i64 0)∧w.cell? ⟨H,3,none⟩=some (.slice none 0 0)∧w.cell? ⟨H,4,none⟩=some (.int .i64 0)∧w.cell? ⟨H,5,none⟩=some (.slice none 0 0)∧w.cell? ⟨H,6,none⟩=some (.int .i64 0)∧w.cell? ⟨H,7,none⟩=some (.slice none 0 0)∧w.cell? ⟨H,8,none⟩=some (.int .i64 0)∧w.cell? ⟨H,9,none⟩=some (.int .i64 0):=
 ⟨h.cell (by decide),h.cell (by decide),h.cell (by decide),h.cell (by decide),h.cell (by decide),h.cell (by decide),h.cell (by decide),h.cell (by decide),h.cell (by decide),h.cell (by decide)⟩
theorem ZeroB.free {w:World} {H:Nat} (h:ZeroB w H):w.frozen? ⟨H,0,none⟩=false∧w.frozen? ⟨H,1,none⟩=false∧w.frozen? ⟨H,2,none⟩=false∧w.frozen? ⟨H,3,none⟩=false∧w.frozen? ⟨H,4,none⟩=false∧w.frozen? ⟨H,5,none⟩=false∧w.frozen? ⟨H,6,none⟩=false∧w.frozen? ⟨H,7,none⟩=false∧w.frozen? ⟨H,8,none⟩=false∧w.frozen? ⟨H,9,none⟩=false:=
 ⟨h.frozen _,h.frozen _,h.frozen _,h.frozen _,h.frozen _,h.frozen _,h.frozen _,h.frozen _,h.frozen _,h.frozen _⟩
theorem ZeroB.below {w w':World} {H:Nat} (h:ZeroB w H) (hb:Below w.heap.size w w'):ZeroB w' H:=World.rowIs.of_block h (hb.block H (World.rowIs.lt h))
theorem ZeroB.but {w w':World} {H b:Nat} (h:ZeroB w H) (hb:But b w w') (hne:H≠b):ZeroB w' H:=World.rowIs.of_block h (hb.block H (World.rowIs.lt h) hne)
theorem stamps_take {l:List ItemL} {k:Nat} (h:WinTo l k):∀ j,(hj:j < (l.take k).length)->StampP (l.take k)[j].2:=fun j hj=>by
 rw [List.length_take] at hj
 rw [List.getElem_take]
 exact (h.1 j (by omega) (by omega)).1
theorem take_above {l:List ItemL} {k:Nat} (h:WinP l) (hk:k < l.length):∀ h0:0 < (l.take k).length,AboveP ((l.take k)[(l.take k).length - 1]'(by omega)).2 l[k].2:=fun h0=>by
 have e:(l.take k).length=k:=by rw [List.length_take];omega
 have e2:(l.take k)[(l.take k).length - 1]'(by omega)=l[k - 1]'(by omega):=by rw [List.getElem_take];congr 1;omega
 rw [e2]
 exact winP_above h (by omega) hk
theorem above_take {l:List ItemL} {k:Nat} (hk:k < l.length) (h0:0 < k) (h:∀ h0:0 < (l.take k).length,AboveP ((l.take k)[(l.take k).length - 1]'(by omega)).2 l[k].2):AboveP (l[k - 1]'(by omega)).2 l[k].2:=by
 have e:(l.take k).length=k:=by rw [List.length_take];omega
 have e2:(l.take k)[(l.take k).length - 1]'(by omega)=l[k - 1]'(by omega):=by rw [List.getElem_take];congr 1;omega
 rw [<- e2]
 exact h (by omega)
def put10 (w:World) (H:Nat) (v0 v1 v2 v3 v4 v5 v6 v7 v8 v9:Value):World:=(((((((((w.setCell ⟨H,0,none⟩ v0).setCell ⟨H,1,none⟩ v1).setCell ⟨H,2,none⟩ v2).setCell ⟨H,3,none⟩ v3).setCell ⟨H,4,none⟩ v4).setCell ⟨H,5,none⟩ v5).setCell ⟨H,6,none⟩ v6).setCell ⟨H,7,none⟩ v7).setCell ⟨H,8,none⟩ v8).setCell ⟨H,9,none⟩ v9
theorem put10_cells {w:World} {H:Nat} {f:Nat->Value} (h:w.rowIs H 190 10 f) (v0 v1 v2 v3 v4 v5 v6 v7 v8 v9:Value):(put10 w H v0 v1 v2 v3 v4 v5 v6 v7 v8 v9).cell? ⟨H,0,none⟩=some v0∧(put10 w H v0 v1 v2 v3 v4 v5 v6 v7 v8 v9).cell? ⟨H,1,none⟩=some v1∧(put10 w H v0 v1 v2 v3 v4 v5 v6 v7 v8 v9).cell? ⟨H,2,none⟩=some v2∧(put10 w H v0 v1 v2 v3 v4 v5 v6 v7 v8 v9).cell? ⟨H,3,none⟩=some v3∧(put10 w H v0 v1 v2 v3 v4 v5 v6 v7 v8 v9).cell? ⟨H,4,none⟩=some v4∧(put10 w H v0 v1 v2 v3 v4 v5 v6 v7 v8 v9).cell? ⟨H,5,none⟩=some v5∧(put10 w H v0 v1 v2 v3 v4 v5 v6 v7 v8 v9).cell? ⟨H,6,none⟩=some v6∧(put10 w H v0 v1 v2 v3 v4 v5 v6 v7 v8 v9).cell? ⟨H,7,none⟩=some v7∧(put10 w H v0 v1 v2 v3 v4 v5 v6 v7 v8 v9).cell? ⟨H,8,none⟩=some v8∧(put10 w H v0 v1 v2 v3 v4 v5 v6 v7 v8 v9).cell? ⟨H,9,none⟩=some v9:=by
 have R:=((((((((((h.set 0 v0).set 1 v1).set 2 v2).set 3 v3).set 4 v4).set 5 v5).set 6 v6).set 7 v7).set 8 v8).set 9 v9)
 exact ⟨R.cell (by decide),R.cell (by decide),R.cell (by decide),R.cell (by decide),R.cell (by decide),R.cell (by decide),R.cell (by decide),R.cell (by decide),R.cell (by decide),R.cell (by decide)⟩
theorem put10_below {B H:Nat} {x w:World} (hb:Below B x w) (hB:B<=H) (v0 v1 v2 v3 v4 v5 v6 v7 v8 v9:Value):Below B x (put10 w H v0 v1 v2 v3 v4 v5 v6 v7 v8 v9):=((((((((((hb.setCell (p:=⟨H,0,none⟩) hB v0).setCell (p:=⟨H,1,none⟩) hB v1).setCell (p:=⟨H,2,none⟩) hB v2).setCell (p:=⟨H,3,none⟩) hB v3).setCell (p:=⟨H,4,none⟩) hB v4).setCell (p:=⟨H,5,none⟩) hB v5).setCell (p:=⟨H,6,none⟩) hB v6).setCell (p:=⟨H,7,none⟩) hB v7).setCell (p:=⟨H,8,none⟩) hB v8).setCell (p:=⟨H,9,none⟩) hB v9)
set_option maxHeartbeats 3200000 in
theorem readWindow_any (a:Option Addr) (cap:Nat) (l:List ItemL) (w:World) (hf:FitI l) (hr:RowI w a l) :
  Calls Tryz.prog 127 #[.slice a l.length cap] w fun e w'=>ReadE w l e∧Below w.heap.size w w':=by
 have hl:=hf.1
 unfold maxLen at hl
 by_cases h4:4 < l.length
 ·have HN:Hid (¬ WinP l):=fun h=>by have:=h.1;omega
  go_enter Tryz.func127,Tryz.ntmps127
  go_wp2_with fail
  exact bodyPost_ret (v:=.tuple #[.agg zero10,.bool false]) (by simp [results,Tryz.results127,go_sem]) rfl ⟨.inr ⟨_,rfl,HN.out,winV_zero _⟩,((Below.refl _ _).alloc (Nat.le_refl _) _).alloc (by simp) _⟩
 go_enter Tryz.func127,Tryz.ntmps127
 go_wp2_with fail
 have hA1:Below w.heap.size w (w.alloc (.cells zero10 190)):=(Below.refl _ _).alloc (Nat.le_refl _) _
 have hA2:Below w.heap.size w ((w.alloc (.cells zero10 190)).alloc (.cells zero10 190)):=hA1.alloc hA1.size _
 have hZ:ZeroB ((w.alloc (.cells zero10 190)).alloc (.cells zero10 190)) w.heap.size:=(zeroB_new w).below ((Below.refl _ _).alloc (Nat.le_refl _) _)
 have hWn:WinB w ((w.alloc (.cells zero10 190)).alloc (.cells zero10 190)) (w.heap.size + 1) 0 []:=by
  have h:=winB_new w (w.alloc (.cells zero10 190)) hA1.size
  rw [World.size_alloc] at h
  exact h
 go_loopw [13] (fun i wr=>∃ k:Nat,k<=l.length∧i=.int .i64 k∧WinB w wr (w.heap.size + 1) 0 (l.take k)∧Hid (WinTo l k)∧ZeroB wr w.heap.size∧Below w.heap.size w wr) (fun i _=>l.length - (intOf i).toNat)
 case atStart=>exact ⟨0,Nat.zero_le _,rfl,hWn,winTo_zero l,hZ,hA2⟩
 case round=>
  obtain ⟨k,hk,rfl,hW,HTO,hz,hb⟩:=hrel
  clear hA1 hA2 hZ hWn
  by_cases hlt:k < l.length
  ·obtain ⟨b1,o1,rfl,g1,e0,v1,e1,⟨s1,t1,rfl,hc1,r1⟩⟩:=hr k hlt
   have k0:(0:Int)<=(k:Int):=by omega
   have k1:(k:Int) < (l.length:Int):=by omega
   have x0:=cell_on hb g1 e0
   have x1:=cell_on hb g1 e1
   have fk:=hf.2 k hlt
   clear e0 e1
   go_wp2_with fail
   have hb0:Below wr.heap.size wr (wr.alloc (.cells #[.int .i64 l[k].1,.slice s1 l[k].2.length t1] 44)):=(Below.refl _ _).alloc (Nat.le_refl _) _
   have d0:=box0 wr (.int .i64 l[k].1) (.slice s1 l[k].2.length t1) 44
   have d1:=box1 wr (.int .i64 l[k].1) (.slice s1 l[k].2.length t1) 44
   have hlt0:=box_lt wr (.cells #[.int .i64 l[k].1,.slice s1 l[k].2.length t1] 44)
   replace hW:=hW.below hb0
   replace hz:=hz.below hb0
   have B1:Below w.heap.size w (wr.alloc (.cells #[.int .i64 l[k].1,.slice s1 l[k].2.length t1] 44)):=hb.trans (hb0.mono hb.size)
   generalize hq:wr.heap.size=q at *
   generalize wr.alloc (.cells #[.int .i64 l[k].1,.slice s1 l[k].2.length t1] 44)=W1 at *
   clear hb0 x0 x1 hq hb
   refine (itemOk_any l[k].1 s1 t1 l[k].2 W1 (r1.below B1) fk).mono ?_
   rintro e w2 ⟨⟨r,rfl,hr2⟩,b2⟩
   replace hW:=hW.below b2
   replace hz:=hz.below b2
   replace d0:=cell_on b2 hlt0 d0
   replace d1:=cell_on b2 hlt0 d1
   have B2:Below w.heap.size w w2:=B1.trans (b2.mono B1.size)
   have hlt2:q < w2.heap.size:=Nat.lt_of_lt_of_le hlt0 b2.size
   have HR2:Hid (r=true↔StampP l[k].2∧l[k].2≠[]):=hr2
   clear hr2 b2 B1 hlt0
   cases r
   ·have HN:Hid (¬ WinP l):=fun h=>by simpa using HR2.out.2 (h.2.1 k hlt)
    obtain ⟨z0,z1,z2,z3,z4,z5,z6,z7,z8,z9⟩:=hz.cells
    obtain ⟨y0,y1,y2,y3,y4,y5,y6,y7,y8,y9⟩:=hz.free
    have HY:Hid _:=put10_cells hz (.int .i64 0) (.slice none 0 0) (.int .i64 0) (.slice none 0 0) (.int .i64 0) (.slice none 0 0) (.int .i64 0) (.slice none 0 0) (.int .i64 0) (.int .i64 0)
    clear HR2 hz hW
    go_wp2_with fail
    obtain ⟨Y0,Y1,Y2,Y3,Y4,Y5,Y6,Y7,Y8,Y9⟩:=HY.out
    unfold put10 at Y0 Y1 Y2 Y3 Y4 Y5 Y6 Y7 Y8 Y9
    exact bodyPost_ret (v:=.tuple #[.agg zero10,.bool false]) (by simp [results,Tryz.results127,go_sem,Y0,Y1,Y2,Y3,Y4,Y5,Y6,Y7,Y8,Y9]) rfl ⟨.inr ⟨_,rfl,HN.out,winV_zero _⟩,put10_below B2 (Nat.le_refl _) _ _ _ _ _ _ _ _ _ _⟩
   ·go_wp2_with fail
    refine (takes_any w w2 _ 0 (l.take k) l[k].1 _ l[k].2 hW B2 (stamps_take HTO.out) ⟨s1,t1,rfl,hc1,r1⟩ (HR2.out.1 (by trivial)).1).mono ?_
    rintro e w3 ⟨⟨r,rfl,hr3⟩,b3⟩
    replace hW:=hW.below b3
    replace hz:=hz.below b3
    replace d0:=cell_on b3 hlt2 d0
    replace d1:=cell_on b3 hlt2 d1
    have B3:Below w.heap.size w w3:=B2.trans (b3.mono B2.size)
    have HR3:Hid (r=true↔∀ h:0 < (l.take k).length,AboveP ((l.take k)[(l.take k).length - 1]'(by omega)).2 l[k].2):=hr3
    clear hr3 b3 B2 hlt2
    cases r
    ·have HN:Hid (¬ WinP l):=fun h=>by
      have h3:=HR3.out.2 (take_above h hlt)
      simp at h3
     obtain ⟨z0,z1,z2,z3,z4,z5,z6,z7,z8,z9⟩:=hz.cells
     obtain ⟨y0,y1,y2,y3,y4,y5,y6,y7,y8,y9⟩:=hz.free
     have HY:Hid _:=put10_cells hz (.int .i64 0) (.slice none 0 0) (.int .i64 0) (.slice none 0 0) (.int .i64 0) (.slice none 0 0) (.int .i64 0) (.slice none 0 0) (.int .i64 0) (.int .i64 0)
     clear HR2 HR3 hz hW
     go_wp2_with fail
     obtain ⟨Y0,Y1,Y2,Y3,Y4,Y5,Y6,Y7,Y8,Y9⟩:=HY.out
     unfold put10 at Y0 Y1 Y2 Y3 Y4 Y5 Y6 Y7 Y8 Y9
     exact bodyPost_ret (v:=.tuple #[.agg zero10,.bool false]) (by simp [results,Tryz.results127,go_sem,Y0,Y1,Y2,Y3,Y4,Y5,Y6,Y7,Y8,Y9]) rfl ⟨.inr ⟨_,rfl,HN.out,winV_zero _⟩,put10_below B3 (Nat.le_refl _) _ _ _ _ _ _ _ _ _ _⟩
    ·have HST:Hid (WinTo l (k + 1)):=winTo_step HTO.out hlt (HR2.out.1 (by trivial)) (fun h=>above_take hlt h (HR3.out.1 (by trivial)))
     have HT:Hid (l.take (k + 1)=l.take k ++ [(l[k].1,l[k].2)]):=List.take_succ_eq_append_getElem hlt
     clear HR2 HR3 HTO
     go_wp2_with fail
     refine (push_room w w3 _ 0 (l.take k) l[k].1 _ l[k].2 hW ⟨s1,t1,rfl,hc1,r1⟩ (by rw [List.length_take];omega)).mono ?_
     rintro e w4 ⟨rfl,hW4,b4⟩
     have hz4:=hz.but b4 (by omega)
     have B4:Below w.heap.size w w4:=B3.trans (b4.below (by omega) B3.size)
     clear hW hz d0 d1 b4
     go_wp2_with fail
     exact ⟨⟨k + 1,by omega,by go_num,by rw [HT.out];exact hW4,HST,hz4,B4⟩,by simp [intOf];omega⟩
  ·have HF:Hid (WinP l):=winP_of HTO.out hlt (by omega)
   rw [List.take_of_length_le (by omega)] at hW
   obtain ⟨z0,z1,z2,z3,z4,z5,z6,z7,z8,z9⟩:=hz.cells
   obtain ⟨y0,y1,y2,y3,y4,y5,y6,y7,y8,y9⟩:=hz.free
   obtain ⟨_,_,_,f,⟨hrow,hsh⟩,e8,e9,hf'⟩:=hW
   obtain ⟨x0,a0,n0,c0,p0,p1⟩:=hsh 0 (by omega)
   obtain ⟨x1,a1,n1,c1,p2,p3⟩:=hsh 1 (by omega)
   obtain ⟨x2,a2,n2,c2,p4,p5⟩:=hsh 2 (by omega)
   obtain ⟨x3,a3,n3,c3,p6,p7⟩:=hsh 3 (by omega)
   have HV:Hid (WinV w (.agg #[.int .i64 x0,.slice a0 n0 c0,.int .i64 x1,.slice a1 n1 c1,.int .i64 x2,.slice a2 n2 c2,.int .i64 x3,.slice a3 n3 c3,.int .i64 0,.int .i64 l.length]) l):=winV_of (by omega) p0 p1 p2 p3 p4 p5 p6 p7 hf'
   have r0:wr.cell? ⟨w.heap.size + 1,0,none⟩=some (.int .i64 x0):=by rw [hrow.cell (by omega),<- p0]
   have r1:wr.cell? ⟨w.heap.size + 1,1,none⟩=some (.slice a0 n0 c0):=by rw [hrow.cell (by omega),<- p1]
   have r2:wr.cell? ⟨w.heap.size + 1,2,none⟩=some (.int .i64 x1):=by rw [hrow.cell (by omega),<- p2]
   have r3:wr.cell? ⟨w.heap.size + 1,3,none⟩=some (.slice a1 n1 c1):=by rw [hrow.cell (by omega),<- p3]
   have r4:wr.cell? ⟨w.heap.size + 1,4,none⟩=some (.int .i64 x2):=by rw [hrow.cell (by omega),<- p4]
   have r5:wr.cell? ⟨w.heap.size + 1,5,none⟩=some (.slice a2 n2 c2):=by rw [hrow.cell (by omega),<- p5]
   have r6:wr.cell? ⟨w.heap.size + 1,6,none⟩=some (.int .i64 x3):=by rw [hrow.cell (by omega),<- p6]
   have r7:wr.cell? ⟨w.heap.size + 1,7,none⟩=some (.slice a3 n3 c3):=by rw [hrow.cell (by omega),<- p7]
   have r8:wr.cell? ⟨w.heap.size + 1,8,none⟩=some (.int .i64 0):=by rw [hrow.cell (by omega),e8];rfl
   have r9:wr.cell? ⟨w.heap.size + 1,9,none⟩=some (.int .i64 l.length):=by rw [hrow.cell (by omega),e9]
   have HY:Hid _:=put10_cells hz (.int .i64 x0) (.slice a0 n0 c0) (.int .i64 x1) (.slice a1 n1 c1) (.int .i64 x2) (.slice a2 n2 c2) (.int .i64 x3) (.slice a3 n3 c3) (.int .i64 0) (.int .i64 l.length)
   clear HTO hz hrow hsh e8 e9 hf' p0 p1 p2 p3 p4 p5 p6 p7 f
   go_wp2_with fail
   obtain ⟨Y0,Y1,Y2,Y3,Y4,Y5,Y6,Y7,Y8,Y9⟩:=HY.out
   unfold put10 at Y0 Y1 Y2 Y3 Y4 Y5 Y6 Y7 Y8 Y9
   exact bodyPost_ret (v:=.tuple #[.agg #[.int .i64 x0,.slice a0 n0 c0,.int .i64 x1,.slice a1 n1 c1,.int .i64 x2,.slice a2 n2 c2,.int .i64 x3,.slice a3 n3 c3,.int .i64 0,.int .i64 l.length],.bool true]) (by simp [results,Tryz.results127,go_sem,Y0,Y1,Y2,Y3,Y4,Y5,Y6,Y7,Y8,Y9]) rfl ⟨.inl ⟨_,rfl,HF.out,HV.out⟩,put10_below hb (Nat.le_refl _) _ _ _ _ _ _ _ _ _ _⟩
end Go.Proofs.YtpfhegengmlkmacGreatDoor
namespace Go.Proofs.YtpfhegengmlkmacGreatDoor
open Go.RowKit Go.BigFrame
theorem own_keep {w w':World} {B e size n:Nat} {v:Value} {xs:List Value} (h:w.ownsRow B e size v n xs) (hb:Below w.heap.size w w'):w'.ownsRow B e size v n xs:=by
 obtain ⟨hl,h | ⟨g,cap,cur,hv,hgB,hh,r⟩⟩:=h
 ·exact ⟨hl,.inl h⟩
 ·exact ⟨hl,.inr ⟨g,cap,cur,hv,hgB,(hb.block g (Array.getElem?_eq_some_iff.1 hh).1).trans hh,r⟩⟩
theorem own_lower {w:World} {B B' e size n:Nat} {v:Value} {xs:List Value} (h:w.ownsRow B e size v n xs) (hB:B'<=B):w.ownsRow B' e size v n xs:=by
 obtain ⟨hl,h | ⟨g,cap,cur,hv,hgB,r⟩⟩:=h
 ·exact ⟨hl,.inl h⟩
 ·exact ⟨hl,.inr ⟨g,cap,cur,hv,Nat.le_trans hB hgB,r⟩⟩
theorem own_types {w:World} {B B' e e' size size' n n':Nat} {v v':Value} {xs xs':List Value} (h:w.ownsRow B e size v n xs) (h':w.ownsRow B' e' size' v' n' xs') (hne:e≠e'):v.ownBlock=none∨v.ownBlock≠v'.ownBlock:=by
 rcases h.2 with ⟨rfl,_⟩ | ⟨g,cap,cur,rfl,_,hh,_⟩
 ·exact .inl rfl
 ·rcases h'.2 with ⟨rfl,_⟩ | ⟨g',cap',cur',rfl,_,hh',_⟩
  ·exact .inr (by simp [Value.ownBlock])
  ·refine .inr fun q=>?_
   obtain rfl:g=g':=by simpa [Value.ownBlock] using q
   rw [hh] at hh'
   simp at hh'
   exact hne hh'.2
theorem own_from {w:World} {B e size n:Nat} {v:Value} {xs:List Value} (h:w.ownsRow B e size v n xs):∀ k,v.ownBlock=some k->B<=k:=fun k q=>(h.lt k q).1
theorem grown_below {w w':World} (hb:Below w.heap.size w w') (row:Option Nat):w.grownBy w' row:=⟨hb.os,hb.tape,hb.output,hb.size,fun k hk _=>hb.block k hk⟩
theorem grown_then {w w1 w2:World} {r r1:Option Nat} (h:w.grownBy w1 r) (k:w1.grownBy w2 r1) (hr:r1=r∨∃ g,r1=some g∧w.heap.size<=g):w.grownBy w2 r:=
 ⟨k.os.trans h.os,k.tape.trans h.tape,k.output.trans h.output,Nat.le_trans h.size k.size,fun i hi hne=>(k.block i (Nat.lt_of_lt_of_le hi h.size) (by
  rcases hr with e | ⟨g,e,hle⟩
  ·rw [e];exact hne
  ·rw [e];intro q;cases q;omega)).trans (h.block i hi hne)⟩
theorem grown_cell {w w':World} {r:Option Nat} (hg:w.grownBy w' r) {b o:Nat} {v:Value} (hne:some b≠r) (h:w.cell? ⟨b,o,none⟩=some v):w'.cell? ⟨b,o,none⟩=some v:=hg.cell h hne
def GathN (w:World) (B:Nat) (v:Value) (l:List Int):Prop:=w.ownsRow B 3 1 v l.length (l.map fun x=>.int .i64 x)
theorem GathN.shape {w:World} {B:Nat} {v:Value} {l:List Int} (h:GathN w B v l) (h0:0 < l.length):∃ g cap,v=.slice (some ⟨g,0,none⟩) l.length cap∧B<=g∧g < w.heap.size∧l.length<=cap∧∀ j,(hj:j < l.length)->w.cell? ⟨g,j,none⟩=some (.int .i64 l[j]):=by
 rcases h.2 with ⟨rfl,e⟩ | ⟨g,cap,cur,rfl,hB,hh,hn,r⟩
 ·omega
 ·refine ⟨g,cap,rfl,hB,(Array.getElem?_eq_some_iff.1 hh).1,hn,fun j hj=>?_⟩
  rw [World.ownsRow.cellAt h j (by omega)]
  simp [hj]
def GathU (w:World) (B:Nat) (v:Value) (L:List (List Int×Nat×Nat)):Prop:=w.ownsRow B 37 1 v L.length (L.map fun p=>.slice (some ⟨p.2.1,0,none⟩) p.1.length p.2.2)∧∀ p∈L,GathN w B (.slice (some ⟨p.2.1,0,none⟩) p.1.length p.2.2) p.1
theorem gathU_none (w:World) (B:Nat):GathU w B (.slice none 0 0) []:=⟨World.ownsRow_nil _ _ _ _,by simp⟩
theorem GathU.keep {w w':World} {B:Nat} {v:Value} {L:List (List Int×Nat×Nat)} (h:GathU w B v L) (hb:Below w.heap.size w w'):GathU w' B v L:=⟨own_keep h.1 hb,fun p hp=>own_keep (h.2 p hp) hb⟩
theorem GathU.snoc {w w':World} {B g c:Nat} {v v':Value} {L:List (List Int×Nat×Nat)} {l:List Int} (h:GathU w B v L) (hl:GathN w B (.slice (some ⟨g,0,none⟩) l.length c) l) (hne:3≠37)
  (h':w'.ownsRow B 37 1 v' (L.length + 1) ((L.map fun p=>.slice (some ⟨p.2.1,0,none⟩) p.1.length p.2.2) ++ [.slice (some ⟨g,0,none⟩) l.length c])) (hg:w.grownBy w' v.ownBlock):GathU w' B v' (L ++ [(l,g,c)]):=by
 refine ⟨?_,fun p hp=>?_⟩
 ·rw [List.length_append,List.map_append]
  exact h'
 ·rcases List.mem_append.1 hp with hp | hp
  ·exact World.ownsRow.kept (h.2 p hp) hg (own_types (h.2 p hp) h.1 hne)
  ·obtain rfl:p=(l,g,c):=by simpa using hp
   exact World.ownsRow.kept hl hg (own_types hl h.1 hne)
def heldE (v:Value):Option (DataW Value×List MemPlace):=some (.held v,[])
def litS (s:ByteArray):Lit:=.string s.data.toList
theorem litS_inj {s t:ByteArray} (h:litS s=litS t):s=t:=by
 unfold litS at h
 have h1:s.data.toList=t.data.toList:=by simpa using h
 cases s
 cases t
 simp only at h1
 congr 1
 exact Array.toList_inj.1 h1
theorem litS_key (s:ByteArray):WideAt.IsKeyLit (litS s):=by unfold litS WideAt.IsKeyLit;trivial
def scells:List Spot->List Value
 | []=>[]
 | p :: r=>.int .i64 (p.1:Int) :: .int .i64 (p.2:Int) :: scells r
theorem scells_append:∀ L r,scells (L ++ r)=scells L ++ scells r
 | [],_=>rfl
 | p :: L,r=>by simp [scells,scells_append L r]
theorem scells_at:∀ (L:List Spot) (k:Nat) (h:k < L.length),(scells L)[k * 2]?=some (.int .i64 (L[k].1:Int))∧(scells L)[k * 2 + 1]?=some (.int .i64 (L[k].2:Int))
 | p :: r,0,_=>by simp [scells]
 | p :: r,k + 1,h=>by
  have:=scells_at r k (by simpa using h)
  have e0:(k + 1) * 2=k * 2 + 1 + 1:=by omega
  rw [e0]
  simp only [scells,List.getElem?_cons_succ,List.getElem_cons_succ]
  exact this
def GathP (w:World) (B:Nat) (v:Value) (l:List Spot):Prop:=w.ownsRow B 245 2 v l.length (scells l)
structure GrpS (w:World) (B b n:Nat) (D:DataW Value) (V:ByteArray->Value) (S:ByteArray->List Spot):Prop where
 own:w.ownsMap Tryz.prog 9 heldE b n D
 lt:b < B
 eq:∀ s,D.atKey (litS s) (.held (.slice none 0 0))=.held (V s)
 has:∀ s,Maps.has D (litS s)=true↔S s≠[]
 row:∀ s,GathP w B (V s) (S s)
 far:∀ s t,s≠t->(V s).ownBlock=none∨(V s).ownBlock≠(V t).ownBlock
theorem grpS_made (w:World):GrpS (w.alloc (.map #[] 0)) (w.heap.size + 1) w.heap.size 0 (.map []) (fun _=>.slice none 0 0) (fun _=>[]) where
 own:=World.ownsMap_made _ _ _ _
 lt:=Nat.lt_succ_self _
 eq:=fun s=>rfl
 has:=fun s=>by simp [Maps.has]
 row:=fun s=>World.ownsRow_nil _ _ _ _
 far:=fun s t _=>.inl rfl
theorem GathP.kept {w w':World} {B:Nat} {v:Value} {l:List Spot} {row:Option Nat} (h:GathP w B v l) (hg:w.grownBy w' row) (hne:v.ownBlock=none∨v.ownBlock≠row):GathP w' B v l:=World.ownsRow.kept h hg hne
theorem GathP.snoc {w:World} {B:Nat} {v:Value} {l:List Spot} {p:Spot} (h:w.ownsRow B 245 2 v (l.length + 1) (scells l ++ [.int .i64 (p.1:Int),.int .i64 (p.2:Int)])):GathP w B v (l ++ [p]):=by
 unfold GathP
 rw [scells_append,List.length_append]
 exact h
open Classical in
theorem GrpS.put {w w1 w2:World} {B b n:Nat} {D:DataW Value} {V:ByteArray->Value} {S:ByteArray->List Spot} (h:GrpS w B b n D V S) (s:ByteArray) (p:Spot) {v':Value} (hg:w.grownBy w1 (V s).ownBlock)
  (ho:w1.ownsRow B 245 2 v' ((S s).length + 1) (scells (S s) ++ [.int .i64 (p.1:Int),.int .i64 (p.2:Int)])) (hloc:v'.ownBlock=(V s).ownBlock∨∃ g,v'.ownBlock=some g∧w.heap.size<=g)
  (h2:w2.ownsMap Tryz.prog 9 heldE b (n + 1) (D.put (litS s) (.held v'))) (hg2:w1.grownBy w2 (some b)) :
  GrpS w2 B b (n + 1) (D.put (litS s) (.held v')) (fun t=>if t=s then v' else V t) (fun t=>if t=s then S s ++ [p] else S t):=by
 have hb:∀ {u:World} {v:Value} {l:List Spot},GathP u B v l->v.ownBlock=none∨v.ownBlock≠some b:=fun {u v l} hv=>by
  cases hk:v.ownBlock with
  | none=>exact .inl rfl
  | some k=>
   have:=(World.ownsRow.lt hv k hk).1
   have:=h.lt
   exact .inr (fun e=>by cases e;omega)
 have hnew:∀ t,t≠s->(V t).ownBlock=none∨(V t).ownBlock≠v'.ownBlock:=fun t ht=>by
  rcases hloc with e | ⟨g,e,hle⟩
  ·rw [e];exact h.far t s ht
  ·cases hk:(V t).ownBlock with
   | none=>exact .inl rfl
   | some k=>
    have:=(World.ownsRow.lt (h.row t) k hk).2
    exact .inr (fun e'=>by rw [e] at e';cases e';omega)
 refine ⟨h2,h.lt,fun t=>?_,fun t=>?_,fun t=>?_,fun t u htu=>?_⟩
 ·by_cases e:t=s
  ·subst e
   rw [if_pos rfl,Maps.atKey_put_same h.own.isMap (litS_key t)]
  ·rw [if_neg e,Maps.atKey_put_other (fun h=>e (litS_inj h)),h.eq t]
 ·by_cases e:t=s
  ·subst e
   rw [if_pos rfl,Maps.has_put_same h.own.isMap (litS_key t)]
   simp
  ·rw [if_neg e,Maps.has_put_other (fun h=>e (litS_inj h)),h.has t]
 ·by_cases e:t=s
  ·subst e
   simp only [↓reduceIte]
   have h3:=GathP.snoc (p:=p) ho
   exact h3.kept hg2 (hb h3)
  ·simp only [if_neg e]
   have h3:=(h.row t).kept hg (h.far t s e)
   exact h3.kept hg2 (hb h3)
 ·by_cases e:t=s
  ·subst e
   have hu:u≠t:=fun h=>htu h.symm
   simp only [↓reduceIte,if_neg hu]
   rcases hnew u hu with e1 | e1
   ·cases hv:v'.ownBlock with
    | none=>exact .inl rfl
    | some k=>exact .inr (fun e2=>by rw [e1] at e2;cases e2)
   ·exact .inr (fun e2=>e1 e2.symm)
  ·simp only [if_neg e]
   by_cases e2:u=s
   ·subst e2
    simp only [↓reduceIte]
    exact hnew t e
   ·simp only [if_neg e2]
    exact h.far t u htu
end Go.Proofs.YtpfhegengmlkmacGreatDoor
