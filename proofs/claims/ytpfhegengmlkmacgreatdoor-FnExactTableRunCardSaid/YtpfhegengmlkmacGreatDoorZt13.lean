/- Texts of this claim. -/
import Derived.Laws.IdiomStrings
import Derived.Test.YtpfhegengmlkmacGreatDoorZt12
namespace Go.Proofs.YtpfhegengmlkmacGreatDoor
open Go.RowKit Go.BigFrame
structure GatP (g:GatL):Prop where
 ins:InsP g.ins
 len:g.wins.length=g.ins.length
 wins:OkW g.wins
 shown:StampP g.shown
set_option maxHeartbeats 800000 in
theorem specGOk_any (a0 a1 a2:Option Addr) (c0 c1 c2:Nat) (g:GatL) (w:World) (hf:FitG g) (hi:g.ins.length<=1048576) (r0:RowS w a0 g.ins) (r1:RowW w a1 g.wins) (r2:Row w a2 g.shown) :
  Calls Tryz.prog 41 #[.agg #[.slice a0 g.ins.length c0,.slice a1 g.wins.length c1,.slice a2 g.shown.length c2]] w fun e w'=>IsB (GatP g) e∧Below w.heap.size w w':=by
 have hl:=hf.wins.1
 unfold maxLen at hl
 have hb0:Below w.heap.size w (w.alloc (.cells #[.slice a0 g.ins.length c0,.slice a1 g.wins.length c1,.slice a2 g.shown.length c2] 36)):=(Below.refl _ _).alloc (Nat.le_refl _) _
 have hlt:=box_lt w (.cells #[.slice a0 g.ins.length c0,.slice a1 g.wins.length c1,.slice a2 g.shown.length c2] 36)
 have d0:(w.alloc (.cells #[.slice a0 g.ins.length c0,.slice a1 g.wins.length c1,.slice a2 g.shown.length c2] 36)).cell? ⟨w.heap.size,0,none⟩=some (.slice a0 g.ins.length c0):=by simp [go_sem]
 have d1:(w.alloc (.cells #[.slice a0 g.ins.length c0,.slice a1 g.wins.length c1,.slice a2 g.shown.length c2] 36)).cell? ⟨w.heap.size,1,none⟩=some (.slice a1 g.wins.length c1):=by simp [go_sem]
 have d2:(w.alloc (.cells #[.slice a0 g.ins.length c0,.slice a1 g.wins.length c1,.slice a2 g.shown.length c2] 36)).cell? ⟨w.heap.size,2,none⟩=some (.slice a2 g.shown.length c2):=by simp [go_sem]
 go_enter Tryz.func41,Tryz.ntmps41
 go_wp2_with fail
 generalize w.alloc (.cells #[.slice a0 g.ins.length c0,.slice a1 g.wins.length c1,.slice a2 g.shown.length c2] 36)=W0 at *
 refine (l4Ins_any a0 c0 g.ins _ hi (r0.below hb0) hf.ins.2).mono ?_
 rintro e w1 ⟨⟨r,rfl,hr⟩,b1⟩
 have HR:Hid (r=true↔InsP g.ins):=hr
 clear hr
 have B1:Below w.heap.size w w1:=hb0.trans (b1.mono hb0.size)
 replace d0:=cell_on b1 (by omega) d0
 replace d1:=cell_on b1 (by omega) d1
 replace d2:=cell_on b1 (by omega) d2
 have z1:=b1.size
 clear b1
 cases r with
 | false=>
  have HN:Hid (¬ GatP g):=fun h=>by have:=HR.out.2 h.ins;simp at this
  go_wp2_with fail
  go_ret
  exact ⟨isB_false HN.out,B1⟩
 | true=>
  have HP:Hid (InsP g.ins):=HR.out.1 rfl
  clear HR
  by_cases hlen:g.wins.length=g.ins.length
  ·have HL:Hid (g.wins.length=g.ins.length):=hlen
   have hlen':((g.wins.length:Int) == (g.ins.length:Int))=true:=by rw [beq_iff_eq];omega
   clear hlen
   go_wp2_with fail
   refine (l3Ok_any a1 c1 g.wins _ hf.wins (r1.below B1)).mono ?_
   rintro e w2 ⟨⟨r,rfl,hr⟩,b2⟩
   have HR:Hid (r=true↔OkW g.wins):=hr
   clear hr
   have B2:Below w.heap.size w w2:=B1.trans (b2.mono B1.size)
   replace d2:=cell_on b2 (by omega) d2
   have z2:=b2.size
   clear b2
   cases r with
   | false=>
    have HN:Hid (¬ GatP g):=fun h=>by have:=HR.out.2 h.wins;simp at this
    go_wp2_with fail
    go_ret
    exact ⟨isB_false HN.out,B2⟩
   | true=>
    have HW:Hid (OkW g.wins):=HR.out.1 rfl
    clear HR
    go_wp2_with fail
    refine (specStampOk_any a2 c2 g.shown _ hf.shown.1 (r2.below B2) hf.shown.2).mono ?_
    rintro e w3 ⟨⟨r,rfl,hr⟩,n,rfl⟩
    have HR:Hid (r=true↔GatP g):=hr.trans ⟨fun h=>⟨HP.out,HL.out,HW.out,h⟩,fun h=>h.shown⟩
    clear hr
    go_wp2_with fail
    go_ret
    exact ⟨⟨r,rfl,HR.out⟩,below_drewN B2 _⟩
  ·have hlen':((g.wins.length:Int) == (g.ins.length:Int))=false:=by rw [beq_eq_false_iff_ne];omega
   have HN:Hid (¬ GatP g):=fun h=>hlen h.len
   go_wp2_with fail
   go_ret
   exact ⟨isB_false HN.out,B1⟩
set_option maxHeartbeats 800000 in
theorem implGOk_any (a0 a1 a2:Option Addr) (c0 c1 c2:Nat) (g:GatL) (w:World) (hf:FitG g) (hi:g.ins.length<=1048576) (hc:g.ins.length<=c0) (hc2:c0<=maxLen) (r0:RowS w a0 g.ins) (r1:RowW w a1 g.wins) (r2:Row w a2 g.shown) :
  Calls Tryz.prog 89 #[.agg #[.slice a0 g.ins.length c0,.slice a1 g.wins.length c1,.slice a2 g.shown.length c2]] w fun e w'=>IsB (GatP g) e∧Below w.heap.size w w':=by
 have hl:=hf.wins.1
 unfold maxLen at hl
 have hb0:Below w.heap.size w (w.alloc (.cells #[.slice a0 g.ins.length c0,.slice a1 g.wins.length c1,.slice a2 g.shown.length c2] 36)):=(Below.refl _ _).alloc (Nat.le_refl _) _
 have hlt:=box_lt w (.cells #[.slice a0 g.ins.length c0,.slice a1 g.wins.length c1,.slice a2 g.shown.length c2] 36)
 have d0:(w.alloc (.cells #[.slice a0 g.ins.length c0,.slice a1 g.wins.length c1,.slice a2 g.shown.length c2] 36)).cell? ⟨w.heap.size,0,none⟩=some (.slice a0 g.ins.length c0):=by simp [go_sem]
 have d1:(w.alloc (.cells #[.slice a0 g.ins.length c0,.slice a1 g.wins.length c1,.slice a2 g.shown.length c2] 36)).cell? ⟨w.heap.size,1,none⟩=some (.slice a1 g.wins.length c1):=by simp [go_sem]
 have d2:(w.alloc (.cells #[.slice a0 g.ins.length c0,.slice a1 g.wins.length c1,.slice a2 g.shown.length c2] 36)).cell? ⟨w.heap.size,2,none⟩=some (.slice a2 g.shown.length c2):=by simp [go_sem]
 go_enter Tryz.func89,Tryz.ntmps89
 go_wp2_with fail
 generalize w.alloc (.cells #[.slice a0 g.ins.length c0,.slice a1 g.wins.length c1,.slice a2 g.shown.length c2] 36)=W0 at *
 refine (insOk_any a0 c0 g.ins _ hi hc hc2 (r0.below hb0) hf.ins.2).mono ?_
 rintro e w1 ⟨⟨r,rfl,hr⟩,rfl⟩
 have HR:Hid (r=true↔InsP g.ins):=hr
 clear hr
 cases r with
 | false=>
  have HN:Hid (¬ GatP g):=fun h=>by have:=HR.out.2 h.ins;simp at this
  go_wp2_with fail
  go_ret
  exact ⟨isB_false HN.out,hb0⟩
 | true=>
  have HP:Hid (InsP g.ins):=HR.out.1 rfl
  clear HR
  by_cases hlen:g.wins.length=g.ins.length
  ·have HL:Hid (g.wins.length=g.ins.length):=hlen
   have hlen':((g.wins.length:Int) != (g.ins.length:Int))=false:=by rw [bne_eq_false_iff_eq];omega
   clear hlen
   go_wp2_with fail
   go_loopw [21] (fun i wr=>∃ k:Nat,k<=g.wins.length∧i=.int .i64 k∧Hid (∀ j,(h:j < g.wins.length)->j < k->WinP g.wins[j])∧Below w1.heap.size w1 wr) (fun i _=>g.wins.length - (intOf i).toNat)
   case atStart=>exact ⟨0,Nat.zero_le _,rfl,fun _ _ h=>absurd h (Nat.not_lt_zero _),Below.refl _ _⟩
   case round=>
    obtain ⟨k,hk,rfl,HI,hbl⟩:=hrel
    have B1:Below w.heap.size w wr:=hb0.trans (hbl.mono hb0.size)
    by_cases hk2:k < g.wins.length
    ·obtain ⟨b1,o1,rfl,g1,s1,t1,e1,_,q1⟩:=r1.below B1 k hk2
     have k0:(0:Int)<=(k:Int):=by omega
     have k1:(k:Int) < (g.wins.length:Int):=by omega
     go_wp2_with fail
     refine (implWinOk_any s1 t1 g.wins[k] _ (hf.wins.2 k hk2) q1).mono ?_
     rintro e w2 ⟨⟨r,rfl,hr⟩,b2⟩
     have HR:Hid (r=true↔WinP g.wins[k]):=hr
     clear hr
     cases r with
     | false=>
      have HN:Hid (¬ GatP g):=fun h=>by have:=HR.out.2 (h.wins.2.2 k hk2);simp at this
      go_wp2_with fail
      go_ret
      exact ⟨isB_false HN.out,B1.trans (b2.mono B1.size)⟩
     | true=>
      have HST:Hid (∀ j,(h:j < g.wins.length)->j < k + 1->WinP g.wins[j]):=win_step HI.out hk2 (HR.out.1 rfl)
      go_wp2_with fail
      exact ⟨⟨k + 1,by omega,by go_num,HST,hbl.trans (b2.mono hbl.size)⟩,by simp [intOf];omega⟩
    ·have HW:Hid (OkW g.wins):=⟨by have:=HP.out.1;have:=HL.out;omega,by have:=HP.out.2.1;have:=HL.out;omega,fun j hj=>HI.out j hj (by omega)⟩
     have e2:=cell_on hbl hlt d2
     go_wp2_with fail
     refine (implStampOk_any a2 c2 g.shown _ hf.shown.1 (r2.below B1) hf.shown.2).mono ?_
     rintro e w3 ⟨⟨r,rfl,hr⟩,b3⟩
     have HR:Hid (r=true↔GatP g):=hr.trans ⟨fun h=>⟨HP.out,HL.out,HW.out,h⟩,fun h=>h.shown⟩
     clear hr
     go_wp2_with fail
     go_ret
     exact ⟨⟨r,rfl,HR.out⟩,B1.trans (b3.mono B1.size)⟩
  ·have hlen':((g.wins.length:Int) != (g.ins.length:Int))=true:=by rw [bne_iff_ne];omega
   have HN:Hid (¬ GatP g):=fun h=>hlen h.len
   go_wp2_with fail
   go_ret
   exact ⟨isB_false HN.out,hb0⟩
end Go.Proofs.YtpfhegengmlkmacGreatDoor
namespace Go.Proofs.YtpfhegengmlkmacGreatDoor
theorem isJ_stamp {a b m:List (ByteArray×Int)} {ok:Bool} (h:IsJ a b m ok):StampP m:=by
 cases ok
 ·rw [h.none];exact stampP_nil
 ·exact h.fits.2.2.2
def JoinsTo (ws:List (List ItemL)) (ps:List Int):Nat->List (ByteArray×Int)->Prop
 | 0,m=>m=[]
 | k + 1,m=>∃ q,JoinsTo ws ps k q∧IsJ q (pkM ws ps k) m true
theorem JoinsTo.one {ws:List (List ItemL)} {ps:List Int}:∀ {k:Nat} {a b:List (ByteArray×Int)},JoinsTo ws ps k a->JoinsTo ws ps k b->a=b
 | 0,a,b,h1,h2=>by rw [show a=[] from h1,show b=[] from h2]
 | k + 1,a,b,⟨q,h1,h2⟩,⟨q',h3,h4⟩=>by
  obtain rfl:=h1.one h3
  exact (h2.one h4).1
theorem JoinsTo.pre {ws:List (List ItemL)} {ps:List Int}:∀ {n:Nat} {m:List (ByteArray×Int)},JoinsTo ws ps n m->∀ k,k < n->∃ q r,JoinsTo ws ps k q∧IsJ q (pkM ws ps k) r true
 | n + 1,m,⟨q,h1,h2⟩,k,hk=>by
  by_cases e:k=n
  ·subst e;exact ⟨q,m,h1,h2⟩
  ·exact h1.pre k (by omega)
theorem JoinsTo.stamp {ws:List (List ItemL)} {ps:List Int}:∀ {k:Nat} {m:List (ByteArray×Int)},JoinsTo ws ps k m->StampP m
 | 0,m,h=>by rw [show m=[] from h];exact stampP_nil
 | k + 1,m,⟨q,_,h2⟩=>isJ_stamp h2
def JoinsNot (ws:List (List ItemL)) (ps:List Int):Prop:=∃ k q m,k < ps.length∧JoinsTo ws ps k q∧IsJ q (pkM ws ps k) m false
def IsCJ (ws:List (List ItemL)) (ps:List Int) (m:List (ByteArray×Int)) (ok:Bool):Prop:=
 (ok=true∧ChP ws ps∧JoinsTo ws ps ps.length m)∨(ok=false∧m=[]∧(¬ ChP ws ps∨JoinsNot ws ps))
theorem joinsNot_not {ws:List (List ItemL)} {ps:List Int} {m:List (ByteArray×Int)} (h:JoinsNot ws ps) (hj:JoinsTo ws ps ps.length m):False:=by
 obtain ⟨k,q,r,hk,h1,h2⟩:=h
 obtain ⟨q',r',h3,h4⟩:=hj.pre k hk
 obtain rfl:=h1.one h3
 have:=(h2.one h4).2
 cases this
theorem IsCJ.one {ws:List (List ItemL)} {ps:List Int} {m m':List (ByteArray×Int)} {ok ok':Bool} (h:IsCJ ws ps m ok) (k:IsCJ ws ps m' ok'):m=m'∧ok=ok':=by
 rcases h with ⟨rfl,h1,h2⟩ | ⟨rfl,rfl,h2⟩
 ·rcases k with ⟨rfl,k1,k2⟩ | ⟨rfl,rfl,k2⟩
  ·exact ⟨h2.one k2,rfl⟩
  ·rcases k2 with k2 | k2
   ·exact absurd h1 k2
   ·exact (joinsNot_not k2 h2).elim
 ·rcases k with ⟨rfl,k1,k2⟩ | ⟨rfl,rfl,k2⟩
  ·rcases h2 with h2 | h2
   ·exact absurd k1 h2
   ·exact (joinsNot_not h2 k2).elim
  ·exact ⟨rfl,rfl⟩
theorem IsCJ.stamp {ws:List (List ItemL)} {ps:List Int} {m:List (ByteArray×Int)} {ok:Bool} (h:IsCJ ws ps m ok):StampP m:=by
 rcases h with ⟨rfl,_,h2⟩ | ⟨rfl,rfl,_⟩
 ·exact h2.stamp
 ·exact stampP_nil
end Go.Proofs.YtpfhegengmlkmacGreatDoor
namespace Go.Proofs.YtpfhegengmlkmacGreatDoor
open Go.RowKit Go.BigFrame
def Safe (w:World) (lo hi:Nat) (a:Option Addr) (m:List (ByteArray×Int)):Prop:=
 m=[]∨∃ g,a=some ⟨g,0,none⟩∧lo<=g∧g < hi∧Own w g m
theorem Safe.row {w:World} {lo hi:Nat} {a:Option Addr} {m:List (ByteArray×Int)} (h:Safe w lo hi a m):Row w a m:=by
 rcases h with rfl | ⟨g,rfl,_,_,ho⟩
 ·exact fun k hk=>absurd hk (Nat.not_lt_zero k)
 ·exact ho.row
theorem Safe.below {w w':World} {lo hi:Nat} {a:Option Addr} {m:List (ByteArray×Int)} (h:Safe w lo hi a m) (hb:Below w.heap.size w w'):Safe w' lo hi a m:=by
 rcases h with rfl | ⟨g,rfl,h1,h2,ho⟩
 ·exact .inl rfl
 ·exact .inr ⟨g,rfl,h1,h2,ho.below hb⟩
theorem Gath.safe {w:World} {B:Nat} {v:Value} {m:List (ByteArray×Int)} (h:Gath w B v m):∃ a cap,v=.slice a m.length cap∧Safe w B w.heap.size a m:=by
 rcases h.form with ⟨hv,rfl⟩ | ⟨g,cap,hv,hB,ho⟩
 ·exact ⟨_,_,hv,.inl rfl⟩
 ·exact ⟨_,_,hv,.inr ⟨g,rfl,hB,ho.lt,ho⟩⟩
structure Span (lo hi:Nat) (w w':World):Prop where
 os:w'.os=w.os
 tape:w'.tape=w.tape
 output:w'.output=w.output
 size:w.heap.size<=w'.heap.size
 block:∀ k,k < w.heap.size->(k < lo∨hi<=k)->w'.heap[k]?=w.heap[k]?
theorem Span.refl (lo hi:Nat) (w:World):Span lo hi w w:=⟨rfl,rfl,rfl,Nat.le_refl _,fun _ _ _=>rfl⟩
theorem But.span {b lo hi:Nat} {w w':World} (h:But b w w') (h1:lo<=b) (h2:b < hi):Span lo hi w w':=⟨h.os,h.tape,h.output,h.size,fun k hk hn=>h.block k hk (by omega)⟩
theorem Span.below {lo hi B:Nat} {w w':World} (h:Span lo hi w w') (hb:B<=lo) (hw:B<=w.heap.size):Below B w w':=
 ⟨h.os,h.tape,h.output,h.size,fun k hk=>h.block k (by omega) (by omega)⟩
theorem Safe.span {w w':World} {lo hi lo' hi':Nat} {a:Option Addr} {m:List (ByteArray×Int)} (h:Safe w lo hi a m) (hs:Span lo' hi' w w') (hd:hi<=lo'∨hi'<=lo):Safe w' lo hi a m:=by
 rcases h with rfl | ⟨g,rfl,h1,h2,ho⟩
 ·exact .inl rfl
 ·refine .inr ⟨g,rfl,h1,h2, ?_⟩
  have hlt:=ho.lt
  obtain ⟨m,f,h',hf⟩:=ho
  exact ⟨m,f,h'.of_block (hs.block g hlt (by omega)),hf⟩
theorem Span.trans {lo hi:Nat} {x y z:World} (h:Span lo hi x y) (k:Span lo hi y z):Span lo hi x z:=
 ⟨k.os.trans h.os,k.tape.trans h.tape,k.output.trans h.output,Nat.le_trans h.size k.size,fun i hi hn=>(k.block i (Nat.lt_of_lt_of_le hi h.size) hn).trans (h.block i hi hn)⟩
theorem Span.setCell {lo hi g:Nat} {x w:World} (h:Span lo hi x w) (h1:lo<=g) (h2:g < hi) (i:Nat) (v:Value):Span lo hi x (w.setCell ⟨g,i,none⟩ v):=
 h.trans (((But.refl g w).setCell i v).span h1 h2)
theorem mcells_cell1:∀ (l:List (ByteArray×Int)),∀ u∈mcells l,u.oneCell'=true
 | [],u,h=>by simp [mcells] at h
 | m :: r,u,h=>by
  simp only [mcells,List.mem_cons] at h
  rcases h with rfl | rfl | h
  ·rfl
  ·rfl
  ·exact mcells_cell1 r u h
theorem row_news {w:World} {b o:Nat} {l:List (ByteArray×Int)} (h:Row w (some ⟨b,o,none⟩) l):∀ j u,(mcells l)[j]?=some u->w.cell? ((⟨b,o,none⟩:Addr).add j)=some u:=by
 intro j u hj
 have hjl:j < (mcells l).length:=(List.getElem?_eq_some_iff.1 hj).1
 rw [mcells_length] at hjl
 have e:(⟨b,o,none⟩:Addr).add j=⟨b,o + j,none⟩:=by unfold Addr.add;by_cases h:j=0 <;> simp [h]
 rw [e]
 have hk:j / 2 < l.length:=by omega
 obtain ⟨b',o',ha,_,c0,c1⟩:=h (j / 2) hk
 obtain ⟨rfl,rfl⟩:b=b'∧o=o':=by simpa using ha
 have hm:=mcells_at l (j / 2) hk
 rcases Nat.mod_two_eq_zero_or_one j with h2 | h2
 ·have ej:j / 2 * 2=j:=by omega
  rw [ej] at hm c0
  rw [hj] at hm
  rw [c0]
  exact hm.1.symm
 ·have ej:j / 2 * 2 + 1=j:=by omega
  have ej':o + j / 2 * 2 + 1=o + j:=by omega
  rw [ej] at hm
  rw [ej'] at c1
  rw [hj] at hm
  rw [c1]
  exact hm.2.symm
theorem wpList_append_copy {ops:Array Oper} {rest:List Oper} {o:Oper} {a:Act} {w:World} {Q:Exit->Act->World->Prop} (hgd:o.guard=none) (s x:Operand)
  (ho:o.op=.call { callee:=.builtin .append,args:=#[s,x],argTypes:=#[34,34] }) (base e0 b off cap:Nat) (l:List (ByteArray×Int)) (hs:a.eval s=.slice (some ⟨e0,0,none⟩) 0 0) (he:w.heap[e0]?=some (.cells #[] 144 (0,0))) (hb:base<=e0)
  (hx:a.eval x=.slice (some ⟨b,off,none⟩) l.length cap) (hr:Row w (some ⟨b,off,none⟩) l) (hl0:0 < l.length) (hl:l.length<=1048576)
  (h:∀ g' cap' w',Gath w' base (.slice (some ⟨g',0,none⟩) l.length cap') l->w.grownBy w' (some e0)->wpList Tryz.prog ops Q rest (a.put o.dst (.slice (some ⟨g',0,none⟩) l.length cap')) w'):wpList Tryz.prog ops Q (o :: rest) a w:=by
 obtain ⟨i0,hi,hz0,hz1,hz2⟩:=info_parts Tryz.infoM
 have hlt:e0 < w.heap.size:=(Array.getElem?_eq_some_iff.1 he).1
 have hown:w.ownsRow base 144 2 (.slice (some ⟨e0,0,none⟩) 0 0) 0 []:=⟨rfl,.inr ⟨e0,0,#[],rfl,hb,he,Nat.le_refl _,Nat.zero_le _,rfl,rfl⟩⟩
 refine wpList_append_lies w hgd s x 34 ho base 144 i0 (.agg #[.string .empty,.int .i64 0]) 2 24 Tryz.underlying34 hi hz0 hz1 hz2 rfl (by decide) _ _ _ hs hown ⟨b,off,none⟩ l.length cap (mcells l) hx (mcells_length l) (row_news hr) (mcells_cell1 l) hl0 (by unfold maxLen;omega) (by omega) (Nat.le_trans hb (Nat.le_of_lt hlt)) _ rfl ?_
 intro g' cap' w' h1 h2 _ _
 simp only [Nat.zero_add,List.nil_append] at h1 ⊢
 exact h g' cap' w' h1 h2
theorem gath_own {w:World} {B g cap:Nat} {l:List (ByteArray×Int)} (h:Gath w B (.slice (some ⟨g,0,none⟩) l.length cap) l):B<=g∧l.length<=cap∧Own w g l:=by
 rcases h.form with ⟨hv,_⟩ | ⟨g',cap',hv,hB,ho⟩
 ·simp at hv
 ·obtain ⟨⟨rfl⟩,rfl⟩:g=g'∧cap=cap':=by simpa using hv
  refine ⟨hB, ?_,ho⟩
  rcases h.2 with ⟨hv,_⟩ | ⟨g2,cap2,cur,hv,_,_,hn,_⟩
  ·simp at hv
  ·have:cap=cap2:=by simp at hv;exact hv.2
   omega
theorem Own.grown {w w':World} {b:Nat} {row:Option Nat} {l:List (ByteArray×Int)} (h:Own w b l) (hg:w.grownBy w' row) (hne:some b≠row):Own w' b l:=by
 have hlt:=h.lt
 obtain ⟨m,f,h,hf⟩:=h
 exact ⟨m,f,h.of_block (hg.block b hlt hne),hf⟩
def icells:List (ItemL×Nat×Nat)->List Value
 | []=>[]
 | p :: r=>.int .i64 p.1.1 :: .slice (some ⟨p.2.1,0,none⟩) p.1.2.length p.2.2 :: icells r
theorem icells_append:∀ L r,icells (L ++ r)=icells L ++ icells r
 | [],_=>rfl
 | p :: L,r=>by simp [icells,icells_append L r]
theorem icells_at:∀ (L:List (ItemL×Nat×Nat)) (k:Nat) (h:k < L.length),(icells L)[k * 2]?=some (.int .i64 L[k].1.1)∧(icells L)[k * 2 + 1]?=some (.slice (some ⟨L[k].2.1,0,none⟩) L[k].1.2.length L[k].2.2)
 | p :: r,0,_=>by simp [icells]
 | p :: r,k + 1,h=>by
  have:=icells_at r k (by simpa using h)
  have e0:(k + 1) * 2=k * 2 + 1 + 1:=by omega
  rw [e0]
  simp only [icells,List.getElem?_cons_succ,List.getElem_cons_succ]
  exact this
def GathI (w:World) (B:Nat) (v:Value) (l:List ItemL):Prop:=
 ∃ L:List (ItemL×Nat×Nat),L.map (·.1)=l∧w.ownsRow B 44 2 v L.length (icells L)∧(∀ p∈L,p.1.2.length<=p.2.2∧Own w p.2.1 p.1.2∧B<=p.2.1)∧L.Pairwise fun p q=>p.2.1≠q.2.1
theorem gathI_none (w:World) (B:Nat):GathI w B (.slice none 0 0) []:=⟨[],rfl,World.ownsRow_nil _ _ _ _,by simp,List.Pairwise.nil⟩
theorem items_no_marks {w:World} {B n b:Nat} {v:Value} {xs:List Value} {l:List (ByteArray×Int)} (h:w.ownsRow B 44 2 v n xs) (ho:Own w b l):some b≠v.ownBlock:=by
 intro e
 obtain ⟨m,f,⟨cs,h1,_⟩,_⟩:=ho
 rcases h.2 with ⟨rfl,_⟩ | ⟨g,cap,cur,rfl,_,hh,_⟩
 ·simp [Value.ownBlock] at e
 ·obtain rfl:b=g:=by simpa [Value.ownBlock] using e
  rw [h1] at hh
  simp at hh
theorem GathI.len {w:World} {B:Nat} {v:Value} {l:List ItemL} (h:GathI w B v l):∃ a cap,v=.slice a l.length cap∧l.length<=cap:=by
 obtain ⟨L,rfl,ho,_⟩:=h
 rcases ho.2 with ⟨rfl,h0⟩ | ⟨g,cap,cur,rfl,_,_,hn,_⟩
 ·exact ⟨_,0,by rw [List.length_map,h0],by rw [List.length_map,h0];exact Nat.le_refl _⟩
 ·exact ⟨_,cap,by rw [List.length_map],by rw [List.length_map];exact hn⟩
theorem GathI.keep {w w':World} {B:Nat} {v:Value} {l:List ItemL} (h:GathI w B v l) (hb:Below w.heap.size w w'):GathI w' B v l:=by
 obtain ⟨L,e,⟨hl,ho⟩,hm,hd⟩:=h
 refine ⟨L,e,⟨hl, ?_⟩,fun p hp=>⟨(hm p hp).1,(hm p hp).2.1.below hb,(hm p hp).2.2⟩,hd⟩
 rcases ho with h | ⟨g,cap,cur,hv,hg,hh,r⟩
 ·exact .inl h
 ·refine .inr ⟨g,cap,cur,hv,hg, ?_,r⟩
  rw [hb.block g (Array.getElem?_eq_some_iff.1 hh).1]
  exact hh
theorem GathI.lower {w:World} {B B':Nat} {v:Value} {l:List ItemL} (h:GathI w B v l) (hB:B'<=B):GathI w B' v l:=by
 obtain ⟨L,e,⟨hl,ho⟩,hm,hd⟩:=h
 refine ⟨L,e,⟨hl, ?_⟩,fun p hp=>⟨(hm p hp).1,(hm p hp).2.1,Nat.le_trans hB (hm p hp).2.2⟩,hd⟩
 rcases ho with h | ⟨g,cap,cur,hv,hg,r⟩
 ·exact .inl h
 ·exact .inr ⟨g,cap,cur,hv,Nat.le_trans hB hg,r⟩
theorem GathI.snoc {w w':World} {B gm c:Nat} {v v':Value} {L:List (ItemL×Nat×Nat)} {x:Int} {m:List (ByteArray×Int)}
  (ho:w.ownsRow B 44 2 v L.length (icells L)) (hm:∀ p∈L,p.1.2.length<=p.2.2∧Own w p.2.1 p.1.2∧B<=p.2.1) (hd:L.Pairwise fun p q=>p.2.1≠q.2.1)
  (hg:Own w gm m) (hB:B<=gm) (hc:m.length<=c) (hn:∀ p∈L,p.2.1≠gm)
  (h':w'.ownsRow B 44 2 v' (L.length + 1) (icells L ++ [.int .i64 x,.slice (some ⟨gm,0,none⟩) m.length c])) (hgr:w.grownBy w' v.ownBlock):GathI w' B v' (L.map (·.1) ++ [(x,m)]):=by
 refine ⟨L ++ [((x,m),gm,c)],by simp, ?_,fun p hp=>?_, ?_⟩
 ·rw [icells_append,List.length_append]
  exact h'
 ·rcases List.mem_append.1 hp with hp | hp
  ·obtain ⟨h1,h2,h3⟩:=hm p hp
   exact ⟨h1,h2.grown hgr (items_no_marks ho h2),h3⟩
  ·obtain rfl:p=((x,m),gm,c):=by simpa using hp
   exact ⟨hc,hg.grown hgr (items_no_marks ho hg),hB⟩
 ·rw [List.pairwise_append]
  refine ⟨hd,List.pairwise_singleton _ _,fun p hp q hq=>?_⟩
  obtain rfl:q=((x,m),gm,c):=by simpa using hq
  exact hn p hp
theorem GathI.grown {W w w':World} {B:Nat} {v:Value} {n:Nat} {xs:List Value} (h:w.ownsRow B 44 2 v n xs) (hb:Below B W w) (hB:B<=w.heap.size) (hg:w.grownBy w' v.ownBlock):Below B W w':=
 hb.grown hg hB (fun k e=>by
  rcases h.2 with ⟨rfl,_⟩ | ⟨g,cap,cur,rfl,hle,_⟩
  ·cases e
  ·simp [Value.ownBlock] at e;omega)
def SafeI (w:World) (lo hi:Nat) (a:Option Addr) (l:List ItemL):Prop:=
 l=[]∨∃ g,a=some ⟨g,0,none⟩∧lo<=g∧g < hi∧PartI w lo hi g l l.length
theorem SafeI.row {w:World} {lo hi:Nat} {a:Option Addr} {l:List ItemL} (h:SafeI w lo hi a l):RowI w a l:=by
 rcases h with rfl | ⟨g,rfl,_,_,hp⟩
 ·exact fun k hk=>absurd hk (Nat.not_lt_zero k)
 ·exact hp.row
theorem SafeI.below {w w':World} {lo hi:Nat} {a:Option Addr} {l:List ItemL} (h:SafeI w lo hi a l) (hb:Below w.heap.size w w'):SafeI w' lo hi a l:=by
 rcases h with rfl | ⟨g,rfl,h1,h2,hp⟩
 ·exact .inl rfl
 ·exact .inr ⟨g,rfl,h1,h2,hp.below hb⟩
theorem PartI.span {w w':World} {lo hi lo' hi' g k:Nat} {l:List ItemL} (h:PartI w lo hi g l k) (h1:lo<=g) (h2:g < hi) (hs:Span lo' hi' w w') (hd:hi<=lo'∨hi'<=lo):PartI w' lo hi g l k:=by
 have hlt:=h.lt
 obtain ⟨G,C,m,f,h,hm,hf,hp⟩:=h
 refine ⟨G,C,m,f,h.of_block (hs.block g hlt (by omega)),hm,fun j hj hk=>?_,hp⟩
 obtain ⟨e1,e2,e3,e4,e5,e6,e7⟩:=hf j hj hk
 have hl4:=e4.lt
 obtain ⟨m',f',h',hf'⟩:=e4
 exact ⟨e1,e2,e3,⟨m',f',h'.of_block (hs.block (G j) hl4 (by omega)),hf'⟩,e5,e6,e7⟩
theorem SafeI.span {w w':World} {lo hi lo' hi':Nat} {a:Option Addr} {l:List ItemL} (h:SafeI w lo hi a l) (hs:Span lo' hi' w w') (hd:hi<=lo'∨hi'<=lo):SafeI w' lo hi a l:=by
 rcases h with rfl | ⟨g,rfl,h1,h2,hp⟩
 ·exact .inl rfl
 ·exact .inr ⟨g,rfl,h1,h2,hp.span h1 h2 hs hd⟩
theorem GathI.safe {w:World} {B:Nat} {v:Value} {l:List ItemL} (h:GathI w B v l):∃ a cap,v=.slice a l.length cap∧l.length<=cap∧SafeI w B w.heap.size a l:=by
 obtain ⟨L,rfl,ho,hm,hd⟩:=h
 have hno:∀ p∈L,some p.2.1≠v.ownBlock:=fun p hp=>items_no_marks ho (hm p hp).2.1
 rcases ho.2 with ⟨rfl,h0⟩ | ⟨g,cap,cur,rfl,hBg,hh,hn,hcm,hcs,htk⟩
 ·obtain rfl:L=[]:=List.length_eq_zero_iff.1 h0
  exact ⟨_,_,rfl,Nat.le_refl _,.inl rfl⟩
 ·have hgl:g < w.heap.size:=(Array.getElem?_eq_some_iff.1 hh).1
  refine ⟨_,cap,by rw [List.length_map],by rw [List.length_map];exact hn,.inr ⟨g,rfl,hBg,hgl,fun j=>((L[j]?).map (·.2.1)).getD 0,fun j=>((L[j]?).map (·.2.2)).getD 0,cap * 2,fun i=>(cur[i]?).getD undef,⟨cur,hh,hcs,fun i hi=>?_⟩,by rw [List.length_map];omega,fun j hj _=>?_,fun i j hi hj hne=>?_⟩⟩
  ·have hi':i < cur.size:=by omega
   simp [Array.getElem?_eq_getElem hi']
  ·rw [List.length_map] at hj
   have hL:L[j]?=some L[j]:=List.getElem?_eq_getElem hj
   have hp:=hm _ (List.getElem_mem hj)
   have h2:=icells_at L j hj
   rw [<- htk] at h2
   rw [List.getElem?_take_of_lt (by omega),List.getElem?_take_of_lt (by omega)] at h2
   simp only [Array.getElem?_toList] at h2
   simp only [h2.1,h2.2,hL,List.getElem_map,Option.map_some,Option.getD_some]
   refine ⟨trivial,trivial,hp.1,hp.2.1,hp.2.2,hp.2.1.lt,fun e=>?_⟩
   exact hno _ (List.getElem_mem hj) (by rw [e];rfl)
  ·rw [List.length_map] at hi hj
   have hLi:L[i]?=some L[i]:=List.getElem?_eq_getElem hi
   have hLj:L[j]?=some L[j]:=List.getElem?_eq_getElem hj
   simp only [hLi,hLj,Option.map_some,Option.getD_some]
   rw [List.pairwise_iff_getElem] at hd
   rcases Nat.lt_or_gt_of_ne hne with h | h
   ·exact hd i j hi hj h
   ·exact Ne.symm (hd j i hj hi h)
def Small1 (l:List ItemL):Prop:=l.length<=1048576∧∀ j,(h:j < l.length)->l[j].2.length<=1048576
theorem wp_append_item {o:Oper} {a:Act} {w:World} {K:Act->World->Prop} {Q:Exit->Act->World->Prop} (s x:Operand)
  (ho:o.op=.call { callee:=.builtin .append,args:=#[s,x],argTypes:=#[78,78] }) (w0:World) (base:Nat) (v:Value) (l:List ItemL) (hs:a.eval s=v) (hg:GathI w0 base v l) (hb:Below w0.heap.size w0 w) (hbase:base<=w0.heap.size)
  (ad:Nat) (xv:Int) (m:List (ByteArray×Int)) (gm c:Nat) (hx:a.eval x=.slice (some ⟨ad,0,none⟩) 1 1) (c0:w.cell? ⟨ad,0,none⟩=some (.int .i64 xv)) (c1:w.cell? ⟨ad,1,none⟩=some (.slice (some ⟨gm,0,none⟩) m.length c))
  (hm:Own w gm m) (hgm:w0.heap.size<=gm) (hc:m.length<=c) (hl:l.length<=1048576)
  (h:∀ v' w',GathI w' base v' (l ++ [(xv,m)])->Below base w w'->K (a.put o.dst v') w'):o.wp Tryz.prog a w K Q:=by
 obtain ⟨i0,hi,hz0,hz1,hz2⟩:=info_parts Tryz.infoI
 obtain ⟨L,rfl,hown,hmk,hd⟩:=hg
 have hown':w.ownsRow base 44 2 v L.length (icells L):=by
  obtain ⟨hl,ho⟩:=hown
  refine ⟨hl, ?_⟩
  rcases ho with h | ⟨g,cap,cur,hv,hg,hh,r⟩
  ·exact .inl h
  ·refine .inr ⟨g,cap,cur,hv,hg, ?_,r⟩
   rw [hb.block g (Array.getElem?_eq_some_iff.1 hh).1]
   exact hh
 have hmk':∀ p∈L,p.1.2.length<=p.2.2∧Own w p.2.1 p.1.2∧base<=p.2.1:=fun p hp=>⟨(hmk p hp).1,(hmk p hp).2.1.below hb,(hmk p hp).2.2⟩
 have hnew:∀ p∈L,p.2.1≠gm:=fun p hp=>by have:=(hmk p hp).2.1.lt;omega
 have hz:=hb.size
 rw [List.length_map] at hl
 obtain ⟨g,cap,w',hr,h2,h3,_,_⟩:=run_append_lies (P:=Tryz.prog) w 78 o.type base 44 i0 (.agg #[.int .i64 0,.slice none 0 0]) 2 32 Tryz.underlying78 hi hz0 hz1 hz2 rfl (by decide) _ _ _ hown' ⟨ad,0,none⟩ 1 1 [.int .i64 xv,.slice (some ⟨gm,0,none⟩) m.length c] rfl (by
   intro j u hj
   match j,hj with
   | 0,hj=>simp at hj;subst hj;exact c0
   | 1,hj=>simp at hj;subst hj;exact c1) (by simp [Value.oneCell']) (by decide) (by unfold maxLen;omega) (by omega) (by omega) _ rfl
 unfold Oper.wp execOp
 simp only [ho,resolve,invoke,builtin,Sem.run_bind,Sem.run_pure,Result.andThen_ok,List.map_toArray,List.map_cons,List.map_nil,hs,hx,hr]
 exact h _ w' (GathI.snoc hown' hmk' hd hm (Nat.le_trans hbase hgm) hc hnew h2 h3) (GathI.grown hown' (Below.refl _ _) (Nat.le_trans hbase hz) h3)
theorem wpList_append_item {ops:Array Oper} {rest:List Oper} {o:Oper} {a:Act} {w:World} {Q:Exit->Act->World->Prop} (hgd:o.guard=none) (s x:Operand)
  (ho:o.op=.call { callee:=.builtin .append,args:=#[s,x],argTypes:=#[78,78] }) (w0:World) (base:Nat) (v:Value) (l:List ItemL) (hs:a.eval s=v) (hg:GathI w0 base v l) (hb:Below w0.heap.size w0 w) (hbase:base<=w0.heap.size)
  (ad:Nat) (xv:Int) (m:List (ByteArray×Int)) (gm c:Nat) (hx:a.eval x=.slice (some ⟨ad,0,none⟩) 1 1) (c0:w.cell? ⟨ad,0,none⟩=some (.int .i64 xv)) (c1:w.cell? ⟨ad,1,none⟩=some (.slice (some ⟨gm,0,none⟩) m.length c))
  (hm:Own w gm m) (hgm:w0.heap.size<=gm) (hc:m.length<=c) (hl:l.length<=1048576)
  (h:∀ v' w',GathI w' base v' (l ++ [(xv,m)])->Below base w w'->wpList Tryz.prog ops Q rest (a.put o.dst v') w'):wpList Tryz.prog ops Q (o :: rest) a w:=
 wpList_plain hgd fun _ hK=>wp_append_item s x ho w0 base v l hs hg hb hbase ad xv m gm c hx c0 c1 hm hgm hc hl fun v' w' h1 h2=>hK _ _ (h v' w' h1 h2)
end Go.Proofs.YtpfhegengmlkmacGreatDoor
