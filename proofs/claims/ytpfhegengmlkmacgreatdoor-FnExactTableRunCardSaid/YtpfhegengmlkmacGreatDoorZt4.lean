/- Texts of this claim. -/
import Derived.Deep.AppendLies
import Derived.Lib.Strings
import Derived.Lib.Walk
import Derived.Lib.BufferWrite
import Derived.Lib.UnsafeStr
import Derived.Laws.MakeOwn
import Derived.Test.YtpfhegengmlkmacGreatDoorZt3
namespace Go.Proofs.YtpfhegengmlkmacGreatDoor
open Go.RowKit Go.BigFrame
def AgreeP (a b:List (ByteArray×Int)):Prop:=StampP a∧StampP b∧∀ i,(h:i < a.length)->getM b a[i].1=0∨getM b a[i].1=a[i].2
def BelowP (a b:List (ByteArray×Int)):Prop:=∀ i,(h:i < a.length)->a[i].2<=getM b a[i].1
theorem ag_step {a b:List (ByteArray×Int)} {k:Nat} (H:∀ i,(h:i < a.length)->i < k->getM b a[i].1=0∨getM b a[i].1=a[i].2) (hk:k < a.length) (h:getM b a[k].1=0∨getM b a[k].1=a[k].2):∀ i,(h:i < a.length)->i < k + 1->getM b a[i].1=0∨getM b a[i].1=a[i].2:=fun i hi hlt=>by
 by_cases e:i=k
 ·subst e;exact h
 ·exact H i hi (by omega)
theorem be_step {a b:List (ByteArray×Int)} {k:Nat} (H:∀ i,(h:i < a.length)->i < k->a[i].2<=getM b a[i].1) (hk:k < a.length) (h:a[k].2<=getM b a[k].1):∀ i,(h:i < a.length)->i < k + 1->a[i].2<=getM b a[i].1:=fun i hi hlt=>by
 by_cases e:i=k
 ·subst e;exact h
 ·exact H i hi (by omega)
set_option maxHeartbeats 800000 in
theorem l1Below_any (aa ab:Option Addr) (ca cb:Nat) (la lb:List (ByteArray×Int)) (w:World) (hla:la.length<=maxLen) (hlb:lb.length<=maxLen) (ha:Row w aa la) (hb:Row w ab lb) :
  Calls Tryz.prog 86 #[.slice aa la.length ca,.slice ab lb.length cb] w fun e w'=>IsB (BelowP la lb) e∧Below w.heap.size w w':=by
 have hl:=hla
 unfold maxLen at hl
 go_enter Tryz.func86,Tryz.ntmps86
 go_wp2_with fail
 go_loopw [5] (fun i wr=>∃ k:Nat,k<=la.length∧i=.int .i64 k∧(∀ i,(h:i < la.length)->i < k->la[i].2<=getM lb la[i].1)∧Below w.heap.size w wr) (fun i _=>la.length - (intOf i).toNat)
 case atStart=>exact ⟨0,Nat.zero_le _,rfl,fun j _ h=>by omega,Below.refl _ _⟩
 case round=>
  obtain ⟨k,hk,rfl,hall,hbl⟩:=hrel
  by_cases hlt:k < la.length
  ·obtain ⟨b,o,rfl,hblt,c0,c1⟩:=ha k hlt
   have HST:=be_step hall hlt
   have e0:=cell_on hbl hblt c0
   have e1:=cell_on hbl hblt c1
   have g1:b < wr.heap.size:=Nat.lt_of_lt_of_le hblt hbl.size
   have HRB:Hid (∀ n:Lat wr,Row n.w ab lb):=fun n=>(hb.below hbl).below n.h
   by_cases hc:getM lb la[k].1 < la[k].2
   ·go_wp2_with fail
    refine wp_region_lat (by kernel_rfl) (by kernel_rfl) ?_
    have hne:=Lat.some wr
    have q0:∀ n:Lat wr,n.w.cell? ⟨b,o + k * 2,none⟩=some (.string la[k].1):=fun n=>n.cell g1 e0
    have q1:∀ n:Lat wr,n.w.cell? ⟨b,o + k * 2 + 1,none⟩=some (.int .i64 la[k].2):=fun n=>n.cell g1 e1
    repeat (go_big_quiet_step ((go_at_call 124;exact Calls.lat_same (l1Get_any _ _ lb _ _ hlb (HRB.out _)))))
    refine wpQuiet_nil ?_
    rintro _ ⟨nq,rfl⟩
    go_wp2_with fail
    go_ret
    exact ⟨isB_false (fun h=>by have:=h k hlt;omega),hbl.trans (nq.h.mono hbl.size)⟩
   ·have HN:=HST (by omega)
    clear HST hall
    go_wp2_with fail
    refine wp_region_lat (by kernel_rfl) (by kernel_rfl) ?_
    have hne:=Lat.some wr
    have q0:∀ n:Lat wr,n.w.cell? ⟨b,o + k * 2,none⟩=some (.string la[k].1):=fun n=>n.cell g1 e0
    have q1:∀ n:Lat wr,n.w.cell? ⟨b,o + k * 2 + 1,none⟩=some (.int .i64 la[k].2):=fun n=>n.cell g1 e1
    repeat (go_big_quiet_step ((go_at_call 124;exact Calls.lat_same (l1Get_any _ _ lb _ _ hlb (HRB.out _)))))
    refine wpQuiet_nil ?_
    rintro _ ⟨nq,rfl⟩
    go_wp2_with fail
    exact ⟨⟨k + 1,by omega,by go_num,HN,hbl.trans (nq.h.mono hbl.size)⟩,by simp [intOf];omega⟩
  ·go_wp2_with fail
   go_ret
   exact ⟨isB_true (fun i hi=>hall i hi (by omega)),hbl⟩
set_option maxHeartbeats 800000 in
theorem specAgree_any (aa ab:Option Addr) (ca cb:Nat) (la lb:List (ByteArray×Int)) (w:World) (hla:la.length<=maxLen) (hlb:lb.length<=maxLen) (ha:Row w aa la) (hb:Row w ab lb)
  (hsa:∀ j,(h:j < la.length)->la[j].1.size<=maxLen) (hsb:∀ j,(h:j < lb.length)->lb[j].1.size<=maxLen) :
  Calls Tryz.prog 165 #[.slice aa la.length ca,.slice ab lb.length cb] w fun e w'=>IsB (AgreeP la lb) e∧Below w.heap.size w w':=by
 have hl:=hla
 unfold maxLen at hl
 go_enter Tryz.func165,Tryz.ntmps165
 go_wp2_with fail
 refine (specOk_b aa ca la _ hla ha hsa).mono ?_
 rintro e w1 ⟨⟨r,rfl,hr1⟩,hb1⟩
 cases r
 ·have hn:¬ StampP la:=fun h=>by simpa using hr1.2 h
  clear hr1
  go_wp2_with fail
  go_ret
  exact ⟨isB_false (fun h=>hn h.1),hb1⟩
 have hya:StampP la:=hr1.1 rfl
 clear hr1
 go_wp2_with fail
 refine (specOk_b ab cb lb _ hlb (hb.below hb1) hsb).mono ?_
 rintro e w2 ⟨⟨r,rfl,hr2⟩,hb2⟩
 have hb12:Below w.heap.size w w2:=hb1.trans (hb2.mono hb1.size)
 cases r
 ·have hn:¬ StampP lb:=fun h=>by simpa using hr2.2 h
  clear hr2
  go_wp2_with fail
  go_ret
  exact ⟨isB_false (fun h=>hn h.2.1),hb12⟩
 have hyb:StampP lb:=hr2.1 rfl
 clear hr2
 have hra:=ha.below hb12
 have hrb:=hb.below hb12
 clear ha hb
 go_wp2_with fail
 go_loop [5] (fun i=>∃ k:Nat,k<=la.length∧i=.int .i64 k∧(∀ i,(h:i < la.length)->i < k->getM lb la[i].1=0∨getM lb la[i].1=la[i].2)) (fun i=>la.length - (intOf i).toNat)
 case atStart=>exact ⟨0,Nat.zero_le _,rfl,fun j _ h=>by omega⟩
 case round=>
  obtain ⟨k,hk,rfl,hall⟩:=hrel
  by_cases hlt:k < la.length
  ·obtain ⟨b,o,rfl,hblt,c0,c1⟩:=hra k hlt
   have HST:=ag_step hall hlt
   by_cases e0:getM lb la[k].1=0
   ·have HN:=HST (.inl e0)
    have g0:(getM lb la[k].1 != 0)=false:=by simp [e0]
    clear HST hall e0
    go_wp2_with (go_at_call 124;refine (l1Get_any _ _ lb _ _ hlb hrb).mono ?_;rintro e w3 ⟨rfl,rfl⟩)
    exact ⟨⟨k + 1,by omega,by go_num,HN⟩,by simp [intOf];omega⟩
   ·have g0:(getM lb la[k].1 != 0)=true:=by simp [e0]
    by_cases e1:getM lb la[k].1=la[k].2
    ·have HN:=HST (.inr e1)
     have g1:(getM lb la[k].1 != la[k].2)=false:=by simp [e1]
     clear HST hall e0 e1
     go_wp2_with (go_at_call 124;refine (l1Get_any _ _ lb _ _ hlb hrb).mono ?_;rintro e w3 ⟨rfl,rfl⟩)
     exact ⟨⟨k + 1,by omega,by go_num,HN⟩,by simp [intOf];omega⟩
    ·have g1:(getM lb la[k].1 != la[k].2)=true:=by simp [e1]
     have HE:Hid (¬ getM lb la[k].1=0∧¬ getM lb la[k].1=la[k].2):=⟨e0,e1⟩
     clear HST hall e0 e1
     go_wp2_with (go_at_call 124;refine (l1Get_any _ _ lb _ _ hlb hrb).mono ?_;rintro e w3 ⟨rfl,rfl⟩)
     go_ret
     exact ⟨isB_false (fun h=>(h.2.2 k hlt).elim HE.out.1 HE.out.2),hb12⟩
  ·go_wp2_with fail
   go_ret
   exact ⟨isB_true ⟨hya,hyb,fun i hi=>hall i hi (by omega)⟩,hb12⟩
def IsOrd (a b:List (ByteArray×Int)) (v:Int):Prop:=
 (¬ (StampP a∧StampP b)∧v=4)∨(StampP a∧StampP b∧((BelowP a b∧BelowP b a∧v=0)∨(BelowP a b∧¬ BelowP b a∧v=1)∨(¬ BelowP a b∧BelowP b a∧v=2)∨(¬ BelowP a b∧¬ BelowP b a∧v=3)))
theorem IsOrd.one {a b:List (ByteArray×Int)} {u v:Int} (h:IsOrd a b u) (k:IsOrd a b v):u=v:=by
 rcases h with ⟨h1,h2⟩ | ⟨h1,h2,h3⟩
 ·rcases k with ⟨k1,k2⟩ | ⟨k1,k2,k3⟩
  ·rw [h2,k2]
  ·exact absurd ⟨k1,k2⟩ h1
 ·rcases k with ⟨k1,k2⟩ | ⟨k1,k2,k3⟩
  ·exact absurd ⟨h1,h2⟩ k1
  ·rcases h3 with ⟨p,q,e⟩ | ⟨p,q,e⟩ | ⟨p,q,e⟩ | ⟨p,q,e⟩ <;> rcases k3 with ⟨p',q',e'⟩ | ⟨p',q',e'⟩ | ⟨p',q',e'⟩ | ⟨p',q',e'⟩ <;> first | (rw [e,e'];done) | exact absurd p p' | exact absurd p' p | exact absurd q q' | exact absurd q' q
set_option maxHeartbeats 800000 in
theorem specOrder_any (aa ab:Option Addr) (ca cb:Nat) (la lb:List (ByteArray×Int)) (w:World) (hla:la.length<=maxLen) (hlb:lb.length<=maxLen) (ha:Row w aa la) (hb:Row w ab lb)
  (hsa:∀ j,(h:j < la.length)->la[j].1.size<=maxLen) (hsb:∀ j,(h:j < lb.length)->lb[j].1.size<=maxLen) :
  Calls Tryz.prog 46 #[.slice aa la.length ca,.slice ab lb.length cb] w fun e w'=>(∃ v,e=.returned (.int .i64 v)∧IsOrd la lb v)∧Below w.heap.size w w':=by
 go_enter Tryz.func46,Tryz.ntmps46
 go_wp2_with fail
 refine (specOk_b aa ca la _ hla ha hsa).mono ?_
 rintro e w1 ⟨⟨r,rfl,hr1⟩,hb1⟩
 cases r
 ·have hn:¬ StampP la:=fun h=>by simpa using hr1.2 h
  clear hr1
  go_wp2_with fail
  go_ret
  exact ⟨⟨4,rfl,.inl ⟨fun h=>hn h.1,rfl⟩⟩,hb1⟩
 have hya:StampP la:=hr1.1 rfl
 clear hr1
 go_wp2_with fail
 refine (specOk_b ab cb lb _ hlb (hb.below hb1) hsb).mono ?_
 rintro e w2 ⟨⟨r,rfl,hr2⟩,hb2⟩
 have hb12:Below w.heap.size w w2:=hb1.trans (hb2.mono hb1.size)
 cases r
 ·have hn:¬ StampP lb:=fun h=>by simpa using hr2.2 h
  clear hr2
  go_wp2_with fail
  go_ret
  exact ⟨⟨4,rfl,.inl ⟨fun h=>hn h.2,rfl⟩⟩,hb12⟩
 have hyb:StampP lb:=hr2.1 rfl
 clear hr2
 go_wp2_with fail
 refine (l1Below_any aa ab ca cb la lb _ hla hlb (ha.below hb12) (hb.below hb12)).mono ?_
 rintro e w3 ⟨⟨r3,rfl,hr3⟩,hb3⟩
 have hb13:Below w.heap.size w w3:=hb12.trans (hb3.mono hb12.size)
 have HR3:Hid (r3=true↔BelowP la lb):=hr3
 clear hr3
 go_wp2_with fail
 refine (l1Below_any ab aa cb ca lb la _ hlb hla (hb.below hb13) (ha.below hb13)).mono ?_
 rintro e w4 ⟨⟨r4,rfl,hr4⟩,hb4⟩
 have hb14:Below w.heap.size w w4:=hb13.trans (hb4.mono hb13.size)
 have h3:=HR3.out
 cases r3 <;> cases r4 <;> simp at h3 hr4
 all_goals
  have H3:Hid _:=h3
  have H4:Hid _:=hr4
  clear h3 hr4 HR3
  go_wp2_with fail
  go_ret
 ·exact ⟨⟨3,rfl,.inr ⟨hya,hyb,.inr (.inr (.inr ⟨H3.out,H4.out,rfl⟩))⟩⟩,hb14⟩
 ·exact ⟨⟨2,rfl,.inr ⟨hya,hyb,.inr (.inr (.inl ⟨H3.out,H4.out,rfl⟩))⟩⟩,hb14⟩
 ·exact ⟨⟨1,rfl,.inr ⟨hya,hyb,.inr (.inl ⟨H3.out,H4.out,rfl⟩)⟩⟩,hb14⟩
 ·exact ⟨⟨0,rfl,.inr ⟨hya,hyb,.inl ⟨H3.out,H4.out,rfl⟩⟩⟩,hb14⟩
def RowS (w:World) (a:Option Addr) (l:List ByteArray):Prop:=
 ∀ k,(h:k < l.length)->∃ b o,a=some ⟨b,o,none⟩∧b < w.heap.size∧w.cell? ⟨b,o + k,none⟩=some (.string l[k])
theorem RowS.below {w w':World} {a:Option Addr} {l:List ByteArray} (h:RowS w a l) (hb:Below w.heap.size w w'):RowS w' a l:=fun k hk=>by
 obtain ⟨b,o,ha,hlt,h0⟩:=h k hk
 exact ⟨b,o,ha,Nat.lt_of_lt_of_le hlt hb.size,by rw [hb.cell hlt];exact h0⟩
def mcells:List (ByteArray×Int)->List Value
 | []=>[]
 | m :: r=>.string m.1 :: .int .i64 m.2 :: mcells r
theorem mcells_length:∀ l,(mcells l).length=l.length * 2
 | []=>rfl
 | m :: r=>by simp [mcells,mcells_length r];omega
theorem mcells_append:∀ l r,mcells (l ++ r)=mcells l ++ mcells r
 | [],_=>rfl
 | m :: l,r=>by simp [mcells,mcells_append l r]
theorem mcells_at:∀ (l:List (ByteArray×Int)) (k:Nat) (h:k < l.length),(mcells l)[k * 2]?=some (.string l[k].1)∧(mcells l)[k * 2 + 1]?=some (.int .i64 l[k].2)
 | m :: r,0,_=>by simp [mcells]
 | m :: r,k + 1,h=>by
  have:=mcells_at r k (by simpa using h)
  have e0:(k + 1) * 2=k * 2 + 1 + 1:=by omega
  have e1:(k + 1) * 2 + 1=k * 2 + 1 + 1 + 1:=by omega
  rw [e0]
  simp only [mcells,List.getElem?_cons_succ,List.getElem_cons_succ]
  exact this
def Gath (w:World) (B:Nat) (v:Value) (l:List (ByteArray×Int)):Prop:=w.ownsRow B 144 2 v l.length (mcells l)
theorem Gath.none (w:World) (B:Nat):Gath w B (.slice none 0 0) []:=World.ownsRow_nil _ _ _ _
theorem Gath.form {w:World} {B:Nat} {v:Value} {l:List (ByteArray×Int)} (h:Gath w B v l) :
  (v=.slice Option.none 0 0∧l=[])∨∃ g cap,v=.slice (some ⟨g,0,Option.none⟩) l.length cap∧B<=g∧Own w g l:=by
 obtain ⟨hl,h | ⟨g,cap,cur,hv,hg,hh,hn,hc,hs,ht⟩⟩:=h
 ·exact .inl ⟨h.1,List.length_eq_zero_iff.1 h.2⟩
 ·refine .inr ⟨g,cap,hv,hg,cap * 2,fun i=>(cur[i]?).getD undef, ?_,by omega,fun k hk=>?_⟩
  ·refine ⟨cur,hh,hs,fun i hi=>?_⟩
   have hi':i < cur.size:=by omega
   simp [Array.getElem?_eq_getElem hi']
  ·have h2:=mcells_at l k hk
   have hlen:=mcells_length l
   rw [<- ht] at h2
   rw [List.getElem?_take_of_lt (by omega),List.getElem?_take_of_lt (by omega)] at h2
   simp only [Array.getElem?_toList] at h2
   simp only [h2.1,h2.2]
   exact ⟨rfl,rfl⟩
theorem Gath.shape {w:World} {B:Nat} {v:Value} {l:List (ByteArray×Int)} (h:Gath w B v l):∃ a cap,v=.slice a l.length cap∧Row w a l:=by
 rcases h.form with ⟨hv,rfl⟩ | ⟨g,cap,hv,_,ho⟩
 ·exact ⟨_,_,hv,fun k hk=>absurd hk (Nat.not_lt_zero k)⟩
 ·exact ⟨_,_,hv,ho.row⟩
theorem Gath.keep {w w':World} {B:Nat} {v:Value} {l:List (ByteArray×Int)} (h:Gath w B v l) (hb:Below w.heap.size w w'):Gath w' B v l:=by
 obtain ⟨hl,h | ⟨g,cap,cur,hv,hg,hh,r⟩⟩:=h
 ·exact ⟨hl,.inl h⟩
 ·refine ⟨hl,.inr ⟨g,cap,cur,hv,hg, ?_,r⟩⟩
  rw [hb.block g ?_]
  ·exact hh
  ·rcases Nat.lt_or_ge g w.heap.size with hlt | hge
   ·exact hlt
   ·rw [Array.getElem?_eq_none hge] at hh;cases hh
theorem Gath.lower {w:World} {B B':Nat} {v:Value} {l:List (ByteArray×Int)} (h:Gath w B v l) (hB:B'<=B):Gath w B' v l:=by
 obtain ⟨hl,h | ⟨g,cap,cur,hv,hg,r⟩⟩:=h
 ·exact ⟨hl,.inl h⟩
 ·exact ⟨hl,.inr ⟨g,cap,cur,hv,Nat.le_trans hB hg,r⟩⟩
theorem Gath.snoc {w:World} {B:Nat} {v:Value} {l:List (ByteArray×Int)} {s:ByteArray} {x:Int} (h:w.ownsRow B 144 2 v (l.length + 1) (mcells l ++ [.string s,.int .i64 x])):Gath w B v (l ++ [(s,x)]):=by
 unfold Gath
 rw [mcells_append,List.length_append]
 exact h
theorem Gath.grown {W w w':World} {B:Nat} {v:Value} {l:List (ByteArray×Int)} (h:Gath w B v l) (hb:Below B W w) (hB:B<=w.heap.size) (hg:w.grownBy w' v.ownBlock):Below B W w':=
 hb.grown hg hB (fun k e=>by
  rcases h.form with ⟨rfl,_⟩ | ⟨g,cap,rfl,hle,_⟩
  ·cases e
  ·simp [Value.ownBlock] at e;omega)
theorem two_new (w:World) (x y:Value) (t:TypeId):∀ j u,[x,y][j]?=some u->(w.alloc (.cells #[x,y] t)).cell? ((⟨w.heap.size,0,none⟩:Addr).add j)=some u:=by
 intro j u hj
 match j,hj with
 | 0,hj=>simp at hj;subst hj;simp [Addr.add,go_sem]
 | 1,hj=>simp at hj;subst hj;simp [Addr.add,go_sem]
theorem Tryz.infoM:(Tryz.prog.info? 144).map (fun i=>(i.zero,i.size,i.bytes))=some (some (.agg #[.string .empty,.int .i64 0]),2,24):=by kernel_rfl
theorem Tryz.infoB:(Tryz.prog.info? 5).map (fun i=>(i.zero,i.size,i.bytes))=some (some (.int .u8 0),1,1):=by kernel_rfl
set_option maxRecDepth 100000 in
set_option maxHeartbeats 1000000 in
theorem clone_any (s:ByteArray) (w:World) (hlim:s.size<=281474976710656) :
  Calls Tryz.prog 172 #[.string s] w fun e w'=>e=.returned (.string s)∧Below w.heap.size w w':=by
 by_cases h0:s.size=0
 ·have hs:s=⟨#[]⟩:=by
   apply ByteArray.ext
   exact Array.eq_empty_of_size_eq_zero h0
  subst hs
  go_enter Tryz.func172,Tryz.ntmps172
  go_wp2
  go_ret
  exact ⟨rfl,Below.refl _ _⟩
 ·obtain ⟨i0,hi,hz0,hz1,hz2⟩:=info_parts Tryz.infoB
  have hinfo:(Tryz.prog.info? 5).map (·.size)=some 1:=by rw [hi];simp [hz1]
  have hco:Tryz.prog.cellsOf 5=1:=by simp [Program.cellsOf,hi,hz1]
  obtain ⟨M,hM⟩:∃ M,M=madeCells (Value.int .u8 0).cells (((s.size:Nat):Int).toNat * i0.size):=⟨_,rfl⟩
  have hMs:M.size=s.size:=by rw [hM,size_madeCells,hz1];simp
  have hmk:∀ W:World,(Instr.makeSlice 121 (.int .i64 (s.size:Int)) (.int .i64 (s.size:Int))).run Tryz.prog W=.ok (.slice (some ⟨W.heap.size,0,none⟩) s.size s.size) (W.alloc (.cells M 5)):=fun W=>by
   have h:=run_make (P:=Tryz.prog) W 121 5 i0 (.int .u8 0) Tryz.underlying121 hi hz0 .i64 .i64 (s.size:Int) (s.size:Int) (by omega) (by omega) (by rw [hz2];omega) (by omega)
   rw [<- hM] at h
   simpa using h
  clear hM
  have hcp:=Lib.run_copy_row_string (P:=Tryz.prog) (w.alloc (.cells M 5)) 121 9 3 5 w.heap.size 0 s.size s.size s M 5 Tryz.underlying121 hinfo (heap_alloc_new w _) (Nat.le_refl _) (by omega)
  obtain ⟨Y,hY⟩:∃ Y,Y=(M.toList.take 0 ++ Lib.byteCells s.data.toList ++ M.toList.drop (0 + s.size)).toArray:=⟨_,rfl⟩
  rw [<- hY] at hcp
  have hYl:Y.toList=Lib.byteCells s.data.toList:=by
   rw [hY,List.toList_toArray,List.take_zero,List.nil_append,List.drop_of_length_le (by rw [Array.length_toList];omega),List.append_nil]
  have hgY:((w.alloc (.cells M 5)).setRow w.heap.size Y).heap[w.heap.size]?=some (.cells Y 5 (0,0)):=setRow_heap _ _ M _ 5 (0,0) (heap_alloc_new w _)
  have hYs:Y.size=s.size:=by rw [<- Array.length_toList,hYl,Lib.byteCells_length,<- Lib.size_eq]
  have hne:s.data.toList≠[]:=fun e=>h0 (by rw [Lib.size_eq,e];rfl)
  have hUS:=Lib.run_unsafeString_row (P:=Tryz.prog) ((w.alloc (.cells M 5)).setRow w.heap.size Y) 183 3 9 5 Tryz.underlying183 hco w.heap.size Y.size (by unfold World.shape?;rw [hgY]) s.data.toList hne (by rw [<- Lib.size_eq];omega) (by rw [<- Lib.size_eq];omega)
   (fun j x hx=>Lib.cells_of_row hgY Y.size j _ (by rw [List.take_of_length_le (by rw [Array.length_toList];exact Nat.le_refl _),hYl];simp [Lib.byteCells,hx]))
  rw [<- Lib.size_eq] at hUS
  clear hY
  go_enter Tryz.func172,Tryz.ntmps172
  go_wp2
  go_ret
  have hb1:Below w.heap.size w (w.alloc (.cells M 5)):=(Below.refl _ w).alloc (Nat.le_refl _) _
  have hb2:Below w.heap.size (w.alloc (.cells M 5)) ((w.alloc (.cells M 5)).setRow w.heap.size Y):=⟨rfl,rfl,rfl,by simp,fun k hk=>setRow_other _ _ _ _ (by omega)⟩
  exact ⟨rfl,Lib.below_freeze (hb1.trans hb2) (p:=⟨w.heap.size,0,none⟩) (Nat.le_refl _) _⟩
set_option maxHeartbeats 400000 in
theorem strClone_any (s:ByteArray) (w:World) (hlim:s.size<=281474976710656) :
  Calls Tryz.prog 132 #[.string s] w fun e w'=>e=.returned (.string s)∧Below w.heap.size w w':=by
 go_enter Tryz.func132,Tryz.ntmps132
 go_wp2_with fail
 refine (clone_any s _ hlim).mono ?_
 rintro e w1 ⟨rfl,hb1⟩
 go_wp2_with fail
 go_ret
 exact ⟨rfl,hb1⟩
set_option maxHeartbeats 400000 in
theorem fresh_any (s:ByteArray) (v:Int) (w:World) (hlim:s.size<=281474976710656) :
  Calls Tryz.prog 145 #[.agg #[.string s,.int .i64 v]] w fun e w'=>e=.returned (.agg #[.string s,.int .i64 v])∧Below w.heap.size w w':=by
 go_enter Tryz.func145,Tryz.ntmps145
 go_wp2_with fail
 have hsz:((w.alloc (.cells #[.string s,.int .i64 v] 144)).alloc (.cells #[.string ⟨#[]⟩,.int .i64 0] 144)).heap.size=w.heap.size + 2:=by simp
 have c0:((w.alloc (.cells #[.string s,.int .i64 v] 144)).alloc (.cells #[.string ⟨#[]⟩,.int .i64 0] 144)).cell? ⟨w.heap.size,0,none⟩=some (.string s):=by simp [go_sem]
 have c1:((w.alloc (.cells #[.string s,.int .i64 v] 144)).alloc (.cells #[.string ⟨#[]⟩,.int .i64 0] 144)).cell? ⟨w.heap.size,1,none⟩=some (.int .i64 v):=by simp [go_sem]
 have d0:((w.alloc (.cells #[.string s,.int .i64 v] 144)).alloc (.cells #[.string ⟨#[]⟩,.int .i64 0] 144)).cell? ⟨w.heap.size + 1,0,none⟩=some (.string ⟨#[]⟩):=by simp [go_sem]
 have d1:((w.alloc (.cells #[.string s,.int .i64 v] 144)).alloc (.cells #[.string ⟨#[]⟩,.int .i64 0] 144)).cell? ⟨w.heap.size + 1,1,none⟩=some (.int .i64 0):=by simp [go_sem]
 have f0:((w.alloc (.cells #[.string s,.int .i64 v] 144)).alloc (.cells #[.string ⟨#[]⟩,.int .i64 0] 144)).frozen? ⟨w.heap.size + 1,0,none⟩=false:=by simp [go_sem]
 have f1:((w.alloc (.cells #[.string s,.int .i64 v] 144)).alloc (.cells #[.string ⟨#[]⟩,.int .i64 0] 144)).frozen? ⟨w.heap.size + 1,1,none⟩=false:=by simp [go_sem]
 have hbel:Below w.heap.size w ((w.alloc (.cells #[.string s,.int .i64 v] 144)).alloc (.cells #[.string ⟨#[]⟩,.int .i64 0] 144)):=((Below.refl _ _).alloc (Nat.le_refl _) _).alloc (by simp) _
 generalize ((w.alloc (.cells #[.string s,.int .i64 v] 144)).alloc (.cells #[.string ⟨#[]⟩,.int .i64 0] 144))=W at *
 have g0:w.heap.size < W.heap.size:=by omega
 have g1:w.heap.size + 1 < W.heap.size:=by omega
 clear hsz
 go_region_held3 (fun w'=>w'.cell? ⟨w.heap.size,0,none⟩=some (.string s)∧w'.cell? ⟨w.heap.size,1,none⟩=some (.int .i64 v)) (first | go_keep | exact ⟨q0,q1⟩)
  (first | (go_at_call 132;refine (strClone_any _ _ hlim).mono ?_;rintro e w1 ⟨rfl,hb1⟩;have q0:=cell_on hb1 g0 c0;have q1:=cell_on hb1 g0 c1;have q2:=cell_on hb1 g1 d0;have q3:=cell_on hb1 g1 d1;have q4:=(hb1.frozen (p:=⟨w.heap.size + 1,0,none⟩) g1).trans f0;have q5:=(hb1.frozen (p:=⟨w.heap.size + 1,1,none⟩) g1).trans f1))
 go_wp2_with fail
 have hb2:Below w.heap.size w w1:=hbel.trans ⟨hb1.os,hb1.tape,hb1.output,hb1.size,fun k hk=>hb1.block k (by show k < W.heap.size;omega)⟩
 exact bodyPost_ret (v:=.agg #[.string s,.int .i64 v]) (by simp [results,Tryz.results145,go_sem,q2,q3]) rfl ⟨rfl,(hb2.setCell (Nat.le_succ _) _).setCell (Nat.le_succ _) _⟩
def amongB (names:List ByteArray) (s:ByteArray):Bool:=names.any fun x=>decide (x=s)
theorem among_iff {names:List ByteArray} {s:ByteArray}:amongB names s=true↔∃ j,∃ h:j < names.length,names[j]=s:=by
 unfold amongB
 simp only [List.any_eq_true,decide_eq_true_eq]
 constructor
 ·rintro ⟨x,hx,rfl⟩
  obtain ⟨j,hj,rfl⟩:=List.mem_iff_getElem.1 hx
  exact ⟨j,hj,rfl⟩
 ·rintro ⟨j,hj,rfl⟩
  exact ⟨_,List.getElem_mem hj,rfl⟩
def HasB (names:List ByteArray) (j:Nat) (x:ByteArray) (b:Bool):Prop:=b=true↔∃ q,∃ hq:q < names.length,q < j∧names[q]=x
theorem hasB_start (names:List ByteArray) (x:ByteArray):HasB names 0 x false:=⟨fun h=>(by cases h),fun ⟨q,_,h,_⟩=>by omega⟩
theorem hasB_no {names:List ByteArray} {j:Nat} {x:ByteArray} (h:HasB names j x false) {hj:j < names.length} (he:¬ names[j]=x):HasB names (j + 1) x false:=by
 refine ⟨fun h=>(by cases h), ?_⟩
 rintro ⟨q,hq,hlt,e⟩
 by_cases hqj:q=j
 ·subst hqj;exact absurd e he
 ·exact h.2 ⟨q,hq,by omega,e⟩
theorem hasB_all {names:List ByteArray} {j:Nat} {x:ByteArray} {b:Bool} (h:HasB names j x b) (hj:names.length<=j):amongB names x=b:=by
 have h':b=true↔amongB names x=true:=by
  unfold HasB at h
  rw [h,among_iff]
  exact ⟨fun ⟨q,hq,_,e⟩=>⟨q,hq,e⟩,fun ⟨q,hq,e⟩=>⟨q,hq,by omega,e⟩⟩
 cases b <;> cases hA:amongB names x <;> simp_all
set_option maxHeartbeats 400000 in
theorem index_any (a:Option Addr) (cap:Nat) (names:List ByteArray) (x:ByteArray) (w:World) (hl:names.length<=1048576) (hr:RowS w a names) :
  Calls Tryz.prog 181 #[.slice a names.length cap,.string x] w fun e w'=>(∃ r:Int,e=.returned (.int .i64 r)∧decide (0<=r)=amongB names x)∧w'=w:=by
 go_enter Tryz.func181,Tryz.ntmps181
 go_wp2_with fail
 go_loop [8] (fun i=>∃ j:Nat,j<=names.length∧i=.int .i64 j∧HasB names j x false) (fun i=>names.length - (intOf i).toNat)
 case atStart=>exact ⟨0,Nat.zero_le _,rfl,hasB_start _ _⟩
 case round=>
  obtain ⟨j,hj,rfl,HH⟩:=hrel
  by_cases hjlt:j < names.length
  ·obtain ⟨b,o,rfl,hblt,d0⟩:=hr j hjlt
   by_cases he:names[j]=x
   ·have hb':(x.toList == names[j].toList)=true:=toList_beq.2 he.symm
    have HA:Hid (amongB names x=true):=among_iff.2 ⟨j,hjlt,he⟩
    go_wp2_with fail
    go_ret
    exact ⟨⟨_,rfl,by rw [HA.out];simp⟩,rfl⟩
   ·have hb':(x.toList == names[j].toList)=false:=toList_bne.2 (fun h=>he h.symm)
    go_wp2_with fail
    exact ⟨⟨j + 1,by omega,by go_num,hasB_no HH he⟩,by simp [intOf];omega⟩
  ·have HA:Hid (amongB names x=false):=hasB_all HH (by omega)
   go_wp2_with fail
   go_ret
   exact ⟨⟨_,rfl,by rw [HA.out];simp⟩,rfl⟩
set_option maxHeartbeats 400000 in
theorem contains_any (a:Option Addr) (cap:Nat) (names:List ByteArray) (x:ByteArray) (w:World) (hl:names.length<=1048576) (hr:RowS w a names) :
  Calls Tryz.prog 147 #[.slice a names.length cap,.string x] w fun e w'=>e=.returned (.bool (amongB names x))∧w'=w:=by
 go_enter Tryz.func147,Tryz.ntmps147
 go_wp2_with fail
 refine (index_any a cap names x _ hl hr).mono ?_
 rintro e w1 ⟨⟨r,rfl,hr1⟩,rfl⟩
 have HR:Hid (decide (0<=r)=amongB names x):=hr1
 clear hr1
 go_wp2_with fail
 go_ret
 exact ⟨by rw [<- HR.out];rfl,rfl⟩
end Go.Proofs.YtpfhegengmlkmacGreatDoor
namespace Go.Proofs.YtpfhegengmlkmacGreatDoor
theorem stampP_of_sorted {l:List (ByteArray×Int)} (h12:l.length<=12) (hm:∀ m∈l,MarkP m) (hp:l.Pairwise (fun x y=>Asc x.1 y.1)):StampP l:=
 ⟨h12,fun _ hj=>hm _ (List.getElem_mem hj),fun j hj=>List.pairwise_iff_getElem.1 hp j (j + 1) (by omega) hj (by omega)⟩
theorem stampP_mark {l:List (ByteArray×Int)} (h:StampP l) {m:ByteArray×Int} (hm:m∈l):MarkP m:=by
 obtain ⟨j,hj,rfl⟩:=List.mem_iff_getElem.1 hm
 exact h.2.1 j hj
theorem stampP_nil:StampP []:=⟨by simp,fun j h=>absurd h (Nat.not_lt_zero j),fun j h=>absurd h (Nat.not_lt_zero (j + 1))⟩
theorem join_stamp {a b o:List (ByteArray×Int)} (ha:StampP a) (hb:StampP b) (h:JoinOf a b o) (h12:o.length<=12):StampP o:=by
 refine stampP_of_sorted h12 (fun m hm=>?_) h.1.1
 have e:=getM_mem h.1 hm
 have e1:=h.1.2 m hm
 have e2:=h.2 m.1
 rw [e] at e2
 rcases Int.le_total (getM a m.1) (getM b m.1) with hle | hle
 ·have e3:m.2=getM b m.1:=by omega
  have hmem:=getM_pos (l:=b) (s:=m.1) (by omega)
  rw [<- e3] at hmem
  exact stampP_mark hb hmem
 ·have e3:m.2=getM a m.1:=by omega
  have hmem:=getM_pos (l:=a) (s:=m.1) (by omega)
  rw [<- e3] at hmem
  exact stampP_mark ha hmem
theorem IsJ.fits {a b m:List (ByteArray×Int)} (h:IsJ a b m true):StampP a∧StampP b∧JoinOf a b m∧StampP m:=by
 rcases h with ⟨_,_,h⟩ | ⟨ha,hb,o,ho,⟨h12,rfl,_⟩ | ⟨_,_,h⟩⟩
 ·cases h
 ·exact ⟨ha,hb,ho,join_stamp ha hb ho h12⟩
 ·cases h
theorem IsJ.none {a b m:List (ByteArray×Int)} (h:IsJ a b m false):m=[]:=by
 rcases h with ⟨_,h,_⟩ | ⟨_,_,o,_,⟨_,_,h⟩ | ⟨_,h,_⟩⟩
 ·exact h
 ·cases h
 ·exact h
def namesM (a:List (ByteArray×Int)):List ByteArray:=a.map (·.1)
theorem among_names {a:List (ByteArray×Int)} (ha:Sorted a) (s:ByteArray):amongB (namesM a) s=true↔0 < getM a s:=by
 unfold amongB namesM
 simp only [List.any_eq_true,decide_eq_true_eq,List.mem_map]
 constructor
 ·rintro ⟨_,⟨m,hm,rfl⟩,rfl⟩
  rw [getM_mem ha hm];exact ha.2 m hm
 ·intro h
  exact ⟨s,⟨_,getM_pos h,rfl⟩,rfl⟩
theorem belowP_iff {a b:List (ByteArray×Int)} (ha:Sorted a) (hb:Sorted b):BelowP a b↔∀ s,getM a s<=getM b s:=by
 constructor
 ·intro h s
  have hn:=getM_nonneg (s:=s) hb
  by_cases h0:0 < getM a s
  ·obtain ⟨i,hi,e⟩:=List.mem_iff_getElem.1 (getM_pos h0)
   have:=h i hi
   rw [e] at this
   exact this
  ·omega
 ·intro h i hi
  have e:=getM_mem ha (List.getElem_mem hi)
  have:=h a[i].1
  omega
theorem ord_flip {a b:List (ByteArray×Int)} {o p:Int} (h:IsOrd a b o) (k:IsOrd b a p):(o=1->p=2)∧(o=2->p=1)∧(o≠1->o≠2->p=o):=by
 rcases h with ⟨h1,h2⟩ | ⟨h1,h2,h3⟩
 ·rcases k with ⟨k1,k2⟩ | ⟨k1,k2,k3⟩
  ·subst h2;subst k2;exact ⟨fun h=>by omega,fun h=>by omega,fun _ _=>rfl⟩
  ·exact absurd ⟨k2,k1⟩ h1
 ·rcases k with ⟨k1,k2⟩ | ⟨k1,k2,k3⟩
  ·exact absurd ⟨h2,h1⟩ k1
  ·rcases h3 with ⟨p1,q1,e⟩ | ⟨p1,q1,e⟩ | ⟨p1,q1,e⟩ | ⟨p1,q1,e⟩ <;> rcases k3 with ⟨p',q',e'⟩ | ⟨p',q',e'⟩ | ⟨p',q',e'⟩ | ⟨p',q',e'⟩ <;>
    first | (subst e;subst e';exact ⟨fun h=>by omega,fun h=>by omega,fun h h'=>by omega⟩) | exact absurd p1 q' | exact absurd q1 p' | exact absurd p' q1 | exact absurd q' p1
theorem ord_less {a b:List (ByteArray×Int)} {o:Int} (h:IsOrd a b o):o=1↔(StampP a∧StampP b∧BelowP a b∧¬ BelowP b a):=by
 constructor
 ·rintro rfl
  rcases h with ⟨_,h2⟩ | ⟨h1,h2,⟨p,q,e⟩ | ⟨p,q,_⟩ | ⟨_,_,e⟩ | ⟨_,_,e⟩⟩
  ·omega
  ·omega
  ·exact ⟨h1,h2,p,q⟩
  ·omega
  ·omega
 ·rintro ⟨ha,hb,hab,hba⟩
  rcases h with ⟨h1,_⟩ | ⟨_,_,⟨_,q,e⟩ | ⟨_,_,e⟩ | ⟨q,_,_⟩ | ⟨q,_,_⟩⟩
  ·exact absurd ⟨ha,hb⟩ h1
  ·exact absurd q hba
  ·exact e
  ·exact absurd hab q
  ·exact absurd hab q
theorem agree_get {a b:List (ByteArray×Int)} (ha:StampP a) (hb:StampP b):AgreeP a b↔∀ s,0 < getM a s->0 < getM b s->getM a s=getM b s:=by
 have sa:=stamp_sorted ha
 have sb:=stamp_sorted hb
 constructor
 ·rintro ⟨_,_,h⟩ s h1 h2
  obtain ⟨k,hk,ek⟩:=List.mem_iff_getElem.1 (getM_pos h1)
  have:=h k hk
  rw [ek] at this
  simp only at this
  omega
 ·intro h
  refine ⟨ha,hb,fun i hi=>?_⟩
  have e:=getM_mem sa (List.getElem_mem hi)
  have e1:=sa.2 _ (List.getElem_mem hi)
  have e2:=getM_nonneg (s:=a[i].1) sb
  by_cases h0:getM b a[i].1=0
  ·exact .inl h0
  ·right
   rw [<- h a[i].1 (by omega) (by omega),e]
abbrev ItemM:=Int×List (ByteArray×Int)
def AboveP (a b:List (ByteArray×Int)):Prop:=namesM a=namesM b∧StampP a∧StampP b∧BelowP a b∧¬ BelowP b a
def WinP (l:List ItemM):Prop:=l.length<=4∧(∀ j,(h:j < l.length)->StampP l[j].2∧l[j].2≠[])∧∀ j,(h:j + 1 < l.length)->AboveP l[j].2 l[j + 1].2
theorem names_get {a b:List (ByteArray×Int)} (ha:StampP a) (hb:StampP b) (h:namesM a=namesM b) (s:ByteArray):0 < getM a s↔0 < getM b s:=by
 rw [<- among_names (stamp_sorted ha),<- among_names (stamp_sorted hb),h]
theorem WinP.names {l:List ItemM} (h:WinP l):∀ (d i:Nat) (hj:i + d < l.length),namesM l[i].2=namesM l[i + d].2
 | 0,_,_=>rfl
 | d + 1,i,hj=>(h.names d i (by omega)).trans (h.2.2 (i + d) (by omega)).1
theorem WinP.rise {l:List ItemM} (h:WinP l):∀ (d i:Nat) (hj:i + d < l.length) (s:ByteArray),getM l[i].2 s<=getM l[i + d].2 s
 | 0,_,_,_=>Int.le_refl _
 | d + 1,i,hj,s=>by
  have h1:=h.rise d i (by omega) s
  have ha:=h.2.2 (i + d) (by omega)
  have h2:=(belowP_iff (stamp_sorted ha.2.1) (stamp_sorted ha.2.2.1)).1 ha.2.2.2.1 s
  exact Int.le_trans h1 h2
theorem WinP.le {l:List ItemM} (h:WinP l) {i j:Nat} (hij:i<=j) (hj:j < l.length) (s:ByteArray):getM (l[i]'(by omega)).2 s<=getM l[j].2 s:=by
 obtain ⟨d,rfl⟩:∃ d,j=i + d:=⟨j - i,by omega⟩
 exact h.rise d i hj s
theorem WinP.same {l:List ItemM} (h:WinP l) {i j:Nat} (hi:i < l.length) (hj:j < l.length) (s:ByteArray):0 < getM l[i].2 s↔0 < getM l[j].2 s:=by
 have hn:namesM l[i].2=namesM l[j].2:=by
  rcases Nat.le_total i j with hij | hij
  ·obtain ⟨d,rfl⟩:∃ d,j=i + d:=⟨j - i,by omega⟩
   exact h.names d i hj
  ·obtain ⟨d,rfl⟩:∃ d,i=j + d:=⟨i - j,by omega⟩
   exact (h.names d j hi).symm
 exact names_get (h.2.1 i hi).1 (h.2.1 j hj).1 hn s
theorem later_agrees {u v:List ItemM} (hu:WinP u) (hv:WinP v) {i i' k k':Nat} (hi:i < u.length) (hi':i' < u.length) (hk:k < v.length) (hk':k' < v.length)
  (h:AgreeP u[i].2 v[k].2) (h':AgreeP u[i'].2 v[k'].2):AgreeP (u[max i i']'(by omega)).2 (v[max k k']'(by omega)).2:=by
 have key:∀ {u v:List ItemM} (_:WinP u) (_:WinP v) {i i' k k':Nat} (hi:i < u.length) (hi':i' < u.length) (hk:k < v.length) (hk':k' < v.length),AgreeP u[i].2 v[k].2->AgreeP u[i'].2 v[k'].2->i'<=i->k<=k'->AgreeP u[i].2 v[k'].2:=by
  intro u v hu hv i i' k k' hi hi' hk hk' h h' h1 h2
  rw [agree_get (hu.2.1 i hi).1 (hv.2.1 k' hk').1]
  rw [agree_get (hu.2.1 i hi).1 (hv.2.1 k hk).1] at h
  rw [agree_get (hu.2.1 i' hi').1 (hv.2.1 k' hk').1] at h'
  intro s p1 p2
  have e1:=h s p1 ((hv.same hk hk' s).2 p2)
  have e2:=h' s ((hu.same hi' hi s).2 p1) p2
  have l1:=hu.le h1 hi s
  have l2:=hv.le h2 hk' s
  omega
 rcases Nat.le_total i i' with h1 | h1 <;> rcases Nat.le_total k k' with h2 | h2
 ·simp only [Nat.max_eq_right h1,Nat.max_eq_right h2];exact h'
 ·simp only [Nat.max_eq_right h1,Nat.max_eq_left h2]
  exact key hu hv hi' hi hk' hk h' h h1 h2
 ·simp only [Nat.max_eq_left h1,Nat.max_eq_right h2]
  exact key hu hv hi hi' hk hk' h h' h1 h2
 ·simp only [Nat.max_eq_left h1,Nat.max_eq_left h2];exact h
end Go.Proofs.YtpfhegengmlkmacGreatDoor
