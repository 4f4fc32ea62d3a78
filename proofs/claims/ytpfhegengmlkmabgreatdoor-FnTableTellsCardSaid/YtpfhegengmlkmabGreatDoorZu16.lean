/- Texts of this claim. -/
import Derived.OrdersIn
import Derived.TacticsIn
import Derived.RangeFuncCalls
import Derived.Test.YtpfhegengmlkmabGreatDoorZu15
namespace Go.Proofs.YtpfhegengmlkmabGreatDoor
open Go.RowKit Go.BigFrame
theorem Tryz.infoW:(Tryz.prog.info? 129).map (fun i=>(i.zero,i.size,i.bytes))=some (some (.slice none 0 0),1,24):=by kernel_rfl
def NR (l:List ByteArray):Prop:=l.length<=maxLen/\∀j,(h:j<l.length)->l[j].size<=maxLen
structure aB where
 ins:List ByteArray
 wins:List (List af)
 shown:List (ByteArray×Int)
structure Ey (g:aB):Prop where
 ins:NR g.ins
 wins:wM g.wins
 shown:uO g.shown
end Go.Proofs.YtpfhegengmlkmabGreatDoor
namespace Go.Proofs.YtpfhegengmlkmabGreatDoor
open Go.RowKit
theorem E8 {P:Program}{o:Oper}{a:Act}{w:World}{K:Act->World->Prop}{Q:Exit->Act->World->Prop}{l n:Nat}(nd:∀c,o.op≠.defer c)(h:o.wp P a w K Q):o.wpIn (Fence.wide.inRound l) n P a w K Q:=by
 refine⟨fun f _=>trivial, ?_⟩
 show o.uponIn _ n P a K Q ((o.semAt (some l) a.eval).run P w)
 rw[Oper.semAt_some l _ _ nd]
 unfold Oper.wp at h
 generalize (execOp a.eval o).run P w=r at *
 cases r with
 |ok x w'=>
  cases x <;> simp only[Oper.upon]at h <;> simp only[Oper.uponIn]
  case value=>exact h
  case skip=>exact h
  case defer=>exact h
  case enter f args=>exact⟨fun h=>(by cases h),CallsIn.inRound l (callsIn_wide.2 h)⟩
  case row row args=>exact⟨fun h=>(by cases h),fun c cs _=>let ⟨v,w',r,s⟩:=h c cs;⟨v,w',r,stepsIn_wide.2 s⟩⟩
 |halt x w'=>cases x <;> simp only[Oper.upon]at h <;> simp only[Oper.uponIn] <;> exact h
def A8 (ops:Array Oper):Bool:=ops.all fun o=>match o.op with|.defer _=>false|_=>true
theorem Em {ops:Array Oper}(h:A8 ops=true){i:Nat}{o:Oper}(ho:ops[i]?=some o):∀c,o.op≠.defer c:=by
 intro c hc
 obtain⟨hi,rfl⟩:=Array.getElem?_eq_some_iff.1 ho
 have:=Array.all_eq_true.1 h i hi
 simp[hc]at this
theorem JY {P:Program}{ops:Array Oper}{Q:Exit->Act->World->Prop}{K K':Act->World->Prop}{i l n:Nat}{a:Act}{w:World}(nd:A8 ops=true)(hlo:¬LetsOut Q)(hk:∀a w,K a w->K' a w)(h:wpOp P ops Q i K a w):wpOpIn (Fence.wide.inRound l) n P ops Q i K' a w:=by
 unfold wpOp at h
 unfold wpOpIn
 split
 ·rename_i ho;simp only[ho]at h;exact hk _ _ h
 ·rename_i o ho
  simp only[ho]at h
  split
  ·rename_i hw
   simp only[hw,if_true]at h
   rcases h with h|⟨_,h⟩
   ·exact Oper.wpIn_mono hk (E8 (Em nd ho) h)
   ·exact absurd h hlo
  ·rename_i hw;simp only[hw]at h;exact⟨fun f _=>trivial,hk _ _ h⟩
theorem sQ {P:Program}{md:Region.Mode}{ops:Array Oper}{Q:Exit->Act->World->Prop}{l n:Nat}(nd:A8 ops=true)(hlo:¬LetsOut Q):∀(fuel:Nat) (listed:Array Bool) (a:Act) (w:World),wpAny P md ops Q fuel listed a w->wpAnyIn (Fence.wide.inRound l) n P md ops Q fuel listed a w
 |0,_,_,_,h=>h
 |fuel+1,_,_,_,h=>⟨h.1,fun i hi=>JY nd hlo (fun a' w'=>sQ nd hlo fuel _ a' w') (h.2 i hi)⟩
theorem rM {P:Program}{ops:Array Oper}{Q:Exit->Act->World->Prop}{S:World->Prop}{l n id:Nat}{a:Act}{w:World}(hm:P.follows .mixedOrders=true)(nd:A8 ops=true)(hlo:¬LetsOut Q)
  (h:wpAnyH P .any ops Q S ops.size (Array.replicate ops.size false) a w.drew):(Code.region id ops true).wpIn (Fence.wide.inRound l) n P Q a w:=
 wpIn_region_any hm (sQ nd hlo _ _ _ _ (wpAny_of_held _ _ _ _ h))
theorem tH {P:Program}{Q:Exit->Act->World->Prop}{l n id:Nat}{a:Act}{w:World}{os:List Oper}(hm:P.follows .mixedOrders=true)(hB:Region.lexB .any os.toArray=true)(nd:A8 os.toArray=true)(hlo:¬LetsOut Q)
  (h:wpQuiet P os.toArray (fun w'=>∃n:dA w,w'=n.w) (fun a'=>∀w',(∃n:dA w,w'=n.w)->Q .normal a' w') os a):(Code.region id os.toArray true).wpIn (Fence.wide.inRound l) n P Q a w:=by
 simp only[Region.lexB,Bool.and_eq_true]at hB
 refine wpIn_region_any hm (sQ nd hlo _ _ _ _ (wpAny_of_quiet (C:=fun w'=>∃n:dA w,w'=n.w) (Q:=fun a'=>∀w',(∃n:dA w,w'=n.w)->Q .normal a' w') (fun _ w' hw' h=>h w' hw') _ _ _ _ ⟨⟨w.drew,(Below.refl _ _).drew⟩,rfl⟩ ?_))
 have:=wpAnyQ_lex (C:=fun w'=>∃n:dA w,w'=n.w) (md:=.any) hB.1 os.toArray.toList 0 (Array.replicate os.toArray.size false) a (by simp) (by simpa using hB.2) (by simpa using h)
 simpa using this
end Go.Proofs.YtpfhegengmlkmabGreatDoor
