/- Texts of this claim. -/
import Derived.Carry
import Derived.Defers
import Derived.Recover
import Derived.WalkSmall
import Derived.Test.YtpfhegengmlkmacGreatDoorZt11
import Derived.Test.YtpfhegengmlkmacGreatDoorZt20
namespace Go.Proofs.YtpfhegengmlkmacGreatDoor
open Go.RowKit Go.BigFrame
set_option maxRecDepth 100000
def CoW (w:World) (b n:Nat) (F:ByteArray->Option Nat):Prop:=
 ∃ D,w.ownsMap Tryz.prog 9 heldE b n D∧Maps.IsMap D∧∀ s,(∀ k,F s=some k->Maps.has D (litS s)=true∧∀ z,D.atKey (litS s) z=.held (.func (Fn.func k) #[] #[]))∧(F s=none->Maps.has D (litS s)=false)
theorem coW_made (w:World):CoW (w.alloc (.map #[] 0)) w.heap.size 0 (fun _=>none):=⟨.map [],World.ownsMap_made _ _ _ _,Maps.isMap_empty,fun s=>⟨fun k h=>by (cases h),fun _=>rfl⟩⟩
theorem CoW.below {w w':World} {b n:Nat} {F:ByteArray->Option Nat} (h:CoW w b n F) (hb:Below w.heap.size w w'):CoW w' b n F:=by
 obtain ⟨D,h1,h2,h3⟩:=h
 exact ⟨D,h1.kept (grown_below hb none) (by simp),h2,h3⟩
open Classical in
theorem CoW.store {w:World} {b n:Nat} {F:ByteArray->Option Nat} (h:CoW w b n F) (hn:n < 100) (s:ByteArray) (k:Nat) (hs:s.size<=100) :
  ∃ w',(Instr.mapUpdate 180 (.map (some b)) (.string s) (.func (Fn.func k) #[] #[])).run Tryz.prog w=.ok () w'∧CoW w' b (n + 1) (fun t=>if t=s then some k else F t)∧w.grownBy w' (some b):=by
 obtain ⟨D,h1,h2,h3⟩:=h
 obtain ⟨w',hrun,r1,r2⟩:=h1.update Tryz.keyed Tryz.underlying180 (by unfold maxLen;omega) (key:=.string s) (val:=.func (Fn.func k) #[] #[]) (kl:=litS s) (d:=.held (.func (Fn.func k) #[] #[])) (ps:=[]) (key_text s (by unfold maxLen;omega)) rfl
 refine ⟨w',hrun, ?_,r2⟩
 refine ⟨_,r1,h2.put _ _,fun t=>?_⟩
 by_cases e:t=s
 ·subst e
  refine ⟨fun k' hk=>?_,fun hk=>by simp at hk⟩
  simp only [if_true,Option.some.injEq] at hk
  subst hk
  exact ⟨Maps.has_put_same h2 (litS_key _) _,fun z=>Maps.atKey_put_same h2 (litS_key _) _ _⟩
 ·have hne:litS t≠litS s:=fun h=>e (litS_inj h)
  refine ⟨fun k' hk=>?_,fun hk=>?_⟩
  ·simp only [if_neg e] at hk
   obtain ⟨q1,q2⟩:=(h3 t).1 k' hk
   exact ⟨by rw [Maps.has_put_other hne];exact q1,fun z=>by rw [Maps.atKey_put_other hne];exact q2 z⟩
  ·simp only [if_neg e] at hk
   rw [Maps.has_put_other hne]
   exact (h3 t).2 hk
theorem Tryz.zeroCmd (w:World):(zeroValue 178).run Tryz.prog w=.ok .nilFunc w:=by kernel_rfl
theorem CoW.look {w:World} {b n:Nat} {F:ByteArray->Option Nat} (h:CoW w b n F) (s:ByteArray) (hs:s.size<=100000) :
  (∀ k,F s=some k->(Instr.lookup 180 (.map (some b)) (.string s) true).run Tryz.prog w=.ok (.tuple #[.func (Fn.func k) #[] #[],.bool true]) w) ∧
  (F s=none->(Instr.lookup 180 (.map (some b)) (.string s) true).run Tryz.prog w=.ok (.tuple #[.nilFunc,.bool false]) w):=by
 obtain ⟨D,h1,h2,h3⟩:=h
 obtain ⟨v,ps,hrun,hv⟩:=h1.look_ok Tryz.keyed Tryz.underlying180 (Tryz.zeroCmd w) (zd:=.held .nilFunc) (zp:=[]) rfl (key_text s (by unfold maxLen;omega))
 unfold heldE at hv
 simp only [Option.some.injEq,Prod.mk.injEq] at hv
 refine ⟨fun k hk=>?_,fun hk=>?_⟩
 ·obtain ⟨q1,q2⟩:=(h3 s).1 k hk
  rw [q2] at hv
  obtain rfl:v=_:=by simpa using hv.1
  rw [hrun,q1]
 ·have q:=(h3 s).2 hk
  rw [Maps.atKey_of_not_has q] at hv
  obtain rfl:v=_:=by simpa using hv.1
  rw [hrun,q]
def comF (c:List UInt8):Option Nat:=
 if c=cIns then some 158 else if c=cPut then some 159 else if c=cOrder then some 163 else if c=cJoin then some 164
 else if c=cLast then some 162 else if c=cCount then some 160 else if c=cBest then some 161 else none
def comV (c:List UInt8):Value:=match comF c with
 | some k=>.func (Fn.func k) #[] #[]
 | none=>.nilFunc
theorem CoW.looks {w:World} {b n:Nat} (h:CoW w b n (fun s=>comF (bl s))) (s:ByteArray) (hs:s.size<=100000) :
  (Instr.lookup 180 (.map (some b)) (.string s) true).run Tryz.prog w=.ok (.tuple #[comV (bl s),.bool (comF (bl s)).isSome]) w:=by
 obtain ⟨h1,h2⟩:=h.look s hs
 unfold comV
 cases hc:comF (bl s) with
 | none=>exact h2 hc
 | some k=>exact h1 k hc
def CmsE (w':World) (lo:Nat) (e:Ending):Prop:=∃ b n,e=.returned (.map (some b))∧lo<=b∧CoW w' b n (fun s=>comF (bl s))
open Classical in
theorem com_all (F:ByteArray->Option Nat) (h:F=fun t=>if t=⟨#[106,111,105,110]⟩ then some 164 else if t=⟨#[111,114,100,101,114]⟩ then some 163 else if t=⟨#[108,97,115,116]⟩ then some 162
  else if t=⟨#[98,101,115,116]⟩ then some 161 else if t=⟨#[99,111,117,110,116]⟩ then some 160 else if t=⟨#[112,117,116]⟩ then some 159 else if t=⟨#[105,110,115]⟩ then some 158 else none):F=fun s=>comF (bl s):=by
 subst h
 funext t
 have key:∀ l:List UInt8,(t=⟨l.toArray⟩)=(bl t=l):=fun l=>propext ⟨fun h=>by rw [h];simp [bl],fun h=>data_eq (by show bl t=bl ⟨l.toArray⟩;rw [h];simp [bl])⟩
 have k1:=key cIns
 have k2:=key cPut
 have k3:=key cOrder
 have k4:=key cJoin
 have k5:=key cLast
 have k6:=key cCount
 have k7:=key cBest
 unfold comF
 simp only [cIns,cPut,cOrder,cJoin,cLast,cCount,cBest] at k1 k2 k3 k4 k5 k6 k7 ⊢
 simp only [k1,k2,k3,k4,k5,k6,k7]
 generalize bl t=l
 by_cases h1:l=[105,110,115]
 ·subst h1;simp
 by_cases h2:l=[112,117,116]
 ·subst h2;simp
 by_cases h3:l=[111,114,100,101,114]
 ·subst h3;simp
 by_cases h4:l=[106,111,105,110]
 ·subst h4;simp
 by_cases h5:l=[108,97,115,116]
 ·subst h5;simp
 by_cases h6:l=[99,111,117,110,116]
 ·subst h6;simp
 by_cases h7:l=[98,101,115,116]
 ·subst h7;simp
 simp [h1,h2,h3,h4,h5,h6,h7]
open Classical in
set_option maxHeartbeats 1600000 in
theorem commands_any (w:World):Calls Tryz.prog 118 #[] w fun e w'=>CmsE w' w.heap.size e∧Below w.heap.size w w':=by
 have hmm:=@run_makeMap Tryz.prog
 have hc0:=coW_made w
 have hb0:Below w.heap.size w (w.alloc (.map #[] 0)):=(Below.refl _ _).alloc (Nat.le_refl _) _
 obtain ⟨w1,e1,hc1,g1⟩:=hc0.store (by decide) ⟨#[105,110,115]⟩ 158 (by decide)
 obtain ⟨w2,e2,hc2,g2⟩:=hc1.store (by decide) ⟨#[112,117,116]⟩ 159 (by decide)
 obtain ⟨w3,e3,hc3,g3⟩:=hc2.store (by decide) ⟨#[99,111,117,110,116]⟩ 160 (by decide)
 obtain ⟨w4,e4,hc4,g4⟩:=hc3.store (by decide) ⟨#[98,101,115,116]⟩ 161 (by decide)
 obtain ⟨w5,e5,hc5,g5⟩:=hc4.store (by decide) ⟨#[108,97,115,116]⟩ 162 (by decide)
 obtain ⟨w6,e6,hc6,g6⟩:=hc5.store (by decide) ⟨#[111,114,100,101,114]⟩ 163 (by decide)
 obtain ⟨w7,e7,hc7,g7⟩:=hc6.store (by decide) ⟨#[106,111,105,110]⟩ 164 (by decide)
 rw [com_all _ rfl] at hc7
 have HC:Hid (CmsE w7 w.heap.size (.returned (.map (some w.heap.size)))):=⟨_,_,rfl,Nat.le_refl _,hc7⟩
 have st:∀ {x y:World},Below w.heap.size w x->x.grownBy y (some w.heap.size)->Below w.heap.size w y:=fun h g=>h.grown g h.size (fun q hq=>by cases hq;exact Nat.le_refl _)
 have HB:Hid (Below w.heap.size w w7):=st (st (st (st (st (st (st hb0 g1) g2) g3) g4) g5) g6) g7
 clear hc0 hc1 hc2 hc3 hc4 hc5 hc6 hc7 g1 g2 g3 g4 g5 g6 g7 st hb0
 go_enter Tryz.func118,Tryz.ntmps118
 go_wp2_with fail
 go_ret
 exact ⟨HC.out,HB.out⟩
def GivW (w:World) (u:TypeId) (pv:Value):Prop:=w.cell? ⟨2,0,none⟩=some (.iface u pv)
theorem GivW.below {w w':World} {u:TypeId} {pv:Value} (h:GivW w u pv) (hb:Below w.heap.size w w'):GivW w' u pv:=cell_on hb (World.block_lt_of_cell? _ _ h) h
theorem need_yes (w:World):Calls Tryz.prog 119 #[.bool true] w fun e w'=>e=.returned (.tuple #[])∧w'=w:=by
 have hnot:∀ (x:Bool) (w:World),(Op.unary .not (.bool x)).run Tryz.prog w=.ok (.bool (!x)) w:=fun _ _=>rfl
 go_enter Tryz.func119,Tryz.ntmps119
 go_wp2_with fail
 go_end0
 exact ⟨rfl,rfl⟩
theorem need_no (u:TypeId) (pv:Value) (w:World) (h:GivW w u pv):Calls Tryz.prog 119 #[.bool false] w fun e w'=>e=.panicked [{ v:=.iface u pv,recovered:=false }]∧w'=w:=by
 unfold GivW at h
 go_enter Tryz.func119,Tryz.ntmps119
 go_wp2_with fail
 exact ⟨rfl,rfl,rfl⟩
theorem catch_yes (p:Addr) (s:ByteArray) (u:TypeId) (pv:Value) (older:List PanicEntry) (w:World) (hc:w.cell? p=some (.string s)) (hz:w.frozen? p=false) :
  CallsD Tryz.prog 117 #[.pointer (some p)] (.panicking ({ v:=.iface u pv,recovered:=false } :: older)) w fun e u' w'=>
   e=.returned (.tuple #[])∧u'=.panicking ({ v:=.iface u pv,recovered:=true } :: older)∧w'=w.setCell p (.string ⟨#[63]⟩):=by
 refine callsD_of_wpS Tryz.func117 rfl fun c₀ cs hu=>?_
 apply wpS_seq
 apply wpS_region
 simp [wpOpsS,go_sem,recoverD,hu,Tryz.ntmps117,Exit.thenS]
 refine wpS_cond (t:=true) (by simp [Act.eval,Array.replicate]) ?_
 simp only [if_true]
 apply wpS_region
 simp [wpOpsS,go_sem,hc,hz,bodyPostS,results,Tryz.results117]
theorem catch_no (p:Addr) (w:World) :
  CallsD Tryz.prog 117 #[.pointer (some p)] .returning w fun e u' w'=>e=.returned (.tuple #[])∧u'=.returning∧w'=w:=by
 refine callsD_of_wpS Tryz.func117 rfl fun c₀ cs hu=>?_
 apply wpS_seq
 apply wpS_region
 simp [wpOpsS,go_sem,recoverD,hu,Tryz.ntmps117,Exit.thenS]
 refine wpS_cond (t:=false) (by simp [Act.eval,Array.replicate]) ?_
 simp only [Bool.false_eq_true,if_false]
 refine wpS_of_wp (wp_skip ?_)
 cases c₀
 simp_all [bodyPostS,results,Tryz.results117]
end Go.Proofs.YtpfhegengmlkmacGreatDoor
namespace Go.Proofs.YtpfhegengmlkmacGreatDoor
set_option maxRecDepth 100000
def NumV (n:Int):Prop:=-1000000000000000000 < n∧n < 1000000000000000000
structure NiceV (g:GatL):Prop where
 nice:NiceG g
 len:g.wins.length=g.ins.length
 vals:∀ l∈g.wins,∀ it∈l,NumV it.1
theorem emptyG_v:NiceV emptyG:=⟨emptyG_nice,rfl,fun l hl=>by simp [emptyG] at hl⟩
theorem newG_v {ins:List ByteArray} (h:InsP ins):NiceV (newG ins):=by
 refine ⟨⟨h.2.1,fun j hj=>(h.2.2 j hj).1.2.1,by simp [newG];exact h.2.1,fun l hl=>?_,stampP_nil⟩,by simp [newG],fun l hl it hi=>?_⟩
 ·obtain rfl:l=[]:=(List.mem_replicate.1 hl).2
  exact ⟨by simp,fun j hj=>absurd hj (Nat.not_lt_zero j)⟩
 ·obtain rfl:l=[]:=(List.mem_replicate.1 hl).2
  simp at hi
theorem isP_vals {l:List ItemL} {x:Int} {m:List (ByteArray×Int)} {r:List ItemL} {c:Int} (h:IsP l x m r c) (hl:∀ it∈l,NumV it.1) (hx:NumV x):∀ it∈r,NumV it.1:=by
 by_cases hp:WinP l∧StampP m∧m≠[]
 ·by_cases ht:TakeP l m
  ·rw [(h.2.2 hp ht).1]
   unfold putL
   intro it hi
   split at hi
   ·rcases List.mem_append.1 hi with hi | hi
    ·exact hl it hi
    ·obtain rfl:=List.mem_singleton.1 hi
     exact hx
   ·rcases List.mem_append.1 hi with hi | hi
    ·exact hl it (List.mem_of_mem_tail hi)
    ·obtain rfl:=List.mem_singleton.1 hi
     exact hx
  ·rw [(h.2.1 hp ht).1]
   exact hl
 ·rw [(h.1 hp).1]
  intro it hi
  simp at hi
theorem getD_or {α:Type} (l:List α) (k:Nat) (d:α):l.getD k d=d∨l.getD k d∈l:=by
 rcases Nat.lt_or_ge k l.length with hk | hk
 ·right
  rw [List.getD_eq_getElem?_getD,List.getElem?_eq_getElem hk,Option.getD_some]
  exact List.getElem_mem hk
 ·left
  rw [List.getD_eq_getElem?_getD,List.getElem?_eq_none hk]
  rfl
theorem numV_0:NumV 0:=⟨by decide,by decide⟩
theorem valsM_v {ws:List (List ItemL)} {ps:List Int} (h:∀ l∈ws,∀ it∈l,NumV it.1):∀ v∈valsM ws ps,NumV v:=by
 intro v hv
 obtain ⟨k,_,rfl⟩:=List.mem_map.1 hv
 unfold pkV
 rcases getD_or (ws.getD k []) (ps.getD k 0).toNat (0,[]) with e | e
 ·rw [e];exact numV_0
 ·rcases getD_or ws k [] with e2 | e2
  ·rw [e2] at e;simp at e
  ·exact h _ e2 _ e
theorem ComeP.facts {ws:List (List ItemL)} {sh s1 t1:List (ByteArray×Int)} {v1:List Int} {c1:Int} (h:ComeP ws sh s1 v1 t1 c1) (hv:∀ l∈ws,∀ it∈l,NumV it.1):(∀ v∈v1,NumV v)∧(c1=0∨c1=1∨c1=4):=by
 obtain ⟨o1,k1,b1,h⟩:=h
 rcases h with ⟨rfl,rfl,rfl,rfl,rfl⟩ | ⟨rfl,j1,x1,i1,⟨rfl,rfl,rfl,rfl,rfl⟩ | ⟨rfl,p1,q1,⟨h1,rfl,rfl,rfl,rfl⟩ | ⟨h1,rfl,rfl,rfl,rfl⟩⟩⟩
 ·exact ⟨fun v hv=>by simp at hv,.inl rfl⟩
 ·exact ⟨fun v hv=>by simp at hv,.inr (.inr rfl)⟩
 ·exact ⟨fun v hv=>by simp at hv,.inl rfl⟩
 ·exact ⟨valsM_v hv,.inr (.inl rfl)⟩
theorem PutG.facts {g g1:GatL} {i x c:Int} {m ss:List (ByteArray×Int)} {sv:List Int} (h:PutG g i x m g1 sv ss c) (hg:NiceV g) (hx:NumV x):NiceV g1∧(∀ v∈sv,NumV v)∧(c=0∨c=1∨c=2∨c=3∨c=4):=by
 have hn:=h.nice
 rcases h with ⟨h0,rfl,rfl,rfl,rfl⟩ | ⟨h0,r1,d1,p1,⟨rfl,rfl,rfl,rfl,rfl⟩ | ⟨rfl,rfl,rfl,rfl,rfl⟩ | ⟨rfl,sh1,q1,rfl⟩⟩
 ·exact ⟨emptyG_v,fun v hv=>by simp at hv,by omega⟩
 ·exact ⟨emptyG_v,fun v hv=>by simp at hv,by omega⟩
 ·exact ⟨hg,fun v hv=>by simp at hv,by omega⟩
 ·have hv:∀ l∈g.wins.set i.toNat r1,∀ it∈l,NumV it.1:=fun l hl=>by
   rcases List.mem_or_eq_of_mem_set hl with h1 | h1
   ·exact hg.vals l h1
   ·subst h1
    refine isP_vals p1 (fun it hi=>?_) hx
    rcases Nat.lt_or_ge i.toNat g.wins.length with hk | hk
    ·rw [List.getD_eq_getElem?_getD,List.getElem?_eq_getElem hk,Option.getD_some] at hi
     exact hg.vals _ (List.getElem_mem hk) it hi
    ·rw [List.getD_eq_getElem?_getD,List.getElem?_eq_none hk] at hi
     simp at hi
  have hf:=q1.facts hv
  exact ⟨⟨hn.1,by simpa using hg.len,hv⟩,hf.1,by rcases hf.2 with h | h | h <;> omega⟩
theorem NumV.len {n:Int} (h:NumV n):(Lib.itoa n).length<=21:=Lib.itoa_length_le n (by have:=h.1;omega) (by have:=h.2;omega)
theorem lensU_le {K:Nat}:∀ {xs:List (List UInt8)},(∀ x∈xs,x.length<=K)->Lib.lens xs<=xs.length * K
 | [],_=>by simp [Lib.lens]
 | x :: r,h=>by
  have h1:=h x (List.mem_cons_self ..)
  have h2:=lensU_le fun y hy=>h y (List.mem_cons_of_mem _ hy)
  have e:(x :: r).length * K=r.length * K + K:=by rw [List.length_cons,Nat.succ_mul]
  rw [e]
  simp only [Lib.lens,List.map_cons,List.sum_cons] at h2 ⊢
  omega
theorem join_le {K:Nat} {xs:List (List UInt8)} (h:∀ x∈xs,x.length<=K):(Lib.join xs [32]).length<=xs.length + xs.length * K:=by
 cases xs with
 | nil=>simp [Lib.join_nil]
 | cons x r=>
  have:=lensU_le h
  rw [Lib.join_length]
  simp at this ⊢
  omega
theorem numsB_le {l:List Int} (h:∀ v∈l,NumV v):(numsB l).length<=l.length + l.length * 21:=by
 have:=join_le (K:=21) (xs:=l.map Lib.itoa) (fun x hx=>by obtain ⟨v,hv,rfl⟩:=List.mem_map.1 hx;exact (h v hv).len)
 simpa [numsB] using this
theorem flat_le {α β:Type} {K:Nat} {f:α->List β}:∀ {l:List α},(∀ x∈l,(f x).length<=K)->(l.flatMap f).length<=l.length * K
 | [],_=>by simp
 | x :: r,h=>by
  have h1:=h x (List.mem_cons_self ..)
  have h2:=flat_le fun y hy=>h y (List.mem_cons_of_mem _ hy)
  rw [List.flatMap_cons,List.length_append,List.length_cons,Nat.succ_mul]
  omega
theorem allL_le {ws:List (List ItemL)} (h:∀ j,(ws.getD j []).length<=4):∀ (m:Nat) (ps:List Int),(allL ws m ps).length<=4 ^ m
 | 0,ps=>by simp [allL]
 | m + 1,ps=>by
  unfold allL
  refine Nat.le_trans (flat_le fun i _=>allL_le h m _) ?_
  rw [List.length_range,Nat.pow_succ,Nat.mul_comm]
  exact Nat.mul_le_mul_left _ (h _)
theorem CntP.le {ws:List (List ItemL)} {n:Nat} (h:CntP ws n):n<=4096:=by
 rcases h with ⟨h1,rfl⟩ | ⟨_,rfl⟩
 ·have h4:∀ j,(ws.getD j []).length<=4:=fun j=>by
   rcases Nat.lt_or_ge j ws.length with hj | hj
   ·rw [List.getD_eq_getElem?_getD,List.getElem?_eq_getElem hj,Option.getD_some]
    exact (h1.2.2 j hj).1
   ·rw [List.getD_eq_getElem?_getD,List.getElem?_eq_none hj]
    simp
  have h6:ws.length<=6:=h1.2.1
  unfold foundL
  refine Nat.le_trans (List.length_filter_le _ _) (Nat.le_trans (allL_le h4 _ _) ?_)
  exact Nat.le_trans (Nat.pow_le_pow_right (by omega) h6) (by decide)
 ·omega
theorem BestP.facts {ws:List (List ItemL)} {out:List Int} {ok:Bool} (h:BestP ws out ok):out.length<=6∧∀ v∈out,NumV v:=by
 rcases h with ⟨_,hc,_⟩ | ⟨_,rfl,_⟩
 ·refine ⟨by have:=hc.2.1;have:=hc.1.2.1;omega,fun v hv=>?_⟩
  obtain ⟨i,hi,rfl⟩:=List.mem_iff_getElem.1 hv
  have hw:i < ws.length:=by have:=hc.2.1;omega
  have h1:=hc.2.2.1.2 i hi
  have h2:=(hc.1.2.2 i hw).1
  have e:ws.getD i []=ws[i]:=by rw [List.getD_eq_getElem?_getD,List.getElem?_eq_getElem hw,Option.getD_some]
  rw [e] at h1
  exact ⟨by omega,by omega⟩
 ·exact ⟨by simp,fun v hv=>by simp at hv⟩
theorem isL_vals {l:List ItemL} {x:Int} {m:List (ByteArray×Int)} {ok:Bool} (h:IsL l x m ok) (hl:∀ it∈l,NumV it.1):NumV x:=by
 by_cases hp:WinP l∧0 < l.length
 ·have e:=congrArg Prod.fst (h.1 hp).2
  simp only at e
  rw [e]
  exact hl _ (List.getElem_mem _)
 ·rw [(h.2 hp).2.1];exact ⟨by decide,by decide⟩
theorem getD_vals {g:GatL} (h:NiceV g) (k:Nat):∀ it∈g.wins.getD k [],NumV it.1:=by
 intro it hi
 rcases Nat.lt_or_ge k g.wins.length with hk | hk
 ·rw [List.getD_eq_getElem?_getD,List.getElem?_eq_getElem hk,Option.getD_some] at hi
  exact h.vals _ (List.getElem_mem hk) it hi
 ·rw [List.getD_eq_getElem?_getD,List.getElem?_eq_none hk] at hi
  simp at hi
theorem isTx_len {l:List (ByteArray×Int)} {s:ByteArray} (h:IsTx l s):(bl s).length<=276:=by rw [bl_length];exact isTx_size h
theorem PutT3.facts {g g1 g':GatL} {sv:List Int} {ss:List (ByteArray×Int)} {c:Int} {t:List UInt8} (h:PutT3 g g1 sv ss c g' t) (hg:NiceV g) (h1:NiceV g1) (hl:sv.length<=6) (hv:∀ v∈sv,NumV v):NiceV g'∧t.length<=1000:=by
 rcases h with ⟨_,rfl,rfl⟩ | ⟨_,rfl,s,hs,rfl⟩ | ⟨_,_,rfl,rfl⟩
 ·exact ⟨hg,by decide⟩
 ·refine ⟨h1, ?_⟩
  have a1:=numsB_le hv
  have a2:=isTx_len hs
  simp only [List.length_append]
  have e1:tShows.length=6:=rfl
  have e2:tAt.length=3:=rfl
  omega
 ·refine ⟨h1, ?_⟩
  unfold codeB
  split
  ·decide
  ·split <;> decide
theorem InsT.facts {g g':GatL} {r:List ByteArray} {t:List UInt8} (h:InsT g r g' t) (hg:NiceV g):NiceV g'∧t.length<=1000:=by
 rcases h with ⟨h1,rfl,rfl⟩ | ⟨h1,h2,rfl,rfl⟩ | ⟨h1,h2,rfl,rfl⟩
 ·exact ⟨hg,by decide⟩
 ·exact ⟨newG_v h2,by decide⟩
 ·exact ⟨hg,by decide⟩
theorem PutT.facts {g g':GatL} {r:List ByteArray} {t:List UInt8} (h:PutT g r g' t) (hg:NiceV g):NiceV g'∧t.length<=1000:=by
 rcases h with ⟨a,n,m,⟨b,q,rfl,hn,hq⟩,⟨_,rfl,rfl⟩ | ⟨_,g1,sv,ss,c,hp,h3⟩⟩ | ⟨_,rfl,rfl⟩
 ·exact ⟨hg,by decide⟩
 ·have hf:=hp.facts hg hn.2
  exact h3.facts hg hf.1 hp.nice.2.1 hf.2.1
 ·exact ⟨hg,by decide⟩
theorem OrdT.le {r:List ByteArray} {t:List UInt8} (h:OrdT r t):t.length<=1000:=by
 rcases h with ⟨a,b,h1,v,h2,rfl⟩ | ⟨h1,rfl⟩
 ·unfold ordB
  split
  ·decide
  ·split
   ·decide
   ·split <;> decide
 ·decide
theorem JoiT.le {r:List ByteArray} {t:List UInt8} (h:JoiT r t):t.length<=1000:=by
 rcases h with ⟨a,b,h1,j,ok,h2,⟨_,rfl⟩ | ⟨_,s,hs,rfl⟩⟩ | ⟨h1,rfl⟩
 ·decide
 ·have:=isTx_len hs;omega
 ·decide
theorem LasT.le {g:GatL} {r:List ByteArray} {t:List UInt8} (h:LasT g r t) (hg:NiceV g):t.length<=1000:=by
 rcases h with ⟨a,rfl,⟨_,rfl⟩ | ⟨_,x,m,ok,hL,⟨_,rfl⟩ | ⟨_,s,hs,rfl⟩⟩⟩ | ⟨h1,rfl⟩
 ·decide
 ·decide
 ·have a1:=(isL_vals hL (getD_vals hg _)).len
  have a2:=isTx_len hs
  have e2:tAt.length=3:=rfl
  simp only [List.length_append]
  omega
 ·decide
theorem CouT.le {g:GatL} {r:List ByteArray} {t:List UInt8} (h:CouT g r t):t.length<=1000:=by
 rcases h with ⟨_,n,hn,rfl⟩ | ⟨_,rfl⟩
 ·have:=(show NumV (n:Int) from ⟨by omega,by have:=hn.le;omega⟩).len
  omega
 ·decide
theorem BesT.le {g:GatL} {r:List ByteArray} {t:List UInt8} (h:BesT g r t):t.length<=1000:=by
 rcases h with ⟨_,out,ok,hb,⟨_,rfl⟩ | ⟨_,rfl⟩⟩ | ⟨_,rfl⟩
 ·decide
 ·have:=numsB_le hb.facts.2
  have:=hb.facts.1
  omega
 ·decide
theorem TellT.facts {g g':GatL} {c:List UInt8} {r:List ByteArray} {t:List UInt8} (h:TellT g c r g' t) (hg:NiceV g):NiceV g'∧t.length<=1000:=by
 unfold TellT at h
 split at h
 ·exact h.facts hg
 split at h
 ·exact h.facts hg
 split at h
 ·exact ⟨by rw [h.1];exact hg,h.2.le⟩
 split at h
 ·exact ⟨by rw [h.1];exact hg,h.2.le⟩
 split at h
 ·exact ⟨by rw [h.1];exact hg,h.2.le hg⟩
 split at h
 ·exact ⟨by rw [h.1];exact hg,h.2.le⟩
 split at h
 ·exact ⟨by rw [h.1];exact hg,h.2.le⟩
 ·exact ⟨by rw [h.1];exact hg,by rw [h.2];decide⟩
theorem RunTo.facts {l:List ByteArray} {g:GatL} {o:List UInt8} (h:RunTo l g o):NiceV g∧o.length<=l.length * 1001:=by
 induction h with
 | nil=>exact ⟨emptyG_v,by simp⟩
 | skip h hl ih=>exact ⟨ih.1,by simp;omega⟩
 | line h hl ht ih=>
  obtain ⟨u,r,_,hT⟩:=ht
  have:=hT.facts ih.1
  exact ⟨this.1,by simp;omega⟩
theorem IsOrd.range {a b:List (ByteArray×Int)} {v:Int} (h:IsOrd a b v) (ha:StampP a) (hb:StampP b):v=0∨v=1∨v=2∨v=3:=by
 rcases h with ⟨h,_⟩ | ⟨_,_,⟨_,_,h⟩ | ⟨_,_,h⟩ | ⟨_,_,h⟩ | ⟨_,_,h⟩⟩
 ·exact absurd ⟨ha,hb⟩ h
 ·exact .inl h
 ·exact .inr (.inl h)
 ·exact .inr (.inr (.inl h))
 ·exact .inr (.inr (.inr h))
end Go.Proofs.YtpfhegengmlkmacGreatDoor
namespace Go.Proofs.YtpfhegengmlkmacGreatDoor
open Go.RowKit Go.BigFrame
def NumR (p:List UInt8) (v:Int) (ok:Bool):Prop:=(ok=true->1<=v->v<=1099511627776->Dig p v)∧(∀ v',Dig p v'->ok=true∧v=v')
theorem numR_no {p:List UInt8} (h:∀ v,¬ Dig p v) (v:Int):NumR p v false:=⟨fun e=>Bool.noConfusion e,fun v' hv=>absurd hv (h v')⟩
theorem dig_nil (v:Int):¬ Dig [] v:=fun h=>h.1 rfl
theorem dig_long {p:List UInt8} (hp:18 < p.length) (v:Int):¬ Dig p v:=fun h=>by
 obtain ⟨h1,h2,h3,h4,h5⟩:=h
 match p,hp with
 | x :: r,hp=>
  have h6:=dval_head (r:=r) (h3 x (List.mem_cons_self ..)) (fun e=>h2 (by rw [e];rfl))
  have h7:10 ^ 18<=10 ^ r.length:=Nat.pow_le_pow_right (by omega) (by simp at hp;omega)
  omega
theorem dig_head {p:List UInt8} {x:UInt8} (hp:p[0]?=some x) (hx:x=48∨¬ DG x) (v:Int):¬ Dig p v:=fun h=>by
 obtain ⟨h1,h2,h3,h4,h5⟩:=h
 match p,hp with
 | y :: r,hp=>
  simp at hp
  subst hp
  rcases hx with rfl | hx
  ·exact h2 rfl
  ·exact hx (h3 y (List.mem_cons_self ..))
theorem dig_at {p:List UInt8} {x:UInt8} {k:Nat} (hp:p[k]?=some x) (hx:¬ DG x) (v:Int):¬ Dig p v:=fun h=>hx (h.2.2.1 x (List.mem_of_getElem? hp))
theorem dval_take {p:List UInt8} {k:Nat} {x:UInt8} (hp:p[k]?=some x):dval 0 (p.take (k + 1))=10 * dval 0 (p.take k) + (x.toNat - 48):=by
 obtain ⟨hk,rfl⟩:=List.getElem?_eq_some_iff.1 hp
 rw [List.take_succ_eq_append_getElem hk,dval_snoc]
theorem digs_take {p:List UInt8} {k:Nat} {x:UInt8} (hp:p[k]?=some x) (h:∀ y∈p.take k,DG y) (hx:DG x):∀ y∈p.take (k + 1),DG y:=by
 obtain ⟨hk,rfl⟩:=List.getElem?_eq_some_iff.1 hp
 rw [List.take_succ_eq_append_getElem hk]
 intro y hy
 rcases List.mem_append.1 hy with hy | hy
 ·exact h y hy
 ·rw [List.mem_singleton.1 hy];exact hx
theorem dval_small {p:List UInt8} {k:Nat} (h:∀ y∈p.take k,DG y) (hk:k<=17):dval 0 (p.take k)<=100000000000000000:=by
 have h1:=dval_lt (p.take k) 0 h
 have h2:10 ^ (p.take k).length<=10 ^ 17:=Nat.pow_le_pow_right (by omega) (by rw [List.length_take];omega)
 omega
theorem numR_yes {p:List UInt8} (h1:p≠[]) (h:∀ y∈p,DG y) (h0:p.head?=some 48->p=[48]):NumR p (dval 0 p:Nat) true:=by
 refine ⟨fun _ hv hm=>⟨h1,fun e=>?_,h,rfl,by omega⟩,fun v' hv=>⟨rfl,hv.2.2.2.1.symm⟩⟩
 rw [h0 e] at hv
 revert hv
 decide
def NumE (p:List UInt8) (e:Ending):Prop:=∃ v ok,e=.returned (.tuple #[.int .i64 v,.bool ok])∧NumR p v ok
set_option maxHeartbeats 1600000 in
theorem l1Num_any (t:ByteArray) (w:World) (ht:t.size<=1000000) :
  Calls Tryz.prog 148 #[.string t] w fun e w'=>NumE (bl t) e∧w'=w:=by
 by_cases h0:t.size < 1
 ·have H:Hid (NumR (bl t) 0 false):=numR_no (by rw [show bl t=[] from List.length_eq_zero_iff.1 (by rw [bl_length];omega)];exact dig_nil) 0
  go_enter Tryz.func148,Tryz.ntmps148
  go_wp2_with fail
  exact bodyPost_ret (v:=.tuple #[.int .i64 0,.bool false]) (by simp [results,Tryz.results148,go_sem]) rfl ⟨⟨0,false,rfl,H.out⟩,rfl⟩
 have hat0:=bl_at t 0 (by omega)
 by_cases hneg:t[0]=45
 ·have hneg':((t[0].toNat:Int) == 45)=true:=by rw [hneg];decide
  have HNO:Hid (∀ v,¬ Dig (bl t) v):=dig_head (by rw [hat0,hneg]) (.inr (by unfold DG;decide))
  have H:Hid (NumR (bl t) 0 false):=numR_no HNO.out 0
  have hs0:(t.toList == [48])=false:=by
   have h:t≠⟨#[48]⟩:=fun e=>by
    have e1:(bl t)[0]?=some 48:=by rw [e];rfl
    rw [hat0,hneg] at e1
    exact absurd e1 (by decide)
   have h:=toList_bne.2 h
   rwa [show (⟨#[48]⟩:ByteArray).toList=[48] from by rw [ByteArray.toList_eq]] at h
  clear hat0 hneg
  go_enter Tryz.func148,Tryz.ntmps148
  by_cases h1:t.size < 2
  ·go_wp2_with fail
   exact bodyPost_ret (v:=.tuple #[.int .i64 0,.bool false]) (by simp [results,Tryz.results148,go_sem]) rfl ⟨⟨0,false,rfl,H.out⟩,rfl⟩
  by_cases h19:19 < t.size
  ·go_wp2_with fail
   exact bodyPost_ret (v:=.tuple #[.int .i64 0,.bool false]) (by simp [results,Tryz.results148,go_sem]) rfl ⟨⟨0,false,rfl,H.out⟩,rfl⟩
  go_wp2_with fail
  ·exact bodyPost_ret (v:=.tuple #[.int .i64 0,.bool false]) (by simp [results,Tryz.results148,go_sem]) rfl ⟨⟨0,false,rfl,H.out⟩,rfl⟩
  have HNEG:Hid (∀ V:Nat,NumR (bl t) (-(V:Int)) true):=fun V=>⟨fun _ h1=>by omega,fun v' hv=>absurd hv (HNO.out v')⟩
  go_loop [5,6] (fun nv iv=>∃ k V:Nat,k<=t.size - 1∧iv=.int .i64 k∧nv=.int .i64 (V:Int)∧V < 10 ^ k) (fun _ iv=>t.size - 1 - (intOf iv).toNat)
  case atStart=>exact ⟨0,0,Nat.zero_le _,rfl,rfl,by simp⟩
  case round=>
   obtain ⟨k,V,hk,rfl,rfl,hV⟩:=hrel
   by_cases hlt:k < t.size - 1
   ·have hV':V < 1000000000000000000:=by
     have h2:10 ^ k<=10 ^ 18:=Nat.pow_le_pow_right (by omega) (by omega)
     omega
    have HP:Hid (V < 10 ^ k):=hV
    have hks:k < (t.extract 1 t.size).size:=by rw [ByteArray.size_extract];omega
    by_cases hx1:((t.extract 1 t.size)[k].toNat:Int) < 48
    ·go_wp2_with fail
     exact bodyPost_ret (v:=.tuple #[.int .i64 0,.bool false]) (by simp [results,Tryz.results148,go_sem]) rfl ⟨⟨0,false,rfl,H.out⟩,rfl⟩
    by_cases hx2:57 < ((t.extract 1 t.size)[k].toNat:Int)
    ·go_wp2_with fail
     exact bodyPost_ret (v:=.tuple #[.int .i64 0,.bool false]) (by simp [results,Tryz.results148,go_sem]) rfl ⟨⟨0,false,rfl,H.out⟩,rfl⟩
    clear hV
    have hVV:V<=100000000000000000∨17 < k:=by
     by_cases h17:17 < k
     ·exact .inr h17
     ·left
      have h2:10 ^ k<=10 ^ 17:=Nat.pow_le_pow_right (by omega) (by omega)
      have:=HP.out
      omega
    have hVb:V<=100000000000000000:=by omega
    clear hVV hV'
    go_wp2_with fail
    refine ⟨⟨k + 1,10 * V + ((t.extract 1 t.size)[k].toNat - 48),by omega,by go_num,by congr 1;omega, ?_⟩,by simp [intOf];omega⟩
    have:=HP.out
    rw [Nat.pow_succ]
    omega
   ·have hV':V<=1000000000000000000:=by
     have h2:10 ^ k<=10 ^ 18:=Nat.pow_le_pow_right (by omega) (by omega)
     omega
    clear hV
    go_wp2_with fail
    exact bodyPost_ret (v:=.tuple #[.int .i64 (-(V:Int)),.bool true]) (by simp [results,Tryz.results148,go_sem]) rfl ⟨⟨-(V:Int),true,rfl,HNEG.out V⟩,rfl⟩
 have hneg':((t[0].toNat:Int) == 45)=false:=by
  rw [beq_eq_false_iff_ne]
  exact fun e=>hneg (UInt8.toNat_inj.1 (by rw [show (45:UInt8).toNat=45 from rfl];omega))
 by_cases h18:18 < t.size
 ·have H:Hid (NumR (bl t) 0 false):=numR_no (dig_long (by rw [bl_length];omega)) 0
  go_enter Tryz.func148,Tryz.ntmps148
  go_wp2_with fail
  exact bodyPost_ret (v:=.tuple #[.int .i64 0,.bool false]) (by simp [results,Tryz.results148,go_sem]) rfl ⟨⟨0,false,rfl,H.out⟩,rfl⟩
 by_cases hz:t[0]=48∧t≠⟨#[48]⟩
 ·have H:Hid (NumR (bl t) 0 false):=numR_no (dig_head (by rw [hat0,hz.1]) (.inl rfl)) 0
  have hz1:((t[0].toNat:Int) == 48)=true:=by rw [hz.1];decide
  have hz2:(t.toList == [48])=false:=by
   have h:=toList_bne.2 hz.2
   rwa [show (⟨#[48]⟩:ByteArray).toList=[48] from by rw [ByteArray.toList_eq]] at h
  clear hz
  go_enter Tryz.func148,Tryz.ntmps148
  go_wp2_with fail
  exact bodyPost_ret (v:=.tuple #[.int .i64 0,.bool false]) (by simp [results,Tryz.results148,go_sem]) rfl ⟨⟨0,false,rfl,H.out⟩,rfl⟩
 have HZ:Hid ((bl t).head?=some 48->bl t=[48]):=fun e=>by
  rw [List.head?_eq_getElem?,hat0] at e
  have e1:t[0]=48:=by simpa using e
  by_cases ht48:t=⟨#[48]⟩
  ·rw [ht48];rfl
  ·exact absurd ⟨e1,ht48⟩ hz
 go_enter Tryz.func148,Tryz.ntmps148
 by_cases hz0:t[0]=48
 ·have ht48:t=⟨#[48]⟩:=Classical.byContradiction fun h=>hz ⟨hz0,h⟩
  have hz1:((t[0].toNat:Int) == 48)=true:=by rw [hz0];decide
  have hz2:(t.toList == [48])=true:=by rw [ht48,ByteArray.toList_eq];rfl
  clear hz hz0 ht48 hat0 hneg
  go_wp2_with fail
  go_loop [5,6] (fun nv iv=>∃ k:Nat,k<=t.size∧iv=.int .i64 k∧nv=.int .i64 (dval 0 ((bl t).take k):Nat)∧(∀ y∈(bl t).take k,DG y)) (fun _ iv=>t.size - (intOf iv).toNat)
  case atStart=>exact ⟨0,Nat.zero_le _,rfl,rfl,by simp⟩
  case round=>
   obtain ⟨k,hk,rfl,rfl,hall⟩:=hrel
   by_cases hlt:k < t.size
   ·have hat:=bl_at t k hlt
    by_cases hdg:DG t[k]
    ·have HT:=dval_take hat
     have HD:Hid (∀ y∈(bl t).take (k + 1),DG y):=digs_take hat hall hdg
     have hsm:=dval_small hall (by omega)
     have hd1:=hdg.1
     have hd2:=hdg.2
     generalize dval 0 ((bl t).take k)=V at *
     have HTT:Hid (dval 0 ((bl t).take (k + 1))=10 * V + (t[k].toNat - 48)):=HT
     clear HT hall hdg hat
     go_wp2_with fail
     exact ⟨⟨k + 1,by omega,by go_num,by rw [HTT.out];congr 1;omega,HD.out⟩,by simp [intOf];omega⟩
    ·have H:Hid (NumR (bl t) 0 false):=numR_no (dig_at hat hdg) 0
     have hdd:(t[k].toNat:Int) < 48∨(57:Int) < (t[k].toNat:Int):=by unfold DG at hdg;omega
     clear hat hall hdg
     rcases hdd with hdd | hdd
     all_goals
      go_wp2_with fail
      exact bodyPost_ret (v:=.tuple #[.int .i64 0,.bool false]) (by simp [results,Tryz.results148,go_sem]) rfl ⟨⟨0,false,rfl,H.out⟩,rfl⟩
   ·have hfin:(bl t).take k=bl t:=List.take_of_length_le (by rw [bl_length];omega)
    rw [hfin] at hall ⊢
    have H:Hid (NumR (bl t) (dval 0 (bl t):Nat) true):=numR_yes (fun e=>h0 (by rw [<- bl_length,e];exact Nat.zero_lt_one)) hall HZ.out
    clear hfin hall
    generalize dval 0 (bl t)=V at *
    go_wp2_with fail
    exact bodyPost_ret (v:=.tuple #[.int .i64 (V:Int),.bool true]) (by simp [results,Tryz.results148,go_sem]) rfl ⟨⟨(V:Int),true,rfl,H.out⟩,rfl⟩
 ·have hz1:((t[0].toNat:Int) == 48)=false:=by
   rw [beq_eq_false_iff_ne]
   exact fun e=>hz0 (UInt8.toNat_inj.1 (by rw [show (48:UInt8).toNat=48 from rfl];omega))
  clear hz hz0 hat0 hneg
  go_wp2_with fail
  go_loop [5,6] (fun nv iv=>∃ k:Nat,k<=t.size∧iv=.int .i64 k∧nv=.int .i64 (dval 0 ((bl t).take k):Nat)∧(∀ y∈(bl t).take k,DG y)) (fun _ iv=>t.size - (intOf iv).toNat)
  case atStart=>exact ⟨0,Nat.zero_le _,rfl,rfl,by simp⟩
  case round=>
   obtain ⟨k,hk,rfl,rfl,hall⟩:=hrel
   by_cases hlt:k < t.size
   ·have hat:=bl_at t k hlt
    by_cases hdg:DG t[k]
    ·have HT:=dval_take hat
     have HD:Hid (∀ y∈(bl t).take (k + 1),DG y):=digs_take hat hall hdg
     have hsm:=dval_small hall (by omega)
     have hd1:=hdg.1
     have hd2:=hdg.2
     generalize dval 0 ((bl t).take k)=V at *
     have HTT:Hid (dval 0 ((bl t).take (k + 1))=10 * V + (t[k].toNat - 48)):=HT
     clear HT hall hdg hat
     go_wp2_with fail
     exact ⟨⟨k + 1,by omega,by go_num,by rw [HTT.out];congr 1;omega,HD.out⟩,by simp [intOf];omega⟩
    ·have H:Hid (NumR (bl t) 0 false):=numR_no (dig_at hat hdg) 0
     have hdd:(t[k].toNat:Int) < 48∨(57:Int) < (t[k].toNat:Int):=by unfold DG at hdg;omega
     clear hat hall hdg
     rcases hdd with hdd | hdd
     all_goals
      go_wp2_with fail
      exact bodyPost_ret (v:=.tuple #[.int .i64 0,.bool false]) (by simp [results,Tryz.results148,go_sem]) rfl ⟨⟨0,false,rfl,H.out⟩,rfl⟩
   ·have hfin:(bl t).take k=bl t:=List.take_of_length_le (by rw [bl_length];omega)
    rw [hfin] at hall ⊢
    have H:Hid (NumR (bl t) (dval 0 (bl t):Nat) true):=numR_yes (fun e=>h0 (by rw [<- bl_length,e];exact Nat.zero_lt_one)) hall HZ.out
    clear hfin hall
    generalize dval 0 (bl t)=V at *
    go_wp2_with fail
    exact bodyPost_ret (v:=.tuple #[.int .i64 (V:Int),.bool true]) (by simp [results,Tryz.results148,go_sem]) rfl ⟨⟨(V:Int),true,rfl,H.out⟩,rfl⟩
end Go.Proofs.YtpfhegengmlkmacGreatDoor
