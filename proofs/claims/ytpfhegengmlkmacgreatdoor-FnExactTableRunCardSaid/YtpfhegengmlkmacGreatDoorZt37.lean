/- Texts of this claim. -/
import Derived.Test.YtpfhegengmlkmacGreatDoorZt35
namespace Go.Proofs.YtpfhegengmlkmacGreatDoor
open Go.RowKit Go.BigFrame
set_option maxRecDepth 100000
structure ShoY where
 vals:List Int
 st:List (ByteArray×Int)
 a1:Option Addr
 c1:Nat
 a2:Option Addr
 c2:Nat
 lo:Nat
 mid:Nat
 mi2:Nat
 hi:Nat
end Go.Proofs.YtpfhegengmlkmacGreatDoor
namespace Go.Proofs.YtpfhegengmlkmacGreatDoor
open Go.RowKit
def waits (ops:Array Oper) (i:Nat):List Nat:=match ops[i]? with
 | none=>[]
 | some o=>(o.after.toList.filter (Region.binds .any)).map (·.on)
def earlier (ops:Array Oper):Bool:=(List.range ops.size).all fun i=>(waits ops i).all fun j=>decide (j < i)
theorem mem_ready {ops:Array Oper} {listed:Array Bool} {i:Nat}:i∈Region.ready .any ops listed↔i < ops.size∧listed.getD i true=false∧∀ j∈waits ops i,listed.getD j false=true:=by
 unfold Region.ready waits
 rw [List.mem_filter,List.mem_range]
 refine and_congr_right fun hi=>?_
 rw [Array.getElem?_eq_getElem hi]
 simp only [Option.map_some,Option.getD_some,Bool.and_eq_true,Bool.not_eq_true',List.mem_map,List.mem_filter]
 refine and_congr_right fun _=>?_
 rw [Array.all_eq_true']
 constructor
 ·rintro h j ⟨e,⟨he,hb⟩,rfl⟩
  have:=h e (by simpa using he)
  simpa [hb] using this
 ·intro h e he
  by_cases hb:Region.binds .any e=true
  ·simpa [hb] using h e.on ⟨e,⟨by simpa using he,hb⟩,rfl⟩
  ·simp [hb]
def andDone (f:Nat->Bool) (i:Nat):Nat->Bool:=fun k=>if k=i then true else f k
theorem andDone_other (f:Nat->Bool) {i k:Nat} (h:k≠i):andDone f i k=f k:=if_neg h
def toCome (n:Nat) (f:Nat->Bool):Nat:=((List.range n).filter fun k=>!f k).length
theorem toCome_step {n i:Nat} {f:Nat->Bool} (hi:i < n) (h:f i=false):toCome n (andDone f i) < toCome n f:=by
 unfold toCome
 have e:((List.range n).filter fun k=>!andDone f i k)=((List.range n).filter fun k=>!f k).filter fun k=>decide (k≠i):=by
  rw [List.filter_filter]
  refine List.filter_congr fun k _=>?_
  by_cases hk:k=i
  ·subst hk;simp [andDone]
  ·simp [andDone,hk]
 rw [e]
 refine List.length_filter_lt_length_iff_exists.2 ⟨i, ?_,by simp⟩
 simp [List.mem_filter,hi,h]
theorem earlier_spec {ops:Array Oper} (h:earlier ops=true) {i j:Nat} (hi:i < ops.size) (hj:j∈waits ops i):j < i:=by
 have h1:=List.all_eq_true.1 h i (List.mem_range.2 hi)
 simpa using List.all_eq_true.1 h1 j hj
theorem wpAny_inv {P:Program} {ops:Array Oper} {Q:Exit->Act->World->Prop} (Inv:(Nat->Bool)->Act->World->Prop) (he:earlier ops=true)
  (hstep:∀ f a w i,Inv f a w->i < ops.size->f i=false->(∀ j∈waits ops i,f j=true)->wpOp P ops Q i (Inv (andDone f i)) a w)
  (hend:∀ f a w,Inv f a w->(∀ i,i < ops.size->f i=true)->Q .normal a w) :
  ∀ (fuel:Nat) (listed:Array Bool) (f:Nat->Bool) (a:Act) (w:World),listed.size=ops.size->(∀ i,(h:i < listed.size)->listed[i]=f i)->toCome ops.size f<=fuel->Inv f a w->wpAny P .any ops Q fuel listed a w:=by
 have hget:∀ {listed:Array Bool} {f:Nat->Bool},listed.size=ops.size->(∀ i,(h:i < listed.size)->listed[i]=f i)->∀ i d,i < ops.size->listed.getD i d=f i:=fun {listed f} hs hl i d hi=>by
  rw [Array.getD_eq_getD_getElem?,Array.getElem?_eq_getElem (by omega)]
  exact hl i (by omega)
 have hall:∀ {listed:Array Bool} {f:Nat->Bool},listed.size=ops.size->(∀ i,(h:i < listed.size)->listed[i]=f i)->Region.ready .any ops listed=[]->∀ i,i < ops.size->f i=true:=fun {listed f} hs hl hr i=>by
  induction i using Nat.strongRecOn with
  | _ i ih=>
   intro hi
   refine Classical.byContradiction fun hn=>?_
   have hm:i∈Region.ready .any ops listed:=mem_ready.2 ⟨hi,by rw [hget hs hl i true hi];simpa using hn,fun j hj=>by
    have hji:=earlier_spec he hi hj
    rw [hget hs hl j false (by omega)]
    exact ih j hji (by omega)⟩
   rw [hr] at hm
   simp at hm
 intro fuel
 induction fuel with
 | zero=>
  intro listed f a w hs hl hc hI
  have hr:Region.ready .any ops listed=[]:=by
   refine List.eq_nil_iff_forall_not_mem.2 fun i hi=>?_
   obtain ⟨h1,h2,_⟩:=mem_ready.1 hi
   rw [hget hs hl i true h1] at h2
   have:=toCome_step h1 h2
   omega
  exact ⟨hr,hend f a w hI (hall hs hl hr)⟩
 | succ fuel ih=>
  intro listed f a w hs hl hc hI
  refine ⟨fun hr=>hend f a w hI (hall hs hl hr),fun i hi=>?_⟩
  obtain ⟨h1,h2,h3⟩:=mem_ready.1 hi
  rw [hget hs hl i true h1] at h2
  have h4:∀ j∈waits ops i,f j=true:=fun j hj=>by
   have hji:=earlier_spec he h1 hj
   rw [<- hget hs hl j false (by omega)]
   exact h3 j hj
  have hlt:=toCome_step h1 h2
  have hk:∀ a' w',Inv (andDone f i) a' w'->wpAny P .any ops Q fuel (listed.setIfInBounds i true) a' w':=fun a' w' h'=>ih _ (andDone f i) a' w' (by simpa using hs) (fun k hk'=>by
   have hk2:k < listed.size:=by simpa using hk'
   rw [Array.getElem_setIfInBounds (by simpa using hk2)]
   by_cases e:i=k
   ·subst e;simp [andDone]
   ·rw [if_neg e,andDone_other f (fun h=>e h.symm)]
    exact hl k hk2) (by omega) h'
  have hs':=hstep f a w i hI h1 h2 h4
  unfold wpOp at hs' ⊢
  split
  ·rename_i ho
   rw [ho] at hs'
   exact hk _ _ hs'
  ·rename_i o ho
   rw [ho] at hs'
   simp only at hs'
   split
   ·rename_i hw
    rw [if_pos hw] at hs'
    rcases hs' with h | h
    ·exact .inl (Oper.wp_mono hk h)
    ·exact .inr h
   ·rename_i hw
    rw [if_neg hw] at hs'
    exact hk _ _ hs'
theorem wp_region_inv {P:Program} {id:Nat} {ops:Array Oper} {Q:Exit->Act->World->Prop} {a:Act} {w:World} (hm:P.follows .mixedOrders=true) (he:earlier ops=true) (Inv:(Nat->Bool)->Act->World->Prop) (h0:Inv (fun _=>false) a w.drew)
  (hstep:∀ f a w i,Inv f a w->i < ops.size->f i=false->(∀ j∈waits ops i,f j=true)->wpOp P ops Q i (Inv (andDone f i)) a w)
  (hend:∀ f a w,Inv f a w->(∀ i,i < ops.size->f i=true)->Q .normal a w):(Code.region id ops true).wp P Q a w:=
 wp_region_any hm (wpAny_inv Inv he hstep hend ops.size _ (fun _=>false) a _ (by simp) (fun i hi=>by simp) (by unfold toCome;exact Nat.le_trans (List.length_filter_le _ _) (by simp)) h0)
theorem wpOp_wanted {P:Program} {ops:Array Oper} {Q:Exit->Act->World->Prop} {K:Act->World->Prop} {i:Nat} {a:Act} {w:World} {o:Oper} (ho:ops[i]?=some o) (hw:Region.wanted o (yielded ops a.tmps)=true) (h:o.wp P a w K Q):wpOp P ops Q i K a w:=by
 unfold wpOp
 rw [ho]
 simp only
 rw [if_pos hw]
 exact .inl h
end Go.Proofs.YtpfhegengmlkmacGreatDoor
namespace Go.Proofs.YtpfhegengmlkmacGreatDoor
open Go.RowKit Go.BigFrame
set_option maxRecDepth 100000
theorem code_keeps (w:World):Calls Tryz.prog 292 #[.agg #[]] w fun e w'=>e=.returned (.int .i64 0)∧Below w.heap.size w w':=by
 go_enter Tryz.func292,Tryz.ntmps292
 go_wp2
 go_ret
 exact ⟨rfl,(Below.refl _ _).alloc (Nat.le_refl _) _⟩
theorem code_overflows (w:World):Calls Tryz.prog 293 #[.agg #[]] w fun e w'=>e=.returned (.int .i64 4)∧Below w.heap.size w w':=by
 go_enter Tryz.func293,Tryz.ntmps293
 go_wp2
 go_ret
 exact ⟨rfl,(Below.refl _ _).alloc (Nat.le_refl _) _⟩
theorem code_shows (a b:Value) (w:World):Calls Tryz.prog 294 #[.agg #[a,b]] w fun e w'=>e=.returned (.int .i64 1)∧Below w.heap.size w w':=by
 go_enter Tryz.func294,Tryz.ntmps294
 go_wp2
 go_ret
 exact ⟨rfl,(Below.refl _ _).alloc (Nat.le_refl _) _⟩
theorem Tryz.taKeeps (w:World):(Instr.typeAssert (.iface 161 (.agg #[])) 100 165 true).run Tryz.prog w=.ok (.tuple #[.agg #[.slice none 0 0,.slice none 0 0],.bool false]) w:=by kernel_rfl
theorem Tryz.taOverflows (w:World):(Instr.typeAssert (.iface 162 (.agg #[])) 100 165 true).run Tryz.prog w=.ok (.tuple #[.agg #[.slice none 0 0,.slice none 0 0],.bool false]) w:=by kernel_rfl
theorem Tryz.taShows (x y:Value) (w:World):(Instr.typeAssert (.iface 165 (.agg #[x,y])) 100 165 true).run Tryz.prog w=.ok (.tuple #[.agg #[x,y],.bool true]) w:=by kernel_rfl
set_option maxHeartbeats 1600000 in
theorem settled_none (a0 a1 a2:Option Addr) (n0 n1 n2 c0 c1 c2:Nat) (tt:TypeId) (htt:tt=161∨tt=162) (w:World) :
  Calls Tryz.prog 54 #[.agg #[.slice a0 n0 c0,.slice a1 n1 c1,.slice a2 n2 c2],.iface tt (.agg #[])] w fun e w'=>e=.returned (.tuple #[.agg #[.slice a0 n0 c0,.slice a1 n1 c1,.slice a2 n2 c2],.agg #[.slice none 0 0,.slice none 0 0]])∧Below w.heap.size w w':=by
 have k1:=Tryz.taKeeps
 have k2:=Tryz.taOverflows
 rcases htt with rfl | rfl
 all_goals
  go_enter Tryz.func54,Tryz.ntmps54
  go_wp2_with fail
  exact bodyPost_ret (v:=.tuple #[.agg #[.slice a0 n0 c0,.slice a1 n1 c1,.slice a2 n2 c2],.agg #[.slice none 0 0,.slice none 0 0]]) (by simp [results,Tryz.results54,go_sem]) rfl ⟨rfl,(((Below.refl _ _).alloc (Nat.le_refl _) _).alloc (by simp) _).alloc (by simp;omega) _⟩
set_option maxHeartbeats 3200000 in
theorem settled_shows (a0 a1 a2 ja:Option Addr) (n0 n1 n2 c0 c1 c2 gv nv cv cj:Nat) (j:List (ByteArray×Int)) (w:World) (hj:StampP j) (hr:Row w ja j) :
  Calls Tryz.prog 54 #[.agg #[.slice a0 n0 c0,.slice a1 n1 c1,.slice a2 n2 c2],.iface 165 (.agg #[.slice (some ⟨gv,0,none⟩) nv cv,.slice ja j.length cj])] w fun e w'=>(∃ gs cs,e=.returned (.tuple #[.agg #[.slice a0 n0 c0,.slice a1 n1 c1,.slice ja j.length cj],.agg #[.slice (some ⟨gv,0,none⟩) nv cv,.slice (some ⟨gs,0,none⟩) j.length cs]])∧w.heap.size<=gs∧j.length<=cs∧Own w' gs j)∧Below w.heap.size w w':=by
 have k1:=Tryz.taShows
 obtain ⟨W0,hW0⟩:∃ W0,(((w.alloc (.cells #[.slice a0 n0 c0,.slice a1 n1 c1,.slice ja j.length cj] 36)).alloc (.cells #[.slice none 0 0,.slice none 0 0,.slice none 0 0] 36)).alloc (.cells #[.slice none 0 0,.slice none 0 0] 39)).alloc (.cells #[.slice (some ⟨gv,0,none⟩) nv cv,.slice ja j.length cj] 165)=W0:=⟨_,rfl⟩
 have hz:W0.heap.size=w.heap.size + 4:=by rw [<- hW0];simp
 have hb0:Below w.heap.size w W0:=by rw [<- hW0];exact ((((Below.refl _ _).alloc (Nat.le_refl _) _).alloc (by simp) _).alloc (by simp;omega) _).alloc (by simp;omega) _
 have SF:∀ u:World,u=W0->u.cell? ⟨w.heap.size,0,none⟩=some (.slice a0 n0 c0)∧u.cell? ⟨w.heap.size,1,none⟩=some (.slice a1 n1 c1)∧u.cell? ⟨w.heap.size,2,none⟩=some (.slice ja j.length cj)∧u.cell? ⟨w.heap.size + 1 + 1 + 1,0,none⟩=some (.slice (some ⟨gv,0,none⟩) nv cv)∧u.cell? ⟨w.heap.size + 1 + 1 + 1,1,none⟩=some (.slice ja j.length cj):=fun u e=>by rw [e,<- hW0];refine ⟨?_, ?_, ?_, ?_, ?_⟩ <;> simp [go_sem]
 have r0:W0.cell? ⟨w.heap.size + 1,0,none⟩=some (.slice none 0 0):=by rw [<- hW0];simp [go_sem]
 have r1:W0.cell? ⟨w.heap.size + 1,1,none⟩=some (.slice none 0 0):=by rw [<- hW0];simp [go_sem]
 have r2:W0.cell? ⟨w.heap.size + 1,2,none⟩=some (.slice none 0 0):=by rw [<- hW0];simp [go_sem]
 have f0:∀ q,W0.frozen? ⟨w.heap.size + 1,q,none⟩=false:=fun q=>by rw [<- hW0];simp [go_sem]
 have q0:W0.cell? ⟨w.heap.size + 1 + 1,0,none⟩=some (.slice none 0 0):=by rw [<- hW0];simp [go_sem]
 have q1:W0.cell? ⟨w.heap.size + 1 + 1,1,none⟩=some (.slice none 0 0):=by rw [<- hW0];simp [go_sem]
 have f1:∀ q,W0.frozen? ⟨w.heap.size + 1 + 1,q,none⟩=false:=fun q=>by rw [<- hW0];simp [go_sem]
 have HS:Hid (∀ u:World,u=W0->u.cell? ⟨w.heap.size,0,none⟩=some (.slice a0 n0 c0)∧u.cell? ⟨w.heap.size,1,none⟩=some (.slice a1 n1 c1)∧u.cell? ⟨w.heap.size,2,none⟩=some (.slice ja j.length cj)∧u.cell? ⟨w.heap.size + 1 + 1 + 1,0,none⟩=some (.slice (some ⟨gv,0,none⟩) nv cv)∧u.cell? ⟨w.heap.size + 1 + 1 + 1,1,none⟩=some (.slice ja j.length cj)):=SF
 have HW:Hid (((((w.alloc (.cells #[.slice a0 n0 c0,.slice a1 n1 c1,.slice ja j.length cj] 36)).alloc (.cells #[.slice none 0 0,.slice none 0 0,.slice none 0 0] 36)).alloc (.cells #[.slice none 0 0,.slice none 0 0] 39)).alloc (.cells #[.slice (some ⟨gv,0,none⟩) nv cv,.slice ja j.length cj] 165))=W0):=hW0
 clear SF hW0
 go_enter Tryz.func54,Tryz.ntmps54
 go_wp2_with fail
 rw [HW.out]
 clear HW
 have hbd:Below W0.heap.size W0 W0.drew:=(Below.refl _ _).drew
 have hS0:=HS.out W0 rfl
 have HSB:Hid (∀ u:World,Below W0.heap.size W0 u->u.cell? ⟨w.heap.size,0,none⟩=some (.slice a0 n0 c0)∧u.cell? ⟨w.heap.size,1,none⟩=some (.slice a1 n1 c1)∧u.cell? ⟨w.heap.size,2,none⟩=some (.slice ja j.length cj)∧u.cell? ⟨w.heap.size + 1 + 1 + 1,0,none⟩=some (.slice (some ⟨gv,0,none⟩) nv cv)∧u.cell? ⟨w.heap.size + 1 + 1 + 1,1,none⟩=some (.slice ja j.length cj)):=fun u hu=>⟨cell_on hu (by omega) hS0.1,cell_on hu (by omega) hS0.2.1,cell_on hu (by omega) hS0.2.2.1,cell_on hu (by omega) hS0.2.2.2.1,cell_on hu (by omega) hS0.2.2.2.2⟩
 have SW:=HSB.out _ hbd
 refine wp_region_held_drew (S:=fun u=>u.cell? ⟨w.heap.size,0,none⟩=some (.slice a0 n0 c0)∧u.cell? ⟨w.heap.size,1,none⟩=some (.slice a1 n1 c1)∧u.cell? ⟨w.heap.size,2,none⟩=some (.slice ja j.length cj)∧u.cell? ⟨w.heap.size + 1 + 1 + 1,0,none⟩=some (.slice (some ⟨gv,0,none⟩) nv cv)∧u.cell? ⟨w.heap.size + 1 + 1 + 1,1,none⟩=some (.slice ja j.length cj)) (by kernel_rfl) SW (fun _=>?_)
 refine wpAnyH_take (i:=0) (v:=.agg #[.slice a0 n0 c0,.slice a1 n1 c1,.slice ja j.length cj]) rfl (by kernel_rfl) (by kernel_rfl) (by kernel_rfl) (fun _ _ _ h=>h) (Or.inl ⟨by rfl, ?_⟩) SW ?_
 ·rintro u ⟨x1,x2,x3,x4,x5⟩
  go_simp
 simp only [Act.put,List.setIfInBounds_toArray]
 refine wpAnyH_take (i:=1) (v:=.pointer (some ⟨w.heap.size + 1 + 1 + 1,0,none⟩)) rfl (by kernel_rfl) (by kernel_rfl) (by kernel_rfl) (fun _ _ _ h=>h) (Or.inl ⟨by rfl, ?_⟩) SW ?_
 ·rintro u ⟨x1,x2,x3,x4,x5⟩
  go_simp
 simp only [Act.put]
 refine wpAnyH_take (i:=2) (v:=.slice (some ⟨gv,0,none⟩) nv cv) rfl (by kernel_rfl) (by kernel_rfl) (by kernel_rfl) (fun _ _ _ h=>h) (Or.inl ⟨by rfl, ?_⟩) SW ?_
 ·rintro u ⟨x1,x2,x3,x4,x5⟩
  go_simp
 simp only [Act.put]
 refine wpAnyH_take (i:=3) (v:=.pointer (some ⟨w.heap.size + 1 + 1 + 1,1,none⟩)) rfl (by kernel_rfl) (by kernel_rfl) (by kernel_rfl) (fun _ _ _ h=>h) (Or.inl ⟨by rfl, ?_⟩) SW ?_
 ·rintro u ⟨x1,x2,x3,x4,x5⟩
  go_simp
 simp only [Act.put]
 refine wpAnyH_take (i:=4) (v:=.slice ja j.length cj) rfl (by kernel_rfl) (by kernel_rfl) (by kernel_rfl) (fun _ _ _ h=>h) (Or.inl ⟨by rfl, ?_⟩) SW ?_
 ·rintro u ⟨x1,x2,x3,x4,x5⟩
  go_simp
 simp only [Act.put]
 refine wpAnyH_ready (rs:=[5]) (by kernel_rfl) (by simp) ?_
 refine AllReadyH.cons rfl (fun K hK=>?_) AllReadyH.nil
 rw [if_pos (by rfl)]
 go_simp
 refine (freshMarks_any ja cj j _ (hr.below (hb0.trans (hbd.mono hb0.size))) (by have:=hj.1;omega) (fun i hi=>by have:=(hj.2.1 i hi).1.2.1;omega)).mono ?_
 rintro e w2 ⟨⟨gs,cs,rfl,hgs,hcs,hos⟩,b2⟩
 have hb2:Below W0.heap.size W0 w2:=hbd.trans (b2.mono hbd.size)
 have B2:Below w.heap.size w w2:=hb0.trans (hb2.mono hb0.size)
 have S2:=HSB.out _ hb2
 refine hK.out _ _ S2 (fun _=>?_)
 clear hK K SW
 refine wpAnyH_take (i:=6) (v:=.agg #[.slice (some ⟨gv,0,none⟩) nv cv,.slice (some ⟨gs,0,none⟩) j.length cs]) rfl (by kernel_rfl) (by kernel_rfl) (by kernel_rfl) (fun _ _ _ h=>h) (Or.inl ⟨by rfl, ?_⟩) S2 ?_
 ·rintro u ⟨x1,x2,x3,x4,x5⟩
  go_simp
 simp only [Act.put,List.setIfInBounds_toArray]
 have z2:=hb2.size
 replace r0:=cell_on hb2 (by omega) r0
 replace r1:=cell_on hb2 (by omega) r1
 replace r2:=cell_on hb2 (by omega) r2
 replace q0:=cell_on hb2 (by omega) q0
 replace q1:=cell_on hb2 (by omega) q1
 have f0':∀ q,w2.frozen? ⟨w.heap.size + 1,q,none⟩=false:=fun q=>(hb2.frozen (p:=⟨w.heap.size + 1,q,none⟩) (by simp only;omega)).trans (f0 q)
 have f1':∀ q,w2.frozen? ⟨w.heap.size + 1 + 1,q,none⟩=false:=fun q=>(hb2.frozen (p:=⟨w.heap.size + 1 + 1,q,none⟩) (by simp only;omega)).trans (f1 q)
 have hgz:W0.heap.size<=gs:=Nat.le_trans hbd.size hgs
 clear f0 f1
 refine wpAnyH_ready (rs:=[7]) (by kernel_rfl) (by simp) ?_
 refine AllReadyH.cons rfl (fun K hK=>?_) AllReadyH.nil
 rw [if_pos (by rfl)]
 go_simp
 obtain ⟨w3,h3⟩:∃ w3,((w2.setCell ⟨w.heap.size + 1,0,none⟩ (.slice a0 n0 c0)).setCell ⟨w.heap.size + 1,1,none⟩ (.slice a1 n1 c1)).setCell ⟨w.heap.size + 1,2,none⟩ (.slice ja j.length cj)=w3:=⟨_,rfl⟩
 have s3:Span (w.heap.size + 1) (w.heap.size + 2) w2 w3:=by rw [<- h3];exact (((Span.refl _ _ _).setCell (by omega) (by omega) _ _).setCell (by omega) (by omega) _ _).setCell (by omega) (by omega) _ _
 have B3:Below w.heap.size w w3:=by rw [<- h3];exact ((B2.setCell (by simp only;omega) _).setCell (by simp only;omega) _).setCell (by simp only;omega) _
 have y0:w3.cell? ⟨w.heap.size + 1,0,none⟩=some (.slice a0 n0 c0):=by rw [<- h3];simp [go_sem,r0]
 have y1:w3.cell? ⟨w.heap.size + 1,1,none⟩=some (.slice a1 n1 c1):=by rw [<- h3];simp [go_sem,r1]
 have y2:w3.cell? ⟨w.heap.size + 1,2,none⟩=some (.slice ja j.length cj):=by rw [<- h3];simp [go_sem,r2]
 have hc3:∀ b q v,w2.cell? ⟨b,q,none⟩=some v->b≠w.heap.size + 1->w3.cell? ⟨b,q,none⟩=some v:=fun b q v hv hb=>by rw [World.cell?_of_block (s3.block b (block_lt_of_cell hv) (by omega))];exact hv
 have S3:(fun u:World=>u.cell? ⟨w.heap.size,0,none⟩=some (.slice a0 n0 c0)∧u.cell? ⟨w.heap.size,1,none⟩=some (.slice a1 n1 c1)∧u.cell? ⟨w.heap.size,2,none⟩=some (.slice ja j.length cj)∧u.cell? ⟨w.heap.size + 1 + 1 + 1,0,none⟩=some (.slice (some ⟨gv,0,none⟩) nv cv)∧u.cell? ⟨w.heap.size + 1 + 1 + 1,1,none⟩=some (.slice ja j.length cj)) w3:=⟨hc3 _ _ _ S2.1 (by omega),hc3 _ _ _ S2.2.1 (by omega),hc3 _ _ _ S2.2.2.1 (by omega),hc3 _ _ _ S2.2.2.2.1 (by omega),hc3 _ _ _ S2.2.2.2.2 (by omega)⟩
 have q0':=hc3 _ _ _ q0 (by omega)
 have q1':=hc3 _ _ _ q1 (by omega)
 have f2':∀ q,w3.frozen? ⟨w.heap.size + 1 + 1,q,none⟩=false:=fun q=>by rw [<- h3];simp [go_sem,f1']
 have z3:=s3.size
 have os3:Own w3 gs j:=by obtain ⟨mm,f,h7,hf⟩:=id hos;exact ⟨mm,f,h7.of_block (s3.block gs hos.lt (by omega)),hf⟩
 rw [h3]
 clear h3 hc3
 refine hK.out _ _ S3 (fun _=>?_)
 clear hK K S2 q0 q1
 refine wpAnyH_ready (rs:=[8]) (by kernel_rfl) (by simp) ?_
 refine AllReadyH.cons rfl (fun K hK=>?_) AllReadyH.nil
 rw [if_pos (by rfl)]
 go_simp
 obtain ⟨w4,h4⟩:∃ w4,(w3.setCell ⟨w.heap.size + 1 + 1,0,none⟩ (.slice (some ⟨gv,0,none⟩) nv cv)).setCell ⟨w.heap.size + 1 + 1,1,none⟩ (.slice (some ⟨gs,0,none⟩) j.length cs)=w4:=⟨_,rfl⟩
 have s4:Span (w.heap.size + 2) (w.heap.size + 3) w3 w4:=by rw [<- h4];exact ((Span.refl _ _ _).setCell (by omega) (by omega) _ _).setCell (by omega) (by omega) _ _
 have B4:Below w.heap.size w w4:=by rw [<- h4];exact (B3.setCell (by simp only;omega) _).setCell (by simp only;omega) _
 have u0:w4.cell? ⟨w.heap.size + 1 + 1,0,none⟩=some (.slice (some ⟨gv,0,none⟩) nv cv):=by rw [<- h4];simp [go_sem,q0']
 have u1:w4.cell? ⟨w.heap.size + 1 + 1,1,none⟩=some (.slice (some ⟨gs,0,none⟩) j.length cs):=by rw [<- h4];simp [go_sem,q1']
 have hc4:∀ b q v,w3.cell? ⟨b,q,none⟩=some v->b≠w.heap.size + 2->w4.cell? ⟨b,q,none⟩=some v:=fun b q v hv hb=>by rw [World.cell?_of_block (s4.block b (block_lt_of_cell hv) (by omega))];exact hv
 have S4:(fun u:World=>u.cell? ⟨w.heap.size,0,none⟩=some (.slice a0 n0 c0)∧u.cell? ⟨w.heap.size,1,none⟩=some (.slice a1 n1 c1)∧u.cell? ⟨w.heap.size,2,none⟩=some (.slice ja j.length cj)∧u.cell? ⟨w.heap.size + 1 + 1 + 1,0,none⟩=some (.slice (some ⟨gv,0,none⟩) nv cv)∧u.cell? ⟨w.heap.size + 1 + 1 + 1,1,none⟩=some (.slice ja j.length cj)) w4:=⟨hc4 _ _ _ S3.1 (by omega),hc4 _ _ _ S3.2.1 (by omega),hc4 _ _ _ S3.2.2.1 (by omega),hc4 _ _ _ S3.2.2.2.1 (by omega),hc4 _ _ _ S3.2.2.2.2 (by omega)⟩
 replace y0:=hc4 _ _ _ y0 (by omega)
 replace y1:=hc4 _ _ _ y1 (by omega)
 replace y2:=hc4 _ _ _ y2 (by omega)
 have os4:Own w4 gs j:=by obtain ⟨mm,f,h7,hf⟩:=id os3;exact ⟨mm,f,h7.of_block (s4.block gs os3.lt (by omega)),hf⟩
 rw [h4]
 clear h4 hc4
 refine hK.out _ _ S4 (fun _=>?_)
 clear hK K S3
 refine wpAnyH_done (by kernel_rfl) ?_ _
 go_wp2_with fail
 exact bodyPost_ret (v:=.tuple #[.agg #[.slice a0 n0 c0,.slice a1 n1 c1,.slice ja j.length cj],.agg #[.slice (some ⟨gv,0,none⟩) nv cv,.slice (some ⟨gs,0,none⟩) j.length cs]]) (by simp [results,Tryz.results54,go_sem,y0,y1,y2,u0,u1]) rfl ⟨⟨gs,cs,rfl,by omega,hcs,os4⟩,B4⟩
end Go.Proofs.YtpfhegengmlkmacGreatDoor
