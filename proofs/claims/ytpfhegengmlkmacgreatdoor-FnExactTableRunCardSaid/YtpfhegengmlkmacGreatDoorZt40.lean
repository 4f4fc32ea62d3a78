/- Texts of this claim. -/
import Derived.Sort.LoopGhostIn
import Derived.Test.YtpfhegengmlkmacGreatDoorZt39
namespace Go.Proofs.YtpfhegengmlkmacGreatDoor
theorem stepM_len (ws:List (List ItemL)):∀ (i:Nat) (ps:List Int),(stepM ws i ps).length=ps.length
 | 0,ps=>by simp [stepM]
 | i + 1,ps=>by
  simp only [stepM]
  split
  ·simp
  ·rw [stepM_len ws i];simp
theorem allL_none {ws:List (List ItemL)}:∀ (m:Nat) (pre:List Int),(∃ j,pre.length<=j∧j < pre.length + m∧(ws.getD j []).length=0)->allL ws m pre=[]
 | 0,pre,⟨j,h1,h2,_⟩=>by omega
 | m + 1,pre,⟨j,h1,h2,h3⟩=>by
  simp only [allL]
  by_cases e:j=pre.length
  ·subst e
   rw [h3]
   rfl
  ·refine List.flatMap_eq_nil_iff.2 fun i _=>allL_none m _ ⟨j, ?_, ?_,h3⟩
   ·simp;omega
   ·simp;omega
def InF (ws:List (List ItemL)):Nat->List Int->Prop
 | _,[]=>True
 | d,x :: t=>0<=x∧x < ((ws.getD d []).length:Int)∧InF ws (d + 1) t
theorem inF_iff {ws:List (List ItemL)}:∀ (t:List Int) (d:Nat),InF ws d t↔∀ i,(h:i < t.length)->0<=t[i]∧t[i] < ((ws.getD (d + i) []).length:Int)
 | [],d=>by simp [InF]
 | x :: t,d=>by
  simp only [InF,inF_iff t (d + 1)]
  constructor
  ·rintro ⟨h1,h2,h3⟩ i hi
   cases i with
   | zero=>exact ⟨h1,h2⟩
   | succ i=>
    have:=h3 i (by simpa using hi)
    rw [show d + 1 + i=d + (i + 1) by omega] at this
    simpa using this
  ·intro h
   refine ⟨(h 0 (by simp)).1,(h 0 (by simp)).2,fun i hi=>?_⟩
   have:=h (i + 1) (by simpa using hi)
   rw [show d + (i + 1)=d + 1 + i by omega] at this
   simpa using this
theorem inF_zeros {ws:List (List ItemL)}:∀ (m d:Nat),(∀ j,d<=j->j < d + m->0 < (ws.getD j []).length)->InF ws d (List.replicate m 0)
 | 0,d,_=>trivial
 | m + 1,d,h=>by
  rw [List.replicate_succ]
  have:=h d (Nat.le_refl _) (by omega)
  exact ⟨by omega,by omega,inF_zeros m (d + 1) fun j h1 h2=>h j (by omega) (by omega)⟩
theorem inF_next {ws:List (List ItemL)}:∀ (t:List Int) (d:Nat) (r:List Int),InF ws d t->nxtT ws d t=some r->InF ws d r
 | [],d,r,_,h=>by simp [nxtT] at h
 | x :: t,d,r,hi,h=>by
  simp only [nxtT] at h
  obtain ⟨h1,h2,h3⟩:=hi
  cases hn:nxtT ws (d + 1) t with
  | some t'=>
   rw [hn] at h
   simp only [Option.some.injEq] at h
   subst h
   exact ⟨h1,h2,inF_next t (d + 1) t' h3 hn⟩
  | none=>
   rw [hn] at h
   simp only at h
   split at h
   ·rename_i hc
    simp only [Option.some.injEq] at h
    subst h
    refine ⟨by omega,hc,inF_zeros _ _ fun j h4 h5=>?_⟩
    have:=(inF_iff t (d + 1)).1 h3 (j - (d + 1)) (by omega)
    rw [show d + 1 + (j - (d + 1))=j by omega] at this
    omega
   ·cases h
open Classical in
noncomputable def restL (ws:List (List ItemL)) (cur:List Int):List (List Int):=if InW ws cur then fromL ws [] cur else []
theorem rest_in {ws:List (List ItemL)} {cur:List Int} (h:InW ws cur):restL ws cur=fromL ws [] cur:=if_pos h
theorem rest_out {ws:List (List ItemL)} {cur:List Int} (h:¬ InW ws cur):restL ws cur=[]:=if_neg h
theorem inW_F {ws:List (List ItemL)} {cur:List Int} (hl:cur.length=ws.length):InW ws cur↔InF ws 0 cur:=by
 rw [inF_iff]
 simp only [Nat.zero_add]
 exact ⟨fun h=>h.2,fun h=>⟨by omega,h⟩⟩
theorem rest_zeros (ws:List (List ItemL)):restL ws (List.replicate ws.length 0)=allL ws ws.length []:=by
 by_cases h:InW ws (List.replicate ws.length 0)
 ·rw [rest_in h]
  refine fromL_zeros _ [] fun j h1 h2=>?_
  have hj:j < ws.length:=by simpa using h2
  have:=h.2 j (by simpa using hj)
  simp only [List.getElem_replicate] at this
  omega
 ·rw [rest_out h]
  refine (allL_none _ [] ?_).symm
  refine Classical.byContradiction fun hn=>h ⟨by simp,fun i hi=>?_⟩
  have hi':i < ws.length:=by simpa using hi
  have:(ws.getD i []).length≠0:=fun e=>hn ⟨i,by simp,by simpa using hi',e⟩
  simp only [List.getElem_replicate]
  omega
theorem rest_step {ws:List (List ItemL)} {cur:List Int} (h:InW ws cur) (hl:cur.length=ws.length) (h0:0 < ws.length):restL ws cur=cur :: restL ws (stepM ws (cur.length - 1) cur):=by
 have hF:=(inW_F hl).1 h
 cases cur with
 | nil=>simp at hl;omega
 | cons x t=>
  have hnx:=fromL_next (ws:=ws) (x :: t) [] (fun j h1 h2=>by
   have:=(inF_iff (x :: t) 0).1 hF j (by simpa using h2)
   rw [Nat.zero_add] at this
   omega) (fun y hy=>by
   obtain ⟨j,hj,rfl⟩:=List.mem_iff_getElem.1 hy
   exact ((inF_iff (x :: t) 0).1 hF j hj).1)
  rw [rest_in h,hnx]
  have hs:=stepM_next (ws:=ws) x t
  have e0:([]:List Int).length=0:=rfl
  rw [e0]
  cases hn:nxtT ws 0 (x :: t) with
  | some r=>
   rw [hn] at hs
   simp only at hs ⊢
   have hr:=inF_next (x :: t) 0 r hF hn
   have hrl:=nxtT_len (x :: t) 0 r hn
   rw [hs,rest_in ((inW_F (hrl.trans hl)).2 hr)]
   rfl
  | none=>
   rw [hn] at hs
   simp only at hs ⊢
   rw [hs.2,rest_out]
   ·rfl
   ·intro hi
    have:=(hi.2 0 (by simp)).2
    simp only [List.getElem_cons_zero] at this
    exact hs.1 this
end Go.Proofs.YtpfhegengmlkmacGreatDoor
namespace Go.Proofs.YtpfhegengmlkmacGreatDoor
open Go.RowKit
structure Over (B:Nat) (W W':World):Prop where
 size:W.heap.size<=W'.heap.size
 block:∀ k,B<=k->k < W.heap.size->W'.heap[k]?=W.heap[k]?
theorem Over.trans {B:Nat} {X Y Z:World} (h:Over B X Y) (k:Over B Y Z):Over B X Z:=⟨Nat.le_trans h.size k.size,fun i h1 h2=>(k.block i h1 (Nat.lt_of_lt_of_le h2 h.size)).trans (h.block i h1 h2)⟩
theorem Over.of_below {B:Nat} {W W':World} (h:Below W.heap.size W W'):Over B W W':=⟨h.size,fun k _ hk=>h.block k hk⟩
theorem Over.setCell (B:Nat) (W:World) {p:Addr} (hp:p.block < B) (v:Value):Over B W (W.setCell p v):=⟨(KeepsWalks.setCell W p v).size,fun k h1 _=>Below.heap_setCell _ _ _ k (by omega)⟩
theorem Over.putObj (B:Nat) (W:World) {r:Nat} (hr:r < B) (o:Obj):Over B W (W.putObj r o):=⟨by simp,fun k h1 _=>World.putObj_heap_other (by omega)⟩
theorem below_putObj (B:Nat) (W:World) {r:Nat} (hr:B<=r) (o:Obj):Below B W (W.putObj r o):=⟨rfl,rfl,rfl,by simp,fun k hk=>World.putObj_heap_other (by omega)⟩
variable {F:Fence} {n:Nat} {P:Program}
theorem wpIn_rangeFunc_mem {α:Type} {g:Operand} {ps:Array Tmp} {assign body:Code} {Q:Exit->Act->World->Prop} {a:Act} {w:World}
  (hro:F.round=none) (h1:1<=n) {gf:Nat} {lb:Array Value} (hg:a.eval g=.func (.func gf) #[] lb) (hFg:F.fn gf) (eg:∀ args w,(callFunc gf args).run P w=.ok (.enter gf args) w)
  {encs:α->Array Value} {M:α->World->Prop} {S:List α->Prop} {N:Nat} (hps:∀ x,(encs x).size=ps.size)
  (I:List α->World->Prop) (hI:∀ s A A',I s A->Below w.heap.size A A'->I s A') (hM:∀ x A l o o',M x A->A.heap[l]?=some o->o.isCells=false->M x (A.putObj l o'))
  (hseq:∀ (l:Nat) (J:List α->World->Prop) (W:World),W.heap.size=w.heap.size + 2->(∀ s A,J s A->I s A)->(∀ s A A',J s A->Below (w.heap.size + 2) A A'->J s A') ->
   (∀ pre x A,J pre A->M x A->pre.length < N->YieldAt F (n - 1 - 1) P l (encs x) A fun e A'=>e=.returned (.bool true)∧J (pre ++ [x]) A'∧Over (w.heap.size + 2) A A')->J [] W ->
   CallsIn F (n - 1) P gf (#[.func (.yield l) #[] #[]] ++ lb) W fun e W'=>(∃ v,e=.returned v)∧∃ xs,S xs∧J xs W')
  (h0:I [] w) (a₁:α->Act)
  (hassign:∀ (l:Nat) (x:α) (W:World) (K:Act->World->Prop),K (a₁ x) W->assign.wpIn (F.inRound l) (n - 1 - 1) P (Exit.then K (fun _ _ _=>False)) { tmps:=(ps.zip (encs x)).foldl (fun t (p,v)=>t.setIfInBounds p v) a.tmps,defers:=[] } W)
  (hbody:∀ (l:Nat) (pre:List α) (x:α) (W:World),w.heap.size<=l->(∃ r,W.heap[l]?=some (.loop r))->I pre W->M x W->pre.length < N->body.wpIn (F.inRound l) (n - 1 - 1) P (ownPostG w.heap.size (Over (w.heap.size + 2)) I (fun _ _ _=>False) (pre ++ [x]) W) (a₁ x) W)
  (hdone:∀ (D:Nat) (xs:List α) (W:World),w.heap.size<=D->S xs->I xs W->W.heap[D]?=some (.deferred (some []))->Q .normal { a with defers:={ target:=.collected D,args:=#[] } :: a.defers } W) :
  (Code.rangeFunc g ps assign body).wpIn F n P Q a w:=by
 refine wpIn_rangeFunc ?_
 intro fn hfn
 rw [hro]
 obtain ⟨rec,hrec⟩:∃ rec:LoopState->Option Code->Loop,rec=fun st pe=>{ state:=st,pending:=pe,fn,tmps:=a.tmps,params:=ps,assign,body,defers:=w.heap.size }:=⟨_,rfl⟩
 obtain ⟨W1,hW1⟩:∃ W1,(w.alloc (.deferred (some []))).alloc (.loop (rec .ready none))=W1:=⟨_,rfl⟩
 have hL1:W1.heap[w.heap.size + 1]?=some (.loop (rec .ready none)):=by
  rw [<- hW1];have:=World.alloc_heap_new (w.alloc (.deferred (some []))) (.loop (rec .ready none));rwa [World.size_alloc] at this
 have hK1:W1.heap[w.heap.size]?=some (.deferred (some [])):=by
  rw [<- hW1];exact (Below.heap_alloc _ _ _ (by simp)).trans (World.alloc_heap_new w _)
 have hb1:Below w.heap.size w W1:=by rw [<- hW1];exact ((Below.refl _ w).alloc (Nat.le_refl _) _).alloc (by simp) _
 have hsz:W1.heap.size=w.heap.size + 2:=by rw [<- hW1];simp
 have hI1:I [] W1:=hI _ _ _ h0 hb1
 refine ⟨w.heap.size + 1,[{ target:=.collected w.heap.size,args:=#[] }],W1,{ target:=.fn (.func gf) lb,args:=#[.func (.yield (w.heap.size + 1)) #[] #[]] },W1,gf,
  #[.func (.yield (w.heap.size + 1)) #[] #[]] ++ lb,W1, ?_, ?_, ?_, ?_,fun _=>h1, ?_⟩
 ·rw [<- hW1,hrec];exact run_enterLoop_outer _ _ _ _ _
 ·simp only [resolve,hg]
  simp [go_sem]
 ·intro f' hf';simp [Target.leads] at hf';subst hf';exact hFg
 ·simp [invoke,go_sem,eg]
 ·refine (hseq (w.heap.size + 1)
   (fun pre W=>I pre W∧W.heap[w.heap.size + 1]?=some (.loop (rec .ready none))∧W.heap[w.heap.size]?=some (.deferred (some [])))
   W1 hsz (fun s A h=>h.1) (fun s A A' h hb=>⟨hI s A A' h.1 (hb.mono (by omega)),(hb.block _ (by omega)).trans h.2.1,(hb.block _ (by omega)).trans h.2.2⟩) ?_ ⟨hI1,hL1,hK1⟩).mono ?_
  ·rintro pre x W ⟨hi,hl,hk⟩ hm hlen
   have hlt:w.heap.size + 1 < W.heap.size:=(Array.getElem?_eq_some_iff.1 hl).1
   have hy:=run_yield (P:=P) (args:=encs x) hl (by rw [hrec];exact hps x)
   rw [hrec] at hy
   refine ⟨fn,_,assign,body,hy,roundIn_of_wpIn hfn (hassign _ x W _ ⟨_,run_beginRound hl (by rw [hrec]), ?_⟩)⟩
   have hl2:(W.putObj (w.heap.size + 1) (.loop { rec .ready none with state:=.busy })).heap[w.heap.size + 1]?=some (.loop { rec .ready none with state:=.busy }):=World.putObj_heap_same hlt
   have hk2:(W.putObj (w.heap.size + 1) (.loop { rec .ready none with state:=.busy })).heap[w.heap.size]?=some (.deferred (some [])):=(World.putObj_heap_other (by omega)).trans hk
   refine wpIn_mono (hbody _ pre x _ (by omega) ⟨_,hl2⟩ (hI _ _ _ hi (below_putObj _ _ (by omega) _)) (hM _ _ _ _ _ hm hl rfl) hlen) ?_
   rintro e a3 W3 hp
   cases e with
   | normal=>
    obtain ⟨hk3,hov,hi3⟩:=hp
    have hl3:=hk3.same _ _ (by omega) hl2 rfl
    have hr:=run_endRound (P:=P) none hl3
    refine ⟨_,_,hr,rfl,⟨hI _ _ _ hi3 (below_putObj _ _ (by omega) _), ?_,(World.putObj_heap_other (by omega)).trans (hk3.same _ _ (Nat.le_refl _) hk2 rfl)⟩,((Over.putObj _ _ (by omega) _).trans hov).trans (Over.putObj _ _ (by omega) _)⟩
    rw [World.putObj_heap_same (Array.getElem?_eq_some_iff.1 hl3).1]
    simp [hrec]
   | ret=>exact hp.2.elim
   | exit id=>exact hp.2.elim
   | goto t=>exact hp.2.elim
   | panic ch=>exact hp.elim
   | outgrown=>exact hp.elim
  ·rintro e W2 ⟨⟨v,rfl⟩,xs,hS,hi,hl,hk⟩
   exact ⟨none,_,by have:=run_endLoop (P:=P) hl (by rw [hrec];simp);rw [hrec] at this;exact this,hdone _ xs _ (Nat.le_refl _) hS (hI _ _ _ hi (below_putObj _ _ (by omega) _)) ((World.putObj_heap_other (by omega)).trans hk)⟩
end Go.Proofs.YtpfhegengmlkmacGreatDoor
namespace Go.Proofs.YtpfhegengmlkmacGreatDoor
open Go.RowKit Go.Shelf Go.BigFrame
set_option maxRecDepth 100000
attribute [local go_sem] Oper.semAt_some
set_option maxHeartbeats 400000 in
theorem all_any (b:Nat) (w:World) :
  Calls Tryz.prog 209 #[.pointer (some ⟨b,0,none⟩)] w fun e w'=>e=.returned (.func (.func 220) #[] #[.pointer (some ⟨w.heap.size,0,none⟩)])∧w'=w.alloc (.cells #[.pointer (some ⟨b,0,none⟩)] 241):=by
 go_enter Tryz.func209,Tryz.ntmps209
 go_wp2
 go_ret
 exact ⟨rfl,rfl⟩
theorem numB_over {B g:Nat} {w w':World} {l:List Int} (h:NumB w g l) (hov:Over B w w') (hg:B<=g):NumB w' g l:=by
 have hlt:=h.lt
 obtain ⟨m,f,h,hf⟩:=h
 exact ⟨m,f,h.of_block (hov.block g hg hlt),hf⟩
theorem numB_made (w:World) (n:Nat):NumB (w.alloc (.cells (madeCells #[.int .i64 0] n) 3)) w.heap.size (List.replicate n 0):=by
 refine ⟨n,fun _=>.int .i64 0, ?_,by simp,fun j hj=>by simp⟩
 have h:=World.rowIs_alloc w (madeCells #[.int .i64 0] n) 3 (fun _=>.int .i64 0) (fun i hi=>by
  rw [size_madeCells] at hi
  simp [madeCells,hi,Nat.mod_one])
 rwa [size_madeCells] at h
set_option maxHeartbeats 4000000 in
theorem all1_in (n l B:Nat) (W0 w0:World) (b Bc:Nat) (ws:List (List ItemL)) (sh:List (List Spot)) (hcb:ChB W0 w0 b ws sh) (hw0:w0.heap.size<=B) (hok:OkW ws)
  (J:List (List Int)->World->Prop) (W:World) (hW:W.heap.size=B)
  (hR:∀ s A,J s A->A.cell? ⟨Bc,0,none⟩=some (.pointer (some ⟨b,0,none⟩))∧Below w0.heap.size w0 A)
  (hJ:∀ s A A',J s A->Below B A A'->J s A')
  (hY:∀ pre x A,J pre A->(NumB A B x∧x.length=ws.length∧InW ws x)->pre.length < 4096->YieldAt Fence.wide (n - 1) Tryz.prog l #[.slice (some ⟨B,0,none⟩) ws.length ws.length] A fun e A'=>e=.returned (.bool true)∧J (pre ++ [x]) A'∧Over B A A')
  (h0:J [] W) :
  CallsIn Fence.wide n Tryz.prog 220 #[.func (.yield l) #[] #[],.pointer (some ⟨Bc,0,none⟩)] W fun e W'=>(∃ v,e=.returned v)∧∃ xs,xs=allL ws ws.length []∧J xs W':=by
 have HOK:Hid (OkW ws):=hok
 have h6:=hok.2.1
 have h1l:=hok.1
 clear hok
 refine callsIn_of_wp Tryz.func220 rfl trivial ?_ rfl
 simp only [Tryz.ntmps220,List.size_toArray,List.length_cons,List.length_nil,Nat.reduceAdd,Nat.reduceSub,Array.replicate_succ,Array.replicate_zero,List.push_toArray,List.append_toArray,List.nil_append,List.cons_append]
 obtain ⟨cB,hb0⟩:=hR _ _ h0
 have hcW:=hcb.below hb0
 obtain ⟨hbb,va,vc,va',vc',e0,_,_,_,_,_⟩:=hcW
 obtain ⟨i0,hi,hy0,hy1,hy2⟩:=info_parts Tryz.infoZ
 have hmk:∀ u:World,(Instr.makeSlice 37 (.int .i64 (ws.length:Int)) (.int .i64 (ws.length:Int))).run Tryz.prog u=.ok (.slice (some ⟨u.heap.size,0,none⟩) ws.length ws.length) (u.alloc (.cells (madeCells #[.int .i64 0] ws.length) 3)):=fun u=>by
  have h:=run_make (P:=Tryz.prog) u 37 3 i0 (.int .i64 0) Tryz.underlying37 hi hy0 .i64 .i64 (ws.length:Int) (ws.length:Int) (by omega) (Int.le_refl _) (by rw [hy2];omega) (by omega)
  simpa [hy1,Value.cells] using h
 have hnb:=numB_made W ws.length
 have hb1:Below W.heap.size W (W.alloc (.cells (madeCells #[.int .i64 0] ws.length) 3)):=(Below.refl _ _).alloc (Nat.le_refl _) _
 have hJ1:=hJ _ _ _ h0 (by rw [<- hW];exact hb1)
 rw [hW] at hnb
 have HW:Hid (W.heap.size=B):=hW
 clear hb1 h0
 gi_wp2_with fail
 clear cB hb0 hbb e0
 generalize W.alloc (.cells (madeCells #[.int .i64 0] ws.length) 3)=W1 at *
 clear hmk
 have hlen:(allL ws ws.length []).length<=4096:=Nat.le_trans (allL_len (fun k hk=>(HOK.out.2.2 k hk).1) _ _) (Nat.le_trans (Nat.pow_le_pow_right (by omega) h6) (by decide))
 gi_loopg [12] 4096 (fun gk u wr=>∃ (pre:List (List Int)) (cur:List Int),gk + pre.length=4096∧cur.length=ws.length∧Hid (allL ws ws.length []=pre ++ restL ws cur)∧NumB wr B cur∧J pre wr)
 case atStart=>exact ⟨[],List.replicate ws.length 0,rfl,by simp,by unfold Hid;rw [rest_zeros];rfl,hnb,hJ1⟩
 case round=>
  obtain ⟨pre,cur,hgk,hcl,HP,hnum,hJp⟩:=hrel
  obtain ⟨cB,hb0⟩:=hR _ _ hJp
  have hcw:=hcb.below hb0
  have hcl':=hnum.row
  have HHAS:=has_any W0 wr b ws sh (some ⟨B,0,none⟩) ws.length cur hcw h6 (by unfold maxLen;omega) hcl'
  rw [hcl] at HHAS
  clear hcl'
  gi_wp2_with fail
  refine ⟨trivial,fun h=>(by cases h),(callsIn_wide.2 HHAS).mono ?_⟩
  rintro e w2 ⟨⟨r,rfl,hr2⟩,b2⟩
  have HR:Hid (r=true↔InW ws cur):=hr2.trans ⟨fun h=>h.2,fun h=>⟨by trivial,h⟩⟩
  have hBw:=hnum.lt
  clear hr2 HHAS
  have hJ2:=hJ _ _ _ hJp (b2.mono (by omega))
  have hn2:=hnum.below b2
  cases r with
  | false=>
   have HD:Hid (pre=allL ws ws.length []):=by
    have hno:¬ InW ws cur:=fun h=>by have:=HR.out.2 h;simp at this
    have:=HP.out
    rw [rest_out hno,List.append_nil] at this
    exact this.symm
   gi_wp2
   refine ⟨fun f h=>(by cases h), ?_⟩
   gi_wp2
   go_end0
   exact ⟨⟨_,rfl⟩,pre,HD.out,hJ2⟩
  | true=>
   have HIN:Hid (InW ws cur):=HR.out.1 rfl
   clear HR
   have HP2:Hid (allL ws ws.length []=(pre ++ [cur]) ++ restL ws (stepM ws (cur.length - 1) cur)):=by
    have:=HP.out
    rw [rest_step HIN.out hcl (by omega)] at this
    unfold Hid
    rw [this]
    simp
   have hpl:pre.length < 4096:=by
    have h1:=congrArg List.length HP2.out
    simp only [List.length_append,List.length_cons,List.length_nil] at h1
    omega
   obtain ⟨fn,tmps,assign,body,hy,hRd⟩:=hY pre cur w2 hJ2 ⟨hn2,hcl,HIN.out⟩ hpl
   gi_wp2_with fail
   refine ⟨fun h=>(by cases h),hRd.mono ?_⟩
   rintro e w3 ⟨rfl,hJ3,hov⟩
   have hn3:=numB_over hn2 hov (Nat.le_refl _)
   obtain ⟨cB3,hb3⟩:=hR _ _ hJ3
   have HST:=step_any W0 w0 w3 b B ws.length ws sh cur hcb hw0 hb3 h6 (fun k hk=>(HOK.out.2.2 k hk).1) hcl (by omega) HIN.out hn3
   rw [hcl] at HST
   clear hy hRd hY
   gi_wp2_with fail
   refine ⟨trivial,fun h=>(by cases h),(callsIn_wide.2 HST).mono ?_⟩
   rintro e w4 ⟨⟨v,rfl⟩,hn4,hbut⟩
   have hJ4:=hJ _ _ _ hJ3 (hbut.below (Nat.le_refl _) (by have:=hn3.lt;omega))
   rw [hcl] at HP2
   gi_wp2_with fail
   gi_roundg (gk - 1)
   case measure=>omega
   case rel=>exact ⟨pre ++ [cur],stepM ws (ws.length - 1) cur,by simp only [List.length_append,List.length_cons,List.length_nil];omega,by rw [stepM_len];exact hcl,HP2,hn4,hJ4⟩
attribute [local go_sem] Oper.semAt_some
open Classical in
noncomputable def cntL (ws:List (List ItemL)) (s:List (List Int)):Nat:=(s.filter fun q=>decide (AgW ws q)).length
theorem cntL_yes {ws:List (List ItemL)} (s:List (List Int)) {q:List Int} (h:AgW ws q):cntL ws (s ++ [q])=cntL ws s + 1:=by
 unfold cntL
 rw [List.filter_append]
 simp [h]
theorem cntL_no {ws:List (List ItemL)} (s:List (List Int)) {q:List Int} (h:¬ AgW ws q):cntL ws (s ++ [q])=cntL ws s:=by
 unfold cntL
 rw [List.filter_append]
 simp [h]
theorem cntL_le (ws:List (List ItemL)) (s:List (List Int)):cntL ws s<=s.length:=List.length_filter_le _ _
theorem cntL_all (ws:List (List ItemL)):cntL ws (allL ws ws.length [])=(foundL ws ws.length []).length:=rfl
theorem numB_putObj {w:World} {g:Nat} {l:List Int} (h:NumB w g l) {r:Nat} {o:Obj} (o':Obj) (hr:w.heap[r]?=some o) (ho:o.isCells=false):NumB (w.putObj r o') g l:=by
 obtain ⟨m,f,h,hf⟩:=h
 refine ⟨m,f,h.of_block (World.putObj_heap_other fun e=>?_),hf⟩
 subst e
 obtain ⟨cur,hc,_⟩:=h
 rw [hc] at hr
 cases hr
 cases ho
set_option maxHeartbeats 4000000 in
theorem implCC_any (a:Option Addr) (cap:Nat) (ws:List (List ItemL)) (w:World) (hf:FitW ws) (hr:RowW w a ws) :
  Calls Tryz.prog 192 #[.slice a ws.length cap] w fun e w'=>(∃ n:Nat,e=.returned (.int .i64 (n:Int))∧CntP ws n)∧Below w.heap.size w w':=by
 refine (callsIn_wide (n:=5)).1 ?_
 refine callsIn_of_wp_marks Tryz.func192 rfl trivial ?_ rfl
 simp only [Tryz.ntmps192,List.size_toArray,List.length_cons,List.length_nil,Nat.reduceAdd,Nat.reduceSub,Array.replicate_succ,Array.replicate_zero,List.push_toArray,List.append_toArray,List.nil_append,List.cons_append]
 gi_wp2_with fail
 refine ⟨trivial,(callsIn_wide.2 (readChoices_any a cap ws _ hf hr)).mono ?_⟩
 rintro e w1 ⟨hE,b1⟩
 rcases hE with ⟨a1,c1,a2,c2,sh,rfl,hok,hc1,hc2,hrv,hrg,hsw⟩ | ⟨rfl,hno⟩
 ·have HOK:Hid (OkW ws):=hok
  have HSW:Hid (ShW ws sh):=hsw
  clear hok hsw
  gi_wp2_with fail
  refine ⟨trivial,(callsIn_wide.2 (all_any w1.heap.size _)).mono ?_⟩
  rintro e w3 ⟨rfl,rfl⟩
  have hcb:=chB_new hrv hrg hc1 hc2
  obtain ⟨w0,hw0⟩:∃ w0,w1.alloc (.cells #[.slice a1 ws.length c1,.slice a2 sh.length c2] 213)=w0:=⟨_,rfl⟩
  have hz0:w0.heap.size=w1.heap.size + 1:=by rw [<- hw0];simp
  have hB0:Below w.heap.size w w0:=by rw [<- hw0];exact b1.alloc b1.size _
  rw [hw0] at hcb ⊢
  obtain ⟨W3,hW3⟩:∃ W3,(w0.alloc (.cells #[.int .i64 0] 3)).alloc (.cells #[.pointer (some ⟨w1.heap.size,0,none⟩)] 241)=W3:=⟨_,rfl⟩
  have hz3:W3.heap.size=w1.heap.size + 3:=by rw [<- hW3];simp [hz0]
  have hB3:Below w0.heap.size w0 W3:=by rw [<- hW3];exact ((Below.refl _ _).alloc (Nat.le_refl _) _).alloc (by simp) _
  have c0:W3.cell? ⟨w1.heap.size + 1,0,none⟩=some (.int .i64 0):=by rw [<- hW3,<- hz0];simp [go_sem]
  have f0:W3.frozen? ⟨w1.heap.size + 1,0,none⟩=false:=by rw [<- hW3,<- hz0];simp [go_sem]
  have c2':W3.cell? ⟨w1.heap.size + 2,0,none⟩=some (.pointer (some ⟨w1.heap.size,0,none⟩)):=by rw [<- hW3,show w1.heap.size + 2=w0.heap.size + 1 by omega];simp [go_sem]
  have ez:(w0.alloc (.cells #[.int .i64 0] 3)).heap.size=w1.heap.size + 2:=by simp [hz0]
  rw [hW3]
  clear hw0 hW3 hrv hrg
  gi_wp2_with fail
  refine wpIn_rangeFunc_mem (n:=5) rfl (by omega) (gf:=220) (lb:=#[.pointer (some ⟨w1.heap.size + 2,0,none⟩)]) rfl trivial (enters_of Tryz.func220 (by kernel_rfl) rfl)
   (encs:=fun _:List Int=>#[.slice (some ⟨W3.heap.size + 2,0,none⟩) ws.length ws.length]) (M:=fun x A=>NumB A (W3.heap.size + 2) x∧x.length=ws.length∧InW ws x) (S:=fun xs=>xs=allL ws ws.length []) (N:=4096) (fun _=>rfl)
   (fun s A=>A.cell? ⟨w1.heap.size + 1,0,none⟩=some (.int .i64 (cntL ws s:Int))∧A.frozen? ⟨w1.heap.size + 1,0,none⟩=false∧A.cell? ⟨w1.heap.size + 2,0,none⟩=some (.pointer (some ⟨w1.heap.size,0,none⟩))∧Below w0.heap.size w0 A)
   (fun s A A' h hb=>⟨(hb.cell (p:=⟨w1.heap.size + 1,0,none⟩) (by simp;omega)).trans h.1,(hb.frozen (p:=⟨w1.heap.size + 1,0,none⟩) (by simp;omega)).trans h.2.1,(hb.cell (p:=⟨w1.heap.size + 2,0,none⟩) (by simp;omega)).trans h.2.2.1,h.2.2.2.trans (hb.mono (by omega))⟩)
   (fun x A l o o' h hl ho=>⟨numB_putObj h.1 o' hl ho,h.2⟩)
   (fun l J W hsz hJI hJb hY h0=>all1_in 4 l (W3.heap.size + 2) w w0 w1.heap.size (w1.heap.size + 2) ws sh hcb (by omega) HOK.out J W hsz (fun s A h=>⟨(hJI s A h).2.2.1,(hJI s A h).2.2.2⟩) hJb hY h0)
   ⟨c0,f0,c2',hB3⟩
   (fun _=>{ tmps:=#[.slice a ws.length cap,undef,.int .i64 0,.pointer (some ⟨w1.heap.size,0,none⟩),.bool true,.pointer (some ⟨w1.heap.size + 1,0,none⟩),.slice (some ⟨W3.heap.size + 2,0,none⟩) ws.length ws.length,.tuple #[.agg #[.slice a1 ws.length c1,.slice a2 sh.length c2],.bool true],.slice a ws.length cap,.tuple #[.agg #[.slice a1 ws.length c1,.slice a2 sh.length c2],.bool true],.agg #[.slice a1 ws.length c1,.slice a2 sh.length c2],.bool true,.bool true,.bool false,.func (.func 220) #[] #[.pointer (some ⟨w1.heap.size + 2,0,none⟩)],.slice (some ⟨W3.heap.size + 2,0,none⟩) ws.length ws.length,undef,undef,undef,undef,undef],defers:=[] }) ?assign ?body ?done
  case assign=>
   rintro l x W K hK
   clear hz3
   gi_wp2
   exact hK
  case body=>
   rintro l pre x W hle ⟨r,hr⟩ ⟨hc,hfz,hcp,hB⟩ ⟨hnum,hxl,hxi⟩ hlt
   have HZ3:Hid (W3.heap.size=w1.heap.size + 3):=hz3
   clear hz3
   have hWl:=block_lt_of_cell hc
   have hWl':=block_lt_of_cell hcp
   have HAG:=agrees_any w W w1.heap.size ws sh (some ⟨W3.heap.size + 2,0,none⟩) ws.length x (hcb.below hB) (hB0.trans (hB.mono hB0.size)) HOK.out hxl hxi hnum.row HSW.out
   rw [hxl] at HAG
   have HI:Hid (∀ (X:World) (v:Value),Below W.heap.size W X->X.cell? ⟨w1.heap.size + 1,0,none⟩=some v->KeepsFrom W3.heap.size W X∧Over (W3.heap.size + 2) W X∧X.frozen? ⟨w1.heap.size + 1,0,none⟩=false∧X.cell? ⟨w1.heap.size + 2,0,none⟩=some (.pointer (some ⟨w1.heap.size,0,none⟩))∧Below w0.heap.size w0 X):=
    fun X v hX _=>⟨keepsFrom_below _ hX,Over.of_below hX,(hX.frozen (p:=⟨w1.heap.size + 1,0,none⟩) hWl).trans hfz,cell_on hX hWl' hcp,hB.trans (hX.mono hB.size)⟩
   gi_wp2_with fail
   refine ⟨trivial,(CallsIn.inRound l (callsIn_wide.2 HAG)).mono ?_⟩
   rintro e w4 ⟨⟨r,rfl,hr4⟩,hb4⟩
   have HR:Hid (r=true↔AgW ws x):=hr4
   have hc4:=cell_on hb4 hWl hc
   obtain ⟨k1,k2,hf4,hp4,hB4⟩:=HI.out w4 _ hb4 hc4
   clear hr4 HAG HI hc hfz hcp hB
   cases r with
   | false=>
    have HN:Hid (cntL ws (pre ++ [x])=cntL ws pre):=cntL_no _ fun h=>by have:=HR.out.2 h;simp at this
    gi_wp2_with fail
    exact ⟨k1,k2,by rw [HN.out];exact hc4,hf4,hp4,hB4⟩
   | true=>
    have HN:Hid (cntL ws (pre ++ [x])=cntL ws pre + 1):=cntL_yes _ (HR.out.1 rfl)
    have hle':=cntL_le ws pre
    have q0:(0:Int)<=(cntL ws pre:Int):=by omega
    have q1:(cntL ws pre:Int) < 4096:=by omega
    gi_wp2_with fail
    have hw4l:=block_lt_of_cell hc4
    refine ⟨k1.trans ((KeepsOthers.setCell _ _ _).from _),k2.trans (Over.setCell _ _ (by have:=HZ3.out;simp;omega) _), ?_, ?_, ?_, ?_⟩
    ·rw [HN.out]
     exact World.cell?_setCell_same' _ _ _ (by rw [hc4];rfl)
    ·exact (World.frozen?_setCell _ _ _ _).trans hf4
    ·exact (far_set _ _ (by omega)).trans hp4
    ·exact hB4.setCell (p:=⟨w1.heap.size + 1,0,none⟩) (by simp;omega) _
  case done=>
   rintro D xs W hD hS ⟨hc,hfz,hcp,hB⟩ hK
   subst hS
   gi_wp2
   refine ⟨by simp,.inl ⟨_,_,rfl,run_takeDeferred hK, ?_⟩⟩
   refine ⟨.int .i64 (cntL ws (allL ws ws.length []):Int), ?_,⟨_,rfl,.inl ⟨HOK.out,cntL_all ws⟩⟩,(hB0.trans (hB.mono hB0.size)).trans (below_putObj _ _ (by have:=hB0.size;omega) _)⟩
   simp [results,Tryz.f192,go_sem]
 ·have HN:Hid (CntP ws 0):=.inr ⟨hno,rfl⟩
  clear hno
  gi_wp2_with fail
  refine ⟨.int .i64 0, ?_,⟨0,rfl,HN.out⟩,b1.alloc b1.size _⟩
  simp [results,Tryz.f192,go_sem]
end Go.Proofs.YtpfhegengmlkmacGreatDoor
