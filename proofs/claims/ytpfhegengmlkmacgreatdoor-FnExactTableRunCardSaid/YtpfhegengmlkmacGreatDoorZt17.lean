/- Texts of this claim. -/
import Derived.Test.YtpfhegengmlkmacGreatDoorZt10
namespace Go.Proofs.YtpfhegengmlkmacGreatDoor
def allL (ws:List (List ItemL)):Nat->List Int->List (List Int)
 | 0,ps=>[ps]
 | m + 1,ps=>(List.range (ws.getD ps.length []).length).flatMap fun i:Nat=>allL ws m (ps ++ [(i:Int)])
theorem pkM_pre {ws:List (List ItemL)} {ps qs:List Int} {i:Nat} (h:i < ps.length):pkM ws (ps ++ qs) i=pkM ws ps i:=by
 unfold pkM
 have e:(ps ++ qs).getD i 0=ps.getD i 0:=by simp [List.getD,List.getElem?_append_left h]
 rw [e]
theorem AgW.pre {ws:List (List ItemL)} {ps qs:List Int} (h:AgW ws (ps ++ qs)):AgW ws ps:=fun i k hk hi=>by
 have h1:=h i k hk (by simp;omega)
 rw [pkM_pre hi,pkM_pre (by omega)] at h1
 exact h1
theorem allL_pre {ws:List (List ItemL)}:∀ (m:Nat) (ps q:List Int),q∈allL ws m ps->∃ r,q=ps ++ r∧r.length=m
 | 0,ps,q,h=>by
  obtain rfl:q=ps:=by simpa [allL] using h
  exact ⟨[],by simp,rfl⟩
 | m + 1,ps,q,h=>by
  simp only [allL,List.mem_flatMap,List.mem_range] at h
  obtain ⟨i,_,h⟩:=h
  obtain ⟨r,rfl,hr⟩:=allL_pre m _ _ h
  exact ⟨(i:Int) :: r,by simp,by simp [hr]⟩
open Classical in
noncomputable def foundL (ws:List (List ItemL)) (m:Nat) (ps:List Int):List (List Int):=(allL ws m ps).filter fun q=>decide (AgW ws q)
theorem foundL_no {ws:List (List ItemL)} {m:Nat} {ps:List Int} (h:¬ AgW ws ps):foundL ws m ps=[]:=by
 classical
 unfold foundL
 rw [List.filter_eq_nil_iff]
 intro q hq
 obtain ⟨r,rfl,_⟩:=allL_pre m ps q hq
 simp only [decide_eq_true_eq]
 exact fun h2=>h h2.pre
theorem foundL_zero {ws:List (List ItemL)} {ps:List Int} (h:AgW ws ps):foundL ws 0 ps=[ps]:=by
 classical
 unfold foundL
 simp [allL,h]
noncomputable def foundK (ws:List (List ItemL)) (m:Nat) (ps:List Int) (k:Nat):List (List Int):=(List.range k).flatMap fun i:Nat=>foundL ws m (ps ++ [(i:Int)])
theorem foundK_zero (ws:List (List ItemL)) (m:Nat) (ps:List Int):foundK ws m ps 0=[]:=rfl
theorem foundK_succ (ws:List (List ItemL)) (m:Nat) (ps:List Int) (k:Nat):foundK ws m ps (k + 1)=foundK ws m ps k ++ foundL ws m (ps ++ [(k:Int)]):=by
 unfold foundK
 simp [List.range_succ,List.flatMap_append]
theorem foundL_succ (ws:List (List ItemL)) (m:Nat) (ps:List Int):foundL ws (m + 1) ps=foundK ws m ps (ws.getD ps.length []).length:=by
 classical
 unfold foundL foundK allL foundL
 rw [List.filter_flatMap]
theorem mem_allL {ws:List (List ItemL)}:∀ (m:Nat) (ps q:List Int),ps.length + m<=ws.length->InW ws ps->(q∈allL ws m ps↔∃ r,q=ps ++ r∧r.length=m∧InW ws q)
 | 0,ps,q,hm,hin=>by
  constructor
  ·intro h
   obtain rfl:q=ps:=by simpa [allL] using h
   exact ⟨[],by simp,rfl,hin⟩
  ·rintro ⟨r,rfl,hr,_⟩
   obtain rfl:=List.length_eq_zero_iff.1 hr
   simp [allL]
 | m + 1,ps,q,hm,hin=>by
  have hin2:∀ i:Nat,i < (ws.getD ps.length []).length->InW ws (ps ++ [(i:Int)]):=fun i hi=>by
   refine ⟨by simp;omega,fun j hj=>?_⟩
   simp only [List.length_append,List.length_singleton] at hj
   by_cases e:j < ps.length
   ·rw [List.getElem_append_left e]
    exact hin.2 j e
   ·obtain rfl:j=ps.length:=by omega
    simp only [List.getElem_concat_length]
    omega
  simp only [allL,List.mem_flatMap,List.mem_range]
  constructor
  ·rintro ⟨i,hi,h⟩
   obtain ⟨r,rfl,hr,h3⟩:=(mem_allL m _ q (by simp;omega) (hin2 i hi)).1 h
   exact ⟨(i:Int) :: r,by simp,by simp [hr],h3⟩
  ·rintro ⟨r,rfl,hr,h3⟩
   match r,hr with
   | x :: r,hr=>
    have hx:=h3.2 ps.length (by simp)
    have e:(ps ++ x :: r)[ps.length]'(by simp)=x:=by simp
    rw [e] at hx
    refine ⟨x.toNat,by omega, ?_⟩
    have ex:((x.toNat:Nat):Int)=x:=by omega
    refine (mem_allL m _ _ (by simp;omega) (hin2 x.toNat (by omega))).2 ⟨r,by rw [ex];simp,by simpa using hr,h3⟩
theorem chP_iff {ws:List (List ItemL)} {q:List Int}:ChP ws q↔OkW ws∧q∈foundL ws ws.length []:=by
 classical
 unfold foundL
 rw [List.mem_filter,mem_allL ws.length [] q (by simp) ⟨by simp,fun i hi=>by simp at hi⟩]
 simp only [decide_eq_true_eq,List.nil_append]
 constructor
 ·rintro ⟨h1,h2,h3,h4⟩
  exact ⟨h1,⟨q,rfl,h2,h3⟩,h4⟩
 ·rintro ⟨h1,⟨r,rfl,h2,h3⟩,h4⟩
  exact ⟨h1,h2,h3,h4⟩
def topL (b:List Int) (L:List (List Int)):List Int:=L.foldl (List.zipWith max) b
theorem topL_ch {ws:List (List ItemL)}:∀ (L:List (List Int)) (b:List Int),ChP ws b->(∀ q∈L,ChP ws q)->ChP ws (topL b L)∧(∀ i,(hb:i < b.length)->(ht:i < (topL b L).length)->b[i]<=(topL b L)[i])∧∀ q∈L,∀ i,(hq:i < q.length)->(ht:i < (topL b L).length)->q[i]<=(topL b L)[i]
 | [],b,hb,_=>⟨hb,fun i h1 h2=>Int.le_refl _,fun q hq=>by simp at hq⟩
 | p :: L,b,hb,hL=>by
  have hp:=hL p (by simp)
  obtain ⟨h1,h2,h3⟩:=topL_ch L (List.zipWith max b p) (chP_max hb hp) (fun q hq=>hL q (by simp [hq]))
  have lb:=hb.2.1
  have lp:=hp.2.1
  have lt:=h1.2.1
  have e:topL b (p :: L)=topL (List.zipWith max b p) L:=rfl
  rw [e]
  refine ⟨h1,fun i hi ht=>?_,fun q hq i hi ht=>?_⟩
  ·have h4:=h2 i (by simp;omega) ht
   rw [List.getElem_zipWith] at h4
   omega
  ·rcases List.mem_cons.1 hq with rfl | hq
   ·have h4:=h2 i (by simp;omega) ht
    rw [List.getElem_zipWith] at h4
    omega
   ·exact h3 q hq i hi ht
theorem topL_best {ws:List (List ItemL)} (hok:OkW ws) {b:List Int} {L:List (List Int)} (h:foundL ws ws.length []=b :: L):BestP ws (topL b (b :: L)) true:=by
 have hall:∀ q∈b :: L,ChP ws q:=fun q hq=>chP_iff.2 ⟨hok,by rw [h];exact hq⟩
 obtain ⟨h1,_,h3⟩:=topL_ch (b :: L) b (hall b (by simp)) hall
 refine .inl ⟨rfl,h1,fun q hq i hi ho=>?_⟩
 have hm:=(chP_iff.1 hq).2
 rw [h] at hm
 exact h3 q hm i hi ho
theorem none_best {ws:List (List ItemL)} (h:¬ OkW ws∨foundL ws ws.length []=[]):BestP ws [] false:=by
 refine .inr ⟨rfl,rfl,fun q hq=>?_⟩
 obtain ⟨h1,h2⟩:=chP_iff.1 hq
 rcases h with h | h
 ·exact h h1
 ·rw [h] at h2
  simp at h2
end Go.Proofs.YtpfhegengmlkmacGreatDoor
namespace Go.Proofs.YtpfhegengmlkmacGreatDoor
open Go.RowKit Go.BigFrame
set_option maxRecDepth 100000
theorem Tryz.infoZ1:(Tryz.prog.info? 3).map (fun i=>(i.zero,i.size,i.bytes))=some (some (.int .i64 0),1,8):=by kernel_rfl
theorem Tryz.infoZ2:(Tryz.prog.info? 37).map (fun i=>(i.zero,i.size,i.bytes))=some (some (.slice none 0 0),1,24):=by kernel_rfl
theorem allL_len {ws:List (List ItemL)} (h4:∀ k,(h:k < ws.length)->ws[k].length<=4):∀ (m:Nat) (ps:List Int),(allL ws m ps).length<=4 ^ m
 | 0,ps=>by simp [allL]
 | m + 1,ps=>by
  simp only [allL,List.length_flatMap]
  have hn:(ws.getD ps.length []).length<=4:=by
   by_cases h:ps.length < ws.length
   ·rw [getD_at h];exact h4 _ h
   ·simp [List.getD,List.getElem?_eq_none (by omega:ws.length<=ps.length)]
  have hs:∀ n:Nat,((List.range n).map fun i:Nat=>(allL ws m (ps ++ [(i:Int)])).length).sum<=n * 4 ^ m:=fun n=>by
   induction n with
   | zero=>simp
   | succ n ih=>
    rw [List.range_succ,List.map_append,List.sum_append]
    have:=allL_len h4 m (ps ++ [(n:Int)])
    simp only [List.map_cons,List.map_nil,List.sum_cons,List.sum_nil]
    rw [Nat.succ_mul]
    omega
  have h1:=hs (ws.getD ps.length []).length
  have h2:(ws.getD ps.length []).length * 4 ^ m<=4 * 4 ^ m:=Nat.mul_le_mul_right _ hn
  have h3:4 ^ (m + 1)=4 * 4 ^ m:=by rw [Nat.pow_succ];omega
  omega
theorem foundL_len {ws:List (List ItemL)} (h4:∀ k,(h:k < ws.length)->ws[k].length<=4) (m:Nat) (ps:List Int):(foundL ws m ps).length<=4 ^ m:=by
 unfold foundL
 exact Nat.le_trans (List.length_filter_le _ _) (allL_len h4 m ps)
theorem foundK_len {ws:List (List ItemL)} (h4:∀ k,(h:k < ws.length)->ws[k].length<=4) (m:Nat) (ps:List Int) (k:Nat):(foundK ws m ps k).length<=k * 4 ^ m:=by
 induction k with
 | zero=>simp [foundK]
 | succ k ih=>
  rw [foundK_succ,List.length_append,Nat.succ_mul]
  have:=foundL_len h4 m (ps ++ [(k:Int)])
  omega
theorem RowZ.grown {w w':World} {a:Option Addr} {ps:List Int} {r:Option Nat} (h:RowZ w a ps) (hg:w.grownBy w' r) (hne:∀ b o,a=some ⟨b,o,none⟩->some b≠r):RowZ w' a ps:=fun k hk=>by
 obtain ⟨b,o,e,h1,h2⟩:=h k hk
 exact ⟨b,o,e,Nat.lt_of_lt_of_le h1 hg.size,grown_cell hg (hne b o e) h2⟩
theorem GathN.rowz {w:World} {B g cap n:Nat} {l:List Int} (h:GathN w B (.slice (some ⟨g,0,none⟩) n cap) l) (hn:n=l.length) (h0:0 < l.length):RowZ w (some ⟨g,0,none⟩) l:=fun k hk=>by
 subst hn
 obtain ⟨g',cap',e,_,h2,_,h3⟩:=h.shape h0
 obtain ⟨rfl,rfl⟩:g=g'∧cap=cap':=by simpa using e
 exact ⟨g,0,rfl,h2,by rw [Nat.zero_add];exact h3 k hk⟩
theorem rowz_news {w:World} {b o:Nat} {l:List Int} (h:RowZ w (some ⟨b,o,none⟩) l):∀ j u,(l.map fun x=>Value.int .i64 x)[j]?=some u->w.cell? ((⟨b,o,none⟩:Addr).add j)=some u:=by
 intro j u hj
 have hjl:j < l.length:=by have:=(List.getElem?_eq_some_iff.1 hj).1;simpa using this
 have e:(⟨b,o,none⟩:Addr).add j=⟨b,o + j,none⟩:=by unfold Addr.add;by_cases h:j=0 <;> simp [h]
 obtain ⟨b',o',ha,_,c0⟩:=h j hjl
 obtain ⟨rfl,rfl⟩:b=b'∧o=o':=by simpa using ha
 rw [e,c0]
 simpa [hjl] using hj
theorem in_snoc {ws:List (List ItemL)} {ps:List Int} (hin:InW ws ps) (hp:ps.length < ws.length) {i:Nat} (hi:i < ws[ps.length].length):InW ws (ps ++ [(i:Int)]):=by
 refine ⟨by simp;omega,fun j hj=>?_⟩
 simp only [List.length_append,List.length_singleton] at hj
 by_cases e:j < ps.length
 ·rw [List.getElem_append_left e]
  exact hin.2 j e
 ·obtain rfl:j=ps.length:=by omega
  rw [getD_at hp]
  simp only [List.getElem_concat_length]
  omega
theorem wpList_append_nil {P:Program} (w:World) {ops:Array Oper} {rest:List Oper} {o:Oper} {a:Act} {Q:Exit->Act->World->Prop} (hgd:o.guard=none) (s x:Operand) (t:TypeId)
  (ho:o.op=.call { callee:=.builtin .append,args:=#[s,x],argTypes:=#[t,t] }) (e:TypeId) (i:TypeInfo) (ht:P.underlying t=some (.slice e)) (hi:P.info? e=some i) (va:Addr) (c:Nat) (hs:a.eval s=.slice (some va) 0 0) (hx:a.eval x=.slice none 0 c)
  (h:wpList P ops Q rest (a.put o.dst (.slice (some va) 0 0)) w):wpList P ops Q (o :: rest) a w:=by
 refine wpList_plain hgd fun K hK=>?_
 have hr:(Builtin.append_ #[t,t] o.type #[.slice (some va) 0 0,.slice none 0 c]).run P w=.ok (.slice (some va) 0 0) w:=by
  simp [Builtin.append_,run_underlying ht,sizeOf,typeInfo,hi,Builtin.lenOf,Builtin.firstCells,storeCells]
 unfold Oper.wp execOp
 simp only [ho,resolve,invoke,builtin,Sem.run_bind,Sem.run_pure,Result.andThen_ok,List.map_toArray,List.map_cons,List.map_nil,hs,hx,hr]
 exact hK _ _ h
theorem wpList_append_nums {ops:Array Oper} {rest:List Oper} {o:Oper} {a:Act} {w:World} {Q:Exit->Act->World->Prop} (hgd:o.guard=none) (s x:Operand)
  (ho:o.op=.call { callee:=.builtin .append,args:=#[s,x],argTypes:=#[37,37] }) (base e0 cap:Nat) (a':Option Addr) (l:List Int) (hs:a.eval s=.slice (some ⟨e0,0,none⟩) 0 0) (he:w.heap[e0]?=some (.cells #[] 3 (0,0))) (hb:base<=e0)
  (hx:a.eval x=.slice a' l.length cap) (hr:RowZ w a' l) (h0:l=[]->a'=none) (hl:l.length<=1048576)
  (h:∀ g' cap' w',GathN w' base (.slice (some ⟨g',0,none⟩) l.length cap') l->w.grownBy w' (some e0)->e0<=g'->wpList Tryz.prog ops Q rest (a.put o.dst (.slice (some ⟨g',0,none⟩) l.length cap')) w'):wpList Tryz.prog ops Q (o :: rest) a w:=by
 obtain ⟨i0,hi,hz0,hz1,hz2⟩:=info_parts Tryz.infoZ1
 have hlt:e0 < w.heap.size:=(Array.getElem?_eq_some_iff.1 he).1
 have hown:w.ownsRow base 3 1 (.slice (some ⟨e0,0,none⟩) 0 0) 0 []:=⟨rfl,.inr ⟨e0,0,#[],rfl,hb,he,Nat.le_refl _,Nat.zero_le _,rfl,rfl⟩⟩
 by_cases hn:l=[]
 ·subst hn
  obtain rfl:=h0 rfl
  exact wpList_append_nil w hgd s x 37 ho 3 i0 Tryz.underlying37 hi _ cap hs hx (h e0 0 w hown ⟨rfl,rfl,rfl,Nat.le_refl _,fun _ _ _=>rfl⟩ (Nat.le_refl _))
 ·have hpos:0 < l.length:=List.length_pos_iff.2 hn
  obtain ⟨b,off,rfl,_⟩:=hr 0 hpos
  refine wpList_append_lies w hgd s x 37 ho base 3 i0 (.int .i64 0) 1 8 Tryz.underlying37 hi hz0 hz1 hz2 rfl (by decide) _ _ _ hs hown ⟨b,off,none⟩ l.length cap (l.map fun x=>.int .i64 x) hx (by simp) (rowz_news hr) (by simp [Value.oneCell']) hpos (by unfold maxLen;omega) (by omega) (Nat.le_trans hb (Nat.le_of_lt hlt)) _ rfl ?_
  intro g' cap' w' h1 h2 h3 _
  simp only [Nat.zero_add,List.nil_append] at h1 ⊢
  exact h g' cap' w' h1 h2 (by
   rcases h3 with h3 | h3
   ·simp [Value.ownBlock] at h3;omega
   ·omega)
set_option maxHeartbeats 3200000 in
theorem l3All_any (W0:World) (B:Nat) (a:Option Addr) (cap:Nat) (ws:List (List ItemL)) (hW0:W0.heap.size<=B) (hf:FitW ws) (hr:RowW W0 a ws) (h6:ws.length<=6) (h4:∀ k,(h:k < ws.length)->ws[k].length<=4) :
  ∀ (m:Nat) (a':Option Addr) (cap':Nat) (ps:List Int) (v:Value) (L:List (List Int×Nat×Nat)) (w:World),Below W0.heap.size W0 w->RowZ w a' ps->(ps=[]->a'=none)->(∀ b o,a'=some ⟨b,o,none⟩->some b≠v.ownBlock)->InW ws ps->ps.length + m=ws.length->GathU w B v L->B<=w.heap.size->L.length + 4 ^ m<=100000 ->
  Calls Tryz.prog 83 #[.slice a ws.length cap,.slice a' ps.length cap',v] w fun e w'=>(∃ v' L',e=.returned v'∧GathU w' B v' L'∧L'.map (·.1)=L.map (·.1) ++ foundL ws m ps∧(v'.ownBlock=v.ownBlock∨∃ g,v'.ownBlock=some g∧w.heap.size<=g))∧w.grownBy w' v.ownBlock:=by
 intro m
 induction m with
 | zero=>
  intro a' cap' ps v L w hb hr' h0 hne hin hm hg hB hlen
  obtain ⟨i2,hi2,hy0,hy1,hy2⟩:=info_parts Tryz.infoZ2
  have hl:=hf.1
  unfold maxLen at hl
  simp only [Nat.pow_zero] at hlen
  have hps:ps.length<=6:=by omega
  have hpm:ps.length<=maxLen:=by unfold maxLen;omega
  go_enter Tryz.func83,Tryz.ntmps83
  go_wp2_with fail
  refine (l3Agrees_any a cap ws a' cap' ps _ hf (hr.below hb) hpm hr' hin).mono ?_
  rintro e w1 ⟨⟨r,rfl,hr1⟩,b1⟩
  have HR:Hid (r=true↔AgW ws ps):=hr1
  clear hr1
  cases r
  ·have HF:Hid (foundL ws 0 ps=[]):=foundL_no (fun h=>by simpa using HR.out.2 h)
   clear HR
   go_wp2_with fail
   go_ret
   exact ⟨⟨v,L,rfl,hg.keep b1,by rw [HF.out];simp,.inl rfl⟩,grown_below b1 _⟩
  ·have HF:Hid (foundL ws 0 ps=[ps]):=foundL_zero (HR.out.1 rfl)
   have heq:((ps.length:Int) == (ws.length:Int))=true:=by rw [beq_iff_eq];omega
   have hg1:=hg.keep b1
   have hr1:=hr'.below b1
   have z1:=b1.size
   clear HR hg hr'
   go_wp2_with (first
    | (at_builtin;refine wpList_append_nums rfl _ _ rfl B w1.heap.size cap' a' ps rfl (heap_alloc_new w1 _) (by omega) rfl (hr1.below ((Below.refl _ _).alloc (Nat.le_refl _) _)) h0 (by omega) ?_;intro g2 c2 w2 hn2 hgr2 hge2;have b2:Below w1.heap.size w1 w2:=((Below.refl _ _).alloc (Nat.le_refl _) _).grown hgr2 (by simp) (fun k e=>by cases e;exact Nat.le_refl _);have hg2:=hg1.keep b2;have z2:=b2.size;have hbx:Below w2.heap.size w2 (w2.alloc (.cells #[.slice (some ⟨g2,0,none⟩) ps.length c2] 37)):=(Below.refl _ _).alloc (Nat.le_refl _) _)
    | (at_builtin;refine wpList_append_own_at _ rfl _ _ 139 rfl B 37 i2 (.slice none 0 0) 1 24 Tryz.underlying139 hi2 hy0 hy1 hy2 rfl (by decide) _ _ _ rfl (own_keep hg2.1 hbx) ⟨w2.heap.size,0,none⟩ 1 1 [.slice (some ⟨g2,0,none⟩) ps.length c2] rfl rfl (cell_one_new _ _ _) (by simp [Value.oneCell']) (by unfold maxLen;omega) (by omega) (by simp;omega) ?_;intro v3 w3 hown3 hgr3 _ hloc3))
   go_ret
   have hall:Below w.heap.size w (w2.alloc (.cells #[.slice (some ⟨g2,0,none⟩) ps.length c2] 37)):=(b1.trans (b2.mono z1)).alloc (by omega) _
   refine ⟨⟨v3,L ++ [(ps,g2,c2)],rfl,GathU.snoc (hg2.keep hbx) (own_keep hn2 hbx) (by decide) hown3 hgr3,by rw [HF.out];simp, ?_⟩,grown_then (grown_below hall _) hgr3 (.inl rfl)⟩
   rcases hloc3 with e | e
   ·exact .inl e
   ·exact .inr ⟨_,e,by simp;omega⟩
 | succ m ih=>
  intro a' cap' ps v L w hb hr' h0 hne hin hm hg hB hlen
  obtain ⟨i1,hi1,hz0,hz1,hz2⟩:=info_parts Tryz.infoZ1
  have hl:=hf.1
  unfold maxLen at hl
  have h41:4 ^ (m + 1)=4 * 4 ^ m:=by rw [Nat.pow_succ];omega
  have hps:ps.length<=6:=by omega
  have hpw:ps.length < ws.length:=by omega
  have hpm:ps.length<=maxLen:=by unfold maxLen;omega
  go_enter Tryz.func83,Tryz.ntmps83
  go_wp2_with fail
  refine (l3Agrees_any a cap ws a' cap' ps _ hf (hr.below hb) hpm hr' hin).mono ?_
  rintro e w1 ⟨⟨r,rfl,hr1⟩,b1⟩
  have HR:Hid (r=true↔AgW ws ps):=hr1
  clear hr1
  cases r
  ·have HF:Hid (foundL ws (m + 1) ps=[]):=foundL_no (fun h=>by simpa using HR.out.2 h)
   clear HR
   go_wp2_with fail
   go_ret
   exact ⟨⟨v,L,rfl,hg.keep b1,by rw [HF.out];simp,.inl rfl⟩,grown_below b1 _⟩
  ·have HF:Hid (foundL ws (m + 1) ps=foundK ws m ps ws[ps.length].length):=by
    rw [foundL_succ,getD_at hpw]
    trivial
   have heq:((ps.length:Int) == (ws.length:Int))=false:=by rw [beq_eq_false_iff_ne];omega
   have hg1:=hg.keep b1
   have hr1:=hr'.below b1
   have z1:=b1.size
   have hz0':=hb.size
   have hb1:Below W0.heap.size W0 w1:=hb.trans (b1.mono hz0')
   obtain ⟨bw,ow,rfl,gw,sw,tw,ew,_,_⟩:=hr ps.length hpw
   have ew1:=cell_on hb1 gw ew
   have k0:(0:Int)<=(ps.length:Int):=by omega
   have k1:(ps.length:Int) < (ws.length:Int):=by omega
   have hw4:=h4 ps.length hpw
   have hvB:=own_from hg.1
   clear HR hg hr'
   go_wp2_with fail
   go_loopw [2,8] (fun u i wr=>∃ (k:Nat) (L':List (List Int×Nat×Nat)),k<=ws[ps.length].length∧i=.int .i64 k∧GathU wr B u L'∧Hid (L'.map (·.1)=L.map (·.1) ++ foundK ws m ps k)∧(u.ownBlock=v.ownBlock∨∃ g,u.ownBlock=some g∧w.heap.size<=g)∧w.grownBy wr v.ownBlock∧RowZ wr a' ps∧(∀ b o,a'=some ⟨b,o,none⟩->some b≠u.ownBlock)) (fun _ i _=>ws[ps.length].length - (intOf i).toNat)
   case atStart=>exact ⟨0,L,Nat.zero_le _,rfl,hg1,by unfold Hid;rw [foundK_zero];simp,.inl rfl,grown_below b1 _,hr1,hne⟩
   case round=>
    obtain ⟨k,L',hk,rfl,hgU,HL,hloc,hgw,hrz,hnu⟩:=hrel
    clear hg1 hr1 ew1 b1 z1 hb1 hne
    by_cases hlt:k < ws[ps.length].length
    ·have j0:(0:Int)<=(k:Int):=by omega
     have j1:(k:Int) < (ws[ps.length].length:Int):=by omega
     have zr:=hgw.size
     go_wp2_with (first
      | (at_builtin;refine wpList_append_nums rfl _ _ rfl B wr.heap.size cap' a' ps rfl (heap_alloc_new wr _) (by omega) rfl (hrz.below ((Below.refl _ _).alloc (Nat.le_refl _) _)) h0 (by omega) ?_;intro g2 c2 w2 hn2 hgr2 hge2;have b2:Below wr.heap.size wr w2:=((Below.refl _ _).alloc (Nat.le_refl _) _).grown hgr2 (by simp) (fun k e=>by cases e;exact Nat.le_refl _);have z2:=b2.size;have hbx:Below w2.heap.size w2 (w2.alloc (.cells #[.int .i64 k] 3)):=(Below.refl _ _).alloc (Nat.le_refl _) _)
      | (at_builtin;refine wpList_append_lies _ rfl _ _ 37 rfl B 3 i1 (.int .i64 0) 1 8 Tryz.underlying37 hi1 hz0 hz1 hz2 rfl (by decide) _ _ _ rfl (own_keep hn2 hbx) ⟨w2.heap.size,0,none⟩ 1 1 [.int .i64 k] rfl rfl (cell_one_new _ _ _) (by simp [Value.oneCell']) (by decide) (by unfold maxLen;omega) (by omega) (by simp;omega) _ rfl ?_;intro g3 c3 w3 hown3 hgr3 _ hlt3))
     have b3:Below wr.heap.size wr w3:=(b2.alloc z2 _).grown hgr3 (by simp;omega) (fun k e=>by have e2:some g2=some k:=e;cases e2;omega)
     have z3:=b3.size
     have hn3:GathN w3 B (.slice (some ⟨g3,0,none⟩) (ps.length + 1) c3) (ps ++ [(k:Int)]):=by
      unfold GathN
      rw [List.length_append,List.map_append]
      exact hown3
     have hg3:=hgU.keep b3
     have hbr:Below W0.heap.size W0 wr:=hb.grown hgw hz0' (fun k e=>Nat.le_trans hW0 (hvB k e))
     have hne3:∀ b o,(some ⟨g3,0,none⟩:Option Addr)=some ⟨b,o,none⟩->some b≠u2.ownBlock:=fun b o e q=>by
      obtain ⟨rfl,rfl⟩:g3=b∧0=o:=by simpa using e
      rcases own_types hn3 hg3.1 (by decide) with h | h
      ·simp [Value.ownBlock] at h
      ·exact h (by simpa [Value.ownBlock] using q)
     have hLl:L'.length + 4 ^ m<=100000:=by
      have h1:=congrArg List.length HL.out
      have h2:=foundK_len h4 m ps k
      have h3:k * 4 ^ m<=3 * 4 ^ m:=Nat.mul_le_mul_right _ (by omega)
      simp only [List.length_map,List.length_append] at h1
      omega
     have hih:=ih (some ⟨g3,0,none⟩) c3 (ps ++ [(k:Int)]) u2 L' w3 (hbr.trans (b3.mono hbr.size)) (hn3.rowz (by simp) (by simp)) (fun h=>by simp at h) hne3 (in_snoc hin hpw hlt) (by simp;omega) hg3 (by omega) hLl
     rw [List.length_append,List.length_singleton] at hih
     refine hih.mono ?_
     rintro e w4 ⟨⟨v4,L4,rfl,hg4,HL4,hloc4⟩,hgr4⟩
     have HLn:Hid (L4.map (·.1)=L.map (·.1) ++ foundK ws m ps (k + 1)):=by
      unfold Hid
      rw [HL4,HL.out,foundK_succ,List.append_assoc]
     have hgw4:w.grownBy w4 v.ownBlock:=grown_then (grown_then hgw (grown_below b3 _) (.inl rfl)) hgr4 hloc
     have hloc':v4.ownBlock=v.ownBlock∨∃ g,v4.ownBlock=some g∧w.heap.size<=g:=by
      rcases hloc4 with e | ⟨g,e,hle⟩
      ·rw [e];exact hloc
      ·exact .inr ⟨g,e,by omega⟩
     have hrz4:RowZ w4 a' ps:=(hrz.below b3).grown hgr4 hnu
     have hnu4:∀ b o,a'=some ⟨b,o,none⟩->some b≠v4.ownBlock:=fun b o e q=>by
      by_cases hp0:ps=[]
      ·have:=h0 hp0
       rw [this] at e
       simp at e
      ·obtain ⟨b',o',e',hl',_⟩:=hrz 0 (List.length_pos_iff.2 hp0)
       rw [e] at e'
       obtain ⟨rfl,rfl⟩:b=b'∧o=o':=by simpa using e'
       rcases hloc4 with e4 | ⟨g,e4,hle⟩
       ·exact hnu b o e (q.trans e4)
       ·rw [e4] at q
        cases q
        omega
     clear hih HL HL4 hgr4 hg3 hn3 hown3 hgr3 hn2 hgr2 hgU
     go_wp2_with fail
     exact ⟨⟨k + 1,L4,by omega,by go_num,hg4,HLn,hloc',hgw4,hrz4,hnu4⟩,by simp [intOf];omega⟩
    ·have HL2:Hid (L'.map (·.1)=L.map (·.1) ++ foundL ws (m + 1) ps):=by
      unfold Hid
      rw [HL.out,HF.out]
      congr 2
      omega
     go_wp2_with fail
     go_ret
     exact ⟨⟨_,rfl,L',hgU,HL2.out,hloc⟩,hgw⟩
end Go.Proofs.YtpfhegengmlkmacGreatDoor
