/- Texts of this claim. -/
import Derived.Test.YtpfhegengmlkmabGreatDoorZu16
namespace Go.Proofs.YtpfhegengmlkmabGreatDoor
open Go.RowKit Go.BigFrame
set_option maxRecDepth 100000
theorem Tryz.infoZ1:(Tryz.prog.info? 3).map (fun i=>(i.zero,i.size,i.bytes))=some (some (.int .i64 0),1,8):=by kernel_rfl
theorem Tryz.infoZ2:(Tryz.prog.info? 41).map (fun i=>(i.zero,i.size,i.bytes))=some (some (.slice none 0 0),1,24):=by kernel_rfl
theorem CG {ws:List (List af)}(h4:∀k,(h:k<ws.length)->ws[k].length<=4):∀(m:Nat) (ps:List Int),(allL ws m ps).length<=4 ^ m
 |0,ps=>by simp[allL]
 |m+1,ps=>by
  simp only[allL,List.length_flatMap]
  have hn:(ws.getD ps.length []).length<=4:=by
   by_cases h:ps.length<ws.length
   ·rw[getD_at h];exact h4 _ h
   ·simp[List.getD,List.getElem?_eq_none (by omega:ws.length<=ps.length)]
  have hs:∀n:Nat,((List.range n).map fun i:Nat=>(allL ws m (ps++[(i:Int)])).length).sum<=n*4 ^ m:=fun n=>by
   induction n with
   |zero=>simp
   |succ n ih=>
    rw[List.range_succ,List.map_append,List.sum_append]
    have:=CG h4 m (ps++[(n:Int)])
    simp only[List.map_cons,List.map_nil,List.sum_cons,List.sum_nil]
    rw[Nat.succ_mul]
    omega
  have h1:=hs (ws.getD ps.length []).length
  have h2:(ws.getD ps.length []).length*4 ^ m<=4*4 ^ m:=Nat.mul_le_mul_right _ hn
  have h3:4 ^ (m+1)=4*4 ^ m:=by rw[Nat.pow_succ];omega
  omega
theorem xH {ws:List (List af)}(h4:∀k,(h:k<ws.length)->ws[k].length<=4)(m:Nat)(ps:List Int):(bQ ws m ps).length<=4 ^ m:=by
 unfold bQ
 exact Nat.le_trans (List.length_filter_le _ _) (CG h4 m ps)
theorem EN {ws:List (List af)}(h4:∀k,(h:k<ws.length)->ws[k].length<=4)(m:Nat)(ps:List Int)(k:Nat):(jV ws m ps k).length<=k*4 ^ m:=by
 induction k with
 |zero=>simp[jV]
 |succ k ih=>
  rw[uJ,List.length_append,Nat.succ_mul]
  have:=xH h4 m (ps++[(k:Int)])
  omega
theorem iC.grown {w w':World}{a:Option Addr}{ps:List Int}{r:Option Nat}(h:iC w a ps)(hg:w.grownBy w' r)(hne:∀b o,a=some ⟨b,o,none⟩->some b≠r):iC w' a ps:=fun k hk=>by
 obtain⟨b,o,e,h1,h2⟩:=h k hk
 exact⟨b,o,e,Nat.lt_of_lt_of_le h1 hg.size,dn hg (hne b o e) h2⟩
theorem dZ.rowz {w:World}{B g cap n:Nat}{l:List Int}(h:dZ w B (.slice (some ⟨g,0,none⟩) n cap) l)(hn:n=l.length)(h0:0<l.length):iC w (some ⟨g,0,none⟩) l:=fun k hk=>by
 subst hn
 obtain⟨g',cap',e,_,h2,_,h3⟩:=h.shape h0
 obtain⟨rfl,rfl⟩:g=g'/\cap=cap':=by simpa using e
 exact⟨g,0,rfl,h2,by rw[Nat.zero_add];exact h3 k hk⟩
theorem Hg {w:World}{b o:Nat}{l:List Int}(h:iC w (some ⟨b,o,none⟩) l):∀j u,(l.map fun x=>Value.int .i64 x)[j]?=some u->w.cell? ((⟨b,o,none⟩:Addr).add j)=some u:=by
 intro j u hj
 have hjl:j<l.length:=by have:=(List.getElem?_eq_some_iff.1 hj).1;simpa using this
 have e:(⟨b,o,none⟩:Addr).add j=⟨b,o+j,none⟩:=by unfold Addr.add;by_cases h:j=0 <;> simp[h]
 obtain⟨b',o',ha,_,c0⟩:=h j hjl
 obtain⟨rfl,rfl⟩:b=b'/\o=o':=by simpa using ha
 rw[e,c0]
 simpa[hjl]using hj
theorem Le {ws:List (List af)}{ps:List Int}(hin:kH ws ps)(hp:ps.length<ws.length){i:Nat}(hi:i<ws[ps.length].length):kH ws (ps++[(i:Int)]):=by
 refine⟨by simp;omega,fun j hj=>?_⟩
 simp only[List.length_append,List.length_singleton]at hj
 by_cases e:j<ps.length
 ·rw[List.getElem_append_left e]
  exact hin.2 j e
 ·obtain rfl:j=ps.length:=by omega
  rw[getD_at hp]
  simp only[List.getElem_concat_length]
  omega
theorem qX {P:Program}(w:World){ops:Array Oper}{rest:List Oper}{o:Oper}{a:Act}{Q:Exit->Act->World->Prop}(hgd:o.guard=none)(s x:Operand)(t:TypeId)
  (ho:o.op=.call { callee:=.builtin .append,args:=#[s,x],argTypes:=#[t,t] }) (e:TypeId) (i:TypeInfo) (ht:P.underlying t=some (.slice e)) (hi:P.info? e=some i) (va:Addr) (c:Nat) (hs:a.eval s=.slice (some va) 0 0) (hx:a.eval x=.slice none 0 c)
  (h:wpList P ops Q rest (a.put o.dst (.slice (some va) 0 0)) w):wpList P ops Q (o::rest) a w:=by
 refine wpList_plain hgd fun K hK=>?_
 have hr:(Builtin.append_ #[t,t] o.type #[.slice (some va) 0 0,.slice none 0 c]).run P w=.ok (.slice (some va) 0 0) w:=by
  simp[Builtin.append_,run_underlying ht,sizeOf,typeInfo,hi,Builtin.lenOf,Builtin.firstCells,storeCells]
 unfold Oper.wp execOp
 simp only[ho,resolve,invoke,builtin,Sem.run_bind,Sem.run_pure,Result.andThen_ok,List.map_toArray,List.map_cons,List.map_nil,hs,hx,hr]
 exact hK _ _ h
theorem iE {ops:Array Oper}{rest:List Oper}{o:Oper}{a:Act}{w:World}{Q:Exit->Act->World->Prop}(hgd:o.guard=none)(s x:Operand)
  (ho:o.op=.call { callee:=.builtin .append,args:=#[s,x],argTypes:=#[41,41] }) (base e0 cap:Nat) (a':Option Addr) (l:List Int) (hs:a.eval s=.slice (some ⟨e0,0,none⟩) 0 0) (he:w.heap[e0]?=some (.cells #[] 3 (0,0))) (hb:base<=e0)
  (hx:a.eval x=.slice a' l.length cap) (hr:iC w a' l) (h0:l=[]->a'=none) (hl:l.length<=1048576)
  (h:∀g' cap' w',dZ w' base (.slice (some ⟨g',0,none⟩) l.length cap') l->w.grownBy w' (some e0)->e0<=g'->wpList Tryz.prog ops Q rest (a.put o.dst (.slice (some ⟨g',0,none⟩) l.length cap')) w'):wpList Tryz.prog ops Q (o::rest) a w:=by
 obtain⟨i0,hi,hz0,hz1,hz2⟩:=info_parts Tryz.infoZ1
 have hlt:e0<w.heap.size:=(Array.getElem?_eq_some_iff.1 he).1
 have hown:w.ownsRow base 3 1 (.slice (some ⟨e0,0,none⟩) 0 0) 0 []:=⟨rfl,.inr ⟨e0,0,#[],rfl,hb,he,Nat.le_refl _,Nat.zero_le _,rfl,rfl⟩⟩
 by_cases hn:l=[]
 ·subst hn
  obtain rfl:=h0 rfl
  exact qX w hgd s x 41 ho 3 i0 Tryz.underlying41 hi _ cap hs hx (h e0 0 w hown ⟨rfl,rfl,rfl,Nat.le_refl _,fun _ _ _=>rfl⟩ (Nat.le_refl _))
 ·have hpos:0<l.length:=List.length_pos_iff.2 hn
  obtain⟨b,off,rfl,_⟩:=hr 0 hpos
  refine wpList_append_lies w hgd s x 41 ho base 3 i0 (.int .i64 0) 1 8 Tryz.underlying41 hi hz0 hz1 hz2 rfl (by decide) _ _ _ hs hown ⟨b,off,none⟩ l.length cap (l.map fun x=>.int .i64 x) hx (by simp) (Hg hr) (by simp[Value.oneCell']) hpos (by unfold maxLen;omega) (by omega) (Nat.le_trans hb (Nat.le_of_lt hlt)) _ rfl ?_
  intro g' cap' w' h1 h2 h3 _
  simp only[Nat.zero_add,List.nil_append]at h1 ⊢
  exact h g' cap' w' h1 h2 (by
   rcases h3 with h3|h3
   ·simp[Value.ownBlock]at h3;omega
   ·omega)
set_option maxHeartbeats 3200000 in
theorem GN (W0:World)(B:Nat)(a:Option Addr)(cap:Nat)(ws:List (List af))(hW0:W0.heap.size<=B)(hf:wM ws)(hr:iF W0 a ws)(h6:ws.length<=6)(h4:∀k,(h:k<ws.length)->ws[k].length<=4) :
  ∀(m:Nat) (a':Option Addr) (cap':Nat) (ps:List Int) (v:Value) (L:List (List Int×Nat×Nat)) (w:World),Below W0.heap.size W0 w->iC w a' ps->(ps=[]->a'=none)->(∀b o,a'=some ⟨b,o,none⟩->some b≠v.ownBlock)->kH ws ps->ps.length+m=ws.length->lJ w B v L->B<=w.heap.size->L.length+4 ^ m<=100000 ->
  Calls Tryz.prog 75 #[.slice a ws.length cap,.slice a' ps.length cap',v] w fun e w'=>(∃v' L',e=.returned v'/\lJ w' B v' L'/\L'.map (·.1)=L.map (·.1)++bQ ws m ps/\(v'.ownBlock=v.ownBlock∨∃g,v'.ownBlock=some g/\w.heap.size<=g))/\w.grownBy w' v.ownBlock:=by
 intro m
 induction m with
 |zero=>
  intro a' cap' ps v L w hb hr' h0 hne hin hm hg hB hlen
  obtain⟨i2,hi2,hy0,hy1,hy2⟩:=info_parts Tryz.infoZ2
  have hl:=hf.1
  unfold maxLen at hl
  simp only[Nat.pow_zero]at hlen
  have hps:ps.length<=6:=by omega
  have hpm:ps.length<=maxLen:=by unfold maxLen;omega
  go_enter Tryz.func75,Tryz.ntmps75
  go_wp2_with fail
  refine(lW a cap ws a' cap' ps _ hf (hr.below hb) hpm hr' hin).mono ?_
  rintro e w1 ⟨⟨r,rfl,hr1⟩,b1⟩
  have HR:Hid (r=true↔yt ws ps):=hr1
  clear hr1
  cases r
  ·have HF:Hid (bQ ws 0 ps=[]):=zi (fun h=>by simpa using HR.out.2 h)
   clear HR
   go_wp2_with fail
   go_ret
   exact⟨⟨v,L,rfl,hg.keep b1,by rw[HF.out];simp,.inl rfl⟩,grown_below b1 _⟩
  ·have HF:Hid (bQ ws 0 ps=[ps]):=DK (HR.out.1 rfl)
   have heq:((ps.length:Int)==(ws.length:Int))=true:=by rw[beq_iff_eq];omega
   have hg1:=hg.keep b1
   have hr1:=hr'.below b1
   have z1:=b1.size
   clear HR hg hr'
   go_wp2_with (first
    |(at_builtin;refine iE rfl _ _ rfl B w1.heap.size cap' a' ps rfl (heap_alloc_new w1 _) (by omega) rfl (hr1.below ((Below.refl _ _).alloc (Nat.le_refl _) _)) h0 (by omega) ?_;intro g2 c2 w2 hn2 hgr2 hge2;have b2:Below w1.heap.size w1 w2:=((Below.refl _ _).alloc (Nat.le_refl _) _).grown hgr2 (by simp) (fun k e=>by cases e;exact Nat.le_refl _);have hg2:=hg1.keep b2;have z2:=b2.size;have hbx:Below w2.heap.size w2 (w2.alloc (.cells #[.slice (some ⟨g2,0,none⟩) ps.length c2] 41)):=(Below.refl _ _).alloc (Nat.le_refl _) _)
    |(at_builtin;refine wpList_append_own_at _ rfl _ _ 78 rfl B 41 i2 (.slice none 0 0) 1 24 Tryz.underlying78 hi2 hy0 hy1 hy2 rfl (by decide) _ _ _ rfl (dh hg2.1 hbx) ⟨w2.heap.size,0,none⟩ 1 1 [.slice (some ⟨g2,0,none⟩) ps.length c2] rfl rfl (cell_one_new _ _ _) (by simp[Value.oneCell']) (by unfold maxLen;omega) (by omega) (by simp;omega) ?_;intro v3 w3 hown3 hgr3 _ hloc3))
   go_ret
   have hall:Below w.heap.size w (w2.alloc (.cells #[.slice (some ⟨g2,0,none⟩) ps.length c2] 41)):=(b1.trans (b2.mono z1)).alloc (by omega) _
   refine⟨⟨v3,L++[(ps,g2,c2)],rfl,lJ.snoc (hg2.keep hbx) (dh hn2 hbx) (by decide) hown3 hgr3,by rw[HF.out];simp, ?_⟩,qA (grown_below hall _) hgr3 (.inl rfl)⟩
   rcases hloc3 with e|e
   ·exact .inl e
   ·exact .inr ⟨_,e,by simp;omega⟩
 |succ m ih=>
  intro a' cap' ps v L w hb hr' h0 hne hin hm hg hB hlen
  obtain⟨i1,hi1,hz0,hz1,hz2⟩:=info_parts Tryz.infoZ1
  have hl:=hf.1
  unfold maxLen at hl
  have h41:4 ^ (m+1)=4*4 ^ m:=by rw[Nat.pow_succ];omega
  have hps:ps.length<=6:=by omega
  have hpw:ps.length<ws.length:=by omega
  have hpm:ps.length<=maxLen:=by unfold maxLen;omega
  go_enter Tryz.func75,Tryz.ntmps75
  go_wp2_with fail
  refine(lW a cap ws a' cap' ps _ hf (hr.below hb) hpm hr' hin).mono ?_
  rintro e w1 ⟨⟨r,rfl,hr1⟩,b1⟩
  have HR:Hid (r=true↔yt ws ps):=hr1
  clear hr1
  cases r
  ·have HF:Hid (bQ ws (m+1) ps=[]):=zi (fun h=>by simpa using HR.out.2 h)
   clear HR
   go_wp2_with fail
   go_ret
   exact⟨⟨v,L,rfl,hg.keep b1,by rw[HF.out];simp,.inl rfl⟩,grown_below b1 _⟩
  ·have HF:Hid (bQ ws (m+1) ps=jV ws m ps ws[ps.length].length):=by
    rw[Dn,getD_at hpw]
    trivial
   have heq:((ps.length:Int)==(ws.length:Int))=false:=by rw[beq_eq_false_iff_ne];omega
   have hg1:=hg.keep b1
   have hr1:=hr'.below b1
   have z1:=b1.size
   have hz0':=hb.size
   have hb1:Below W0.heap.size W0 w1:=hb.trans (b1.mono hz0')
   obtain⟨bw,ow,rfl,gw,sw,tw,ew,_,_⟩:=hr ps.length hpw
   have ew1:=ae hb1 gw ew
   have k0:(0:Int)<=(ps.length:Int):=by omega
   have k1:(ps.length:Int)<(ws.length:Int):=by omega
   have hw4:=h4 ps.length hpw
   have hvB:=aT hg.1
   clear HR hg hr'
   go_wp2_with fail
   go_loopw [2,8] (fun u i wr=>∃(k:Nat) (L':List (List Int×Nat×Nat)),k<=ws[ps.length].length/\i=.int .i64 k/\lJ wr B u L'/\Hid (L'.map (·.1)=L.map (·.1)++jV ws m ps k)/\(u.ownBlock=v.ownBlock∨∃g,u.ownBlock=some g/\w.heap.size<=g)/\w.grownBy wr v.ownBlock/\iC wr a' ps/\(∀b o,a'=some ⟨b,o,none⟩->some b≠u.ownBlock)) (fun _ i _=>ws[ps.length].length-(intOf i).toNat)
   case atStart=>exact⟨0,L,Nat.zero_le _,rfl,hg1,by unfold Hid;rw[Cm];simp,.inl rfl,grown_below b1 _,hr1,hne⟩
   case round=>
    obtain⟨k,L',hk,rfl,hgU,HL,hloc,hgw,hrz,hnu⟩:=hrel
    clear hg1 hr1 ew1 b1 z1 hb1 hne
    by_cases hlt:k<ws[ps.length].length
    ·have j0:(0:Int)<=(k:Int):=by omega
     have j1:(k:Int)<(ws[ps.length].length:Int):=by omega
     have zr:=hgw.size
     go_wp2_with (first
      |(at_builtin;refine iE rfl _ _ rfl B wr.heap.size cap' a' ps rfl (heap_alloc_new wr _) (by omega) rfl (hrz.below ((Below.refl _ _).alloc (Nat.le_refl _) _)) h0 (by omega) ?_;intro g2 c2 w2 hn2 hgr2 hge2;have b2:Below wr.heap.size wr w2:=((Below.refl _ _).alloc (Nat.le_refl _) _).grown hgr2 (by simp) (fun k e=>by cases e;exact Nat.le_refl _);have z2:=b2.size;have hbx:Below w2.heap.size w2 (w2.alloc (.cells #[.int .i64 k] 3)):=(Below.refl _ _).alloc (Nat.le_refl _) _)
      |(at_builtin;refine wpList_append_lies _ rfl _ _ 41 rfl B 3 i1 (.int .i64 0) 1 8 Tryz.underlying41 hi1 hz0 hz1 hz2 rfl (by decide) _ _ _ rfl (dh hn2 hbx) ⟨w2.heap.size,0,none⟩ 1 1 [.int .i64 k] rfl rfl (cell_one_new _ _ _) (by simp[Value.oneCell']) (by decide) (by unfold maxLen;omega) (by omega) (by simp;omega) _ rfl ?_;intro g3 c3 w3 hown3 hgr3 _ hlt3))
     have b3:Below wr.heap.size wr w3:=(b2.alloc z2 _).grown hgr3 (by simp;omega) (fun k e=>by have e2:some g2=some k:=e;cases e2;omega)
     have z3:=b3.size
     have hn3:dZ w3 B (.slice (some ⟨g3,0,none⟩) (ps.length+1) c3) (ps++[(k:Int)]):=by
      unfold dZ
      rw[List.length_append,List.map_append]
      exact hown3
     have hg3:=hgU.keep b3
     have hbr:Below W0.heap.size W0 wr:=hb.grown hgw hz0' (fun k e=>Nat.le_trans hW0 (hvB k e))
     have hne3:∀b o,(some ⟨g3,0,none⟩:Option Addr)=some ⟨b,o,none⟩->some b≠u2.ownBlock:=fun b o e q=>by
      obtain⟨rfl,rfl⟩:g3=b/\0=o:=by simpa using e
      rcases dm hn3 hg3.1 (by decide)with h|h
      ·simp[Value.ownBlock]at h
      ·exact h (by simpa[Value.ownBlock]using q)
     have hLl:L'.length+4 ^ m<=100000:=by
      have h1:=congrArg List.length HL.out
      have h2:=EN h4 m ps k
      have h3:k*4 ^ m<=3*4 ^ m:=Nat.mul_le_mul_right _ (by omega)
      simp only[List.length_map,List.length_append]at h1
      omega
     have hih:=ih (some ⟨g3,0,none⟩) c3 (ps++[(k:Int)]) u2 L' w3 (hbr.trans (b3.mono hbr.size)) (hn3.rowz (by simp) (by simp)) (fun h=>by simp at h) hne3 (Le hin hpw hlt) (by simp;omega) hg3 (by omega) hLl
     rw[List.length_append,List.length_singleton]at hih
     refine hih.mono ?_
     rintro e w4 ⟨⟨v4,L4,rfl,hg4,HL4,hloc4⟩,hgr4⟩
     have HLn:Hid (L4.map (·.1)=L.map (·.1)++jV ws m ps (k+1)):=by
      unfold Hid
      rw[HL4,HL.out,uJ,List.append_assoc]
     have hgw4:w.grownBy w4 v.ownBlock:=qA (qA hgw (grown_below b3 _) (.inl rfl)) hgr4 hloc
     have hloc':v4.ownBlock=v.ownBlock∨∃g,v4.ownBlock=some g/\w.heap.size<=g:=by
      rcases hloc4 with e|⟨g,e,hle⟩
      ·rw[e];exact hloc
      ·exact .inr ⟨g,e,by omega⟩
     have hrz4:iC w4 a' ps:=(hrz.below b3).grown hgr4 hnu
     have hnu4:∀b o,a'=some ⟨b,o,none⟩->some b≠v4.ownBlock:=fun b o e q=>by
      by_cases hp0:ps=[]
      ·have:=h0 hp0
       rw[this]at e
       simp at e
      ·obtain⟨b',o',e',hl',_⟩:=hrz 0 (List.length_pos_iff.2 hp0)
       rw[e]at e'
       obtain⟨rfl,rfl⟩:b=b'/\o=o':=by simpa using e'
       rcases hloc4 with e4|⟨g,e4,hle⟩
       ·exact hnu b o e (q.trans e4)
       ·rw[e4]at q
        cases q
        omega
     clear hih HL HL4 hgr4 hg3 hn3 hown3 hgr3 hn2 hgr2 hgU
     go_wp2_with fail
     exact⟨⟨k+1,L4,by omega,by go_num,hg4,HLn,hloc',hgw4,hrz4,hnu4⟩,by simp[intOf];omega⟩
    ·have HL2:Hid (L'.map (·.1)=L.map (·.1)++bQ ws (m+1) ps):=by
      unfold Hid
      rw[HL.out,HF.out]
      congr 2
      omega
     go_wp2_with fail
     go_ret
     exact⟨⟨_,rfl,L',hgU,HL2.out,hloc⟩,hgw⟩
def Lr (w:World)(a:Option Addr)(F:List (List Int)):Prop:=∀i,(h:i<F.length)->∃b o,a=some ⟨b,o,none⟩/\b<w.heap.size/\∃s c,w.cell? ⟨b,o+i,none⟩=some (.slice s F[i].length c)/\iC w s F[i]
theorem Lr.below {w w':World}{a:Option Addr}{F:List (List Int)}(h:Lr w a F)(hb:Below w.heap.size w w'):Lr w' a F:=fun i hi=>by
 obtain⟨b,o,e,h1,s,c,h2,h3⟩:=h i hi
 exact⟨b,o,e,Nat.lt_of_lt_of_le h1 hb.size,s,c,ae hb h1 h2,h3.below hb⟩
theorem lJ.row {w:World}{B:Nat}{v:Value}{L:List (List Int×Nat×Nat)}(h:lJ w B v L)(h0:∀p∈L,0<p.1.length):∃a cap,v=.slice a L.length cap/\Lr w a (L.map (·.1)):=by
 rcases h.1.2 with⟨rfl,e0⟩|⟨g,cap,cur,rfl,hB,hh,hn,_⟩
 ·exact⟨none,0,by rw[e0],fun k hk=>by rw[List.length_map]at hk;omega⟩
 ·have hlt:g<w.heap.size:=(Array.getElem?_eq_some_iff.1 hh).1
  refine⟨_,cap,rfl,fun k hk=>⟨g,0,rfl,hlt, ?_⟩⟩
  rw[List.length_map]at hk
  have hm:=List.getElem_mem hk
  refine⟨some ⟨L[k].2.1,0,none⟩,L[k].2.2, ?_,by simpa using(h.2 L[k] hm).rowz rfl (h0 _ hm)⟩
  rw[Nat.zero_add,World.ownsRow.cellAt h.1 _ (by omega)]
  simp[hk]
def gZ (w:World)(g:Nat)(l:List Int):Prop:=∃m f,w.rowIs g 3 m f/\l.length<=m/\∀j,(h:j<l.length)->f j=.int .i64 l[j]
theorem gZ.cell {w:World}{g:Nat}{l:List Int}(h:gZ w g l){j:Nat}(hj:j<l.length):w.cell? ⟨g,j,none⟩=some (.int .i64 l[j]):=by
 obtain⟨m,f,h,hm,hf⟩:=h
 rw[h.cell (by omega),hf j hj]
theorem gZ.frozen {w:World}{g:Nat}{l:List Int}(h:gZ w g l)(j:Nat):w.frozen? ⟨g,j,none⟩=false:=by
 obtain⟨m,f,h,_⟩:=h
 exact h.frozen j
theorem gZ.lt {w:World}{g:Nat}{l:List Int}(h:gZ w g l):g<w.heap.size:=by
 obtain⟨m,f,h,_⟩:=h
 exact h.lt
theorem gZ.set {w:World}{g:Nat}{l:List Int}(h:gZ w g l)(j:Nat)(x:Int):gZ (w.setCell ⟨g,j,none⟩ (.int .i64 x)) g (l.set j x):=by
 obtain⟨m,f,h,hm,hf⟩:=h
 refine⟨m,_,h.set _ _,by rw[List.length_set];exact hm,fun i hi=>?_⟩
 rw[List.length_set]at hi
 by_cases e:i=j
 ·subst e;simp
 ·simp only[if_neg e]
  rw[hf i hi,List.getElem_set_ne (fun h=>e h.symm)]
theorem gZ.below {w w':World}{g:Nat}{l:List Int}(h:gZ w g l)(hb:Below w.heap.size w w'):gZ w' g l:=by
 have hlt:=h.lt
 obtain⟨m,f,h,hf⟩:=h
 exact⟨m,f,h.of_block (hb.block g hlt),hf⟩
theorem gZ.row {w:World}{g:Nat}{l:List Int}(h:gZ w g l):iC w (some ⟨g,0,none⟩) l:=fun k hk=>⟨g,0,rfl,h.lt,by rw[Nat.zero_add];exact h.cell hk⟩
theorem dZ.block {w:World}{B g n c:Nat}{l:List Int}(h:dZ w B (.slice (some ⟨g,0,none⟩) n c) l):B<=g/\gZ w g l:=by
 rcases h.2 with⟨e,_⟩|⟨g',cap,cur,e,hB,hh,hn,hc,hs,ht⟩
 ·cases e
 ·obtain rfl:g=g':=by simpa using(Value.slice.inj e).1
  refine⟨hB,cap*1,fun i=>(cur[i]?).getD undef,⟨cur,hh,hs,fun i hi=>?_⟩,by omega,fun k hk=>?_⟩
  ·have hi':i<cur.size:=by omega
   simp[Array.getElem?_eq_getElem hi']
  ·have h2:(l.map fun x=>Value.int .i64 x)[k]?=some (.int .i64 l[k]):=by simp[hk]
   rw[<- ht,List.getElem?_take_of_lt (by simp;omega)]at h2
   simp only[Array.getElem?_toList]at h2
   simp only[h2]
   rfl
def uP (cur q:List Int)(k:Nat)(l:List Int):Prop:=l.length=cur.length/\∀j,(h:j<l.length)->(hc:j<cur.length)->(hq:j<q.length)->l[j]=if j<k then max cur[j] q[j]else cur[j]
theorem Gl (cur q:List Int):uP cur q 0 cur:=⟨rfl,fun j h hc hq=>by simp⟩
theorem uP.up {cur q l:List Int}{k:Nat}(h:uP cur q k l)(hk:k<l.length)(hq:k<q.length)(hlt:l[k]<q[k]):uP cur q (k+1) (l.set k q[k]):=by
 refine⟨by rw[List.length_set];exact h.1,fun j hj0 hc hq'=>?_⟩
 have hj:j<l.length:=by simpa using hj0
 by_cases e:j=k
 ·subst e
  have h2:=h.2 j hj hc hq'
  rw[if_neg (by omega)]at h2
  rw[List.getElem_set_self,if_pos (by omega)]
  omega
 ·have h2:=h.2 j hj hc hq'
  rw[List.getElem_set_ne (fun h=>e h.symm),h2]
  by_cases e2:j<k
  ·rw[if_pos e2,if_pos (by omega)]
  ·rw[if_neg e2,if_neg (by omega)]
theorem uP.same {cur q l:List Int}{k:Nat}(h:uP cur q k l)(hk:k<l.length)(hq:k<q.length)(hlt:¬l[k]<q[k]):uP cur q (k+1) l:=by
 refine⟨h.1,fun j hj hc hq'=>?_⟩
 have h2:=h.2 j hj hc hq'
 by_cases e:j=k
 ·subst e
  rw[if_neg (by omega)]at h2
  rw[if_pos (by omega)]
  omega
 ·rw[h2]
  by_cases e2:j<k
  ·rw[if_pos e2,if_pos (by omega)]
  ·rw[if_neg e2,if_neg (by omega)]
theorem uP.whole {cur q l:List Int}{k:Nat}(h:uP cur q k l)(hq:q.length=cur.length)(hk:cur.length<=k):l=List.zipWith max cur q:=by
 apply List.ext_getElem
 ·rw[h.1,List.length_zipWith,hq,Nat.min_self]
 ·intro j h1 h2
  have hl:=h.1
  rw[List.getElem_zipWith,h.2 j h1 (by omega) (by omega),if_pos (by omega)]
theorem Gg {b:List Int}{F:List (List Int)}{i:Nat}(h:i<F.length):tq b (F.take (i+1))=List.zipWith max (tq b (F.take i)) F[i]:=by
 rw[List.take_succ_eq_append_getElem h]
 unfold tq
 rw[List.foldl_append]
 rfl
set_option maxHeartbeats 1600000 in
theorem EE (a:Option Addr)(cap:Nat)(ws:List (List af))(w:World)(hf:wM ws)(hr:iF w a ws) :
  Calls Tryz.prog 44 #[.slice a ws.length cap] w fun e w'=>((∃g c out,e=.returned (.tuple #[.slice (some ⟨g,0,none⟩) out.length c,.bool true])/\fC ws out true/\w.heap.size<=g/\gZ w' g out)∨(e=.returned (.tuple #[.slice none 0 0,.bool false])/\fC ws [] false))/\Below w.heap.size w w':=by
 go_enter Tryz.func44,Tryz.ntmps44
 go_wp2_with fail
 refine(xM a cap ws _ hf hr).mono ?_
 rintro e w1 ⟨⟨r,rfl,hr1⟩,b1⟩
 have HR:Hid (r=true↔OkW ws):=hr1
 clear hr1
 cases r with
 |false=>
  have HN:Hid (fC ws [] false):=rZ (.inl fun h=>by have:=HR.out.2 h;simp at this)
  go_wp2_with fail
  exact bodyPost_ret (v:=.tuple #[.slice none 0 0,.bool false]) (by simp[results,Tryz.results44,go_sem]) rfl ⟨.inr ⟨rfl,HN.out⟩,b1⟩
 |true=>
  have HOK:Hid (OkW ws):=HR.out.1 rfl
  clear HR
  have h6:=HOK.out.2.1
  have h1l:=HOK.out.1
  go_wp2_with fail
  have hpow:4 ^ ws.length<=4096:=Nat.le_trans (Nat.pow_le_pow_right (by omega) h6) (by decide)
  refine(GN w w1.heap.size a cap ws b1.size hf hr h6 (fun k hk=>(HOK.out.2.2 k hk).1) ws.length none 0 [] (.slice none 0 0) [] w1 b1 (fun k hk=>absurd hk (Nat.not_lt_zero k)) (fun _=>rfl) (fun b o h=>by cases h) ⟨by simp,fun i hi=>by simp at hi⟩ (by simp) (EC _ _) (Nat.le_refl _) (by simp;omega)).mono ?_
  rintro e w2 ⟨⟨v2,L,rfl,hg2,hL,_⟩,hgr⟩
  have hb2:Below w1.heap.size w1 w2:=(Below.refl _ _).grown hgr (Nat.le_refl _) (fun k hk=>by cases hk)
  have B2:Below w.heap.size w w2:=b1.trans (hb2.mono b1.size)
  simp only[List.map_nil,List.nil_append]at hL
  have hlens:∀q∈bQ ws ws.length [],q.length=ws.length:=fun q hq=>(vC.2 ⟨HOK.out,hq⟩).2.1
  have hcnt:(bQ ws ws.length []).length<=4096:=Nat.le_trans (xH (fun k hk=>(HOK.out.2.2 k hk).1) ws.length []) hpow
  obtain⟨va,vc,rfl,hru⟩:=hg2.row (fun p hp=>by
   have:=hlens p.1 (by rw[<- hL];exact List.mem_map.2 ⟨p,hp,rfl⟩)
   omega)
  rw[hL]at hru
  have hLl:L.length=(bQ ws ws.length []).length:=by rw[<- hL,List.length_map]
  rw[hLl]
  clear hg2 hgr hLl hL
  generalize hF:bQ ws ws.length []=F at *
  have HF:Hid (bQ ws ws.length []=F):=hF
  clear hF
  by_cases h0:F.length=0
  ·have HN:Hid (fC ws [] false):=rZ (.inr (by rw[HF.out];exact List.length_eq_zero_iff.1 h0))
   have h0':((F.length:Int)==0)=true:=by rw[beq_iff_eq];omega
   go_wp2_with fail
   exact bodyPost_ret (v:=.tuple #[.slice none 0 0,.bool false]) (by simp[results,Tryz.results44,go_sem]) rfl ⟨.inr ⟨rfl,HN.out⟩,B2⟩
  have h0':((F.length:Int)==0)=false:=by rw[beq_eq_false_iff_ne];omega
  obtain⟨bu,ou,rfl,hbu,s0,c0,hu0,hz0⟩:=hru 0 (by omega)
  have i0:(0:Int)<(F.length:Int):=by omega
  have hl0:F[0].length=ws.length:=hlens _ (List.getElem_mem (by omega))
  have HL0:Hid (F[0].length=ws.length):=hl0
  have hl6:F[0].length<=6:=by omega
  have hnn:F[0]=[]->s0=none:=fun h=>by rw[h]at hl0;simp at hl0;omega
  have HLENS:Hid (∀q∈F,q.length=ws.length):=hlens
  clear hl0 hlens
  rw[Nat.add_zero]at hu0
  have hbx:Below w2.heap.size w2 (w2.alloc (.cells #[] 3)):=(Below.refl _ _).alloc (Nat.le_refl _) _
  have hu0':=ae hbx hbu hu0
  have hz0':=hz0.below hbx
  go_wp2_with (first|(at_builtin;refine iE rfl _ _ rfl w2.heap.size w2.heap.size c0 s0 F[0] rfl (heap_alloc_new w2 _) (Nat.le_refl _) rfl hz0' hnn (by omega) ?_;intro g3 c3 w3 hn3 hgr3 hge3))
  obtain⟨_,hnb⟩:=hn3.block
  have hb3:Below w2.heap.size w2 w3:=hbx.grown hgr3 (by simp) (fun k hk=>by cases hk;exact Nat.le_refl _)
  clear hn3 hgr3 hu0 hu0' hz0 hz0' hbx
  have B3:Below w.heap.size w w3:=B2.trans (hb3.mono B2.size)
  go_loopw [6] (fun i wr=>∃(k:Nat) (l:List Int),k<=F.length/\i=.int .i64 k/\l.length=F[0].length/\Hid (l=tq F[0] (F.take k))/\gZ wr g3 l/\Below w2.heap.size w2 wr) (fun i _=>F.length-(intOf i).toNat)
  case atStart=>exact⟨0,F[0],Nat.zero_le _,rfl,rfl,rfl,hnb,hb3⟩
  case round=>
   clear hnb
   obtain⟨k,l,hk,rfl,hll,HT,hnb,hbl⟩:=hrel
   by_cases hlt:k<F.length
   ·have hqlen:F[k].length=F[0].length:=by rw[HLENS.out _ (List.getElem_mem hlt),HL0.out]
    have HQL:Hid (F[k].length=F[0].length):=hqlen
    have hq6:F[k].length<=6:=by omega
    have HLL:Hid (l.length=F[0].length):=hll
    have k0:(0:Int)<=(k:Int):=by omega
    have k1:(k:Int)<(F.length:Int):=by omega
    clear hqlen hll
    go_wp2_with fail
    go_loopw [7] (fun i2 wr2=>∃(j:Nat) (m:List Int),j<=F[0].length/\i2=.int .i64 j/\Hid (uP l F[k] j m)/\gZ wr2 g3 m/\Below w2.heap.size w2 wr2) (fun i2 _=>F[0].length-(intOf i2).toNat)
    case atStart=>exact⟨0,l,Nat.zero_le _,rfl,Gl l F[k],hnb,hbl⟩
    case round=>
     clear hnb hbl
     obtain⟨j,m,hj,rfl,HM,hnb,hbl⟩:=hrel
     by_cases hjlt:j<F[0].length
     ·have hml:m.length=F[0].length:=by rw[HM.out.1,HLL.out]
      have hjm:j<m.length:=by omega
      have hjq:j<F[k].length:=by rw[HQL.out];omega
      obtain⟨b5,o5,e5,hb5,s5,c5,f5,r5⟩:=hru.below hbl k hlt
      cases e5
      obtain⟨b6,o6,rfl,hb6,f6⟩:=r5 j hjq
      have f7:=hnb.cell hjm
      have z7:=hnb.frozen j
      have j0:(0:Int)<=(j:Int):=by omega
      have j1:(j:Int)<(F[0].length:Int):=by omega
      have j2:(j:Int)<(F[k].length:Int):=by omega
      clear hml
      by_cases hgt:m[j]<F[k][j]
      ·have HX:Hid (uP l F[k] (j+1) (m.set j F[k][j])):=HM.out.up hjm hjq hgt
       have hgt':decide (m[j]<F[k][j])=true:=decide_eq_true hgt
       go_wp2_with fail
       go_quiet (fail)
       go_wp2_with fail
       have hset:=(hnb.below (below_drewN (Below.refl _ _) nq)).set j F[k][j]
       exact⟨⟨j+1,_,by omega,by go_num,HX,hset,(below_drewN hbl _).setCell (by simp only;omega) _⟩,by simp[intOf];omega⟩
      ·have HX:Hid (uP l F[k] (j+1) m):=HM.out.same hjm hjq hgt
       have hgt':decide (m[j]<F[k][j])=false:=decide_eq_false hgt
       go_wp2_with fail
       go_quiet (fail)
       go_wp2_with fail
       exact⟨⟨j+1,m,by omega,by go_num,HX,hnb.below (below_drewN (Below.refl _ _) _),below_drewN hbl _⟩,by simp[intOf];omega⟩
     ·have HX:Hid (m=tq F[0] (F.take (k+1))):=by
       unfold Hid
       rw[Gg hlt,<- HT.out]
       exact HM.out.whole (by rw[HQL.out,HLL.out]) (by rw[HLL.out];omega)
      have hml:m.length=F[0].length:=by rw[HM.out.1,HLL.out]
      go_wp2_with fail
      exact⟨⟨k+1,m,by omega,by go_num,hml,HX,hnb,hbl⟩,by simp[intOf];omega⟩
   ·have HB:Hid (fC ws l true):=by
     unfold Hid
     rw[HT.out,List.take_of_length_le (by omega)]
     have e:bQ ws ws.length []=F[0]::F.tail:=by rw[HF.out];cases F with
      |nil=>simp at h0
      |cons x y=>rfl
     have h:=Hf HOK.out e
     rwa [<- e,HF.out]at h
    go_wp2_with fail
    exact bodyPost_ret (v:=.tuple #[.slice (some ⟨g3,0,none⟩) l.length c3,.bool true]) (by simp[results,Tryz.results44,go_sem,hll]) rfl ⟨.inl ⟨g3,c3,l,rfl,HB.out,Nat.le_trans B2.size hge3,hnb⟩,B2.trans (hbl.mono B2.size)⟩
def Gw (ws:List (List af))(n:Nat):Prop:=(OkW ws/\n=(bQ ws ws.length []).length)∨(¬OkW ws/\n=0)
theorem Gw.one {ws:List (List af)}{n m:Nat}(h:Gw ws n)(k:Gw ws m):n=m:=by
 rcases h with⟨h1,rfl⟩|⟨h1,rfl⟩
 ·rcases k with⟨_,rfl⟩|⟨k1,_⟩
  ·rfl
  ·exact absurd h1 k1
 ·rcases k with⟨k1,_⟩|⟨_,rfl⟩
  ·exact absurd k1 h1
  ·rfl
end Go.Proofs.YtpfhegengmlkmabGreatDoor
namespace Go.Proofs.YtpfhegengmlkmabGreatDoor
open Go.RowKit Go.BigFrame
theorem gZ.span {w w':World}{g lo hi:Nat}{l:List Int}(h:gZ w g l)(hs:aJ lo hi w w')(hd:g<lo∨hi<=g):gZ w' g l:=by
 have hlt:=h.lt
 obtain⟨m,f,h,hf⟩:=h
 exact⟨m,f,h.of_block (hs.block g hlt hd),hf⟩
def kL (w:World)(lo hi:Nat)(a:Option Addr)(l:List Int):Prop:=l=[]∨∃g,a=some ⟨g,0,none⟩/\lo<=g/\g<hi/\gZ w g l
theorem kL.row {w:World}{lo hi:Nat}{a:Option Addr}{l:List Int}(h:kL w lo hi a l):iC w a l:=by
 rcases h with rfl|⟨g,rfl,_,_,hn⟩
 ·exact fun k hk=>absurd hk (Nat.not_lt_zero k)
 ·exact hn.row
theorem kL.below {w w':World}{lo hi:Nat}{a:Option Addr}{l:List Int}(h:kL w lo hi a l)(hb:Below w.heap.size w w'):kL w' lo hi a l:=by
 rcases h with rfl|⟨g,rfl,h1,h2,hn⟩
 ·exact .inl rfl
 ·exact .inr ⟨g,rfl,h1,h2,hn.below hb⟩
theorem kL.span {w w':World}{lo hi lo' hi':Nat}{a:Option Addr}{l:List Int}(h:kL w lo hi a l)(hs:aJ lo' hi' w w')(hd:hi<=lo'∨hi'<=lo):kL w' lo hi a l:=by
 rcases h with rfl|⟨g,rfl,h1,h2,hn⟩
 ·exact .inl rfl
 ·exact .inr ⟨g,rfl,h1,h2,hn.span hs (by omega)⟩
end Go.Proofs.YtpfhegengmlkmabGreatDoor
