/- Texts of this claim. -/
import Derived.Lib.Strings
import Derived.Lib.Walk
import Derived.Lib.BufferWrite
import Derived.Lib.UnsafeStr
import Derived.Laws.MakeOwn
import Derived.Deep.RegionHeld3
import Derived.Maps.AppendAt
import Derived.Test.YtpfhegengmlkmabGreatDoorZu5
namespace Go.Proofs.YtpfhegengmlkmabGreatDoor
open Go.RowKit
abbrev af:=Int×List (ByteArray×Int)
def lN (w:World)(v:Value)(l:List (ByteArray×Int)):Prop:=∃a c,v=.slice a l.length c/\l.length<=c/\Row w a l
def pg (w:World)(a:Option Addr)(l:List af):Prop:=
 ∀k,(h:k<l.length)->∃b o,a=some ⟨b,o,none⟩/\b<w.heap.size/\w.cell? ⟨b,o+k*2,none⟩=some (.int .i64 l[k].1)/\∃v,w.cell? ⟨b,o+k*2+1,none⟩=some v/\lN w v l[k].2
def uO (l:List (ByteArray×Int)):Prop:=l.length<=maxLen/\∀j,(h:j<l.length)->l[j].1.size<=maxLen
def Be (l:List af):Prop:=l.length<=maxLen/\∀j,(h:j<l.length)->uO l[j].2
theorem lN.below {w w':World}{v:Value}{l:List (ByteArray×Int)}(h:lN w v l)(hb:Below w.heap.size w w'):lN w' v l:=by
 obtain⟨a,c,h1,h2,h3⟩:=h
 exact⟨a,c,h1,h2,h3.below hb⟩
theorem pg.below {w w':World}{a:Option Addr}{l:List af}(h:pg w a l)(hb:Below w.heap.size w w'):pg w' a l:=fun k hk=>by
 obtain⟨b,o,ha,hlt,h0,v,h1,h2⟩:=h k hk
 exact⟨b,o,ha,Nat.lt_of_lt_of_le hlt hb.size,by rw[hb.cell hlt];exact h0,v,by rw[hb.cell hlt];exact h1,h2.below hb⟩
theorem Own.setOther {w:World}{b:Nat}{l:List (ByteArray×Int)}(h:Own w b l){q:Nat}(hq:b≠q)(i:Nat)(v:Value):Own (w.setCell ⟨q,i,none⟩ v) b l:=by
 obtain⟨m,f,h,hf⟩:=h
 exact⟨m,f,h.of_block (Below.heap_setCell _ _ _ _ (by simp only;omega)),hf⟩
def kU (w:World)(lo T g:Nat)(l:List af)(k:Nat):Prop:=
 ∃(G C:Nat->Nat) (m:Nat) (f:Nat->Value),w.rowIs g 34 m f/\l.length*2<=m /\
  (∀j,(h:j<l.length)->j<k->f (j*2)=.int .i64 l[j].1/\f (j*2+1)=.slice (some ⟨G j,0,none⟩) l[j].2.length (C j)/\l[j].2.length<=C j/\Own w (G j) l[j].2/\lo<=G j/\G j<T/\G j≠g)/\∀i j,i<k->j<k->i≠j->G i≠G j
theorem kU.lt {w:World}{lo T g k:Nat}{l:List af}(h:kU w lo T g l k):g<w.heap.size:=by
 obtain⟨_,_,_,_,h,_⟩:=h
 exact h.lt
theorem kU.below {w w':World}{lo T g k:Nat}{l:List af}(h:kU w lo T g l k)(hb:Below w.heap.size w w'):kU w' lo T g l k:=by
 have hlt:=h.lt
 obtain⟨G,C,m,f,h,hm,hf,hd⟩:=h
 refine⟨G,C,m,f,h.of_block (hb.block g hlt),hm,fun j hj hk=>?_,hd⟩
 obtain⟨h1,h2,h3,h4,h5⟩:=hf j hj hk
 exact⟨h1,h2,h3,h4.below hb,h5⟩
theorem kU.row {w:World}{lo T g:Nat}{l:List af}(h:kU w lo T g l l.length):pg w (some ⟨g,0,none⟩) l:=fun k hk=>by
 obtain⟨G,C,m,f,h,hm,hf,_⟩:=h
 obtain⟨h1,h2,h3,h4,_⟩:=hf k hk hk
 refine⟨g,0,rfl,h.lt,by rw[Nat.zero_add,h.cell (by omega),h1],_,by rw[Nat.zero_add,h.cell (by omega),h2],_,_,rfl,h3,h4.row⟩
theorem Tryz.infoI:(Tryz.prog.info? 34).map (fun i=>(i.zero,i.size,i.bytes))=some (some (.agg #[.int .i64 0,.slice none 0 0]),2,32):=by kernel_rfl
def rU (p:Prop)(e:Ending):Prop:=∃r:Bool,e=.returned (.bool r)/\(r=true↔p)
theorem dE {p:Prop}(h:p):rU p (.returned (.bool true)):=⟨true,rfl,by simp[h]⟩
theorem ai {p:Prop}(h:¬p):rU p (.returned (.bool false)):=⟨false,rfl,by simp[h]⟩
set_option maxHeartbeats 400000 in
theorem uf (c:Int)(w:World) :
  Calls Tryz.prog 156 #[.int .u8 c] w fun e w'=>rU (48<=c/\c<=57) e/\w'=w:=by
 go_enter Tryz.func156,Tryz.ntmps156
 go_wp2
 all_goals go_ret
 all_goals refine⟨⟨_,rfl, ?_⟩,rfl⟩
 all_goals simp
 all_goals omega
set_option maxHeartbeats 400000 in
theorem nM (c:Int)(w:World) :
  Calls Tryz.prog 120 #[.int .u8 c] w fun e w'=>rU (NB c) e/\w'=w:=by
 go_enter Tryz.func120,Tryz.ntmps120
 go_wp2_with (first|(go_at_call 156;refine(uf _ _).mono ?_;rintro e w' ⟨⟨r,rfl,hr⟩,rfl⟩))
 all_goals go_ret
 all_goals refine⟨⟨_,rfl, ?_⟩,rfl⟩
 all_goals simp only[NB,Bool.or_eq_true,decide_eq_true_eq,beq_iff_eq, *]
 all_goals first|omega|(simp;done)|(simp;omega)
theorem FU {s:ByteArray}{k:Nat}(H:∀j,(h:j<s.size)->j<k->NB (s[j].toNat:Int))(hk:k<s.size)(h:NB (s[k].toNat:Int)):∀j,(h:j<s.size)->j<k+1->NB (s[j].toNat:Int):=fun j hj hlt=>by
 by_cases e:j=k
 ·subst e;exact h
 ·exact H j hj (by omega)
set_option maxHeartbeats 400000 in
theorem vI (s:ByteArray)(w:World)(hs:s.size<=maxLen) :
  Calls Tryz.prog 76 #[.string s] w fun e w'=>rU (kV s) e/\w'=w:=by
 unfold maxLen at hs
 by_cases h1:s.size<1
 ·go_enter Tryz.func76,Tryz.ntmps76
  go_wp2_with fail
  go_ret
  exact⟨ai (fun h=>by have:=h.1;omega),rfl⟩
 by_cases h8:8<s.size
 ·go_enter Tryz.func76,Tryz.ntmps76
  go_wp2_with fail
  go_ret
  exact⟨ai (fun h=>by have:=h.2.1;omega),rfl⟩
 go_enter Tryz.func76,Tryz.ntmps76
 go_wp2_with fail
 go_loop [14] (fun i=>∃k:Nat,k<=s.size/\i=.int .i64 k/\(∀j,(h:j<s.size)->j<k->NB (s[j].toNat:Int))) (fun i=>s.size-(intOf i).toNat)
 case atStart=>exact⟨0,Nat.zero_le _,rfl,fun j _ h=>by omega⟩
 case round=>
  obtain⟨k,hk,rfl,hall⟩:=hrel
  by_cases hlt:k<s.size
  ·have HST:=FU hall hlt
   go_wp2_with (first|(go_at_call 120;refine(nM _ _).mono ?_;rintro e w' ⟨⟨r,rfl,hr⟩,rfl⟩))
   ·go_ret
    exact⟨ai (fun h=>by have:=hr.2 (h.2.2 k hlt);simp_all),rfl⟩
   ·exact⟨⟨k+1,by omega,by go_num,HST (hr.1 (by simp_all))⟩,by simp[intOf];omega⟩
  ·go_wp2_with fail
   go_ret
   exact⟨dE ⟨by omega,by omega,fun j hj=>hall j hj (by omega)⟩,rfl⟩
theorem byte_le (s:ByteArray)(k:Nat)(h:k<s.size):(s[k].toNat:Int)<=255:=by
 have:=s[k].toNat_lt
 omega
set_option maxHeartbeats 400000 in
theorem pY (s:ByteArray)(w:World)(hs:s.size<=maxLen) :
  Calls Tryz.prog 17 #[.string s] w fun e w'=>rU (kV s) e/\w'=w:=by
 unfold maxLen at hs
 by_cases h1:s.size<1
 ·go_enter Tryz.func17,Tryz.ntmps17
  go_wp2_with fail
  go_ret
  exact⟨ai (fun h=>by have:=h.1;omega),rfl⟩
 by_cases h8:8<s.size
 ·go_enter Tryz.func17,Tryz.ntmps17
  go_wp2_with fail
  go_ret
  exact⟨ai (fun h=>by have:=h.2.1;omega),rfl⟩
 go_enter Tryz.func17,Tryz.ntmps17
 go_wp2_with fail
 go_loop [3] (fun i=>∃k:Nat,k<=s.size/\i=.int .i64 k/\(∀j,(h:j<s.size)->j<k->NB (s[j].toNat:Int))) (fun i=>s.size-(intOf i).toNat)
 case atStart=>exact⟨0,Nat.zero_le _,rfl,fun j _ h=>by omega⟩
 case round=>
  obtain⟨k,hk,rfl,hall⟩:=hrel
  by_cases hlt:k<s.size
  ·have HST:=FU hall hlt
   have hby:=byte_le s k hlt
   by_cases hnb:NB (s[k].toNat:Int)
   ·have hgo:NB (s[k].toNat:Int):=hnb
    unfold NB at hgo
    have HN:=HST hnb
    clear HST hnb hall
    go_wp2_with fail
    all_goals exact⟨⟨k+1,by omega,by go_num,HN⟩,by simp[intOf];omega⟩
   ·have hgo:=hnb
    unfold NB at hgo
    have hne:((s[k].toNat:Int) != 45)=true:=by rw[bne_iff_ne];omega
    clear HST hall
    go_wp2_with fail
    all_goals first|(go_ret;exact⟨ai (fun h=>hnb (h.2.2 k hlt)),rfl⟩)|(exfalso;simp only[hne,Bool.true_eq_false,or_false]at *;omega)
  ·go_wp2_with fail
   go_ret
   exact⟨dE ⟨by omega,by omega,fun j hj=>hall j hj (by omega)⟩,rfl⟩
end Go.Proofs.YtpfhegengmlkmabGreatDoor
namespace Go.Proofs.YtpfhegengmlkmabGreatDoor
open Go.RowKit Go.BigFrame
theorem Tryz.infoB:(Tryz.prog.info? 5).map (fun i=>(i.zero,i.size,i.bytes))=some (some (.int .u8 0),1,1):=by kernel_rfl
set_option maxRecDepth 100000 in
set_option maxHeartbeats 1000000 in
theorem clone_any (s:ByteArray)(w:World)(hlim:s.size<=281474976710656) :
  Calls Tryz.prog 122 #[.string s] w fun e w'=>e=.returned (.string s)/\Below w.heap.size w w':=by
 by_cases h0:s.size=0
 ·have hs:s=⟨#[]⟩:=by
   apply ByteArray.ext
   exact Array.eq_empty_of_size_eq_zero h0
  subst hs
  go_enter Tryz.func122,Tryz.ntmps122
  go_wp2
  go_ret
  exact⟨rfl,Below.refl _ _⟩
 ·obtain⟨i0,hi,hz0,hz1,hz2⟩:=info_parts Tryz.infoB
  have hinfo:(Tryz.prog.info? 5).map (·.size)=some 1:=by rw[hi];simp[hz1]
  have hco:Tryz.prog.cellsOf 5=1:=by simp[Program.cellsOf,hi,hz1]
  obtain⟨M,hM⟩:∃M,M=madeCells (Value.int .u8 0).cells (((s.size:Nat):Int).toNat*i0.size):=⟨_,rfl⟩
  have hMs:M.size=s.size:=by rw[hM,size_madeCells,hz1];simp
  have hmk:∀W:World,(Instr.makeSlice 22 (.int .i64 (s.size:Int)) (.int .i64 (s.size:Int))).run Tryz.prog W=.ok (.slice (some ⟨W.heap.size,0,none⟩) s.size s.size) (W.alloc (.cells M 5)):=fun W=>by
   have h:=run_make (P:=Tryz.prog) W 22 5 i0 (.int .u8 0) Tryz.underlying22 hi hz0 .i64 .i64 (s.size:Int) (s.size:Int) (by omega) (by omega) (by rw[hz2];omega) (by omega)
   rw[<- hM]at h
   simpa using h
  clear hM
  have hcp:=Lib.run_copy_row_string (P:=Tryz.prog) (w.alloc (.cells M 5)) 22 9 3 5 w.heap.size 0 s.size s.size s M 5 Tryz.underlying22 hinfo (heap_alloc_new w _) (Nat.le_refl _) (by omega)
  obtain⟨Y,hY⟩:∃Y,Y=(M.toList.take 0++Lib.byteCells s.data.toList++M.toList.drop (0+s.size)).toArray:=⟨_,rfl⟩
  rw[<- hY]at hcp
  have hYl:Y.toList=Lib.byteCells s.data.toList:=by
   rw[hY,List.toList_toArray,List.take_zero,List.nil_append,List.drop_of_length_le (by rw[Array.length_toList];omega),List.append_nil]
  have hgY:((w.alloc (.cells M 5)).setRow w.heap.size Y).heap[w.heap.size]?=some (.cells Y 5 (0,0)):=setRow_heap _ _ M _ 5 (0,0) (heap_alloc_new w _)
  have hYs:Y.size=s.size:=by rw[<- Array.length_toList,hYl,Lib.byteCells_length,<- Lib.size_eq]
  have hne:s.data.toList≠[]:=fun e=>h0 (by rw[Lib.size_eq,e];rfl)
  have hUS:=Lib.run_unsafeString_row (P:=Tryz.prog) ((w.alloc (.cells M 5)).setRow w.heap.size Y) 92 3 9 5 Tryz.underlying92 hco w.heap.size Y.size (by unfold World.shape?;rw[hgY]) s.data.toList hne (by rw[<- Lib.size_eq];omega) (by rw[<- Lib.size_eq];omega)
   (fun j x hx=>Lib.cells_of_row hgY Y.size j _ (by rw[List.take_of_length_le (by rw[Array.length_toList];exact Nat.le_refl _),hYl];simp[Lib.byteCells,hx]))
  rw[<- Lib.size_eq]at hUS
  clear hY
  go_enter Tryz.func122,Tryz.ntmps122
  go_wp2
  go_ret
  have hb1:Below w.heap.size w (w.alloc (.cells M 5)):=(Below.refl _ w).alloc (Nat.le_refl _) _
  have hb2:Below w.heap.size (w.alloc (.cells M 5)) ((w.alloc (.cells M 5)).setRow w.heap.size Y):=⟨rfl,rfl,rfl,by simp,fun k hk=>setRow_other _ _ _ _ (by omega)⟩
  exact⟨rfl,Lib.below_freeze (hb1.trans hb2) (p:=⟨w.heap.size,0,none⟩) (Nat.le_refl _) _⟩
set_option maxHeartbeats 400000 in
theorem qI (s:ByteArray)(w:World)(hlim:s.size<=281474976710656) :
  Calls Tryz.prog 79 #[.string s] w fun e w'=>e=.returned (.string s)/\Below w.heap.size w w':=by
 go_enter Tryz.func79,Tryz.ntmps79
 go_wp2_with fail
 refine(clone_any s _ hlim).mono ?_
 rintro e w1 ⟨rfl,hb1⟩
 go_wp2_with fail
 go_ret
 exact⟨rfl,hb1⟩
set_option maxHeartbeats 400000 in
theorem oU (s:ByteArray)(v:Int)(w:World)(hlim:s.size<=281474976710656) :
  Calls Tryz.prog 121 #[.agg #[.string s,.int .i64 v]] w fun e w'=>e=.returned (.agg #[.string s,.int .i64 v])/\Below w.heap.size w w':=by
 go_enter Tryz.func121,Tryz.ntmps121
 go_wp2_with fail
 have hsz:((w.alloc (.cells #[.string s,.int .i64 v] 54)).alloc (.cells #[.string ⟨#[]⟩,.int .i64 0] 54)).heap.size=w.heap.size+2:=by simp
 have c0:((w.alloc (.cells #[.string s,.int .i64 v] 54)).alloc (.cells #[.string ⟨#[]⟩,.int .i64 0] 54)).cell? ⟨w.heap.size,0,none⟩=some (.string s):=by simp[go_sem]
 have c1:((w.alloc (.cells #[.string s,.int .i64 v] 54)).alloc (.cells #[.string ⟨#[]⟩,.int .i64 0] 54)).cell? ⟨w.heap.size,1,none⟩=some (.int .i64 v):=by simp[go_sem]
 have d0:((w.alloc (.cells #[.string s,.int .i64 v] 54)).alloc (.cells #[.string ⟨#[]⟩,.int .i64 0] 54)).cell? ⟨w.heap.size+1,0,none⟩=some (.string ⟨#[]⟩):=by simp[go_sem]
 have d1:((w.alloc (.cells #[.string s,.int .i64 v] 54)).alloc (.cells #[.string ⟨#[]⟩,.int .i64 0] 54)).cell? ⟨w.heap.size+1,1,none⟩=some (.int .i64 0):=by simp[go_sem]
 have f0:((w.alloc (.cells #[.string s,.int .i64 v] 54)).alloc (.cells #[.string ⟨#[]⟩,.int .i64 0] 54)).frozen? ⟨w.heap.size+1,0,none⟩=false:=by simp[go_sem]
 have f1:((w.alloc (.cells #[.string s,.int .i64 v] 54)).alloc (.cells #[.string ⟨#[]⟩,.int .i64 0] 54)).frozen? ⟨w.heap.size+1,1,none⟩=false:=by simp[go_sem]
 have hbel:Below w.heap.size w ((w.alloc (.cells #[.string s,.int .i64 v] 54)).alloc (.cells #[.string ⟨#[]⟩,.int .i64 0] 54)):=((Below.refl _ _).alloc (Nat.le_refl _) _).alloc (by simp) _
 generalize ((w.alloc (.cells #[.string s,.int .i64 v] 54)).alloc (.cells #[.string ⟨#[]⟩,.int .i64 0] 54))=W at *
 have g0:w.heap.size<W.heap.size:=by omega
 have g1:w.heap.size+1<W.heap.size:=by omega
 clear hsz
 go_region_held3 (fun w'=>w'.cell? ⟨w.heap.size,0,none⟩=some (.string s)/\w'.cell? ⟨w.heap.size,1,none⟩=some (.int .i64 v)) (first|go_keep|exact⟨q0,q1⟩)
  (first|(go_at_call 79;refine(qI _ _ hlim).mono ?_;rintro e w1 ⟨rfl,hb1⟩;have q0:=ae hb1 g0 c0;have q1:=ae hb1 g0 c1;have q2:=ae hb1 g1 d0;have q3:=ae hb1 g1 d1;have q4:=(hb1.frozen (p:=⟨w.heap.size+1,0,none⟩) g1).trans f0;have q5:=(hb1.frozen (p:=⟨w.heap.size+1,1,none⟩) g1).trans f1))
 go_wp2_with fail
 have hb2:Below w.heap.size w w1:=hbel.trans ⟨hb1.os,hb1.tape,hb1.output,hb1.size,fun k hk=>hb1.block k (by show k<W.heap.size;omega)⟩
 exact bodyPost_ret (v:=.agg #[.string s,.int .i64 v]) (by simp[results,Tryz.results121,go_sem,q2,q3]) rfl ⟨rfl,(hb2.setCell (Nat.le_succ _) _).setCell (Nat.le_succ _) _⟩
theorem aJ.trans {lo hi:Nat}{x y z:World}(h:aJ lo hi x y)(k:aJ lo hi y z):aJ lo hi x z:=
 ⟨k.os.trans h.os,k.tape.trans h.tape,k.output.trans h.output,Nat.le_trans h.size k.size,fun i hi hn=>(k.block i (Nat.lt_of_lt_of_le hi h.size) hn).trans (h.block i hi hn)⟩
theorem aJ.setCell {lo hi g:Nat}{x w:World}(h:aJ lo hi x w)(h1:lo<=g)(h2:g<hi)(i:Nat)(v:Value):aJ lo hi x (w.setCell ⟨g,i,none⟩ v):=
 h.trans (((But.refl g w).setCell i v).span h1 h2)
theorem ru:∀(l:List (ByteArray×Int)),∀u∈aP l,u.oneCell'=true
 |[],u,h=>by simp[aP]at h
 |m::r,u,h=>by
  simp only[aP,List.mem_cons]at h
  rcases h with rfl|rfl|h
  ·rfl
  ·rfl
  ·exact ru r u h
theorem JH {w:World}{b o:Nat}{l:List (ByteArray×Int)}(h:Row w (some ⟨b,o,none⟩) l):∀j u,(aP l)[j]?=some u->w.cell? ((⟨b,o,none⟩:Addr).add j)=some u:=by
 intro j u hj
 have hjl:j<(aP l).length:=(List.getElem?_eq_some_iff.1 hj).1
 rw[dC]at hjl
 have e:(⟨b,o,none⟩:Addr).add j=⟨b,o+j,none⟩:=by unfold Addr.add;by_cases h:j=0 <;> simp[h]
 rw[e]
 have hk:j / 2<l.length:=by omega
 obtain⟨b',o',ha,_,c0,c1⟩:=h (j / 2) hk
 obtain⟨rfl,rfl⟩:b=b'/\o=o':=by simpa using ha
 have hm:=oM l (j / 2) hk
 rcases Nat.mod_two_eq_zero_or_one j with h2|h2
 ·have ej:j / 2*2=j:=by omega
  rw[ej]at hm c0
  rw[hj]at hm
  rw[c0]
  exact hm.1.symm
 ·have ej:j / 2*2+1=j:=by omega
  have ej':o+j / 2*2+1=o+j:=by omega
  rw[ej]at hm
  rw[ej']at c1
  rw[hj]at hm
  rw[c1]
  exact hm.2.symm
theorem qC {ops:Array Oper}{rest:List Oper}{o:Oper}{a:Act}{w:World}{Q:Exit->Act->World->Prop}(hgd:o.guard=none)(s x:Operand)
  (ho:o.op=.call { callee:=.builtin .append,args:=#[s,x],argTypes:=#[28,28] }) (base e0 b off cap:Nat) (l:List (ByteArray×Int)) (hs:a.eval s=.slice (some ⟨e0,0,none⟩) 0 0) (he:w.heap[e0]?=some (.cells #[] 54 (0,0))) (hb:base<=e0)
  (hx:a.eval x=.slice (some ⟨b,off,none⟩) l.length cap) (hr:Row w (some ⟨b,off,none⟩) l) (hl0:0<l.length) (hl:l.length<=1048576)
  (h:∀g' cap' w',az w' base (.slice (some ⟨g',0,none⟩) l.length cap') l->w.grownBy w' (some e0)->wpList Tryz.prog ops Q rest (a.put o.dst (.slice (some ⟨g',0,none⟩) l.length cap')) w'):wpList Tryz.prog ops Q (o::rest) a w:=by
 obtain⟨i0,hi,hz0,hz1,hz2⟩:=info_parts Tryz.infoM
 have hlt:e0<w.heap.size:=(Array.getElem?_eq_some_iff.1 he).1
 have hown:w.ownsRow base 54 2 (.slice (some ⟨e0,0,none⟩) 0 0) 0 []:=⟨rfl,.inr ⟨e0,0,#[],rfl,hb,he,Nat.le_refl _,Nat.zero_le _,rfl,rfl⟩⟩
 refine wpList_append_lies w hgd s x 28 ho base 54 i0 (.agg #[.string .empty,.int .i64 0]) 2 24 Tryz.underlying28 hi hz0 hz1 hz2 rfl (by decide) _ _ _ hs hown ⟨b,off,none⟩ l.length cap (aP l) hx (dC l) (JH hr) (ru l) hl0 (by unfold maxLen;omega) (by omega) (Nat.le_trans hb (Nat.le_of_lt hlt)) _ rfl ?_
 intro g' cap' w' h1 h2 _ _
 simp only[Nat.zero_add,List.nil_append]at h1 ⊢
 exact h g' cap' w' h1 h2
theorem yf {w:World}{B g cap:Nat}{l:List (ByteArray×Int)}(h:az w B (.slice (some ⟨g,0,none⟩) l.length cap) l):B<=g/\l.length<=cap/\Own w g l:=by
 rcases h.form with⟨hv,_⟩|⟨g',cap',hv,hB,ho⟩
 ·simp at hv
 ·obtain⟨⟨rfl⟩,rfl⟩:g=g'/\cap=cap':=by simpa using hv
  refine⟨hB, ?_,ho⟩
  rcases h.2 with⟨hv,_⟩|⟨g2,cap2,cur,hv,_,_,hn,_⟩
  ·simp at hv
  ·have:cap=cap2:=by simp at hv;exact hv.2
   omega
theorem Own.grown {w w':World}{b:Nat}{row:Option Nat}{l:List (ByteArray×Int)}(h:Own w b l)(hg:w.grownBy w' row)(hne:some b≠row):Own w' b l:=by
 have hlt:=h.lt
 obtain⟨m,f,h,hf⟩:=h
 exact⟨m,f,h.of_block (hg.block b hlt hne),hf⟩
def jf:List (af×Nat×Nat)->List Value
 |[]=>[]
 |p::r=>.int .i64 p.1.1::.slice (some ⟨p.2.1,0,none⟩) p.1.2.length p.2.2::jf r
theorem pF:∀L r,jf (L++r)=jf L++jf r
 |[],_=>rfl
 |p::L,r=>by simp[jf,pF L r]
theorem zU:∀(L:List (af×Nat×Nat)) (k:Nat) (h:k<L.length),(jf L)[k*2]?=some (.int .i64 L[k].1.1)/\(jf L)[k*2+1]?=some (.slice (some ⟨L[k].2.1,0,none⟩) L[k].1.2.length L[k].2.2)
 |p::r,0,_=>by simp[jf]
 |p::r,k+1,h=>by
  have:=zU r k (by simpa using h)
  have e0:(k+1)*2=k*2+1+1:=by omega
  rw[e0]
  simp only[jf,List.getElem?_cons_succ,List.getElem_cons_succ]
  exact this
def bD (w:World)(B:Nat)(v:Value)(l:List af):Prop:=
 ∃L:List (af×Nat×Nat),L.map (·.1)=l/\w.ownsRow B 34 2 v L.length (jf L)/\(∀p∈L,p.1.2.length<=p.2.2/\Own w p.2.1 p.1.2/\B<=p.2.1)/\L.Pairwise fun p q=>p.2.1≠q.2.1
theorem je (w:World)(B:Nat):bD w B (.slice none 0 0) []:=⟨[],rfl,World.ownsRow_nil _ _ _ _,by simp,List.Pairwise.nil⟩
theorem ku {w:World}{B n b:Nat}{v:Value}{xs:List Value}{l:List (ByteArray×Int)}(h:w.ownsRow B 34 2 v n xs)(ho:Own w b l):some b≠v.ownBlock:=by
 intro e
 obtain⟨m,f,⟨cs,h1,_⟩,_⟩:=ho
 rcases h.2 with⟨rfl,_⟩|⟨g,cap,cur,rfl,_,hh,_⟩
 ·simp[Value.ownBlock]at e
 ·obtain rfl:b=g:=by simpa[Value.ownBlock]using e
  rw[h1]at hh
  simp at hh
theorem bD.len {w:World}{B:Nat}{v:Value}{l:List af}(h:bD w B v l):∃a cap,v=.slice a l.length cap/\l.length<=cap:=by
 obtain⟨L,rfl,ho,_⟩:=h
 rcases ho.2 with⟨rfl,h0⟩|⟨g,cap,cur,rfl,_,_,hn,_⟩
 ·exact⟨_,0,by rw[List.length_map,h0],by rw[List.length_map,h0];exact Nat.le_refl _⟩
 ·exact⟨_,cap,by rw[List.length_map],by rw[List.length_map];exact hn⟩
theorem bD.keep {w w':World}{B:Nat}{v:Value}{l:List af}(h:bD w B v l)(hb:Below w.heap.size w w'):bD w' B v l:=by
 obtain⟨L,e,⟨hl,ho⟩,hm,hd⟩:=h
 refine⟨L,e,⟨hl, ?_⟩,fun p hp=>⟨(hm p hp).1,(hm p hp).2.1.below hb,(hm p hp).2.2⟩,hd⟩
 rcases ho with h|⟨g,cap,cur,hv,hg,hh,r⟩
 ·exact .inl h
 ·refine .inr ⟨g,cap,cur,hv,hg, ?_,r⟩
  rw[hb.block g (Array.getElem?_eq_some_iff.1 hh).1]
  exact hh
theorem bD.lower {w:World}{B B':Nat}{v:Value}{l:List af}(h:bD w B v l)(hB:B'<=B):bD w B' v l:=by
 obtain⟨L,e,⟨hl,ho⟩,hm,hd⟩:=h
 refine⟨L,e,⟨hl, ?_⟩,fun p hp=>⟨(hm p hp).1,(hm p hp).2.1,Nat.le_trans hB (hm p hp).2.2⟩,hd⟩
 rcases ho with h|⟨g,cap,cur,hv,hg,r⟩
 ·exact .inl h
 ·exact .inr ⟨g,cap,cur,hv,Nat.le_trans hB hg,r⟩
theorem bD.snoc {w w':World}{B gm c:Nat}{v v':Value}{L:List (af×Nat×Nat)}{x:Int}{m:List (ByteArray×Int)}
  (ho:w.ownsRow B 34 2 v L.length (jf L)) (hm:∀p∈L,p.1.2.length<=p.2.2/\Own w p.2.1 p.1.2/\B<=p.2.1) (hd:L.Pairwise fun p q=>p.2.1≠q.2.1)
  (hg:Own w gm m) (hB:B<=gm) (hc:m.length<=c) (hn:∀p∈L,p.2.1≠gm)
  (h':w'.ownsRow B 34 2 v' (L.length+1) (jf L++[.int .i64 x,.slice (some ⟨gm,0,none⟩) m.length c])) (hgr:w.grownBy w' v.ownBlock):bD w' B v' (L.map (·.1)++[(x,m)]):=by
 refine⟨L++[((x,m),gm,c)],by simp, ?_,fun p hp=>?_, ?_⟩
 ·rw[pF,List.length_append]
  exact h'
 ·rcases List.mem_append.1 hp with hp|hp
  ·obtain⟨h1,h2,h3⟩:=hm p hp
   exact⟨h1,h2.grown hgr (ku ho h2),h3⟩
  ·obtain rfl:p=((x,m),gm,c):=by simpa using hp
   exact⟨hc,hg.grown hgr (ku ho hg),hB⟩
 ·rw[List.pairwise_append]
  refine⟨hd,List.pairwise_singleton _ _,fun p hp q hq=>?_⟩
  obtain rfl:q=((x,m),gm,c):=by simpa using hq
  exact hn p hp
theorem bD.grown {W w w':World}{B:Nat}{v:Value}{n:Nat}{xs:List Value}(h:w.ownsRow B 34 2 v n xs)(hb:Below B W w)(hB:B<=w.heap.size)(hg:w.grownBy w' v.ownBlock):Below B W w':=
 hb.grown hg hB (fun k e=>by
  rcases h.2 with⟨rfl,_⟩|⟨g,cap,cur,rfl,hle,_⟩
  ·cases e
  ·simp[Value.ownBlock]at e;omega)
def jH (w:World)(lo hi:Nat)(a:Option Addr)(l:List af):Prop:=
 l=[]∨∃g,a=some ⟨g,0,none⟩/\lo<=g/\g<hi/\kU w lo hi g l l.length
theorem jH.row {w:World}{lo hi:Nat}{a:Option Addr}{l:List af}(h:jH w lo hi a l):pg w a l:=by
 rcases h with rfl|⟨g,rfl,_,_,hp⟩
 ·exact fun k hk=>absurd hk (Nat.not_lt_zero k)
 ·exact hp.row
theorem jH.below {w w':World}{lo hi:Nat}{a:Option Addr}{l:List af}(h:jH w lo hi a l)(hb:Below w.heap.size w w'):jH w' lo hi a l:=by
 rcases h with rfl|⟨g,rfl,h1,h2,hp⟩
 ·exact .inl rfl
 ·exact .inr ⟨g,rfl,h1,h2,hp.below hb⟩
theorem kU.span {w w':World}{lo hi lo' hi' g k:Nat}{l:List af}(h:kU w lo hi g l k)(h1:lo<=g)(h2:g<hi)(hs:aJ lo' hi' w w')(hd:hi<=lo'∨hi'<=lo):kU w' lo hi g l k:=by
 have hlt:=h.lt
 obtain⟨G,C,m,f,h,hm,hf,hp⟩:=h
 refine⟨G,C,m,f,h.of_block (hs.block g hlt (by omega)),hm,fun j hj hk=>?_,hp⟩
 obtain⟨e1,e2,e3,e4,e5,e6,e7⟩:=hf j hj hk
 have hl4:=e4.lt
 obtain⟨m',f',h',hf'⟩:=e4
 exact⟨e1,e2,e3,⟨m',f',h'.of_block (hs.block (G j) hl4 (by omega)),hf'⟩,e5,e6,e7⟩
theorem jH.span {w w':World}{lo hi lo' hi':Nat}{a:Option Addr}{l:List af}(h:jH w lo hi a l)(hs:aJ lo' hi' w w')(hd:hi<=lo'∨hi'<=lo):jH w' lo hi a l:=by
 rcases h with rfl|⟨g,rfl,h1,h2,hp⟩
 ·exact .inl rfl
 ·exact .inr ⟨g,rfl,h1,h2,hp.span h1 h2 hs hd⟩
theorem bD.safe {w:World}{B:Nat}{v:Value}{l:List af}(h:bD w B v l):∃a cap,v=.slice a l.length cap/\l.length<=cap/\jH w B w.heap.size a l:=by
 obtain⟨L,rfl,ho,hm,hd⟩:=h
 have hno:∀p∈L,some p.2.1≠v.ownBlock:=fun p hp=>ku ho (hm p hp).2.1
 rcases ho.2 with⟨rfl,h0⟩|⟨g,cap,cur,rfl,hBg,hh,hn,hcm,hcs,htk⟩
 ·obtain rfl:L=[]:=List.length_eq_zero_iff.1 h0
  exact⟨_,_,rfl,Nat.le_refl _,.inl rfl⟩
 ·have hgl:g<w.heap.size:=(Array.getElem?_eq_some_iff.1 hh).1
  refine⟨_,cap,by rw[List.length_map],by rw[List.length_map];exact hn,.inr ⟨g,rfl,hBg,hgl,fun j=>((L[j]?).map (·.2.1)).getD 0,fun j=>((L[j]?).map (·.2.2)).getD 0,cap*2,fun i=>(cur[i]?).getD undef,⟨cur,hh,hcs,fun i hi=>?_⟩,by rw[List.length_map];omega,fun j hj _=>?_,fun i j hi hj hne=>?_⟩⟩
  ·have hi':i<cur.size:=by omega
   simp[Array.getElem?_eq_getElem hi']
  ·rw[List.length_map]at hj
   have hL:L[j]?=some L[j]:=List.getElem?_eq_getElem hj
   have hp:=hm _ (List.getElem_mem hj)
   have h2:=zU L j hj
   rw[<- htk]at h2
   rw[List.getElem?_take_of_lt (by omega),List.getElem?_take_of_lt (by omega)]at h2
   simp only[Array.getElem?_toList]at h2
   simp only[h2.1,h2.2,hL,List.getElem_map,Option.map_some,Option.getD_some]
   refine⟨trivial,trivial,hp.1,hp.2.1,hp.2.2,hp.2.1.lt,fun e=>?_⟩
   exact hno _ (List.getElem_mem hj) (by rw[e];rfl)
  ·rw[List.length_map]at hi hj
   have hLi:L[i]?=some L[i]:=List.getElem?_eq_getElem hi
   have hLj:L[j]?=some L[j]:=List.getElem?_eq_getElem hj
   simp only[hLi,hLj,Option.map_some,Option.getD_some]
   rw[List.pairwise_iff_getElem]at hd
   rcases Nat.lt_or_gt_of_ne hne with h|h
   ·exact hd i j hi hj h
   ·exact Ne.symm (hd j i hj hi h)
def tC (l:List af):Prop:=l.length<=1048576/\∀j,(h:j<l.length)->l[j].2.length<=1048576
theorem iU {o:Oper}{a:Act}{w:World}{K:Act->World->Prop}{Q:Exit->Act->World->Prop}(s x:Operand)
  (ho:o.op=.call { callee:=.builtin .append,args:=#[s,x],argTypes:=#[129,129] }) (w0:World) (base:Nat) (v:Value) (l:List af) (hs:a.eval s=v) (hg:bD w0 base v l) (hb:Below w0.heap.size w0 w) (hbase:base<=w0.heap.size)
  (ad:Nat) (xv:Int) (m:List (ByteArray×Int)) (gm c:Nat) (hx:a.eval x=.slice (some ⟨ad,0,none⟩) 1 1) (c0:w.cell? ⟨ad,0,none⟩=some (.int .i64 xv)) (c1:w.cell? ⟨ad,1,none⟩=some (.slice (some ⟨gm,0,none⟩) m.length c))
  (hm:Own w gm m) (hgm:w0.heap.size<=gm) (hc:m.length<=c) (hl:l.length<=1048576)
  (h:∀v' w',bD w' base v' (l++[(xv,m)])->Below base w w'->K (a.put o.dst v') w'):o.wp Tryz.prog a w K Q:=by
 obtain⟨i0,hi,hz0,hz1,hz2⟩:=info_parts Tryz.infoI
 obtain⟨L,rfl,hown,hmk,hd⟩:=hg
 have hown':w.ownsRow base 34 2 v L.length (jf L):=by
  obtain⟨hl,ho⟩:=hown
  refine⟨hl, ?_⟩
  rcases ho with h|⟨g,cap,cur,hv,hg,hh,r⟩
  ·exact .inl h
  ·refine .inr ⟨g,cap,cur,hv,hg, ?_,r⟩
   rw[hb.block g (Array.getElem?_eq_some_iff.1 hh).1]
   exact hh
 have hmk':∀p∈L,p.1.2.length<=p.2.2/\Own w p.2.1 p.1.2/\base<=p.2.1:=fun p hp=>⟨(hmk p hp).1,(hmk p hp).2.1.below hb,(hmk p hp).2.2⟩
 have hnew:∀p∈L,p.2.1≠gm:=fun p hp=>by have:=(hmk p hp).2.1.lt;omega
 have hz:=hb.size
 rw[List.length_map]at hl
 obtain⟨g,cap,w',hr,h2,h3,_,_⟩:=run_append_lies (P:=Tryz.prog) w 129 o.type base 34 i0 (.agg #[.int .i64 0,.slice none 0 0]) 2 32 Tryz.underlying129 hi hz0 hz1 hz2 rfl (by decide) _ _ _ hown' ⟨ad,0,none⟩ 1 1 [.int .i64 xv,.slice (some ⟨gm,0,none⟩) m.length c] rfl (by
   intro j u hj
   match j,hj with
   |0,hj=>simp at hj;subst hj;exact c0
   |1,hj=>simp at hj;subst hj;exact c1) (by simp[Value.oneCell']) (by decide) (by unfold maxLen;omega) (by omega) (by omega) _ rfl
 unfold Oper.wp execOp
 simp only[ho,resolve,invoke,builtin,Sem.run_bind,Sem.run_pure,Result.andThen_ok,List.map_toArray,List.map_cons,List.map_nil,hs,hx,hr]
 exact h _ w' (bD.snoc hown' hmk' hd hm (Nat.le_trans hbase hgm) hc hnew h2 h3) (bD.grown hown' (Below.refl _ _) (Nat.le_trans hbase hz) h3)
theorem jU {ops:Array Oper}{rest:List Oper}{o:Oper}{a:Act}{w:World}{Q:Exit->Act->World->Prop}(hgd:o.guard=none)(s x:Operand)
  (ho:o.op=.call { callee:=.builtin .append,args:=#[s,x],argTypes:=#[129,129] }) (w0:World) (base:Nat) (v:Value) (l:List af) (hs:a.eval s=v) (hg:bD w0 base v l) (hb:Below w0.heap.size w0 w) (hbase:base<=w0.heap.size)
  (ad:Nat) (xv:Int) (m:List (ByteArray×Int)) (gm c:Nat) (hx:a.eval x=.slice (some ⟨ad,0,none⟩) 1 1) (c0:w.cell? ⟨ad,0,none⟩=some (.int .i64 xv)) (c1:w.cell? ⟨ad,1,none⟩=some (.slice (some ⟨gm,0,none⟩) m.length c))
  (hm:Own w gm m) (hgm:w0.heap.size<=gm) (hc:m.length<=c) (hl:l.length<=1048576)
  (h:∀v' w',bD w' base v' (l++[(xv,m)])->Below base w w'->wpList Tryz.prog ops Q rest (a.put o.dst v') w'):wpList Tryz.prog ops Q (o::rest) a w:=
 wpList_plain hgd fun _ hK=>iU s x ho w0 base v l hs hg hb hbase ad xv m gm c hx c0 c1 hm hgm hc hl fun v' w' h1 h2=>hK _ _ (h v' w' h1 h2)
theorem dh {w w':World}{B e size n:Nat}{v:Value}{xs:List Value}(h:w.ownsRow B e size v n xs)(hb:Below w.heap.size w w'):w'.ownsRow B e size v n xs:=by
 obtain⟨hl,h|⟨g,cap,cur,hv,hgB,hh,r⟩⟩:=h
 ·exact⟨hl,.inl h⟩
 ·exact⟨hl,.inr ⟨g,cap,cur,hv,hgB,(hb.block g (Array.getElem?_eq_some_iff.1 hh).1).trans hh,r⟩⟩
theorem Ia {w:World}{B B' e size n:Nat}{v:Value}{xs:List Value}(h:w.ownsRow B e size v n xs)(hB:B'<=B):w.ownsRow B' e size v n xs:=by
 obtain⟨hl,h|⟨g,cap,cur,hv,hgB,r⟩⟩:=h
 ·exact⟨hl,.inl h⟩
 ·exact⟨hl,.inr ⟨g,cap,cur,hv,Nat.le_trans hB hgB,r⟩⟩
theorem dm {w:World}{B B' e e' size size' n n':Nat}{v v':Value}{xs xs':List Value}(h:w.ownsRow B e size v n xs)(h':w.ownsRow B' e' size' v' n' xs')(hne:e≠e'):v.ownBlock=none∨v.ownBlock≠v'.ownBlock:=by
 rcases h.2 with⟨rfl,_⟩|⟨g,cap,cur,rfl,_,hh,_⟩
 ·exact .inl rfl
 ·rcases h'.2 with⟨rfl,_⟩|⟨g',cap',cur',rfl,_,hh',_⟩
  ·exact .inr (by simp[Value.ownBlock])
  ·refine .inr fun q=>?_
   obtain rfl:g=g':=by simpa[Value.ownBlock]using q
   rw[hh]at hh'
   simp at hh'
   exact hne hh'.2
theorem aT {w:World}{B e size n:Nat}{v:Value}{xs:List Value}(h:w.ownsRow B e size v n xs):∀k,v.ownBlock=some k->B<=k:=fun k q=>(h.lt k q).1
theorem grown_below {w w':World}(hb:Below w.heap.size w w')(row:Option Nat):w.grownBy w' row:=⟨hb.os,hb.tape,hb.output,hb.size,fun k hk _=>hb.block k hk⟩
theorem qA {w w1 w2:World}{r r1:Option Nat}(h:w.grownBy w1 r)(k:w1.grownBy w2 r1)(hr:r1=r∨∃g,r1=some g/\w.heap.size<=g):w.grownBy w2 r:=
 ⟨k.os.trans h.os,k.tape.trans h.tape,k.output.trans h.output,Nat.le_trans h.size k.size,fun i hi hne=>(k.block i (Nat.lt_of_lt_of_le hi h.size) (by
  rcases hr with e|⟨g,e,hle⟩
  ·rw[e];exact hne
  ·rw[e];intro q;cases q;omega)).trans (h.block i hi hne)⟩
theorem dn {w w':World}{r:Option Nat}(hg:w.grownBy w' r){b o:Nat}{v:Value}(hne:some b≠r)(h:w.cell? ⟨b,o,none⟩=some v):w'.cell? ⟨b,o,none⟩=some v:=hg.cell h hne
def dZ (w:World)(B:Nat)(v:Value)(l:List Int):Prop:=w.ownsRow B 3 1 v l.length (l.map fun x=>.int .i64 x)
theorem dZ.shape {w:World}{B:Nat}{v:Value}{l:List Int}(h:dZ w B v l)(h0:0<l.length):∃g cap,v=.slice (some ⟨g,0,none⟩) l.length cap/\B<=g/\g<w.heap.size/\l.length<=cap/\∀j,(hj:j<l.length)->w.cell? ⟨g,j,none⟩=some (.int .i64 l[j]):=by
 rcases h.2 with⟨rfl,e⟩|⟨g,cap,cur,rfl,hB,hh,hn,r⟩
 ·omega
 ·refine⟨g,cap,rfl,hB,(Array.getElem?_eq_some_iff.1 hh).1,hn,fun j hj=>?_⟩
  rw[World.ownsRow.cellAt h j (by omega)]
  simp[hj]
def lJ (w:World)(B:Nat)(v:Value)(L:List (List Int×Nat×Nat)):Prop:=w.ownsRow B 41 1 v L.length (L.map fun p=>.slice (some ⟨p.2.1,0,none⟩) p.1.length p.2.2)/\∀p∈L,dZ w B (.slice (some ⟨p.2.1,0,none⟩) p.1.length p.2.2) p.1
theorem EC (w:World)(B:Nat):lJ w B (.slice none 0 0) []:=⟨World.ownsRow_nil _ _ _ _,by simp⟩
theorem lJ.keep {w w':World}{B:Nat}{v:Value}{L:List (List Int×Nat×Nat)}(h:lJ w B v L)(hb:Below w.heap.size w w'):lJ w' B v L:=⟨dh h.1 hb,fun p hp=>dh (h.2 p hp) hb⟩
theorem lJ.snoc {w w':World}{B g c:Nat}{v v':Value}{L:List (List Int×Nat×Nat)}{l:List Int}(h:lJ w B v L)(hl:dZ w B (.slice (some ⟨g,0,none⟩) l.length c) l)(hne:3≠41)
  (h':w'.ownsRow B 41 1 v' (L.length+1) ((L.map fun p=>.slice (some ⟨p.2.1,0,none⟩) p.1.length p.2.2)++[.slice (some ⟨g,0,none⟩) l.length c])) (hg:w.grownBy w' v.ownBlock):lJ w' B v' (L++[(l,g,c)]):=by
 refine⟨?_,fun p hp=>?_⟩
 ·rw[List.length_append,List.map_append]
  exact h'
 ·rcases List.mem_append.1 hp with hp|hp
  ·exact World.ownsRow.kept (h.2 p hp) hg (dm (h.2 p hp) h.1 hne)
  ·obtain rfl:p=(l,g,c):=by simpa using hp
   exact World.ownsRow.kept hl hg (dm hl h.1 hne)
end Go.Proofs.YtpfhegengmlkmabGreatDoor
