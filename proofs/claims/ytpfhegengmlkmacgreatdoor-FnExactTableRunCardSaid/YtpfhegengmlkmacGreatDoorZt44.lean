/- Texts of this claim. -/
import Derived.Shelf.Strings.BuilderK
import Derived.Test.YtpfhegengmlkmacGreatDoorZt43
namespace Go.Proofs.YtpfhegengmlkmacGreatDoor
open Go.RowKit Go.BigFrame
set_option maxRecDepth 100000
theorem run_append_str_at {P:Program} (w:World) (base:Nat) (t u ty e:TypeId) (i:TypeInfo) (ht:P.underlying t=some (.slice e)) (hu:P.underlying u=some .string) (hi:P.info? e=some i) (hz:i.zero=some (.int .u8 0))
  (hsize:i.size=1) (hby:i.bytes=1) (v:Value) (n:Nat) (xs:List Value) (hown:w.ownsRow base e 1 v n xs) (s:ByteArray) (h63:n + s.size<=maxLen) (hbytes:n + s.size<=140737488355328) (hbase:base<=w.heap.size) :
  ∃ v' w',(Builtin.append_ #[t,u] ty #[v,.string s]).run P w=.ok v' w'∧w'.ownsRow base e 1 v' (n + s.size) (xs ++ Lib.strCells s)∧w.grownBy w' v.ownBlock∧(∀ k,v'.ownBlock=some k->v.ownBlock=some k∨w.heap.size<=k):=by
 obtain ⟨v',w',hr,h2,h3,h4⟩:=Lib.run_append_own_string (P:=P) w base t u ty e i ht hu hi hz hsize hby v n xs hown s h63 hbytes hbase
 refine ⟨v',w',hr,h2,h3,fun k hk=>?_⟩
 rcases hown.2 with ⟨rfl,rfl⟩ | ⟨g,cap,cur,rfl,hbg,hg,hnc,hcm,hcs,htake⟩
 ·obtain ⟨v2,w2,hr2,k2,_,_⟩:=Lib.run_append_own_string (P:=P) w w.heap.size t u ty e i ht hu hi hz hsize hby (.slice none 0 0) 0 xs ⟨hown.1,.inl ⟨rfl,rfl⟩⟩ s h63 hbytes (Nat.le_refl _)
  rw [hr] at hr2
  obtain ⟨rfl,rfl⟩:v'=v2∧w'=w2:=by simpa using hr2
  rcases k2.2 with ⟨rfl,_⟩ | ⟨g,cap,cur,rfl,hbg,_⟩
  ·simp [Value.ownBlock] at hk
  ·right
   have:g=k:=by simpa [Value.ownBlock] using hk
   omega
 ·by_cases hroom:n + s.size<=cap
  ·have hr2:=Lib.run_append_room_string (P:=P) w t u ty e i ht hu hi hsize g n cap cur hg s hroom (by simp at hcs;omega)
   rw [hr] at hr2
   obtain ⟨rfl,_⟩:v'=_∧w'=_:=by simpa using hr2
   left
   simpa [Value.ownBlock] using hk
  ·have hxl:xs.length=n:=by simpa using hown.1
   have holds:∀ j u,xs[j]?=some u->w.cell? ((⟨g,0,none⟩:Addr).add j)=some u:=hown.cells (g:=g) rfl
   have hr2:=Lib.run_append_grow_string (P:=P) w t u ty e i (.int .u8 0) ht hu hi hz ⟨g,0,none⟩ n cap xs (by rw [hsize];simpa using hxl) holds s (by omega) (by simp only [maxLen] at h63;omega) (by rw [hby];exact growslice_fits (by omega) (by omega))
   rw [hr] at hr2
   obtain ⟨rfl,_⟩:v'=_∧w'=_:=by simpa using hr2
   right
   have:w.heap.size=k:=by simpa [Value.ownBlock] using hk
   omega
theorem wpList_append_str_at {P:Program} {w:World} {ops:Array Oper} {rest:List Oper} {o:Oper} {a:Act} {Q:Exit->Act->World->Prop} (hgd:o.guard=none) (sl x:Operand) (t u:TypeId)
  (ho:o.op=.call { callee:=.builtin .append,args:=#[sl,x],argTypes:=#[t,u] })
  (base:Nat) (e:TypeId) (i:TypeInfo) (ht:P.underlying t=some (.slice e)) (hu:P.underlying u=some .string) (hi:P.info? e=some i) (hz:i.zero=some (.int .u8 0)) (hsize:i.size=1) (hby:i.bytes=1)
  (v:Value) (n:Nat) (xs:List Value) (hs:a.eval sl=v) (hown:w.ownsRow base e 1 v n xs) (s:ByteArray) (hx:a.eval x=.string s) (h63:n + s.size<=maxLen) (hbytes:n + s.size<=140737488355328) (hbase:base<=w.heap.size)
  (h:∀ v' w',w'.ownsRow base e 1 v' (n + s.size) (xs ++ Lib.strCells s)->w.grownBy w' v.ownBlock->(∀ k,v'.ownBlock=some k->v.ownBlock=some k∨w.heap.size<=k)->wpList P ops Q rest (a.put o.dst v') w'):wpList P ops Q (o :: rest) a w:=by
 refine wpList_plain hgd fun K hK=>?_
 obtain ⟨v',w',hr,h2,h3,h4⟩:=run_append_str_at (P:=P) w base t u o.type e i ht hu hi hz hsize hby v n xs hown s h63 hbytes hbase
 unfold Oper.wp execOp
 simp only [ho,resolve,invoke,builtin,Sem.run_bind,Sem.run_pure,Result.andThen_ok,List.map_toArray,List.map_cons,List.map_nil,hs,hx,hr]
 exact hK _ _ (h v' w' h2 h3 h4)
structure BuiW (B:Nat) (w:World) (b:Nat) (v:Value) (o:List UInt8):Prop where
 ge:B<=b
 box:∃ p,(p=.pointer none∨p=.pointer (some ⟨b,0,none⟩))∧w.heap[b]?=some (.cells #[p,v] 123 (0,0))
 own:w.ownsRow B 5 1 v o.length (Lib.byteCells o)
 ne:v.ownBlock≠some b
theorem BuiW.row {B:Nat} {w:World} {b:Nat} {v:Value} {o:List UInt8} (h:BuiW B w b v o):∀ k,v.ownBlock=some k->B<=k∧k < w.heap.size:=fun k e=>by
 have h1:=ownsRow_block h.own k e
 obtain ⟨_,h2 | ⟨g,cap,cur,hv,_,hg,_⟩⟩:=h.own
 ·rw [h2.1] at e;cases e
 ·subst hv
  have:g=k:=by simpa [Value.ownBlock] using e
  subst this
  exact ⟨h1,(Array.getElem?_eq_some_iff.1 hg).1⟩
structure BuiE (B:Nat) (w w':World) (b:Nat) (v v':Value) (o:List UInt8):Prop where
 bui:BuiW B w' b v' o
 size:w.heap.size<=w'.heap.size
 keep:∀ k,k < w.heap.size->k≠b->v.ownBlock≠some k->w'.heap[k]?=w.heap[k]?
 at_:∀ k,v'.ownBlock=some k->v.ownBlock=some k∨w.heap.size<=k
 bel:Below B w w'
theorem own_blk {w w':World} {B:Nat} {e:TypeId} {v:Value} {n:Nat} {xs:List Value} (h:w.ownsRow B e 1 v n xs) (hb:∀ k,v.ownBlock=some k->w'.heap[k]?=w.heap[k]?):w'.ownsRow B e 1 v n xs:=by
 obtain ⟨h1,h2 | ⟨g,cap,cur,rfl,h3,hg,hr⟩⟩:=h
 ·exact ⟨h1,.inl h2⟩
 ·exact ⟨h1,.inr ⟨g,cap,cur,rfl,h3,by rw [hb g rfl];exact hg,hr⟩⟩
theorem setCell_old (w:World) (b i k:Nat) (v:Value) (h:k≠b):(w.setCell ⟨b,i,none⟩ v).heap[k]?=w.heap[k]?:=Below.heap_setCell _ _ _ _ (fun e=>h e)
structure Chk (B:Nat) (w w':World) (b:Nat) (v:Value) (o:List UInt8):Prop where
 box:w'.heap[b]?=some (.cells #[.pointer (some ⟨b,0,none⟩),v] 123 (0,0))
 own:w'.ownsRow B 5 1 v o.length (Lib.byteCells o)
 size:w'.heap.size=w.heap.size
 keep:∀ k,k≠b->w'.heap[k]?=w.heap[k]?
 bel:Below B w w'
theorem check_any (B b:Nat) (v:Value) (o:List UInt8) (w:World) (h:BuiW B w b v o) :
  Calls Tryz.prog 116 #[.pointer (some ⟨b,0,none⟩)] w fun e w'=>e=.returned (.tuple #[])∧Chk B w w' b v o:=by
 obtain ⟨p,hp,hb⟩:=h.box
 have c0:w.cell? ⟨b,0,none⟩=some p:=by rw [Lib.cell_of_heap hb];rfl
 rcases hp with rfl | rfl
 ·have f0:w.frozen? ⟨b,0,none⟩=false:=Lib.frozen_of_heap hb 0
  have hsh:w.shape? b=some (123,2):=by simp [World.shape?,hb]
  refine (Any.Builder_copyCheck_fresh { Tryz.lays156 with } Tryz.Builder_Extra_156.toX72 b w c0 hsh f0).mono ?_
  rintro e w' ⟨rfl,rfl⟩
  refine ⟨rfl,⟨?_,own_blk h.own fun k hk=>setCell_old _ _ _ _ _ (fun e=>h.ne (e ▸ hk)),by simp [World.setCell],fun k hk=>setCell_old _ _ _ _ _ hk,(Below.refl B w).setCell (p:=⟨b,0,none⟩) h.ge _⟩⟩
  simp [World.setCell,Array.getElem?_modify,hb]
 ·refine (Any.Builder_copyCheck_used { Tryz.lays156 with } Tryz.Builder_Extra_156.toX72 b w c0).mono ?_
  rintro e w' ⟨rfl,rfl⟩
  exact ⟨rfl,⟨hb,h.own,rfl,fun _ _=>rfl,Below.refl B _⟩⟩
set_option maxHeartbeats 1600000 in
theorem write_any (B b:Nat) (v:Value) (o:List UInt8) (s:ByteArray) (w:World) (h:BuiW B w b v o) (hl:o.length + s.size<=1000000) (hB:B<=w.heap.size) :
  Calls Tryz.prog 71 #[.pointer (some ⟨b,0,none⟩),.string s] w fun e w'=>e=.returned (.tuple #[.int .i64 s.size,.nilIface])∧∃ v',BuiE B w w' b v v' (o ++ bl s):=by
 obtain ⟨i0,hi,hz0,hz1,hz2⟩:=info_parts Tryz.Builder_Extra_156.infoByte
 go_enter Tryz.func71,Tryz.ntmps71
 go_wp2_with (go_at_call 116;refine (check_any B b v o _ h).mono ?_)
 rintro e w1 ⟨rfl,hc⟩
 have hlt:b < w1.heap.size:=(Array.getElem?_eq_some_iff.1 hc.box).1
 have c0:w1.cell? ⟨b,0,none⟩=some (.pointer (some ⟨b,0,none⟩)):=by rw [Lib.cell_of_heap hc.box];rfl
 have c1:w1.cell? ⟨b,1,none⟩=some v:=by rw [Lib.cell_of_heap hc.box];rfl
 have hB1:B<=w1.heap.size:=by rw [hc.size];exact hB
 have HC:Hid (Chk B w w1 b v o):=hc
 have hown:=hc.own
 clear hc
 go_wp2_with (at_builtin;refine wpList_append_str_at rfl _ _ 121 9 rfl B 5 i0 Tryz.underlying121 Tryz.underlying9 hi hz0 hz1 hz2 _ _ _ rfl hown s rfl (by unfold maxLen;omega) (by omega) hB1 ?_)
 intro v' w2 hown' hgrow hat
 have hc:=HC.out
 have hb2:w2.heap[b]?=some (.cells #[.pointer (some ⟨b,0,none⟩),v] 123 (0,0)):=by
  rw [hgrow.block b hlt (fun e=>h.ne e.symm)]
  exact hc.box
 have d0:w2.cell? ⟨b,0,none⟩=some (.pointer (some ⟨b,0,none⟩)):=by rw [Lib.cell_of_heap hb2];rfl
 have d1:w2.cell? ⟨b,1,none⟩=some v:=by rw [Lib.cell_of_heap hb2];rfl
 have f1:w2.frozen? ⟨b,1,none⟩=false:=Lib.frozen_of_heap hb2 1
 have hne:v'.ownBlock≠some b:=fun e=>by
  rcases hat b e with h1 | h1
  ·exact h.ne h1
  ·omega
 have HE:Hid (BuiE B w (w2.setCell ⟨b,1,none⟩ v') b v v' (o ++ bl s)):=by
  refine ⟨⟨h.ge,⟨_,.inr rfl, ?_⟩,own_blk (w:=w2) ?_ fun k hk=>setCell_old _ _ _ _ _ (fun e=>hne (e ▸ hk)),hne⟩, ?_,fun k hk hkb hkv=>?_,fun k hk=>?_, ?_⟩
  ·simp [World.setCell,Array.getElem?_modify,hb2]
  ·have e:Lib.byteCells (o ++ bl s)=Lib.byteCells o ++ Lib.strCells s:=Lib.byteCells_append _ _
   rw [e,List.length_append,bl_length]
   exact hown'
  ·have:=hgrow.size
   have:=hc.size
   simp [World.setCell];omega
  ·rw [setCell_old _ _ _ _ _ hkb,hgrow.block k (by rw [hc.size];exact hk) (fun e=>hkv e.symm),hc.keep k hkb]
  ·rcases hat k hk with h1 | h1
   ·exact .inl h1
   ·exact .inr (by rw [<- hc.size];exact h1)
  ·exact (hc.bel.grown hgrow hB1 (ownsRow_block hown)).setCell (p:=⟨b,1,none⟩) h.ge _
 obtain ⟨ao,n',cap,rfl⟩:∃ ao n' cap,v'=.slice ao n' cap:=by
  rcases hown'.2 with ⟨hv,_⟩ | ⟨g,cap,cur,hv,_⟩
  ·exact ⟨_,_,_,hv⟩
  ·exact ⟨_,_,_,hv⟩
 clear hc hown' hgrow hat hown HC hb2
 go_wp2_with fail
 go_ret2
 exact ⟨rfl,_,HE.out⟩
set_option maxHeartbeats 1600000 in
theorem writeB_any (B b:Nat) (v:Value) (o:List UInt8) (w:World) (h:BuiW B w b v o) (hl:o.length + 1<=1000000) (hB:B<=w.heap.size) :
  Calls Tryz.prog 73 #[.pointer (some ⟨b,0,none⟩),.int .u8 10] w fun e w'=>e=.returned .nilIface∧∃ v',BuiE B w w' b v v' (o ++ [10]):=by
 obtain ⟨i0,hi,hz0,hz1,hz2⟩:=info_parts Tryz.Builder_Extra_156.infoByte
 go_enter Tryz.func73,Tryz.ntmps73
 go_wp2_with (go_at_call 116;refine (check_any B b v o _ h).mono ?_)
 rintro e w1 ⟨rfl,hc⟩
 have hlt:b < w1.heap.size:=(Array.getElem?_eq_some_iff.1 hc.box).1
 have c0:w1.cell? ⟨b,0,none⟩=some (.pointer (some ⟨b,0,none⟩)):=by rw [Lib.cell_of_heap hc.box];rfl
 have c1:w1.cell? ⟨b,1,none⟩=some v:=by rw [Lib.cell_of_heap hc.box];rfl
 have hB1:B<=w1.heap.size:=by rw [hc.size];exact hB
 have HC:Hid (Chk B w w1 b v o):=hc
 have hown:=hc.own
 clear hc
 go_wp2_with (at_builtin;refine wpList_append_lies _ rfl _ _ 121 rfl B 5 i0 (.int .u8 0) 1 1 Tryz.underlying121 hi hz0 hz1 hz2 rfl (by decide) _ _ _ rfl (hown.alloc _) ⟨w1.heap.size,0,none⟩ 1 1 [.int .u8 10] rfl rfl (one_new w1 _ _) (by simp [Value.oneCell']) (by decide) (by unfold maxLen;omega) (by omega) (by simp;omega) _ rfl ?_)
 intro g' cap' w2 hown' hgrow hat _
 have hc:=HC.out
 have hb2:w2.heap[b]?=some (.cells #[.pointer (some ⟨b,0,none⟩),v] 123 (0,0)):=by
  rw [hgrow.block b (by simp;omega) (fun e=>h.ne e.symm),Lib.alloc_old w1 _ b hlt]
  exact hc.box
 have d0:w2.cell? ⟨b,0,none⟩=some (.pointer (some ⟨b,0,none⟩)):=by rw [Lib.cell_of_heap hb2];rfl
 have d1:w2.cell? ⟨b,1,none⟩=some v:=by rw [Lib.cell_of_heap hb2];rfl
 have f1:w2.frozen? ⟨b,1,none⟩=false:=Lib.frozen_of_heap hb2 1
 have hat2:v.ownBlock=some g'∨w1.heap.size<=g':=by
  rcases hat with h1 | h1
  ·exact .inl h1
  ·exact .inr (by rw [h1];simp)
 have hne:g'≠b:=fun e=>by
  rcases hat2 with h1 | h1
  ·exact h.ne (e ▸ h1)
  ·omega
 have HE:Hid (BuiE B w (w2.setCell ⟨b,1,none⟩ (.slice (some ⟨g',0,none⟩) (o.length + 1) cap')) b v (.slice (some ⟨g',0,none⟩) (o.length + 1) cap') (o ++ [10])):=by
  refine ⟨⟨h.ge,⟨_,.inr rfl, ?_⟩,own_blk (w:=w2) ?_ fun k hk=>setCell_old _ _ _ _ _ ?_,fun e=>hne (by simpa [Value.ownBlock] using e)⟩, ?_,fun k hk hkb hkv=>?_,fun k hk=>?_, ?_⟩
  ·simp [World.setCell,Array.getElem?_modify,hb2]
  ·have e:Lib.byteCells (o ++ [10])=Lib.byteCells o ++ [.int .u8 10]:=Lib.byteCells_append _ _
   rw [e,List.length_append,List.length_singleton]
   exact hown'
  ·have:g'=k:=by simpa [Value.ownBlock] using hk
   omega
  ·have:=hgrow.size
   have:=hc.size
   simp [World.setCell] at *;omega
  ·rw [setCell_old _ _ _ _ _ hkb,hgrow.block k (by simp;rw [hc.size];omega) (fun e=>hkv e.symm),Lib.alloc_old w1 _ k (by rw [hc.size];exact hk),hc.keep k hkb]
  ·have e:g'=k:=by simpa [Value.ownBlock] using hk
   subst e
   rcases hat2 with h1 | h1
   ·exact .inl h1
   ·exact .inr (by rw [<- hc.size];exact h1)
  ·exact ((hc.bel.alloc hB1 _).grown hgrow (by simp;omega) (ownsRow_block hown)).setCell (p:=⟨b,1,none⟩) h.ge _
 clear hc hown' hgrow hat hat2 hown HC hb2
 go_wp2_with fail
 go_ret
 exact ⟨rfl,_,HE.out⟩
theorem string_any (B b:Nat) (v:Value) (o:List UInt8) (w:World) (h:BuiW B w b v o) (hB:B<=w.heap.size) :
  Calls Tryz.prog 74 #[.pointer (some ⟨b,0,none⟩)] w fun e w'=>e=.returned (.string ⟨o.toArray⟩)∧Below B w w':=by
 obtain ⟨p,hp,hb⟩:=h.box
 have hA:∀ q,q=p->Lib.BuilderAt 123 5 B b q (Lib.byteCells o) w:=fun q hq=>⟨h.ge,v,by rw [hq];exact hb,by rw [Lib.byteCells_length];exact h.own,h.ne⟩
 refine (Tryz.Builder_String_any_k B b o w (Lib.IsBuilderF.of ?_) hB).mono ?_
 ·rcases hp with rfl | rfl
  ·exact .inl (hA _ rfl)
  ·exact .inr (hA _ rfl)
 ·rintro e w' ⟨rfl,_,h2,_⟩
  exact ⟨rfl,h2⟩
structure RunW (w wL wr:World) (bT bB glo ghi:Nat) (g:GatL) (a0 a1 a2:Option Addr) (d0 d1 d2:Nat) (v:Value) (o:List UInt8):Prop where
 tab:TabW wr bT glo ghi g a0 a1 a2 d0 d1 d2
 bui:BuiW w.heap.size wr bB v o
 row:∀ q,v.ownBlock=some q->wL.heap.size<=q∧(q < glo∨ghi<=q)
 old:∀ q,q < wL.heap.size->q≠bT->q≠bB->wr.heap[q]?=wL.heap[q]?
 low:wL.heap.size<=glo
 bel:Below w.heap.size w wr
 size:wL.heap.size<=wr.heap.size
 bt:w.heap.size<=bT∧bT < wL.heap.size
 bb:w.heap.size<=bB∧bB < wL.heap.size
 ne:bT≠bB
theorem RunW.told {w wL wr w1:World} {bT bB glo ghi glo' ghi':Nat} {g g':GatL} {a0 a1 a2 b0 b1 b2:Option Addr} {d0 d1 d2 e0 e1 e2:Nat} {v:Value} {o:List UInt8} (h:RunW w wL wr bT bB glo ghi g a0 a1 a2 d0 d1 d2 v o)
  (hb:But bT wr w1) (ht:TabW w1 bT glo' ghi' g' b0 b1 b2 e0 e1 e2) (hl:(glo'=glo∧ghi'=ghi)∨wr.heap.size<=glo'):RunW w wL w1 bT bB glo' ghi' g' b0 b1 b2 e0 e1 e2 v o:=by
 have hs:=h.size
 have hbt:=h.bt
 have hbb:=h.bb
 have hne:=h.ne
 have hz:=h.bel.size
 have hrow:∀ q,v.ownBlock=some q->w1.heap[q]?=wr.heap[q]?:=fun q e=>hb.block q (h.bui.row q e).2 (by have:=(h.row q e).1;omega)
 refine ⟨ht,⟨h.bui.ge, ?_,own_blk h.bui.own hrow,h.bui.ne⟩,fun q e=>?_,fun q h1 h2 h3=>?_, ?_,h.bel.trans (hb.below hbt.1 hz),Nat.le_trans hs hb.size,hbt,hbb,hne⟩
 ·obtain ⟨p,hp,hbx⟩:=h.bui.box
  exact ⟨p,hp,by rw [hb.block bB (by omega) (Ne.symm hne)];exact hbx⟩
 ·obtain ⟨q1,q2⟩:=h.row q e
  have q3:=(h.bui.row q e).2
  refine ⟨q1, ?_⟩
  rcases hl with ⟨rfl,rfl⟩ | hl
  ·exact q2
  ·left;omega
 ·rw [hb.block q (by omega) h2]
  exact h.old q h1 h2 h3
 ·rcases hl with ⟨rfl,rfl⟩ | hl
  ·exact h.low
  ·omega
theorem RunW.wrote {w wL wr w1:World} {bT bB glo ghi:Nat} {g:GatL} {a0 a1 a2:Option Addr} {d0 d1 d2:Nat} {v v':Value} {o o':List UInt8} (h:RunW w wL wr bT bB glo ghi g a0 a1 a2 d0 d1 d2 v o)
  (hE:BuiE w.heap.size wr w1 bB v v' o'):RunW w wL w1 bT bB glo ghi g a0 a1 a2 d0 d1 d2 v' o':=by
 have hs:=h.size
 have hbt:=h.bt
 have hbb:=h.bb
 have hne:=h.ne
 have hlow:=h.low
 have hglt:=h.tab.glt
 have hz:=h.bel.size
 have hT:w1.heap[bT]?=wr.heap[bT]?:=hE.keep bT (by omega) hne (fun e=>by have:=(h.row bT e).1;omega)
 refine ⟨⟨?_,h.tab.rows.agree ⟨hE.size,fun k k1 k2 k3=>hE.keep k k3 (by omega) (fun e=>by have:=(h.row k e).2;omega)⟩,h.tab.nice,Nat.le_trans hglt hE.size,h.tab.box,h.tab.cap,Nat.lt_of_lt_of_le h.tab.lt hE.size⟩,hE.bui,fun q e=>?_,fun q h1 h2 h3=>?_,hlow,h.bel.trans hE.bel,Nat.le_trans hs hE.size,hbt,hbb,hne⟩
 ·obtain ⟨q0,q1,q2,q3,q4,q5⟩:=h.tab.tri
  exact ⟨by rw [World.cell?_of_block hT];exact q0,by rw [World.cell?_of_block hT];exact q1,by rw [World.cell?_of_block hT];exact q2,by rw [World.frozen?_of_block hT];exact q3,by rw [World.frozen?_of_block hT];exact q4,by rw [World.frozen?_of_block hT];exact q5⟩
 ·rcases hE.at_ q e with h1 | h1
  ·exact h.row q h1
  ·exact ⟨by omega,.inr (by omega)⟩
 ·rw [hE.keep q (by omega) h3 (fun e=>by have:=(h.row q e).1;omega)]
  exact h.old q h1 h2 h3
theorem RowS.kept {wL wr:World} {a:Option Addr} {l:List ByteArray} {bT bB:Nat} (h:RowS wL a l) (hold:∀ q,q < wL.heap.size->q≠bT->q≠bB->wr.heap[q]?=wL.heap[q]?) (hs:wL.heap.size<=wr.heap.size) (hf:∀ b o,a=some ⟨b,o,none⟩->b≠bT∧b≠bB):RowS wr a l:=fun k hk=>by
 obtain ⟨b,o,e,hb,hc⟩:=h k hk
 obtain ⟨f1,f2⟩:=hf b o e
 exact ⟨b,o,e,by omega,by rw [World.cell?_of_block (hold b hb f1 f2)];exact hc⟩
def RunE (t:ByteArray) (e:Ending):Prop:=∃ s,e=.returned (.string s)∧TableP t s
set_option maxHeartbeats 3200000 in
theorem implRun_any (t:ByteArray) (w:World) (u:TypeId) (pv:Value) (hall:AllW w u pv) (hcc:∀ l∈cutW 10 t,bl l≠[]->∀ u0 r,cutW 32 l=u0 :: r->ComC (bl u0)) :
  Calls Tryz.prog 37 #[.string t] w fun e w'=>RunE t e∧Below w.heap.size w w':=by
 have HCC:Hid (∀ l∈cutW 10 t,bl l≠[]->∀ u0 r,cutW 32 l=u0 :: r->ComC (bl u0)):=hcc
 clear hcc
 go_enter Tryz.func37,Tryz.ntmps37
 by_cases hl:3000 < t.size
 ·have HL:Hid (RunE t (.returned (.string ⟨#[108,111,110,103,10]⟩))):=⟨_,rfl,.inl ⟨.inl hl,rfl⟩⟩
  have hl':(3000:Int) < (t.size:Int):=by omega
  go_wp2_with fail
  go_ret
  exact ⟨HL.out,Below.refl _ _⟩
 have hl':¬ (3000:Int) < (t.size:Int):=by omega
 have hlen:=cut_len 10 t
 have cC:=(Tryz.strings_Count_one t 10 w).mono fun _ _ h=>(⟨h.1,h.2.symm⟩:_∧w=_)
 have hcb:Lib.countByte t.data.toList 10=(bl t).count 10:=rfl
 rw [hcb] at cC
 obtain ⟨N,hN⟩:∃ N,(bl t).count 10=N:=⟨_,rfl⟩
 rw [hN] at cC hlen
 have hN1:=(cut_sizes 10 t).1
 have HLEN:Hid ((cutW 10 t).length=N + 1):=hlen
 have hNb:N<=3000:=by omega
 by_cases hm:80 < N + 1
 ·have HL:Hid (RunE t (.returned (.string ⟨#[108,111,110,103,10]⟩))):=⟨_,rfl,.inl ⟨.inr (by rw [hlen];exact hm),rfl⟩⟩
  have hm':(80:Int) < (N:Int) + 1:=by omega
  clear hlen hN hcb hN1 HLEN
  go_wp2_with (go_at_call 69;refine cC.mono ?_;rintro e w3 ⟨rfl,rfl⟩)
  go_ret
  exact ⟨HL.out,Below.refl _ _⟩
 have hm':¬ (80:Int) < (N:Int) + 1:=by omega
 have HNL:Hid (¬ LongP t):=fun h=>by rcases h with h | h <;> omega
 obtain ⟨W0,hW0⟩:∃ W0,(w.alloc (.cells #[.slice none 0 0,.slice none 0 0,.slice none 0 0] 119)).alloc (.cells #[.pointer none,.slice none 0 0] 123)=W0:=⟨_,rfl⟩
 have cS:=split_any 10 t W0 (by omega)
 have hz:W0.heap.size=w.heap.size + 2:=by rw [<- hW0];simp
 have B0:Below w.heap.size w W0:=by rw [<- hW0];exact ((Below.refl _ _).alloc (Nat.le_refl _) _).alloc (by simp) _
 have tT:Tri W0 w.heap.size (.slice none 0 0) (.slice none 0 0) (.slice none 0 0):=by rw [<- hW0];constructor <;> simp [go_sem]
 have hbB:W0.heap[w.heap.size + 1]?=some (.cells #[.pointer none,.slice none 0 0] 123 (0,0)):=by
  rw [<- hW0]
  have e:(w.alloc (.cells #[.slice none 0 0,.slice none 0 0,.slice none 0 0] 119)).heap.size=w.heap.size + 1:=by simp
  rw [<- e]
  unfold World.alloc
  exact Array.getElem?_push_size
 have HW0:Hid ((w.alloc (.cells #[.slice none 0 0,.slice none 0 0,.slice none 0 0] 119)).alloc (.cells #[.pointer none,.slice none 0 0] 123)=W0):=hW0
 have z0:w.heap.size < W0.heap.size:=by omega
 have z1:w.heap.size + 1 < W0.heap.size:=by omega
 clear hlen hN hcb hN1 hW0 hz
 go_wp2_with (first | rw [HW0.out] | (go_at_call 69;refine cC.mono ?_;rintro e w3 ⟨rfl,rfl⟩) | (go_at_call 70;refine cS.mono ?_))
 rintro e wL ⟨⟨bL,capL,rfl,hrow,hcp,hcp2,hnew⟩,bl1⟩
 have BL:Below w.heap.size w wL:=B0.trans (bl1.mono B0.size)
 have tTL:=tT.keep bl1
 have hbL:wL.heap[w.heap.size + 1]?=some (.cells #[.pointer none,.slice none 0 0] 123 (0,0)):=by rw [bl1.block _ z1];exact hbB
 have zL0:=Nat.lt_of_lt_of_le z0 bl1.size
 have zL1:=Nat.lt_of_lt_of_le z1 bl1.size
 have hR0:RunW w wL wL w.heap.size (w.heap.size + 1) wL.heap.size wL.heap.size emptyG none none none 0 0 0 (.slice none 0 0) []:=by
  refine ⟨⟨tTL,rowsIn_empty _ _ _ _ _ _,emptyG_v,Nat.le_refl _,.inl zL0,⟨Nat.le_refl _,Nat.zero_le _⟩,zL0⟩,⟨Nat.le_succ _,⟨_,.inl rfl,hbL⟩,World.ownsRow_nil _ _ _ _,by simp [Value.ownBlock]⟩,fun q e=>by simp [Value.ownBlock] at e,fun q _ _ _=>rfl,Nat.le_refl _,BL,Nat.le_refl _,⟨Nat.le_refl _,zL0⟩,⟨Nat.le_succ _,zL1⟩,by omega⟩
 have HSZ:Hid (∀ x∈cutW 10 t,x.size<=3000):=fun x hx=>by have:=(cut_sizes 10 t).2 x hx;omega
 have hn81:(cutW 10 t).length<=81:=by rw [HLEN.out];omega
 obtain ⟨ls,hls⟩:∃ ls,cutW 10 t=ls:=⟨_,rfl⟩
 have HLS:Hid (cutW 10 t=ls):=hls
 rw [hls] at hrow hcp HSZ hn81 HCC
 rw [hls]
 clear hls cC cS HLEN B0 tT hbB HW0 bl1 tTL hbL
 have hfar:bL≠w.heap.size∧bL≠w.heap.size + 1:=by omega
 go_wp2_with fail
 go_loopw [19] (fun i wr=>∃ (k glo ghi:Nat) (g:GatL) (a0 a1 a2:Option Addr) (d0 d1 d2:Nat) (v:Value) (o:List UInt8),k<=ls.length∧i=.int .i64 k∧RunW w wL wr w.heap.size (w.heap.size + 1) glo ghi g a0 a1 a2 d0 d1 d2 v o∧Hid (RunTo (ls.take k) g o)) (fun i _=>ls.length - (intOf i).toNat)
 case atStart=>exact ⟨0,_,_,_,_,_,_,_,_,_,_,_,Nat.zero_le _,rfl,hR0,by rw [List.take_zero];exact .nil⟩
 case round=>
  clear hR0
  obtain ⟨k,glo,ghi,g,a0,a1,a2,d0,d1,d2,v,o,hk,rfl,hR,HT⟩:=hrel
  by_cases hlt:k < ls.length
  ·have hrow2:=RowS.kept hrow hR.old hR.size (fun b o e=>by simp only [Option.some.injEq,Addr.mk.injEq] at e;obtain ⟨rfl,_⟩:=e;exact hfar)
   obtain ⟨b',o',eq,hb',cl⟩:=hrow2 k hlt
   obtain ⟨rfl,rfl⟩:bL=b'∧0=o':=by simpa using eq
   rw [Nat.zero_add] at cl
   have k0:(0:Int)<=(k:Int):=by omega
   have k1:(k:Int) < (ls.length:Int):=by omega
   have hst:=run_stepS hlt HT.out
   have hsz:ls[k].size<=3000:=HSZ.out _ (List.getElem_mem hlt)
   clear eq hrow2
   by_cases he:bl ls[k]=[]
   ·have HT2:Hid (RunTo (ls.take (k + 1)) g o):=hst.1 he
    have heq:(ls[k].toList == [])=true:=by rw [ByteArray.toList_eq];unfold bl at he;rw [he];rfl
    clear hst he
    go_wp2_with fail
    exact ⟨⟨k + 1,glo,ghi,g,a0,a1,a2,d0,d1,d2,v,o,by omega,by go_num,hR,HT2⟩,by simp [intOf];omega⟩
   ·have heq:(ls[k].toList == [])=false:=by rw [ByteArray.toList_eq,beq_eq_false_iff_ne];exact he
    have hof:=HT.out.facts.2
    have hol:o.length<=81081:=by
     have:(ls.take k).length<=81:=by rw [List.length_take];omega
     have:=Nat.mul_le_mul_right 1001 this
     omega
    have cT:=tell_any w.heap.size glo ghi g a0 a1 a2 d0 d1 d2 ls[k] wr hR.tab hsz u pv (hall.below hR.bel) w (Nat.le_refl _) hR.bel hall (HCC.out _ (List.getElem_mem hlt) he)
    have HST:Hid (∀ g' t,TellsTo g (cutW 32 ls[k]) g' t->RunTo (ls.take (k + 1)) g' (o ++ (t ++ [10]))):=fun g' t h=>hst.2 g' t he h
    have hgn:=hR.tab.nice
    have HGN:Hid (NiceV g):=hgn
    clear hst he hof hgn
    go_wp2_with (go_at_call 72;refine cT.mono ?_)
    rintro e w2 ⟨⟨s,g',glo',ghi',b0,b1,b2,e0,e1,e2,rfl,hTT,ht2,hlo⟩,hbt⟩
    have hR2:=hR.told hbt ht2 hlo
    have HRT:Hid (RunTo (ls.take (k + 1)) g' (o ++ (bl s ++ [10]))):=HST.out _ _ hTT
    have hsl:s.size<=1000:=by
     obtain ⟨x,y,_,hz⟩:=hTT
     rw [<- bl_length]
     exact (hz.facts HGN.out).2
    have zz:=hR2.bel.size
    have cW:=write_any w.heap.size (w.heap.size + 1) v o s w2 hR2.bui (by omega) zz
    clear cT hTT hbt ht2 hlo hR HST
    go_wp2_with (go_at_call 71;refine cW.mono ?_)
    rintro e w3 ⟨rfl,v3,hE3⟩
    have hR3:=hR2.wrote hE3
    have zz3:=hR3.bel.size
    have cB:=writeB_any w.heap.size (w.heap.size + 1) v3 (o ++ bl s) w3 hR3.bui (by rw [List.length_append,bl_length];omega) zz3
    clear cW hE3 hR2
    go_wp2_with (go_at_call 73;refine cB.mono ?_)
    rintro e w4 ⟨rfl,v4,hE4⟩
    have hR4:=hR3.wrote hE4
    rw [List.append_assoc] at hR4
    clear cB hE4 hR3
    go_wp2_with fail
    exact ⟨⟨k + 1,_,_,g',_,_,_,_,_,_,v4,_,by omega,by go_num,hR4,HRT⟩,by simp [intOf];omega⟩
  ·obtain rfl:k=ls.length:=by omega
   have hRT:=HT.out
   rw [List.take_length] at hRT
   have HE:Hid (RunE t (.returned (.string ⟨o.toArray⟩))):=⟨_,rfl,.inr ⟨HNL.out,g,by rw [HLS.out];simpa [bl] using hRT⟩⟩
   have cS:=string_any w.heap.size (w.heap.size + 1) v o wr hR.bui hR.bel.size
   have hbw:=hR.bel
   clear hRT HT hR
   go_wp2_with (go_at_call 74;refine cS.mono ?_)
   rintro e w2 ⟨rfl,b2⟩
   go_wp2_with fail
   go_ret
   exact ⟨HE.out,hbw.trans b2⟩
end Go.Proofs.YtpfhegengmlkmacGreatDoor
