/- Texts of this claim. -/
import Derived.Deep.AppendLies
import Derived.ArgAppend
import Derived.Laws.OwnMore
import Derived.Test.YtpfhegengmlkmabGreatDoorZu1
namespace Go.Proofs.YtpfhegengmlkmabGreatDoor
open Go.RowKit Go.BigFrame
def aP:List (ByteArray×Int)->List Value
 |[]=>[]
 |m::r=>.string m.1::.int .i64 m.2::aP r
theorem dC:∀l,(aP l).length=l.length*2
 |[]=>rfl
 |m::r=>by simp[aP,dC r];omega
theorem kY:∀l r,aP (l++r)=aP l++aP r
 |[],_=>rfl
 |m::l,r=>by simp[aP,kY l r]
theorem oM:∀(l:List (ByteArray×Int)) (k:Nat) (h:k<l.length),(aP l)[k*2]?=some (.string l[k].1)/\(aP l)[k*2+1]?=some (.int .i64 l[k].2)
 |m::r,0,_=>by simp[aP]
 |m::r,k+1,h=>by
  have:=oM r k (by simpa using h)
  have e0:(k+1)*2=k*2+1+1:=by omega
  have e1:(k+1)*2+1=k*2+1+1+1:=by omega
  rw[e0]
  simp only[aP,List.getElem?_cons_succ,List.getElem_cons_succ]
  exact this
def az (w:World)(B:Nat)(v:Value)(l:List (ByteArray×Int)):Prop:=w.ownsRow B 54 2 v l.length (aP l)
theorem az.none (w:World)(B:Nat):az w B (.slice none 0 0) []:=World.ownsRow_nil _ _ _ _
theorem az.form {w:World}{B:Nat}{v:Value}{l:List (ByteArray×Int)}(h:az w B v l) :
  (v=.slice Option.none 0 0/\l=[])∨∃g cap,v=.slice (some ⟨g,0,Option.none⟩) l.length cap/\B<=g/\Own w g l:=by
 obtain⟨hl,h|⟨g,cap,cur,hv,hg,hh,hn,hc,hs,ht⟩⟩:=h
 ·exact .inl ⟨h.1,List.length_eq_zero_iff.1 h.2⟩
 ·refine .inr ⟨g,cap,hv,hg,cap*2,fun i=>(cur[i]?).getD undef, ?_,by omega,fun k hk=>?_⟩
  ·refine⟨cur,hh,hs,fun i hi=>?_⟩
   have hi':i<cur.size:=by omega
   simp[Array.getElem?_eq_getElem hi']
  ·have h2:=oM l k hk
   have hlen:=dC l
   rw[<- ht]at h2
   rw[List.getElem?_take_of_lt (by omega),List.getElem?_take_of_lt (by omega)]at h2
   simp only[Array.getElem?_toList]at h2
   simp only[h2.1,h2.2]
   exact⟨rfl,rfl⟩
theorem az.shape {w:World}{B:Nat}{v:Value}{l:List (ByteArray×Int)}(h:az w B v l):∃a cap,v=.slice a l.length cap/\Row w a l:=by
 rcases h.form with⟨hv,rfl⟩|⟨g,cap,hv,_,ho⟩
 ·exact⟨_,_,hv,fun k hk=>absurd hk (Nat.not_lt_zero k)⟩
 ·exact⟨_,_,hv,ho.row⟩
theorem az.keep {w w':World}{B:Nat}{v:Value}{l:List (ByteArray×Int)}(h:az w B v l)(hb:Below w.heap.size w w'):az w' B v l:=by
 obtain⟨hl,h|⟨g,cap,cur,hv,hg,hh,r⟩⟩:=h
 ·exact⟨hl,.inl h⟩
 ·refine⟨hl,.inr ⟨g,cap,cur,hv,hg, ?_,r⟩⟩
  rw[hb.block g ?_]
  ·exact hh
  ·rcases Nat.lt_or_ge g w.heap.size with hlt|hge
   ·exact hlt
   ·rw[Array.getElem?_eq_none hge]at hh;cases hh
theorem az.lower {w:World}{B B':Nat}{v:Value}{l:List (ByteArray×Int)}(h:az w B v l)(hB:B'<=B):az w B' v l:=by
 obtain⟨hl,h|⟨g,cap,cur,hv,hg,r⟩⟩:=h
 ·exact⟨hl,.inl h⟩
 ·exact⟨hl,.inr ⟨g,cap,cur,hv,Nat.le_trans hB hg,r⟩⟩
theorem az.snoc {w:World}{B:Nat}{v:Value}{l:List (ByteArray×Int)}{s:ByteArray}{x:Int}(h:w.ownsRow B 54 2 v (l.length+1) (aP l++[.string s,.int .i64 x])):az w B v (l++[(s,x)]):=by
 unfold az
 rw[kY,List.length_append]
 exact h
theorem az.grown {W w w':World}{B:Nat}{v:Value}{l:List (ByteArray×Int)}(h:az w B v l)(hb:Below B W w)(hB:B<=w.heap.size)(hg:w.grownBy w' v.ownBlock):Below B W w':=
 hb.grown hg hB (fun k e=>by
  rcases h.form with⟨rfl,_⟩|⟨g,cap,rfl,hle,_⟩
  ·cases e
  ·simp[Value.ownBlock]at e;omega)
theorem jy (w:World)(x y:Value)(t:TypeId):∀j u,[x,y][j]?=some u->(w.alloc (.cells #[x,y] t)).cell? ((⟨w.heap.size,0,none⟩:Addr).add j)=some u:=by
 intro j u hj
 match j,hj with
 |0,hj=>simp at hj;subst hj;simp[Addr.add,go_sem]
 |1,hj=>simp at hj;subst hj;simp[Addr.add,go_sem]
theorem Tryz.infoM:(Tryz.prog.info? 54).map (fun i=>(i.zero,i.size,i.bytes))=some (some (.agg #[.string .empty,.int .i64 0]),2,24):=by kernel_rfl
def fJ (base:Nat)(w w':World):Prop:=w.grownBy w' none∨∃g,base<=g/\(∃u,w.cell? ⟨g,3,none⟩=some u)/\w.grownBy w' (some g)
theorem uN (ty:TypeId)(base:Nat)(v:Value)(l:List (ByteArray×Int))(w:World)(hg:az w base v l)(hv:l=[]->v=.slice none 0 0)(ad:Addr)(m:ByteArray×Int)
  (c0:w.cell? ad=some (.string m.1)) (c1:w.cell? (ad.add 1)=some (.int .i64 m.2)) (hl:l.length<=1048576) (hbase:base<=w.heap.size) :
  ∃v' w',(Builtin.append_ #[28,28] ty #[v,.slice (some ad) 1 1]).run Tryz.prog w=.ok v' w'/\az w' base v' (l++[m])/\fJ base w w':=by
 obtain⟨i0,hi,hz0,hz1,hz2⟩:=info_parts Tryz.infoM
 have hnews:∀j u,([.string m.1,.int .i64 m.2]:List Value)[j]?=some u->w.cell? (ad.add j)=some u:=by
  intro j u hj
  match j,hj with
  |0,hj=>simp at hj;subst hj;rw[show ad.add 0=ad from by cases ad with|mk b o s=>cases s <;> simp[Addr.add]];exact c0
  |1,hj=>simp at hj;subst hj;exact c1
 have h1:∀u∈([.string m.1,.int .i64 m.2]:List Value),u.oneCell'=true:=by simp[Value.oneCell']
 have hmc:aP (l++[m])=aP l++[.string m.1,.int .i64 m.2]:=by rw[kY];rfl
 by_cases hnil:l=[]
 ·obtain rfl:=hv hnil
  obtain⟨g,cap,w',hr,h2,h3,_,_⟩:=run_append_lies (P:=Tryz.prog) w 28 ty base 54 i0 (.agg #[.string .empty,.int .i64 0]) 2 24 Tryz.underlying28 hi hz0 hz1 hz2 rfl (by decide) _ _ _ hg ad 1 1 [.string m.1,.int .i64 m.2] rfl hnews h1 (by decide) (by unfold maxLen;omega) (by omega) hbase _ rfl
  refine⟨_,w',hr, ?_,.inl h3⟩
  unfold az
  rw[hmc,List.length_append]
  exact h2
 ·have hpos:0<l.length:=List.length_pos_iff.2 hnil
  obtain⟨hlen,h|⟨g,cap,cur,rfl,hbg,hh,hnc,hcm,hcs,htk⟩⟩:=id hg
  ·exact absurd (List.length_eq_zero_iff.1 h.2) hnil
  by_cases hroom:l.length+1<=cap
  ·obtain⟨w',hr,h2,h3⟩:=run_append_fits (P:=Tryz.prog) w base 28 ty 54 i0 2 Tryz.underlying28 hi hz1 g l.length cap (aP l) hg ad 1 1 [.string m.1,.int .i64 m.2] rfl hnews h1 hroom
   refine⟨_,w',hr, ?_,.inr ⟨g,hbg, ?_,h3⟩⟩
   ·unfold az
    rw[hmc,List.length_append]
    exact h2
   ·have h3:3<cur.size:=by omega
    refine⟨cur[3], ?_⟩
    unfold World.cell?
    simp[hh,h3]
  ·have holds:∀j u,(aP l)[j]?=some u->w.cell? ((⟨g,0,none⟩:Addr).add j)=some u:=by
    intro j u hj
    have hjl:j<(aP l).length:=(List.getElem?_eq_some_iff.1 hj).1
    rw[<- htk,List.getElem?_take_of_lt (by rw[dC]at hjl;exact hjl)]at hj
    have e:(⟨g,0,none⟩:Addr).add j=⟨g,j,none⟩:=by unfold Addr.add;by_cases h:j=0 <;> simp[h]
    rw[e]
    unfold World.cell?
    simp only[hh]
    simpa using hj
   obtain⟨v',w',hr,h2,h3⟩:=run_append_arg_grows (P:=Tryz.prog) w 28 ty 54 i0 (.agg #[.string .empty,.int .i64 0]) 2 24 Tryz.underlying28 hi hz0 hz1 hz2 rfl (by decide) ⟨g,0,none⟩ l.length cap (aP l) (dC l) holds ad 1 1 [.string m.1,.int .i64 m.2] rfl hnews (by omega) (by unfold maxLen;omega) (by omega)
   refine⟨v',w',hr, ?_,.inl h3⟩
   refine az.lower (B:=w.heap.size) ?_ hbase
   unfold az
   rw[hmc,List.length_append]
   exact h2
theorem dF {o:Oper}{a:Act}{w:World}{K:Act->World->Prop}{Q:Exit->Act->World->Prop}(s x:Operand)
  (ho:o.op=.call { callee:=.builtin .append,args:=#[s,x],argTypes:=#[28,28] }) (base:Nat) (v:Value) (l:List (ByteArray×Int)) (hs:a.eval s=v) (hg:az w base v l) (hv:l=[]->v=.slice none 0 0) (ad:Addr) (m:ByteArray×Int)
  (hx:a.eval x=.slice (some ad) 1 1) (c0:w.cell? ad=some (.string m.1)) (c1:w.cell? (ad.add 1)=some (.int .i64 m.2)) (hl:l.length<=1048576) (hbase:base<=w.heap.size)
  (h:∀v' w',az w' base v' (l++[m])->fJ base w w'->K (a.put o.dst v') w'):o.wp Tryz.prog a w K Q:=by
 obtain⟨v',w',hr,h2,h3⟩:=uN o.type base v l w hg hv ad m c0 c1 hl hbase
 unfold Oper.wp execOp
 simp only[ho,resolve,invoke,builtin,Sem.run_bind,Sem.run_pure,Result.andThen_ok,List.map_toArray,List.map_cons,List.map_nil,hs,hx,hr]
 exact h v' w' h2 h3
theorem fJ.size {base:Nat}{w w':World}(h:fJ base w w'):w.heap.size<=w'.heap.size:=by
 rcases h with h|⟨g,_,_,h⟩
 ·exact h.size
 ·exact h.size
theorem fJ.below {base B:Nat}{W w w':World}(h:fJ base w w')(hb:Below B W w)(hB:B<=base)(hw:B<=w.heap.size):Below B W w':=by
 rcases h with h|⟨g,hg,_,h⟩
 ·exact hb.grown h hw (fun k e=>by cases e)
 ·exact hb.grown h hw (fun k e=>by simp at e;omega)
theorem fJ.far {base:Nat}{w w':World}(h:fJ base w w')(hw:base<=w.heap.size):Below base w w':=h.below (Below.refl _ _) (Nat.le_refl _) hw
end Go.Proofs.YtpfhegengmlkmabGreatDoor
