/- Texts of this claim. -/
import Derived.Test.YtpfhegengmlkmacGreatDoorZt16
import Derived.Test.YtpfhegengmlkmacGreatDoorZt17
namespace Go.Proofs.YtpfhegengmlkmacGreatDoor
open Go.RowKit Go.BigFrame
set_option maxRecDepth 100000
def RowU (w:World) (a:Option Addr) (F:List (List Int)):Prop:=∀ i,(h:i < F.length)->∃ b o,a=some ⟨b,o,none⟩∧b < w.heap.size∧∃ s c,w.cell? ⟨b,o + i,none⟩=some (.slice s F[i].length c)∧RowZ w s F[i]
theorem RowU.below {w w':World} {a:Option Addr} {F:List (List Int)} (h:RowU w a F) (hb:Below w.heap.size w w'):RowU w' a F:=fun i hi=>by
 obtain ⟨b,o,e,h1,s,c,h2,h3⟩:=h i hi
 exact ⟨b,o,e,Nat.lt_of_lt_of_le h1 hb.size,s,c,cell_on hb h1 h2,h3.below hb⟩
theorem GathU.row {w:World} {B:Nat} {v:Value} {L:List (List Int×Nat×Nat)} (h:GathU w B v L) (h0:∀ p∈L,0 < p.1.length):∃ a cap,v=.slice a L.length cap∧RowU w a (L.map (·.1)):=by
 rcases h.1.2 with ⟨rfl,e0⟩ | ⟨g,cap,cur,rfl,hB,hh,hn,_⟩
 ·exact ⟨none,0,by rw [e0],fun k hk=>by rw [List.length_map] at hk;omega⟩
 ·have hlt:g < w.heap.size:=(Array.getElem?_eq_some_iff.1 hh).1
  refine ⟨_,cap,rfl,fun k hk=>⟨g,0,rfl,hlt, ?_⟩⟩
  rw [List.length_map] at hk
  have hm:=List.getElem_mem hk
  refine ⟨some ⟨L[k].2.1,0,none⟩,L[k].2.2, ?_,by simpa using (h.2 L[k] hm).rowz rfl (h0 _ hm)⟩
  rw [Nat.zero_add,World.ownsRow.cellAt h.1 _ (by omega)]
  simp [hk]
def NumB (w:World) (g:Nat) (l:List Int):Prop:=∃ m f,w.rowIs g 3 m f∧l.length<=m∧∀ j,(h:j < l.length)->f j=.int .i64 l[j]
theorem NumB.cell {w:World} {g:Nat} {l:List Int} (h:NumB w g l) {j:Nat} (hj:j < l.length):w.cell? ⟨g,j,none⟩=some (.int .i64 l[j]):=by
 obtain ⟨m,f,h,hm,hf⟩:=h
 rw [h.cell (by omega),hf j hj]
theorem NumB.frozen {w:World} {g:Nat} {l:List Int} (h:NumB w g l) (j:Nat):w.frozen? ⟨g,j,none⟩=false:=by
 obtain ⟨m,f,h,_⟩:=h
 exact h.frozen j
theorem NumB.lt {w:World} {g:Nat} {l:List Int} (h:NumB w g l):g < w.heap.size:=by
 obtain ⟨m,f,h,_⟩:=h
 exact h.lt
theorem NumB.set {w:World} {g:Nat} {l:List Int} (h:NumB w g l) (j:Nat) (x:Int):NumB (w.setCell ⟨g,j,none⟩ (.int .i64 x)) g (l.set j x):=by
 obtain ⟨m,f,h,hm,hf⟩:=h
 refine ⟨m,_,h.set _ _,by rw [List.length_set];exact hm,fun i hi=>?_⟩
 rw [List.length_set] at hi
 by_cases e:i=j
 ·subst e;simp
 ·simp only [if_neg e]
  rw [hf i hi,List.getElem_set_ne (fun h=>e h.symm)]
theorem NumB.below {w w':World} {g:Nat} {l:List Int} (h:NumB w g l) (hb:Below w.heap.size w w'):NumB w' g l:=by
 have hlt:=h.lt
 obtain ⟨m,f,h,hf⟩:=h
 exact ⟨m,f,h.of_block (hb.block g hlt),hf⟩
theorem NumB.row {w:World} {g:Nat} {l:List Int} (h:NumB w g l):RowZ w (some ⟨g,0,none⟩) l:=fun k hk=>⟨g,0,rfl,h.lt,by rw [Nat.zero_add];exact h.cell hk⟩
theorem GathN.block {w:World} {B g n c:Nat} {l:List Int} (h:GathN w B (.slice (some ⟨g,0,none⟩) n c) l):B<=g∧NumB w g l:=by
 rcases h.2 with ⟨e,_⟩ | ⟨g',cap,cur,e,hB,hh,hn,hc,hs,ht⟩
 ·cases e
 ·obtain rfl:g=g':=by simpa using (Value.slice.inj e).1
  refine ⟨hB,cap * 1,fun i=>(cur[i]?).getD undef,⟨cur,hh,hs,fun i hi=>?_⟩,by omega,fun k hk=>?_⟩
  ·have hi':i < cur.size:=by omega
   simp [Array.getElem?_eq_getElem hi']
  ·have h2:(l.map fun x=>Value.int .i64 x)[k]?=some (.int .i64 l[k]):=by simp [hk]
   rw [<- ht,List.getElem?_take_of_lt (by simp;omega)] at h2
   simp only [Array.getElem?_toList] at h2
   simp only [h2]
   rfl
def MixP (cur q:List Int) (k:Nat) (l:List Int):Prop:=l.length=cur.length∧∀ j,(h:j < l.length)->(hc:j < cur.length)->(hq:j < q.length)->l[j]=if j < k then max cur[j] q[j] else cur[j]
theorem mix_start (cur q:List Int):MixP cur q 0 cur:=⟨rfl,fun j h hc hq=>by simp⟩
theorem MixP.up {cur q l:List Int} {k:Nat} (h:MixP cur q k l) (hk:k < l.length) (hq:k < q.length) (hlt:l[k] < q[k]):MixP cur q (k + 1) (l.set k q[k]):=by
 refine ⟨by rw [List.length_set];exact h.1,fun j hj0 hc hq'=>?_⟩
 have hj:j < l.length:=by simpa using hj0
 by_cases e:j=k
 ·subst e
  have h2:=h.2 j hj hc hq'
  rw [if_neg (by omega)] at h2
  rw [List.getElem_set_self,if_pos (by omega)]
  omega
 ·have h2:=h.2 j hj hc hq'
  rw [List.getElem_set_ne (fun h=>e h.symm),h2]
  by_cases e2:j < k
  ·rw [if_pos e2,if_pos (by omega)]
  ·rw [if_neg e2,if_neg (by omega)]
theorem MixP.same {cur q l:List Int} {k:Nat} (h:MixP cur q k l) (hk:k < l.length) (hq:k < q.length) (hlt:¬ l[k] < q[k]):MixP cur q (k + 1) l:=by
 refine ⟨h.1,fun j hj hc hq'=>?_⟩
 have h2:=h.2 j hj hc hq'
 by_cases e:j=k
 ·subst e
  rw [if_neg (by omega)] at h2
  rw [if_pos (by omega)]
  omega
 ·rw [h2]
  by_cases e2:j < k
  ·rw [if_pos e2,if_pos (by omega)]
  ·rw [if_neg e2,if_neg (by omega)]
theorem MixP.whole {cur q l:List Int} {k:Nat} (h:MixP cur q k l) (hq:q.length=cur.length) (hk:cur.length<=k):l=List.zipWith max cur q:=by
 apply List.ext_getElem
 ·rw [h.1,List.length_zipWith,hq,Nat.min_self]
 ·intro j h1 h2
  have hl:=h.1
  rw [List.getElem_zipWith,h.2 j h1 (by omega) (by omega),if_pos (by omega)]
theorem topL_take {b:List Int} {F:List (List Int)} {i:Nat} (h:i < F.length):topL b (F.take (i + 1))=List.zipWith max (topL b (F.take i)) F[i]:=by
 rw [List.take_succ_eq_append_getElem h]
 unfold topL
 rw [List.foldl_append]
 rfl
set_option maxHeartbeats 1600000 in
theorem specCB_any (a:Option Addr) (cap:Nat) (ws:List (List ItemL)) (w:World) (hf:FitW ws) (hr:RowW w a ws) :
  Calls Tryz.prog 44 #[.slice a ws.length cap] w fun e w'=>((∃ g c out,e=.returned (.tuple #[.slice (some ⟨g,0,none⟩) out.length c,.bool true])∧BestP ws out true∧w.heap.size<=g∧NumB w' g out)∨(e=.returned (.tuple #[.slice none 0 0,.bool false])∧BestP ws [] false))∧Below w.heap.size w w':=by
 go_enter Tryz.func44,Tryz.ntmps44
 go_wp2_with fail
 refine (l3Ok_any a cap ws _ hf hr).mono ?_
 rintro e w1 ⟨⟨r,rfl,hr1⟩,b1⟩
 have HR:Hid (r=true↔OkW ws):=hr1
 clear hr1
 cases r with
 | false=>
  have HN:Hid (BestP ws [] false):=none_best (.inl fun h=>by have:=HR.out.2 h;simp at this)
  go_wp2_with fail
  exact bodyPost_ret (v:=.tuple #[.slice none 0 0,.bool false]) (by simp [results,Tryz.results44,go_sem]) rfl ⟨.inr ⟨rfl,HN.out⟩,b1⟩
 | true=>
  have HOK:Hid (OkW ws):=HR.out.1 rfl
  clear HR
  have h6:=HOK.out.2.1
  have h1l:=HOK.out.1
  go_wp2_with fail
  have hpow:4 ^ ws.length<=4096:=Nat.le_trans (Nat.pow_le_pow_right (by omega) h6) (by decide)
  refine (l3All_any w w1.heap.size a cap ws b1.size hf hr h6 (fun k hk=>(HOK.out.2.2 k hk).1) ws.length none 0 [] (.slice none 0 0) [] w1 b1 (fun k hk=>absurd hk (Nat.not_lt_zero k)) (fun _=>rfl) (fun b o h=>by cases h) ⟨by simp,fun i hi=>by simp at hi⟩ (by simp) (gathU_none _ _) (Nat.le_refl _) (by simp;omega)).mono ?_
  rintro e w2 ⟨⟨v2,L,rfl,hg2,hL,_⟩,hgr⟩
  have hb2:Below w1.heap.size w1 w2:=(Below.refl _ _).grown hgr (Nat.le_refl _) (fun k hk=>by cases hk)
  have B2:Below w.heap.size w w2:=b1.trans (hb2.mono b1.size)
  simp only [List.map_nil,List.nil_append] at hL
  have hlens:∀ q∈foundL ws ws.length [],q.length=ws.length:=fun q hq=>(chP_iff.2 ⟨HOK.out,hq⟩).2.1
  have hcnt:(foundL ws ws.length []).length<=4096:=Nat.le_trans (foundL_len (fun k hk=>(HOK.out.2.2 k hk).1) ws.length []) hpow
  obtain ⟨va,vc,rfl,hru⟩:=hg2.row (fun p hp=>by
   have:=hlens p.1 (by rw [<- hL];exact List.mem_map.2 ⟨p,hp,rfl⟩)
   omega)
  rw [hL] at hru
  have hLl:L.length=(foundL ws ws.length []).length:=by rw [<- hL,List.length_map]
  rw [hLl]
  clear hg2 hgr hLl hL
  generalize hF:foundL ws ws.length []=F at *
  have HF:Hid (foundL ws ws.length []=F):=hF
  clear hF
  by_cases h0:F.length=0
  ·have HN:Hid (BestP ws [] false):=none_best (.inr (by rw [HF.out];exact List.length_eq_zero_iff.1 h0))
   have h0':((F.length:Int) == 0)=true:=by rw [beq_iff_eq];omega
   go_wp2_with fail
   exact bodyPost_ret (v:=.tuple #[.slice none 0 0,.bool false]) (by simp [results,Tryz.results44,go_sem]) rfl ⟨.inr ⟨rfl,HN.out⟩,B2⟩
  have h0':((F.length:Int) == 0)=false:=by rw [beq_eq_false_iff_ne];omega
  obtain ⟨bu,ou,rfl,hbu,s0,c0,hu0,hz0⟩:=hru 0 (by omega)
  have i0:(0:Int) < (F.length:Int):=by omega
  have hl0:F[0].length=ws.length:=hlens _ (List.getElem_mem (by omega))
  have HL0:Hid (F[0].length=ws.length):=hl0
  have hl6:F[0].length<=6:=by omega
  have hnn:F[0]=[]->s0=none:=fun h=>by rw [h] at hl0;simp at hl0;omega
  have HLENS:Hid (∀ q∈F,q.length=ws.length):=hlens
  clear hl0 hlens
  rw [Nat.add_zero] at hu0
  have hbx:Below w2.heap.size w2 (w2.alloc (.cells #[] 3)):=(Below.refl _ _).alloc (Nat.le_refl _) _
  have hu0':=cell_on hbx hbu hu0
  have hz0':=hz0.below hbx
  go_wp2_with (first | (at_builtin;refine wpList_append_nums rfl _ _ rfl w2.heap.size w2.heap.size c0 s0 F[0] rfl (heap_alloc_new w2 _) (Nat.le_refl _) rfl hz0' hnn (by omega) ?_;intro g3 c3 w3 hn3 hgr3 hge3))
  obtain ⟨_,hnb⟩:=hn3.block
  have hb3:Below w2.heap.size w2 w3:=hbx.grown hgr3 (by simp) (fun k hk=>by cases hk;exact Nat.le_refl _)
  clear hn3 hgr3 hu0 hu0' hz0 hz0' hbx
  have B3:Below w.heap.size w w3:=B2.trans (hb3.mono B2.size)
  go_loopw [6] (fun i wr=>∃ (k:Nat) (l:List Int),k<=F.length∧i=.int .i64 k∧l.length=F[0].length∧Hid (l=topL F[0] (F.take k))∧NumB wr g3 l∧Below w2.heap.size w2 wr) (fun i _=>F.length - (intOf i).toNat)
  case atStart=>exact ⟨0,F[0],Nat.zero_le _,rfl,rfl,rfl,hnb,hb3⟩
  case round=>
   clear hnb
   obtain ⟨k,l,hk,rfl,hll,HT,hnb,hbl⟩:=hrel
   by_cases hlt:k < F.length
   ·have hqlen:F[k].length=F[0].length:=by rw [HLENS.out _ (List.getElem_mem hlt),HL0.out]
    have HQL:Hid (F[k].length=F[0].length):=hqlen
    have hq6:F[k].length<=6:=by omega
    have HLL:Hid (l.length=F[0].length):=hll
    have k0:(0:Int)<=(k:Int):=by omega
    have k1:(k:Int) < (F.length:Int):=by omega
    clear hqlen hll
    go_wp2_with fail
    go_loopw [7] (fun i2 wr2=>∃ (j:Nat) (m:List Int),j<=F[0].length∧i2=.int .i64 j∧Hid (MixP l F[k] j m)∧NumB wr2 g3 m∧Below w2.heap.size w2 wr2) (fun i2 _=>F[0].length - (intOf i2).toNat)
    case atStart=>exact ⟨0,l,Nat.zero_le _,rfl,mix_start l F[k],hnb,hbl⟩
    case round=>
     clear hnb hbl
     obtain ⟨j,m,hj,rfl,HM,hnb,hbl⟩:=hrel
     by_cases hjlt:j < F[0].length
     ·have hml:m.length=F[0].length:=by rw [HM.out.1,HLL.out]
      have hjm:j < m.length:=by omega
      have hjq:j < F[k].length:=by rw [HQL.out];omega
      obtain ⟨b5,o5,e5,hb5,s5,c5,f5,r5⟩:=hru.below hbl k hlt
      cases e5
      obtain ⟨b6,o6,rfl,hb6,f6⟩:=r5 j hjq
      have f7:=hnb.cell hjm
      have z7:=hnb.frozen j
      have j0:(0:Int)<=(j:Int):=by omega
      have j1:(j:Int) < (F[0].length:Int):=by omega
      have j2:(j:Int) < (F[k].length:Int):=by omega
      clear hml
      by_cases hgt:m[j] < F[k][j]
      ·have HX:Hid (MixP l F[k] (j + 1) (m.set j F[k][j])):=HM.out.up hjm hjq hgt
       have hgt':decide (m[j] < F[k][j])=true:=decide_eq_true hgt
       go_wp2_with fail
       go_quiet (fail)
       go_wp2_with fail
       have hset:=(hnb.below (below_drewN (Below.refl _ _) nq)).set j F[k][j]
       exact ⟨⟨j + 1,_,by omega,by go_num,HX,hset,(below_drewN hbl _).setCell (by simp only;omega) _⟩,by simp [intOf];omega⟩
      ·have HX:Hid (MixP l F[k] (j + 1) m):=HM.out.same hjm hjq hgt
       have hgt':decide (m[j] < F[k][j])=false:=decide_eq_false hgt
       go_wp2_with fail
       go_quiet (fail)
       go_wp2_with fail
       exact ⟨⟨j + 1,m,by omega,by go_num,HX,hnb.below (below_drewN (Below.refl _ _) _),below_drewN hbl _⟩,by simp [intOf];omega⟩
     ·have HX:Hid (m=topL F[0] (F.take (k + 1))):=by
       unfold Hid
       rw [topL_take hlt,<- HT.out]
       exact HM.out.whole (by rw [HQL.out,HLL.out]) (by rw [HLL.out];omega)
      have hml:m.length=F[0].length:=by rw [HM.out.1,HLL.out]
      go_wp2_with fail
      exact ⟨⟨k + 1,m,by omega,by go_num,hml,HX,hnb,hbl⟩,by simp [intOf];omega⟩
   ·have HB:Hid (BestP ws l true):=by
     unfold Hid
     rw [HT.out,List.take_of_length_le (by omega)]
     have e:foundL ws ws.length []=F[0] :: F.tail:=by rw [HF.out];cases F with
      | nil=>simp at h0
      | cons x y=>rfl
     have h:=topL_best HOK.out e
     rwa [<- e,HF.out] at h
    go_wp2_with fail
    exact bodyPost_ret (v:=.tuple #[.slice (some ⟨g3,0,none⟩) l.length c3,.bool true]) (by simp [results,Tryz.results44,go_sem,hll]) rfl ⟨.inl ⟨g3,c3,l,rfl,HB.out,Nat.le_trans B2.size hge3,hnb⟩,B2.trans (hbl.mono B2.size)⟩
end Go.Proofs.YtpfhegengmlkmacGreatDoor
namespace Go.Proofs.YtpfhegengmlkmacGreatDoor
def pkV (ws:List (List ItemL)) (ps:List Int) (k:Nat):Int:=((ws.getD k []).getD (ps.getD k 0).toNat (0,[])).1
def valsM (ws:List (List ItemL)) (ps:List Int):List Int:=(List.range ps.length).map (pkV ws ps)
theorem valsM_len (ws:List (List ItemL)) (ps:List Int):(valsM ws ps).length=ps.length:=by simp [valsM]
def emptyG:GatL:=⟨[],[],[]⟩
def InG (g:GatL) (i:Int):Prop:=GatP g∧0<=i∧i < (g.ins.length:Int)
def ComeP (ws:List (List ItemL)) (sh:List (ByteArray×Int)) (sh':List (ByteArray×Int)) (sv:List Int) (ss:List (ByteArray×Int)) (code:Int):Prop:=
 ∃ out ok,BestP ws out ok∧((ok=false∧sh'=sh∧sv=[]∧ss=[]∧code=0)∨(ok=true∧∃ j okj,IsCJ ws out j okj ∧
  ((okj=false∧sh'=sh∧sv=[]∧ss=[]∧code=4)∨(okj=true∧∃ o,IsOrd sh j o ∧
   ((o≠1∧sh'=sh∧sv=[]∧ss=[]∧code=0)∨(o=1∧sh'=j∧sv=valsM ws out∧ss=j∧code=1))))))
theorem ComeP.one {ws:List (List ItemL)} {sh s1 s2 t1 t2:List (ByteArray×Int)} {v1 v2:List Int} {c1 c2:Int} (h:ComeP ws sh s1 v1 t1 c1) (k:ComeP ws sh s2 v2 t2 c2):s1=s2∧v1=v2∧t1=t2∧c1=c2:=by
 obtain ⟨o1,k1,b1,h⟩:=h
 obtain ⟨o2,k2,b2,k⟩:=k
 obtain ⟨rfl,rfl⟩:=b1.one b2
 rcases h with ⟨rfl,rfl,rfl,rfl,rfl⟩ | ⟨rfl,j1,x1,i1,h⟩
 ·rcases k with ⟨_,rfl,rfl,rfl,rfl⟩ | ⟨e,_⟩
  ·exact ⟨rfl,rfl,rfl,rfl⟩
  ·cases e
 ·rcases k with ⟨e,_⟩ | ⟨_,j2,x2,i2,k⟩
  ·cases e
  ·obtain ⟨rfl,rfl⟩:=i1.one i2
   rcases h with ⟨rfl,rfl,rfl,rfl,rfl⟩ | ⟨rfl,p1,q1,h⟩
   ·rcases k with ⟨_,rfl,rfl,rfl,rfl⟩ | ⟨e,_⟩
    ·exact ⟨rfl,rfl,rfl,rfl⟩
    ·cases e
   ·rcases k with ⟨e,_⟩ | ⟨_,p2,q2,k⟩
    ·cases e
    ·obtain rfl:=q1.one q2
     rcases h with ⟨h1,rfl,rfl,rfl,rfl⟩ | ⟨h1,rfl,rfl,rfl,rfl⟩
     ·rcases k with ⟨_,rfl,rfl,rfl,rfl⟩ | ⟨k1,_⟩
      ·exact ⟨rfl,rfl,rfl,rfl⟩
      ·exact absurd k1 h1
     ·rcases k with ⟨k1,_⟩ | ⟨_,rfl,rfl,rfl,rfl⟩
      ·exact absurd h1 k1
      ·exact ⟨rfl,rfl,rfl,rfl⟩
def PutG (g:GatL) (i x:Int) (m:List (ByteArray×Int)) (g':GatL) (sv:List Int) (ss:List (ByteArray×Int)) (code:Int):Prop:=
 (¬ InG g i∧g'=emptyG∧sv=[]∧ss=[]∧code=2)∨(InG g i∧∃ r c,IsP (g.wins.getD i.toNat []) x m r c ∧
  ((c=1∧g'=emptyG∧sv=[]∧ss=[]∧code=2)∨(c=2∧g'=g∧sv=[]∧ss=[]∧code=3) ∨
   (c=0∧∃ sh,ComeP (g.wins.set i.toNat r) g.shown sh sv ss code∧g'=⟨g.ins,g.wins.set i.toNat r,sh⟩)))
theorem PutG.one {g g1 g2:GatL} {i x c1 c2:Int} {m s1 s2:List (ByteArray×Int)} {v1 v2:List Int} (h:PutG g i x m g1 v1 s1 c1) (k:PutG g i x m g2 v2 s2 c2):g1=g2∧v1=v2∧s1=s2∧c1=c2:=by
 rcases h with ⟨h0,rfl,rfl,rfl,rfl⟩ | ⟨h0,r1,d1,p1,h⟩
 ·rcases k with ⟨_,rfl,rfl,rfl,rfl⟩ | ⟨k0,_⟩
  ·exact ⟨rfl,rfl,rfl,rfl⟩
  ·exact absurd k0 h0
 ·rcases k with ⟨k0,_⟩ | ⟨_,r2,d2,p2,k⟩
  ·exact absurd h0 k0
  ·obtain ⟨rfl,rfl⟩:=p1.one p2
   rcases h with ⟨rfl,rfl,rfl,rfl,rfl⟩ | ⟨rfl,rfl,rfl,rfl,rfl⟩ | ⟨rfl,sh1,q1,rfl⟩
   ·rcases k with ⟨_,rfl,rfl,rfl,rfl⟩ | ⟨e,_⟩ | ⟨e,_⟩
    ·exact ⟨rfl,rfl,rfl,rfl⟩
    ·omega
    ·omega
   ·rcases k with ⟨e,_⟩ | ⟨_,rfl,rfl,rfl,rfl⟩ | ⟨e,_⟩
    ·omega
    ·exact ⟨rfl,rfl,rfl,rfl⟩
    ·omega
   ·rcases k with ⟨e,_⟩ | ⟨e,_⟩ | ⟨_,sh2,q2,rfl⟩
    ·omega
    ·omega
    ·obtain ⟨rfl,rfl,rfl,rfl⟩:=q1.one q2
     exact ⟨rfl,rfl,rfl,rfl⟩
theorem getD_get {α:Type} (l:List α) (d:α) {k:Nat} (h:k < l.length):l.getD k d=l[k]:=by simp [List.getD,h]
theorem winP_stamps {l:List ItemL} (h:WinP l):StampsP l:=⟨by have:=h.1;omega,fun j hj=>(h.2.1 j hj).1⟩
theorem set_stamps {ws:List (List ItemL)} {k:Nat} {r:List ItemL} (h:∀ l∈ws,StampsP l) (hr:StampsP r):∀ l∈ws.set k r,StampsP l:=fun l hl=>by
 rcases List.mem_or_eq_of_mem_set hl with h1 | h1
 ·exact h l h1
 ·exact h1 ▸ hr
theorem stamps_fitW {ws:List (List ItemL)} (h6:ws.length<=6) (h:∀ l∈ws,StampsP l):FitW ws:=⟨by unfold maxLen;omega,fun j hj=>(h _ (List.getElem_mem hj)).fit⟩
structure NiceG (g:GatL):Prop where
 ins:g.ins.length<=6
 names:∀ j,(h:j < g.ins.length)->g.ins[j].size<=8
 wins:g.wins.length<=6
 items:∀ l∈g.wins,StampsP l
 shown:StampP g.shown
theorem emptyG_nice:NiceG emptyG:=⟨by simp [emptyG],fun j hj=>by simp [emptyG] at hj,by simp [emptyG],fun l hl=>by simp [emptyG] at hl,stampP_nil⟩
theorem GatP.nice {g:GatL} (h:GatP g):NiceG g:=by
 refine ⟨h.ins.2.1,fun j hj=>(h.ins.2.2 j hj).1.2.1, ?_,fun l hl=>?_,h.shown⟩
 ·have:=h.ins.2.1;have:=h.len;omega
 ·obtain ⟨j,hj,rfl⟩:=List.mem_iff_getElem.1 hl
  exact winP_stamps (h.wins.2.2 j hj)
theorem best_in {ws:List (List ItemL)} {out:List Int} (h:BestP ws out true):ChP ws out:=by
 rcases h with ⟨_,h,_⟩ | ⟨e,_⟩
 ·exact h
 ·cases e
theorem ComeP.nice {ws:List (List ItemL)} {sh s1 t1:List (ByteArray×Int)} {v1:List Int} {c1:Int} (h:ComeP ws sh s1 v1 t1 c1) (hs:StampP sh):StampP s1∧v1.length<=6∧StampP t1:=by
 obtain ⟨o1,k1,b1,h⟩:=h
 rcases h with ⟨rfl,rfl,rfl,rfl,rfl⟩ | ⟨rfl,j1,x1,i1,h⟩
 ·exact ⟨hs,by simp,stampP_nil⟩
 ·have hc:=best_in b1
  have hl:o1.length<=6:=by have:=hc.2.1;have:=hc.1.2.1;omega
  rcases h with ⟨rfl,rfl,rfl,rfl,rfl⟩ | ⟨rfl,p1,q1,h⟩
  ·exact ⟨hs,by simp,stampP_nil⟩
  ·rcases h with ⟨h1,rfl,rfl,rfl,rfl⟩ | ⟨h1,rfl,rfl,rfl,rfl⟩
   ·exact ⟨hs,by simp,stampP_nil⟩
   ·exact ⟨i1.stamp,by rw [valsM_len];exact hl,i1.stamp⟩
theorem PutG.nice {g g1:GatL} {i x c1:Int} {m s1:List (ByteArray×Int)} {v1:List Int} (h:PutG g i x m g1 v1 s1 c1):NiceG g1∧v1.length<=6∧StampP s1:=by
 rcases h with ⟨h0,rfl,rfl,rfl,rfl⟩ | ⟨h0,r1,d1,p1,h⟩
 ·exact ⟨emptyG_nice,by simp,stampP_nil⟩
 ·have hn:=h0.1.nice
  rcases h with ⟨rfl,rfl,rfl,rfl,rfl⟩ | ⟨rfl,rfl,rfl,rfl,rfl⟩ | ⟨rfl,sh1,q1,rfl⟩
  ·exact ⟨emptyG_nice,by simp,stampP_nil⟩
  ·exact ⟨hn,by simp,stampP_nil⟩
  ·have hc:=q1.nice hn.shown
   exact ⟨⟨hn.ins,hn.names,by simpa using hn.wins,set_stamps hn.items (isP_stamps p1),hc.1⟩,hc.2⟩
end Go.Proofs.YtpfhegengmlkmacGreatDoor
namespace Go.Proofs.YtpfhegengmlkmacGreatDoor
open Go.RowKit Go.BigFrame
set_option maxRecDepth 100000
def CntP (ws:List (List ItemL)) (n:Nat):Prop:=(OkW ws∧n=(foundL ws ws.length []).length)∨(¬ OkW ws∧n=0)
theorem CntP.one {ws:List (List ItemL)} {n m:Nat} (h:CntP ws n) (k:CntP ws m):n=m:=by
 rcases h with ⟨h1,rfl⟩ | ⟨h1,rfl⟩
 ·rcases k with ⟨_,rfl⟩ | ⟨k1,_⟩
  ·rfl
  ·exact absurd h1 k1
 ·rcases k with ⟨k1,_⟩ | ⟨_,rfl⟩
  ·exact absurd k1 h1
  ·rfl
set_option maxHeartbeats 1600000 in
theorem specCC_any (a:Option Addr) (cap:Nat) (ws:List (List ItemL)) (w:World) (hf:FitW ws) (hr:RowW w a ws) :
  Calls Tryz.prog 110 #[.slice a ws.length cap] w fun e w'=>(∃ n:Nat,e=.returned (.int .i64 (n:Int))∧CntP ws n)∧Below w.heap.size w w':=by
 go_enter Tryz.func110,Tryz.ntmps110
 go_wp2_with fail
 refine (l3Ok_any a cap ws _ hf hr).mono ?_
 rintro e w1 ⟨⟨r,rfl,hr1⟩,b1⟩
 have HR:Hid (r=true↔OkW ws):=hr1
 clear hr1
 cases r with
 | false=>
  have HN:Hid (CntP ws 0):=.inr ⟨fun h=>by have:=HR.out.2 h;simp at this,rfl⟩
  go_wp2_with fail
  go_ret
  exact ⟨⟨0,rfl,HN.out⟩,b1⟩
 | true=>
  have HOK:Hid (OkW ws):=HR.out.1 rfl
  clear HR
  have h6:=HOK.out.2.1
  have h1l:=HOK.out.1
  go_wp2_with fail
  have hpow:4 ^ ws.length<=4096:=Nat.le_trans (Nat.pow_le_pow_right (by omega) h6) (by decide)
  refine (l3All_any w w1.heap.size a cap ws b1.size hf hr h6 (fun k hk=>(HOK.out.2.2 k hk).1) ws.length none 0 [] (.slice none 0 0) [] w1 b1 (fun k hk=>absurd hk (Nat.not_lt_zero k)) (fun _=>rfl) (fun b o h=>by cases h) ⟨by simp,fun i hi=>by simp at hi⟩ (by simp) (gathU_none _ _) (Nat.le_refl _) (by simp;omega)).mono ?_
  rintro e w2 ⟨⟨v2,L,rfl,hg2,hL,_⟩,hgr⟩
  have hb2:Below w1.heap.size w1 w2:=(Below.refl _ _).grown hgr (Nat.le_refl _) (fun k hk=>by cases hk)
  have B2:Below w.heap.size w w2:=b1.trans (hb2.mono b1.size)
  simp only [List.map_nil,List.nil_append] at hL
  have hlens:∀ q∈foundL ws ws.length [],q.length=ws.length:=fun q hq=>(chP_iff.2 ⟨HOK.out,hq⟩).2.1
  obtain ⟨va,vc,rfl,_⟩:=hg2.row (fun p hp=>by
   have:=hlens p.1 (by rw [<- hL];exact List.mem_map.2 ⟨p,hp,rfl⟩)
   omega)
  have HC:Hid (CntP ws L.length):=.inl ⟨HOK.out,by rw [<- hL,List.length_map]⟩
  clear hL hlens
  go_wp2_with fail
  go_ret
  exact ⟨⟨L.length,rfl,HC.out⟩,B2⟩
set_option maxHeartbeats 1600000 in
theorem freshItems_any (a:Option Addr) (c:Nat) (l:List ItemL) (w:World) (hr:RowI w a l) (hn:l.length<=1048576) (hl:∀ k,(h:k < l.length)->StampP l[k].2) :
  Calls Tryz.prog 133 #[.slice a l.length c] w fun e w'=>(∃ v,e=.returned v∧GathI w' w.heap.size v l)∧Below w.heap.size w w':=by
 obtain ⟨i0,hi,hz0,hz1,hz2⟩:=info_parts Tryz.infoI
 have hmk:∀ u:World,(Instr.makeSlice 78 (.int .i64 0) (.int .i64 (l.length:Int))).run Tryz.prog u =
   .ok (.slice (some ⟨u.heap.size,0,none⟩) 0 l.length) (u.alloc (.cells (madeCells #[.int .i64 0,.slice none 0 0] (l.length * 2)) 44)):=fun u=>by
  have h:=run_make (P:=Tryz.prog) u 78 44 i0 (.agg #[.int .i64 0,.slice none 0 0]) Tryz.underlying78 hi hz0 .i64 .i64 0 (l.length:Int) (by omega) (by omega) (by rw [hz2];omega) (by omega)
  simpa [hz1,Value.cells] using h
 have hb0:Below w.heap.size w (w.alloc (.cells (madeCells #[.int .i64 0,.slice none 0 0] (l.length * 2)) 44)):=(Below.refl _ _).alloc (Nat.le_refl _) _
 have hg0:GathI (w.alloc (.cells (madeCells #[.int .i64 0,.slice none 0 0] (l.length * 2)) 44)) w.heap.size (.slice (some ⟨w.heap.size,0,none⟩) 0 l.length) []:=
  ⟨[],rfl,⟨rfl,.inr ⟨w.heap.size,l.length,madeCells #[.int .i64 0,.slice none 0 0] (l.length * 2),rfl,Nat.le_refl _,heap_alloc_new w _,Nat.zero_le _,by unfold maxLen;omega,size_madeCells _ _,rfl⟩⟩,by simp,List.Pairwise.nil⟩
 have HSL:Hid (∀ k,(h:k < l.length)->StampP l[k].2):=hl
 clear hl
 go_enter Tryz.func133,Tryz.ntmps133
 go_wp2_with fail
 generalize (w.alloc (.cells (madeCells #[.int .i64 0,.slice none 0 0] (l.length * 2)) 44))=W1 at *
 clear hmk
 go_loopw [3,11] (fun out i wr=>∃ k:Nat,k<=l.length∧i=.int .i64 k∧GathI wr w.heap.size out (l.take k)∧Below w.heap.size w wr) (fun _ i _=>l.length - (intOf i).toNat)
 case atStart=>exact ⟨0,Nat.zero_le _,rfl,hg0,hb0⟩
 case round=>
  obtain ⟨k,hk,rfl,hg,hb⟩:=hrel
  clear hg0 hb0
  by_cases hlt:k < l.length
  ·obtain ⟨b,o,rfl,hblt,c0,v,c1,⟨sa,sc,rfl,hcap,hrow⟩⟩:=hr.below hb k hlt
   have k0:(0:Int)<=(k:Int):=by omega
   have k1:(k:Int) < (l.length:Int):=by omega
   have HT:Hid (l.take (k + 1)=l.take k ++ [(l[k].1,l[k].2)]):=List.take_succ_eq_append_getElem hlt
   have htl:(l.take k).length<=1048576:=by rw [List.length_take];omega
   have hzr:=hb.size
   have hst:=HSL.out k hlt
   have hlk:l[k].2.length<=1048576:=by have:=hst.1;omega
   have HL:Hid (∀ j,(h:j < l[k].2.length)->l[k].2[j].1.size<=281474976710656):=fun j hj=>by have:=(hst.2.1 j hj).1.2.1;omega
   clear hst
   go_wp2_with fail
   have b3:Below wr.heap.size wr (wr.alloc (.cells #[.int .i64 l[k].1,.slice sa l[k].2.length sc] 44)):=(Below.refl _ _).alloc (Nat.le_refl _) _
   refine (freshItem_any l[k].1 sa sc l[k].2 _ (hrow.below b3) hlk HL.out).mono ?_
   rintro e w4 ⟨⟨gm,cm,rfl,hgm,hcm,ho⟩,b4⟩
   have b4':Below wr.heap.size wr w4:=b3.trans (b4.mono b3.size)
   have z3:=b3.size
   have z4:=b4'.size
   have b5:Below wr.heap.size wr (w4.alloc (.cells #[.int .i64 l[k].1,.slice (some ⟨gm,0,none⟩) l[k].2.length cm] 44)):=b4'.alloc b4'.size _
   have hbx:Below w4.heap.size w4 (w4.alloc (.cells #[.int .i64 l[k].1,.slice (some ⟨gm,0,none⟩) l[k].2.length cm] 44)):=(Below.refl _ _).alloc (Nat.le_refl _) _
   have ho5:=ho.below hbx
   have B5:Below w.heap.size w (w4.alloc (.cells #[.int .i64 l[k].1,.slice (some ⟨gm,0,none⟩) l[k].2.length cm] 44)):=hb.trans (b5.mono hzr)
   clear b3 b4 b4' hrow hbx ho
   go_wp2_with (at_builtin;refine wpList_append_item rfl _ _ rfl wr w.heap.size _ (l.take k) rfl hg b5 hzr w4.heap.size l[k].1 l[k].2 gm cm rfl (box0 _ _ _ _) (box1 _ _ _ _) ho5 (by omega) hcm htl ?_;intro v' w6 hg6 b6)
   exact ⟨⟨k + 1,by omega,by go_num,by rw [HT.out];exact hg6,B5.trans b6⟩,by simp [intOf];omega⟩
  ·rw [List.take_of_length_le (by omega)] at hg
   go_wp2_with fail
   go_ret
   exact ⟨⟨_,rfl,hg⟩,hb⟩
end Go.Proofs.YtpfhegengmlkmacGreatDoor
namespace Go.Proofs.YtpfhegengmlkmacGreatDoor
open Go.RowKit Go.BigFrame
def GathS (w:World) (B:Nat) (v:Value) (l:List ByteArray):Prop:=w.ownsRow B 9 1 v l.length (l.map .string)
theorem gathS_none (w:World) (B:Nat):GathS w B (.slice none 0 0) []:=World.ownsRow_nil _ _ _ _
theorem GathS.shape {w:World} {B:Nat} {v:Value} {l:List ByteArray} (h:GathS w B v l):∃ a cap,v=.slice a l.length cap∧RowS w a l:=by
 rcases id h with ⟨hl,h1 | ⟨g,cap,cur,hv,hg,hh,r⟩⟩
 ·refine ⟨_,_,by rw [h1.2];exact h1.1,fun k hk=>absurd hk (by omega)⟩
 ·refine ⟨_,_,hv,fun k hk=>⟨g,0,rfl,(Array.getElem?_eq_some_iff.1 hh).1, ?_⟩⟩
  subst hv
  have e:=World.ownsRow.cellAt h k (by omega)
  rw [Nat.zero_add,e]
  simp [hk]
theorem GathS.keep {w w':World} {B:Nat} {v:Value} {l:List ByteArray} (h:GathS w B v l) (hb:Below w.heap.size w w'):GathS w' B v l:=by
 obtain ⟨hl,h | ⟨g,cap,cur,hv,hg,hh,r⟩⟩:=h
 ·exact ⟨hl,.inl h⟩
 ·exact ⟨hl,.inr ⟨g,cap,cur,hv,hg,(hb.block g (Array.getElem?_eq_some_iff.1 hh).1).trans hh,r⟩⟩
theorem GathS.lower {w:World} {B B':Nat} {v:Value} {l:List ByteArray} (h:GathS w B v l) (hB:B'<=B):GathS w B' v l:=by
 obtain ⟨hl,h | ⟨g,cap,cur,hv,hg,r⟩⟩:=h
 ·exact ⟨hl,.inl h⟩
 ·exact ⟨hl,.inr ⟨g,cap,cur,hv,Nat.le_trans hB hg,r⟩⟩
theorem GathS.snoc {w:World} {B:Nat} {v:Value} {l:List ByteArray} {s:ByteArray} (h:w.ownsRow B 9 1 v (l.length + 1) (l.map .string ++ [.string s])):GathS w B v (l ++ [s]):=by
 unfold GathS
 rw [List.length_append,List.map_append]
 exact h
theorem ownsRow_block {w:World} {B s n:Nat} {t:TypeId} {v:Value} {xs:List Value} (h:w.ownsRow B t s v n xs):∀ k,v.ownBlock=some k->B<=k:=fun k e=>by
 obtain ⟨_,h | ⟨g,cap,cur,rfl,hle,_⟩⟩:=h
 ·rw [h.1] at e;cases e
 ·simp [Value.ownBlock] at e;omega
theorem one_new (w:World) (x:Value) (t:TypeId):∀ j u,[x][j]?=some u->(w.alloc (.cells #[x] t)).cell? ((⟨w.heap.size,0,none⟩:Addr).add j)=some u:=by
 intro j u hj
 match j,hj with
 | 0,hj=>simp at hj;subst hj;simp [Addr.add,go_sem]
theorem Tryz.infoS:(Tryz.prog.info? 9).map (fun i=>(i.zero,i.size,i.bytes))=some (some (.string .empty),1,16):=by kernel_rfl
theorem span_grown {w w':World} {k:Nat} (h:w.grownBy w' (some k)):Span k (k + 1) w w':=⟨h.os,h.tape,h.output,h.size,fun i hi hn=>h.block i hi (by intro e;cases e;omega)⟩
theorem SafeI.grown {w w':World} {lo hi:Nat} {a:Option Addr} {l:List ItemL} {r:Option Nat} (h:SafeI w lo hi a l) (hg:w.grownBy w' r) (hd:∀ k,r=some k->k < lo∨hi<=k):SafeI w' lo hi a l:=by
 cases r with
 | none=>exact h.span (lo':=0) (hi':=0) ⟨hg.os,hg.tape,hg.output,hg.size,fun i hi _=>hg.block i hi (by simp)⟩ (by omega)
 | some k=>exact h.span (span_grown hg) (by have:=hd k rfl;omega)
structure WinY where
 l:List ItemL
 v:Value
 lo:Nat
 hi:Nat
def WinY.In (w:World) (B:Nat) (p:WinY):Prop:=(∃ a c,p.v=.slice a p.l.length c∧p.l.length<=c∧SafeI w p.lo p.hi a p.l)∧B<=p.lo∧p.lo<=p.hi∧p.hi<=w.heap.size
theorem WinY.In.below {w w':World} {B:Nat} {p:WinY} (h:p.In w B) (hb:Below w.heap.size w w'):p.In w' B:=by
 obtain ⟨⟨a,c,h1,h2,h3⟩,h4,h5,h6⟩:=h
 exact ⟨⟨a,c,h1,h2,h3.below hb⟩,h4,h5,Nat.le_trans h6 hb.size⟩
theorem WinY.In.grown {w w':World} {B:Nat} {p:WinY} {r:Option Nat} (h:p.In w B) (hg:w.grownBy w' r) (hd:∀ k,r=some k->k < p.lo∨p.hi<=k):p.In w' B:=by
 obtain ⟨⟨a,c,h1,h2,h3⟩,h4,h5,h6⟩:=h
 exact ⟨⟨a,c,h1,h2,h3.grown hg hd⟩,h4,h5,Nat.le_trans h6 hg.size⟩
theorem GathI.winY {w:World} {B:Nat} {v:Value} {l:List ItemL} (h:GathI w B v l) (hB:B<=w.heap.size):(WinY.mk l v B w.heap.size).In w B:=by
 obtain ⟨a,c,h1,h2,h3⟩:=h.safe
 exact ⟨⟨a,c,h1,h2,h3⟩,Nat.le_refl _,hB,Nat.le_refl _⟩
structure GathY (w:World) (B:Nat) (v:Value) (L:List WinY):Prop where
 own:w.ownsRow B 78 1 v L.length (L.map (·.v))
 at_:∀ p∈L,p.In w B
 far:∀ p∈L,∀ k,v.ownBlock=some k->k < p.lo∨p.hi<=k
 dis:L.Pairwise fun p q=>p.hi<=q.lo
theorem gathY_none (w:World) (B:Nat):GathY w B (.slice none 0 0) []:=⟨World.ownsRow_nil _ _ _ _,by simp,by simp,List.Pairwise.nil⟩
theorem GathY.keep {w w':World} {B:Nat} {v:Value} {L:List WinY} (h:GathY w B v L) (hb:Below w.heap.size w w'):GathY w' B v L:=⟨own_keep h.own hb,fun p hp=>(h.at_ p hp).below hb,h.far,h.dis⟩
theorem GathY.grown {w w':World} {B:Nat} {v:Value} {L:List WinY} {r:Option Nat} (h:GathY w B v L) (hg:w.grownBy w' r) (hv:v.ownBlock=none∨v.ownBlock≠r) (hd:∀ p∈L,∀ k,r=some k->k < p.lo∨p.hi<=k):GathY w' B v L:=
 ⟨World.ownsRow.kept h.own hg hv,fun p hp=>(h.at_ p hp).grown hg (hd p hp),h.far,h.dis⟩
theorem own_farY {w:World} {B e size n q:Nat} {v:Value} {xs:List Value} (h:w.ownsRow B e size v n xs) (hq:q < B) (i:Nat) (z:Value):(w.setCell ⟨q,i,none⟩ z).ownsRow B e size v n xs:=by
 obtain ⟨hl,h | ⟨g,cap,cur,hv,hgB,hh,r⟩⟩:=h
 ·exact ⟨hl,.inl h⟩
 ·exact ⟨hl,.inr ⟨g,cap,cur,hv,hgB,(Below.heap_setCell _ _ _ _ (by simp only;omega)).trans hh,r⟩⟩
theorem GathY.set {w:World} {B q:Nat} {v:Value} {L:List WinY} (h:GathY w B v L) (hq:q < B) (i:Nat) (z:Value):GathY (w.setCell ⟨q,i,none⟩ z) B v L:=by
 refine ⟨own_farY h.own hq i z,fun p hp=>?_,h.far,h.dis⟩
 obtain ⟨⟨a,c,h1,h2,h3⟩,h4,h5,h6⟩:=h.at_ p hp
 exact ⟨⟨a,c,h1,h2,h3.span ((Span.refl q (q + 1) w).setCell (Nat.le_refl _) (Nat.lt_succ_self _) i z) (by omega)⟩,h4,h5,by simpa using h6⟩
theorem GathY.snoc {w1 w2:World} {B:Nat} {v v':Value} {L:List WinY} {p:WinY} (h:GathY w1 B v L) (hw:∀ q∈L,q.hi<=p.lo) (hp:p.In w1 B) (hpv:∀ k,v.ownBlock=some k->k < p.lo∨p.hi<=k)
  (ho:w2.ownsRow B 78 1 v' (L.length + 1) ((L.map (·.v)) ++ [p.v])) (hg:w1.grownBy w2 v.ownBlock) (hloc:v'.ownBlock=v.ownBlock∨v'.ownBlock=some w1.heap.size):GathY w2 B v' (L ++ [p]):=by
 have hz:∀ q∈L,q.hi<=w1.heap.size:=fun q hq=>(h.at_ q hq).2.2.2
 have hzp:=hp.2.2.2
 refine ⟨by rw [List.length_append,List.map_append];exact ho,fun q hq=>?_,fun q hq k hk=>?_, ?_⟩
 ·rcases List.mem_append.1 hq with hq | hq
  ·exact (h.at_ q hq).grown hg (h.far q hq)
  ·obtain rfl:q=p:=by simpa using hq
   exact hp.grown hg hpv
 ·rcases List.mem_append.1 hq with hq | hq
  ·rcases hloc with e | e
   ·exact h.far q hq k (by rw [<- e];exact hk)
   ·rw [e] at hk;cases hk;exact .inr (hz q hq)
  ·obtain rfl:q=p:=by simpa using hq
   rcases hloc with e | e
   ·exact hpv k (by rw [<- e];exact hk)
   ·rw [e] at hk;cases hk;exact .inr hzp
 ·rw [List.pairwise_append]
  exact ⟨h.dis,List.pairwise_singleton _ _,fun q hq r hr=>by
   obtain rfl:r=p:=by simpa using hr
   exact hw q hq⟩
theorem GathY.row {w:World} {B:Nat} {v:Value} {L:List WinY} (h:GathY w B v L):∃ a cap,v=.slice a L.length cap∧L.length<=cap∧RowW w a (L.map (·.l)):=by
 rcases h.own.2 with ⟨rfl,h0⟩ | ⟨g,cap,cur,rfl,hB,hh,hn,_⟩
 ·exact ⟨none,0,by rw [h0],by omega,fun k hk=>by rw [List.length_map] at hk;omega⟩
 ·have hlt:g < w.heap.size:=(Array.getElem?_eq_some_iff.1 hh).1
  refine ⟨_,cap,rfl,hn,fun k hk=>⟨g,0,rfl,hlt, ?_⟩⟩
  rw [List.length_map] at hk
  obtain ⟨⟨a,c,e,hc,hs⟩,_⟩:=h.at_ L[k] (List.getElem_mem hk)
  refine ⟨a,c, ?_,by simpa using hc,by simpa using hs.row⟩
  rw [Nat.zero_add,World.ownsRow.cellAt h.own _ (by omega)]
  simp [hk,e]
end Go.Proofs.YtpfhegengmlkmacGreatDoor
