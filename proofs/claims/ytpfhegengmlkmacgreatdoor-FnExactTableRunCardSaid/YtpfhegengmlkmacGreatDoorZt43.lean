/- Texts of this claim. -/
import Derived.Shelf.Strings.SplitCore
import Derived.Lib.SplitLaws
import Derived.Lib.IndexBytes
import Derived.Test.YtpfhegengmlkmacGreatDoorZt42
namespace Go.Proofs.YtpfhegengmlkmacGreatDoor
open Go.RowKit Go.BigFrame
set_option maxRecDepth 100000
theorem splitK_one (c:UInt8):∀ l:List UInt8,Lib.splitK [c] 0 (l.count c) l=splitL c l
 | []=>rfl
 | x :: r=>by
  have ih:=splitK_one c r
  by_cases h:x=c
  ·subst h
   have hi:Lib.index (x :: r) [x]=0:=by simp [Lib.index]
   rw [List.count_cons_self,Lib.splitK,hi]
   simp [splitL,ih]
  ·have hc:(x :: r).count c=r.count c:=List.count_cons_of_ne h
   rw [hc]
   unfold splitL
   rw [if_neg h,<- ih]
   cases hk:r.count c with
   | zero=>rfl
   | succ k=>
    have hne:Lib.index r [c]≠-1:=fun e=>by
     have h1:=Lib.count_miss e
     rw [Lib.count_one] at h1
     omega
    have hge:=Lib.index_ge r [c]
    obtain ⟨i,hi⟩:∃ i:Nat,Lib.index r [c]=(i:Int):=⟨(Lib.index r [c]).toNat,by omega⟩
    have hp:([c]:List UInt8).isPrefixOf (x :: r)=false:=by simp [List.isPrefixOf,Ne.symm h]
    have hx:Lib.index (x :: r) [c]=((i + 1:Nat):Int):=by
     rw [Lib.index,hp,hi]
     have:((i:Int) == -1)=false:=by rw [beq_eq_false_iff_ne];omega
     simp [this]
    have b1:(((i + 1:Nat):Int) == -1)=false:=by rw [beq_eq_false_iff_ne];omega
    have b2:((i:Int) == -1)=false:=by rw [beq_eq_false_iff_ne];omega
    rw [Lib.splitK,Lib.splitK,hx,hi,b1,b2]
    simp
theorem cutW_one (c:UInt8) (t:ByteArray):Lib.splitB ⟨#[c]⟩ 0 (Lib.countB t ⟨#[c]⟩) t=cutW c t:=by
 refine cut_eq ?_
 have h:=Lib.splitB_data ⟨#[c]⟩ 0 (Lib.countB t ⟨#[c]⟩) t
 have e:Lib.countB t ⟨#[c]⟩=(bl t).count c:=Lib.count_one c _
 rw [e] at h ⊢
 exact h.trans (splitK_one c (bl t))
theorem cut_len (c:UInt8) (t:ByteArray):(cutW c t).length=(bl t).count c + 1:=by
 rw [<- cutW_one,Lib.splitB_all ⟨#[c]⟩ (Nat.le_refl _) 0 _ t rfl]
 congr 1
 exact Lib.count_one c _
theorem cut_sizes (c:UInt8) (t:ByteArray):(cutW c t).length<=t.size + 1∧∀ u∈cutW c t,u.size<=t.size:=split_sizes (cutW_map c t)
def SplE (lo:Nat) (c:UInt8) (t:ByteArray) (w':World) (e:Ending):Prop:=∃ b cap,e=.returned (.slice (some ⟨b,0,none⟩) (cutW c t).length cap)∧RowS w' (some ⟨b,0,none⟩) (cutW c t)∧(cutW c t).length<=cap∧cap<=1000001∧lo<=b
theorem rowS_cells (w:World) (l:List ByteArray) (T:TypeId):RowS (w.alloc (.cells (l.map Value.string).toArray T)) (some ⟨w.heap.size,0,none⟩) l:=fun k hk=>by
 refine ⟨_,0,rfl,by simp, ?_⟩
 have hh:(w.alloc (.cells (l.map Value.string).toArray T)).heap[w.heap.size]?=some (.cells (l.map Value.string).toArray T (0,0)):=by unfold World.alloc;exact Array.getElem?_push_size
 rw [Lib.cell_of_heap hh]
 simp
set_option maxHeartbeats 800000 in
theorem split_any (c:UInt8) (t:ByteArray) (w:World) (ht:t.size<=1000000) :
  Calls Tryz.prog 70 #[.string t,.string ⟨#[c]⟩] w fun e w'=>SplE w.heap.size c t w' e∧Below w.heap.size w w':=by
 have hle:=Lib.countB_le ⟨#[c]⟩ (Nat.le_refl _) t.size t (Nat.le_refl _)
 have hlen:=Lib.splitB_all ⟨#[c]⟩ (Nat.le_refl _) 0 _ t rfl
 have cS:=Any.strings_genSplit_core Tryz.lays221 (by kernel_rfl) t ⟨#[c]⟩ 0 (-1) (Lib.countB t ⟨#[c]⟩ + 1) w (by omega) (Nat.le_refl _) (Nat.zero_le _)
  (fun x q hx=>(Tryz.strings_Index_one x c _).mono fun e w' ⟨he,hw⟩=>⟨by rw [he,<- Lib.index_one],hw⟩)
  ((Tryz.strings_Count_one t c w).mono fun e w' ⟨he,hw⟩=>⟨by rw [he];exact congrArg (fun n:Nat=>Ending.returned (Value.int .i64 (n:Int))) (Lib.count_one c t.data.toList).symm,hw⟩)
  (by decide) (by decide) (by rw [if_pos (by decide)];omega)
 rw [Nat.add_sub_cancel,hlen] at cS
 have e2:Lib.cellsOf (Lib.splitB ⟨#[c]⟩ 0 (Lib.countB t ⟨#[c]⟩) t) (Lib.countB t ⟨#[c]⟩ + 1)=((Lib.splitB ⟨#[c]⟩ 0 (Lib.countB t ⟨#[c]⟩) t).map Value.string).toArray:=by rw [<- hlen];exact Lib.cellsOf_full _
 rw [e2] at cS
 have hrow:=rowS_cells w (Lib.splitB ⟨#[c]⟩ 0 (Lib.countB t ⟨#[c]⟩) t) 9
 have HB:Hid (Below w.heap.size w (w.alloc (.cells ((Lib.splitB ⟨#[c]⟩ 0 (Lib.countB t ⟨#[c]⟩) t).map Value.string).toArray 9))):=(Below.refl _ _).alloc (Nat.le_refl _) _
 have HE:Hid (SplE w.heap.size c t (w.alloc (.cells ((Lib.splitB ⟨#[c]⟩ 0 (Lib.countB t ⟨#[c]⟩) t).map Value.string).toArray 9)) (.returned (.slice (some ⟨w.heap.size,0,none⟩) (Lib.countB t ⟨#[c]⟩ + 1) (Lib.countB t ⟨#[c]⟩ + 1)))):=by
  have el:Lib.countB t ⟨#[c]⟩ + 1=(cutW c t).length:=by rw [<- hlen,cutW_one]
  rw [cutW_one] at hrow ⊢
  exact ⟨_,Lib.countB t ⟨#[c]⟩ + 1,by rw [el],hrow,Nat.le_of_eq el.symm,by omega,Nat.le_refl _⟩
 clear hrow e2 hlen hle
 go_enter Tryz.func70,Tryz.ntmps70
 go_wp2_with (go_at_call 115;refine cS.mono ?_;rintro e w' ⟨rfl,hw⟩;rw [hw])
 go_ret
 exact ⟨HE.out,HB.out⟩
end Go.Proofs.YtpfhegengmlkmacGreatDoor
namespace Go.Proofs.YtpfhegengmlkmacGreatDoor
set_option maxRecDepth 100000
theorem tellT_ins {g g':GatL} {r:List ByteArray} {t:List UInt8}:InsT g r g' t->TellT g cIns r g' t:=fun h=>by
 unfold TellT
 rw [if_pos rfl]
 exact h
theorem tellT_put {g g':GatL} {r:List ByteArray} {t:List UInt8}:PutT g r g' t->TellT g cPut r g' t:=fun h=>by
 unfold TellT
 rw [if_neg (by decide),if_pos rfl]
 exact h
theorem tellT_order {g:GatL} {r:List ByteArray} {t:List UInt8}:OrdT r t->TellT g cOrder r g t:=fun h=>by
 unfold TellT
 rw [if_neg (by decide),if_neg (by decide),if_pos rfl]
 exact ⟨rfl,h⟩
theorem tellT_join {g:GatL} {r:List ByteArray} {t:List UInt8}:JoiT r t->TellT g cJoin r g t:=fun h=>by
 unfold TellT
 rw [if_neg (by decide),if_neg (by decide),if_neg (by decide),if_pos rfl]
 exact ⟨rfl,h⟩
theorem tellT_last {g:GatL} {r:List ByteArray} {t:List UInt8}:LasT g r t->TellT g cLast r g t:=fun h=>by
 unfold TellT
 rw [if_neg (by decide),if_neg (by decide),if_neg (by decide),if_neg (by decide),if_pos rfl]
 exact ⟨rfl,h⟩
theorem tellT_count {g:GatL} {r:List ByteArray} {t:List UInt8}:CouT g r t->TellT g cCount r g t:=fun h=>by
 unfold TellT
 rw [if_neg (by decide),if_neg (by decide),if_neg (by decide),if_neg (by decide),if_neg (by decide),if_pos rfl]
 exact ⟨rfl,h⟩
theorem tellT_best {g:GatL} {r:List ByteArray} {t:List UInt8}:BesT g r t->TellT g cBest r g t:=fun h=>by
 unfold TellT
 rw [if_neg (by decide),if_neg (by decide),if_neg (by decide),if_neg (by decide),if_neg (by decide),if_neg (by decide),if_pos rfl]
 exact ⟨rfl,h⟩
theorem run_stepS {l:List ByteArray} {k:Nat} {g:GatL} {o:List UInt8} (hk:k < l.length) (h:RunTo (l.take k) g o) :
  (bl l[k]=[]->RunTo (l.take (k + 1)) g o)∧∀ g' t,bl l[k]≠[]->TellsTo g (cutW 32 l[k]) g' t->RunTo (l.take (k + 1)) g' (o ++ (t ++ [10])):=by
 rw [List.take_succ_eq_append_getElem hk]
 exact ⟨fun e=>.skip h e,fun g' t e ht=>.line h e ht⟩
end Go.Proofs.YtpfhegengmlkmacGreatDoor
namespace Go.Proofs.YtpfhegengmlkmacGreatDoor
open Go.RowKit Go.BigFrame
set_option maxRecDepth 100000
theorem CmdE.toG {T:List UInt8->Prop} {u:TypeId} {pv:Value} {w w':World} {bT glo ghi:Nat} {g:GatL} {a0 a1 a2:Option Addr} {d0 d1 d2:Nat} {e:Ending} (ht:TabW w bT glo ghi g a0 a1 a2 d0 d1 d2) (h:CmdE T u pv e∧Below w.heap.size w w') {T2:GatL->List UInt8->Prop} (hT:∀ t,T t->T2 g t) :
  CmdG T2 u pv w w' bT glo ghi g e∧But bT w w':=by
 obtain ⟨h,hb⟩:=h
 refine ⟨?_,But.of_below hb⟩
 rcases h with ⟨s,rfl,h⟩ | ⟨h,rfl⟩
 ·exact .inl ⟨s,g,glo,ghi,a0,a1,a2,d0,d1,d2,rfl,hT _ h,ht.below hb,.inl ⟨rfl,rfl⟩⟩
 ·exact .inr ⟨hT _ h,rfl,hb⟩
theorem tellT_none {g:GatL} {c:List UInt8} {r:List ByteArray} (h:comF c=none):TellT g c r g tQ:=by
 unfold comF at h
 unfold TellT
 split at h
 ·cases h
 rename_i h1
 rw [if_neg h1]
 split at h
 ·cases h
 rename_i h2
 rw [if_neg h2]
 split at h
 ·cases h
 rename_i h3
 rw [if_neg h3]
 split at h
 ·cases h
 rename_i h4
 rw [if_neg h4]
 split at h
 ·cases h
 rename_i h5
 rw [if_neg h5]
 split at h
 ·cases h
 rename_i h6
 rw [if_neg h6]
 split at h
 ·cases h
 rename_i h7
 rw [if_neg h7]
 exact ⟨rfl,rfl⟩
structure AllW (w:World) (u:TypeId) (pv:Value):Prop where
 env:EnvW w u pv
 err:ErrT w
 ord:OrdW w
theorem AllW.below {w w':World} {u:TypeId} {pv:Value} (h:AllW w u pv) (hb:Below w.heap.size w w'):AllW w' u pv:=⟨h.env.below hb,h.err.below hb,h.ord.below hb⟩
theorem com_cases {c:List UInt8} {k:Nat} (h:comF c=some k):(c=cIns∧k=158)∨(c=cPut∧k=159)∨(c=cOrder∧k=163)∨(c=cJoin∧k=164)∨(c=cLast∧k=162)∨(c=cCount∧k=160)∨(c=cBest∧k=161):=by
 unfold comF at h
 split at h
 ·rename_i e;exact .inl ⟨e,by simpa using h.symm⟩
 split at h
 ·rename_i e;exact .inr (.inl ⟨e,by simpa using h.symm⟩)
 split at h
 ·rename_i e;exact .inr (.inr (.inl ⟨e,by simpa using h.symm⟩))
 split at h
 ·rename_i e;exact .inr (.inr (.inr (.inl ⟨e,by simpa using h.symm⟩)))
 split at h
 ·rename_i e;exact .inr (.inr (.inr (.inr (.inl ⟨e,by simpa using h.symm⟩))))
 split at h
 ·rename_i e;exact .inr (.inr (.inr (.inr (.inr (.inl ⟨e,by simpa using h.symm⟩)))))
 split at h
 ·rename_i e;exact .inr (.inr (.inr (.inr (.inr (.inr ⟨e,by simpa using h.symm⟩)))))
 ·cases h
theorem com_any {c:List UInt8} {k:Nat} (hk:comF c=some k) (bT glo ghi:Nat) (g:GatL) (a0 a1 a2 a:Option Addr) (d0 d1 d2 cap:Nat) (r:List ByteArray) (w:World) (ht:TabW w bT glo ghi g a0 a1 a2 d0 d1 d2) (hw:Wds w a cap r) (u:TypeId) (pv:Value) (henv:AllW w u pv) (w00:World) (h00:w00.heap.size<=bT) (b00:Below w00.heap.size w00 w) (henv0:AllW w00 u pv) :
  Calls Tryz.prog k #[.pointer (some ⟨bT,0,none⟩),.slice a r.length cap] w fun e w'=>CmdG (TellT g c r) u pv w w' bT glo ghi g e∧But bT w w':=by
 rcases com_cases hk with ⟨rfl,rfl⟩ | ⟨rfl,rfl⟩ | ⟨rfl,rfl⟩ | ⟨rfl,rfl⟩ | ⟨rfl,rfl⟩ | ⟨rfl,rfl⟩ | ⟨rfl,rfl⟩
 ·refine (tbIns_any bT glo ghi g a0 a1 a2 a d0 d1 d2 cap r w ht hw u pv henv.env).mono fun e w' ⟨h,hb⟩=>⟨?_,hb⟩
  rcases h with ⟨s,g',q1,q2,q3,q4,q5,q6,q7,q8,h1,h2,h3,h4⟩ | ⟨h1,h2⟩
  ·exact .inl ⟨s,g',q1,q2,q3,q4,q5,q6,q7,q8,h1,tellT_ins h2,h3,h4⟩
  ·exact .inr ⟨tellT_ins h1,h2⟩
 ·refine (tbPut_any bT glo ghi g a0 a1 a2 a d0 d1 d2 cap r w ht hw u pv henv.env henv.err w00 h00 b00 henv0.env).mono fun e w' ⟨h,hb⟩=>⟨?_,hb⟩
  rcases h with ⟨s,g',q1,q2,q3,q4,q5,q6,q7,q8,h1,h2,h3,h4⟩ | ⟨h1,h2⟩
  ·exact .inl ⟨s,g',q1,q2,q3,q4,q5,q6,q7,q8,h1,tellT_put h2,h3,h4⟩
  ·exact .inr ⟨tellT_put h1,h2⟩
 ·exact (order_any _ a cap r w hw u pv henv.env henv.ord).mono fun e w' h=>CmdE.toG ht h fun t=>tellT_order
 ·exact (join_any _ a cap r w hw u pv henv.env).mono fun e w' h=>CmdE.toG ht h fun t=>tellT_join
 ·exact (tbLast_any bT glo ghi g a0 a1 a2 a d0 d1 d2 cap r w ht hw u pv henv.env).mono fun e w' h=>CmdE.toG ht h fun t=>tellT_last
 ·exact (count_any bT glo ghi g a0 a1 a2 a d0 d1 d2 cap r w ht hw.few u pv henv.env).mono fun e w' h=>CmdE.toG ht h fun t=>tellT_count
 ·exact (best_any bT glo ghi g a0 a1 a2 a d0 d1 d2 cap r w ht hw.few u pv henv.env).mono fun e w' h=>CmdE.toG ht h fun t=>tellT_best
def TelE (w w':World) (bT glo ghi:Nat) (g:GatL) (l:ByteArray) (e:Ending):Prop:=
 ∃ s g' glo' ghi' b0 b1 b2 d0 d1 d2,e=.returned (.string s)∧TellsTo g (cutW 32 l) g' (bl s)∧TabW w' bT glo' ghi' g' b0 b1 b2 d0 d1 d2∧((glo'=glo∧ghi'=ghi)∨w.heap.size<=glo')
structure Fc (W:World) (V1 V2:Value) (u0:ByteArray) (f:Nat->Bool) (bC nC:Nat) (v6 v7 v11 v12 v13 v14 v15 v16 v17 v18:Value) (u:World):Prop where
 bel:Below W.heap.size W u
 k0:f 0=true->v12=.map (some bC)∧CoW u bC nC (fun s=>comF (bl s))
 k1:f 1=true->v13=V1
 k2:f 2=true->v14=V2
 k3:f 3=true->v15=.string u0
 k4:f 4=true->v16=.tuple #[comV (bl u0),.bool (comF (bl u0)).isSome]
 k5:f 5=true->v11=.tuple #[comV (bl u0),.bool (comF (bl u0)).isSome]
 k6:f 6=true->v17=comV (bl u0)
 k7:f 7=true->v18=.bool (comF (bl u0)).isSome
 k8:f 8=true->v6=comV (bl u0)
 k9:f 9=true->v7=.bool (comF (bl u0)).isSome
theorem Fc.below {W:World} {V1 V2:Value} {u0:ByteArray} {f:Nat->Bool} {bC nC:Nat} {v6 v7 v11 v12 v13 v14 v15 v16 v17 v18:Value} {u u':World} (h:Fc W V1 V2 u0 f bC nC v6 v7 v11 v12 v13 v14 v15 v16 v17 v18 u) (hb:Below u.heap.size u u'):Fc W V1 V2 u0 f bC nC v6 v7 v11 v12 v13 v14 v15 v16 v17 v18 u':=
 { h with bel:=h.bel.trans (hb.mono h.bel.size),k0:=fun e=>⟨(h.k0 e).1,(h.k0 e).2.below hb⟩ }
theorem com_enters {c:List UInt8} {k:Nat} (h:comF c=some k):∀ args w,(callFunc k args).run Tryz.prog w=.ok (.enter k args) w:=by
 rcases com_cases h with ⟨_,rfl⟩ | ⟨_,rfl⟩ | ⟨_,rfl⟩ | ⟨_,rfl⟩ | ⟨_,rfl⟩ | ⟨_,rfl⟩ | ⟨_,rfl⟩
 ·exact enters_of Tryz.func158 (by kernel_rfl) rfl
 ·exact enters_of Tryz.func159 (by kernel_rfl) rfl
 ·exact enters_of Tryz.func163 (by kernel_rfl) rfl
 ·exact enters_of Tryz.func164 (by kernel_rfl) rfl
 ·exact enters_of Tryz.func162 (by kernel_rfl) rfl
 ·exact enters_of Tryz.func160 (by kernel_rfl) rfl
 ·exact enters_of Tryz.func161 (by kernel_rfl) rfl
theorem TabW.far {w:World} {bT glo ghi q:Nat} {g:GatL} {a0 a1 a2:Option Addr} {d0 d1 d2:Nat} (h:TabW w bT glo ghi g a0 a1 a2 d0 d1 d2) (h1:bT≠q) (h2:q < glo∨ghi<=q) (i:Nat) (v:Value):TabW (w.setCell ⟨q,i,none⟩ v) bT glo ghi g a0 a1 a2 d0 d1 d2:=by
 have sp:Span q (q + 1) w (w.setCell ⟨q,i,none⟩ v):=(Span.refl _ _ _).setCell (Nat.le_refl _) (Nat.lt_succ_self _) _ _
 exact ⟨h.tri.far h1 i v,h.rows.agree (sp.agree (by omega)),h.nice,Nat.le_trans h.glt sp.size,h.box,h.cap,Nat.lt_of_lt_of_le h.lt sp.size⟩
theorem told_new {w w2:World} {bT glo ghi:Nat} {g:GatL} {a0 a1 a2:Option Addr} {d0 d1 d2:Nat} (ht:TabW w bT glo ghi g a0 a1 a2 d0 d1 d2) (ht2:TabW w2 bT glo ghi g a0 a1 a2 d0 d1 d2) (B2:Below w.heap.size w w2) (v:Value) :
  TabW (w2.setCell ⟨w.heap.size,0,none⟩ v) bT glo ghi g a0 a1 a2 d0 d1 d2∧But bT w (w2.setCell ⟨w.heap.size,0,none⟩ v):=
 ⟨ht2.far (Nat.ne_of_lt ht.lt) (.inr ht.glt) 0 v,(But.of_below B2).setOut (Nat.le_refl _) 0 v⟩
def ComC (c:List UInt8):Prop:=∀ (k:Nat),comF c=some k->∀ (bT glo ghi:Nat) (g:GatL) (a0 a1 a2 a:Option Addr) (d0 d1 d2 cap:Nat) (r:List ByteArray) (w:World),TabW w bT glo ghi g a0 a1 a2 d0 d1 d2->Wds w a cap r->∀ (u:TypeId) (pv:Value),AllW w u pv->∀ w00:World,w00.heap.size<=bT->Below w00.heap.size w00 w->AllW w00 u pv ->
  Calls Tryz.prog k #[.pointer (some ⟨bT,0,none⟩),.slice a r.length cap] w fun e w'=>CmdG (TellT g c r) u pv w w' bT glo ghi g e∧But bT w w'
theorem comC_all (c:List UInt8):ComC c:=fun _ hk bT glo ghi g a0 a1 a2 a d0 d1 d2 cap r w ht hw u pv henv w00 h00 b00 henv0=>com_any hk bT glo ghi g a0 a1 a2 a d0 d1 d2 cap r w ht hw u pv henv w00 h00 b00 henv0
set_option maxHeartbeats 3200000 in
theorem tell_any (bT glo ghi:Nat) (g:GatL) (a0 a1 a2:Option Addr) (d0 d1 d2:Nat) (l:ByteArray) (w:World) (ht:TabW w bT glo ghi g a0 a1 a2 d0 d1 d2) (hl:l.size<=3000) (u:TypeId) (pv:Value) (henv:AllW w u pv) (w00:World) (h00:w00.heap.size<=bT) (b00:Below w00.heap.size w00 w) (henv0:AllW w00 u pv) (hcc:∀ u0 r,cutW 32 l=u0 :: r->ComC (bl u0)) :
  Calls Tryz.prog 72 #[.pointer (some ⟨bT,0,none⟩),.string l] w fun e w'=>TelE w w' bT glo ghi g l e∧But bT w w':=by
 have hmf:∀ (fn:Fn) (first cap:Array Value) (w:World),(Instr.makeFunc fn first cap).run Tryz.prog w=.ok (.func fn first cap) w:=fun _ _ _ _=>rfl
 have bx:Below w.heap.size w (w.alloc (.cells #[.string ⟨#[]⟩] 9)):=(Below.refl _ _).alloc (Nat.le_refl _) _
 have cS:=split_any 32 l (w.alloc (.cells #[.string ⟨#[]⟩] 9)) (by omega)
 go_enter_defers Tryz.func72,Tryz.ntmps72
 go_wp2_with (go_at_call 70;refine cS.mono ?_)
 rintro e w1 ⟨⟨b,cap,rfl,hrow,hcp,hcp2,hnew⟩,b1⟩
 have hx0:(w.alloc (.cells #[.string ⟨#[]⟩] 9)).cell? ⟨w.heap.size,0,none⟩=some (.string ⟨#[]⟩):=by simp [go_sem]
 have hx1:(w.alloc (.cells #[.string ⟨#[]⟩] 9)).frozen? ⟨w.heap.size,0,none⟩=false:=by simp [go_sem]
 have hxl:w.heap.size < (w.alloc (.cells #[.string ⟨#[]⟩] 9)).heap.size:=by simp
 have hnew2:w.heap.size < b:=Nat.lt_of_lt_of_le hxl hnew
 have B1:Below w.heap.size w w1:=bx.trans (b1.mono bx.size)
 have t0:=cell_on b1 hxl hx0
 have tf:w1.frozen? ⟨w.heap.size,0,none⟩=false:=by rw [World.frozen?_of_block (b1.block _ hxl)];exact hx1
 have zT:w.heap.size < w1.heap.size:=Nat.lt_of_lt_of_le hxl b1.size
 obtain ⟨u0,r,hur⟩:∃ u0 r,cutW 32 l=u0 :: r:=List.exists_cons_of_ne_nil (cutW_ne 32 l)
 have hsz:=cut_sizes 32 l
 have hfree:∀ x∈cutW 32 l,(32:UInt8)∉bl x:=fun x hx=>cutW_free hx
 have HCC:Hid (ComC (bl u0)):=hcc u0 r hur
 clear hcc
 rw [hur] at hrow hcp hsz hfree
 have HU:Hid (cutW 32 l=u0 :: r):=hur
 rw [hur]
 have ht1:=ht.below B1
 have hen1:=henv.below B1
 have B01:=b00.trans (B1.mono b00.size)
 have hu0:u0.size<=100000:=by have:=hsz.2 u0 (List.mem_cons_self ..);omega
 simp only [List.length_cons] at hcp hsz
 obtain ⟨b',o',eq,hblt,cw⟩:=hrow 0 (by simp)
 obtain ⟨rfl,rfl⟩:b=b'∧0=o':=by simpa using eq
 have cw:w1.cell? ⟨b,0,none⟩=some (.string u0):=cw
 have hwr:∀ q cq,(q=some ⟨b,1,none⟩∨r=[])->r.length<=cq->cq<=maxLen->Wds w1 q cq r:=fun q cq hq h1 h2=>by
  refine ⟨?_,by omega,fun x hx=>by have:=hsz.2 x (List.mem_cons_of_mem _ hx);omega,h1,h2,fun x hx=>hfree x (List.mem_cons_of_mem _ hx)⟩
  rcases hq with rfl | rfl
  ·exact (RowS.drop hrow 1:RowS w1 (some ⟨b,0 + 1,none⟩) ((u0 :: r).drop 1))
  ·exact rowS_nil _ _
 clear eq hrow hfree hur cS b1 hx0 hx1 hxl bx
 have hpos:(0:Int) < (r.length:Int) + 1:=by omega
 have hp1:(1:Int)<=(r.length:Int) + 1:=by omega
 go_wp2_with fail
 refine wp_region_inv (by kernel_rfl) (by kernel_rfl) (fun f act x=>∃ (bC nC:Nat) (v6 v7 v11 v12 v13 v14 v15 v16 v17 v18:Value),act={ tmps:=#[Value.pointer (some { block:=bT,off:=0 }),Value.string l,undef,undef,Value.pointer (some { block:=w.heap.size,off:=0 }),Value.slice (some { block:=b,off:=0 }) (r.length + 1) cap,v6,v7,Value.func (Fn.func 117) #[] #[Value.pointer (some { block:=w.heap.size,off:=0 })],Value.string l,Value.slice (some { block:=b,off:=0 }) (r.length + 1) cap,v11,v12,v13,v14,v15,v16,v17,v18,undef,undef,undef,undef,undef,undef,undef],defers:=[{ target:=Target.fn (Fn.func 117) #[Value.pointer (some { block:=w.heap.size,off:=0 })],args:=#[] }] }∧Fc w1 (.slice (some ⟨b,0,none⟩) (r.length + 1) cap) (.pointer (some ⟨b,0,none⟩)) u0 f bC nC v6 v7 v11 v12 v13 v14 v15 v16 v17 v18 x) ?start ?step ?fin
 case start=>
  refine ⟨0,0,_,_,_,_,_,_,_,_,_,_,rfl, ?_⟩
  exact { bel:=(Below.refl _ _).drew,k0:=(fun h=>by cases h),k1:=(fun h=>by cases h),k2:=(fun h=>by cases h),k3:=(fun h=>by cases h),k4:=(fun h=>by cases h),k5:=(fun h=>by cases h),k6:=(fun h=>by cases h),k7:=(fun h=>by cases h),k8:=(fun h=>by cases h),k9:=(fun h=>by cases h) }
 case step=>
  rintro f act x j ⟨bC,nC,v6,v7,v11,v12,v13,v14,v15,v16,v17,v18,rfl,hF⟩ hj hfj hwt
  have hj':j < 10:=hj
  have z1:=cell_on hF.bel hblt cw
  rcases (by omega:j=0∨j=1∨j=2∨j=3∨j=4∨j=5∨j=6∨j=7∨j=8∨j=9) with rfl | rfl | rfl | rfl | rfl | rfl | rfl | rfl | rfl | rfl
  ·refine wpOp_wanted rfl (by kernel_rfl) ?_
   go_simp
   refine Calls.mono (commands_any x) ?_
   rintro e x' ⟨⟨bC',nC',rfl,hlC,hC⟩,bx⟩
   have hF':=hF.below bx
   exact ⟨bC',nC',_,_,_,_,_,_,_,_,_,_,⟨rfl,rfl,rfl,rfl,rfl,rfl,rfl,rfl,rfl,rfl⟩,{ hF' with k0:=fun _=>⟨rfl,hC⟩ }⟩
  ·refine wpOp_wanted rfl (by kernel_rfl) ?_
   go_simp
   exact ⟨bC,nC,_,_,_,_,_,_,_,_,_,_,⟨rfl,rfl,rfl,rfl,rfl,rfl,rfl,rfl,rfl,rfl⟩,{ hF with k1:=fun _=>rfl }⟩
  ·have h1:f 1=true:=hwt 1 (of_decide_eq_true (by kernel_rfl))
   obtain rfl:=hF.k1 h1
   refine wpOp_wanted rfl (by kernel_rfl) ?_
   go_simp
   exact ⟨bC,nC,_,_,_,_,_,_,_,_,_,_,⟨rfl,rfl,rfl,rfl,rfl,rfl,rfl,rfl,rfl,rfl⟩,{ hF with k2:=fun _=>rfl }⟩
  ·have h2:f 2=true:=hwt 2 (of_decide_eq_true (by kernel_rfl))
   obtain rfl:=hF.k2 h2
   refine wpOp_wanted rfl (by kernel_rfl) ?_
   go_simp
   exact ⟨bC,nC,_,_,_,_,_,_,_,_,_,_,⟨rfl,rfl,rfl,rfl,rfl,rfl,rfl,rfl,rfl,rfl⟩,{ hF with k3:=fun _=>rfl }⟩
  ·have h0:f 0=true:=hwt 0 (of_decide_eq_true (by kernel_rfl))
   have h3:f 3=true:=hwt 3 (of_decide_eq_true (by kernel_rfl))
   obtain ⟨rfl,hC⟩:=hF.k0 h0
   obtain rfl:=hF.k3 h3
   have hl2:=hC.looks u0 hu0
   refine wpOp_wanted rfl (by kernel_rfl) ?_
   go_simp
   exact ⟨bC,nC,_,_,_,_,_,_,_,_,_,_,⟨rfl,rfl,rfl,rfl,rfl,rfl,rfl,rfl,rfl,rfl⟩,{ hF with k4:=fun _=>rfl }⟩
  ·have h4:f 4=true:=hwt 4 (of_decide_eq_true (by kernel_rfl))
   obtain rfl:=hF.k4 h4
   refine wpOp_wanted rfl (by kernel_rfl) ?_
   go_simp
   exact ⟨bC,nC,_,_,_,_,_,_,_,_,_,_,⟨rfl,rfl,rfl,rfl,rfl,rfl,rfl,rfl,rfl,rfl⟩,{ hF with k5:=fun _=>rfl }⟩
  ·have h5:f 5=true:=hwt 5 (of_decide_eq_true (by kernel_rfl))
   obtain rfl:=hF.k5 h5
   refine wpOp_wanted rfl (by kernel_rfl) ?_
   go_simp
   exact ⟨bC,nC,_,_,_,_,_,_,_,_,_,_,⟨rfl,rfl,rfl,rfl,rfl,rfl,rfl,rfl,rfl,rfl⟩,{ hF with k6:=fun _=>rfl }⟩
  ·have h5:f 5=true:=hwt 5 (of_decide_eq_true (by kernel_rfl))
   obtain rfl:=hF.k5 h5
   refine wpOp_wanted rfl (by kernel_rfl) ?_
   go_simp
   exact ⟨bC,nC,_,_,_,_,_,_,_,_,_,_,⟨rfl,rfl,rfl,rfl,rfl,rfl,rfl,rfl,rfl,rfl⟩,{ hF with k7:=fun _=>rfl }⟩
  ·have h6:f 6=true:=hwt 6 (of_decide_eq_true (by kernel_rfl))
   obtain rfl:=hF.k6 h6
   refine wpOp_wanted rfl (by kernel_rfl) ?_
   go_simp
   exact ⟨bC,nC,_,_,_,_,_,_,_,_,_,_,⟨rfl,rfl,rfl,rfl,rfl,rfl,rfl,rfl,rfl,rfl⟩,{ hF with k8:=fun _=>rfl }⟩
  ·have h7:f 7=true:=hwt 7 (of_decide_eq_true (by kernel_rfl))
   obtain rfl:=hF.k7 h7
   refine wpOp_wanted rfl (by kernel_rfl) ?_
   go_simp
   exact ⟨bC,nC,_,_,_,_,_,_,_,_,_,_,⟨rfl,rfl,rfl,rfl,rfl,rfl,rfl,rfl,rfl,rfl⟩,{ hF with k9:=fun _=>rfl }⟩
 case fin=>
  rintro f act w2 ⟨bC,nC,v6,v7,v11,v12,v13,v14,v15,v16,v17,v18,rfl,hF⟩ hall
  obtain rfl:=hF.k1 (hall 1 (of_decide_eq_true (by kernel_rfl)))
  obtain rfl:=hF.k2 (hall 2 (of_decide_eq_true (by kernel_rfl)))
  obtain rfl:=hF.k3 (hall 3 (of_decide_eq_true (by kernel_rfl)))
  obtain rfl:=hF.k4 (hall 4 (of_decide_eq_true (by kernel_rfl)))
  obtain rfl:=hF.k5 (hall 5 (of_decide_eq_true (by kernel_rfl)))
  obtain rfl:=hF.k6 (hall 6 (of_decide_eq_true (by kernel_rfl)))
  obtain rfl:=hF.k7 (hall 7 (of_decide_eq_true (by kernel_rfl)))
  obtain rfl:=hF.k8 (hall 8 (of_decide_eq_true (by kernel_rfl)))
  obtain rfl:=hF.k9 (hall 9 (of_decide_eq_true (by kernel_rfl)))
  obtain ⟨rfl,_⟩:=hF.k0 (hall 0 (of_decide_eq_true (by kernel_rfl)))
  have b2d:=hF.bel
  have B2:Below w.heap.size w w2:=B1.trans (b2d.mono B1.size)
  have ht2:=ht1.below b2d
  have hen2:=hen1.below b2d
  have B02:=B01.trans (b2d.mono B01.size)
  have t02:=cell_on b2d zT t0
  have tf2:w2.frozen? ⟨w.heap.size,0,none⟩=false:=by rw [World.frozen?_of_block (b2d.block _ zT)];exact tf
  have zT2:=Nat.lt_of_lt_of_le zT b2d.size
  have hgv:=hen2.env.giv
  clear hF hall
  cases hcf:comF (bl u0) with
  | none=>
   have HT:Hid (TellT g (bl u0) r g tQ):=tellT_none hcf
   clear hcf
   simp only [Option.isSome_none]
   go_wp2_with (go_at_call 119;refine (need_no2 u pv _ hgv).mono ?_;rintro e w3 ⟨rfl,rfl⟩)
   refine leaves_cons (f:=117) (args:=#[.pointer (some ⟨w.heap.size,0,none⟩)]) (by simp) (by simp [go_sem]) ?_
   refine (catch_yes ⟨w.heap.size,0,none⟩ ⟨#[]⟩ u pv [] _ t02 tf2).mono ?_
   rintro e u' w'' ⟨rfl,rfl,rfl⟩
   have hR:=told_new ht ht2 B2 (.string ⟨#[63]⟩)
   simp [Leaves,settle,results,Tryz.results72,go_sem,t02]
   exact ⟨⟨_,g,glo,ghi,a0,a1,a2,d0,d1,d2,rfl,⟨u0,r,HU.out,HT.out⟩,hR.1,.inl ⟨rfl,rfl⟩⟩,hR.2⟩
  | some k=>
   have hv:comV (bl u0)=.func (Fn.func k) #[] #[]:=by unfold comV;rw [hcf]
   have hent:=com_enters hcf
   simp only [hv,Option.isSome_some]
   by_cases hc1:cap=1
   ·subst hc1
    obtain rfl:r=[]:=List.length_eq_zero_iff.1 (by omega)
    have cC:=HCC.out _ hcf bT glo ghi g a0 a1 a2 (some ⟨b,0,none⟩) d0 d1 d2 0 [] w2 ht2 ((hwr (some ⟨b,0,none⟩) 0 (.inr rfl) (Nat.le_refl _) (Nat.zero_le _)).below b2d) u pv hen2 w00 h00 B02 henv0
    clear hcf hv hwr
    go_wp2_with (first | (go_at_call 119;refine (need_yes2 _).mono ?_;rintro e w3 ⟨rfl,rfl⟩) | (go_at_fn k;refine cC.mono ?_))
    rintro e w3 ⟨hG,hbt⟩
    have hne:w.heap.size≠bT:=Nat.ne_of_gt ht.lt
    rcases hG with ⟨s,g',glo',ghi',p0,p1,p2,k0,k1,k2,rfl,hT,ht3,hlo⟩ | ⟨hT,rfl,b3⟩
    ·have t03:w3.cell? ⟨w.heap.size,0,none⟩=some (.string ⟨#[]⟩):=by rw [hbt.cell 0 zT2 hne];exact t02
     have tf3:w3.frozen? ⟨w.heap.size,0,none⟩=false:=by rw [hbt.frozen 0 zT2 hne];exact tf2
     have HT:Hid (TellT g (bl u0) [] g' (bl s)):=hT
     have HBT:Hid (But bT w (w3.setCell ⟨w.heap.size,0,none⟩ (.string s))):=((But.of_below B2).trans hbt).setOut (Nat.le_refl _) 0 _
     have HT3:Hid (TabW (w3.setCell ⟨w.heap.size,0,none⟩ (.string s)) bT glo' ghi' g' p0 p1 p2 k0 k1 k2):=ht3.far (Nat.ne_of_lt ht.lt) (by have:=ht.glt;omega) 0 _
     have HLO:Hid ((glo'=glo∧ghi'=ghi)∨w.heap.size<=glo'):=by have:=B2.size;unfold Hid;omega
     clear hT hbt ht3 hlo cC hent
     go_wp2_with fail
     refine leaves_cons (f:=117) (args:=#[.pointer (some ⟨w.heap.size,0,none⟩)]) (by simp) (by simp [go_sem]) ?_
     refine (catch_no ⟨w.heap.size,0,none⟩ _).mono ?_
     rintro e u' w'' ⟨rfl,rfl,rfl⟩
     simp [Leaves,settle,results,Tryz.results72,go_sem,t03]
     exact ⟨⟨_,g',glo',ghi',p0,p1,p2,k0,k1,k2,rfl,⟨u0,[],HU.out,HT.out⟩,HT3.out,HLO.out⟩,HBT.out⟩
    ·have t03:=cell_on b3 zT2 t02
     have tf3:w3.frozen? ⟨w.heap.size,0,none⟩=false:=by rw [World.frozen?_of_block (b3.block _ zT2)];exact tf2
     have HT:Hid (TellT g (bl u0) [] g tQ):=hT
     have ht3:=ht2.below b3
     have B3:Below w.heap.size w w3:=B2.trans (b3.mono B2.size)
     have hR:=told_new ht ht3 B3 (.string ⟨#[63]⟩)
     unfold givE
     clear hT hbt cC hent
     refine leaves_cons (f:=117) (args:=#[.pointer (some ⟨w.heap.size,0,none⟩)]) (by simp) (by simp [go_sem]) ?_
     refine (catch_yes ⟨w.heap.size,0,none⟩ ⟨#[]⟩ u pv [] _ t03 tf3).mono ?_
     rintro e u' w'' ⟨rfl,rfl,rfl⟩
     simp [Leaves,settle,results,Tryz.results72,go_sem,t03]
     exact ⟨⟨_,g,glo,ghi,a0,a1,a2,d0,d1,d2,rfl,⟨u0,[],HU.out,HT.out⟩,hR.1,.inl ⟨rfl,rfl⟩⟩,hR.2⟩
   have hc2:¬ cap - 1=0:=by omega
   have cC:=HCC.out _ hcf bT glo ghi g a0 a1 a2 (some ⟨b,1,none⟩) d0 d1 d2 (cap - 1) r w2 ht2 ((hwr (some ⟨b,1,none⟩) (cap - 1) (.inl rfl) (by omega) (by unfold maxLen;omega)).below b2d) u pv hen2 w00 h00 B02 henv0
   clear hcf hv hwr
   go_wp2_with (first | (go_at_call 119;refine (need_yes2 _).mono ?_;rintro e w3 ⟨rfl,rfl⟩) | (go_at_fn k;refine cC.mono ?_))
   rintro e w3 ⟨hG,hbt⟩
   have hne:w.heap.size≠bT:=Nat.ne_of_gt ht.lt
   rcases hG with ⟨s,g',glo',ghi',p0,p1,p2,k0,k1,k2,rfl,hT,ht3,hlo⟩ | ⟨hT,rfl,b3⟩
   ·have t03:w3.cell? ⟨w.heap.size,0,none⟩=some (.string ⟨#[]⟩):=by rw [hbt.cell 0 zT2 hne];exact t02
    have tf3:w3.frozen? ⟨w.heap.size,0,none⟩=false:=by rw [hbt.frozen 0 zT2 hne];exact tf2
    have HT:Hid (TellT g (bl u0) r g' (bl s)):=hT
    have HBT:Hid (But bT w (w3.setCell ⟨w.heap.size,0,none⟩ (.string s))):=((But.of_below B2).trans hbt).setOut (Nat.le_refl _) 0 _
    have HT3:Hid (TabW (w3.setCell ⟨w.heap.size,0,none⟩ (.string s)) bT glo' ghi' g' p0 p1 p2 k0 k1 k2):=ht3.far (Nat.ne_of_lt ht.lt) (by have:=ht.glt;omega) 0 _
    have HLO:Hid ((glo'=glo∧ghi'=ghi)∨w.heap.size<=glo'):=by have:=B2.size;unfold Hid;omega
    clear hT hbt ht3 hlo cC hent
    go_wp2_with fail
    refine leaves_cons (f:=117) (args:=#[.pointer (some ⟨w.heap.size,0,none⟩)]) (by simp) (by simp [go_sem]) ?_
    refine (catch_no ⟨w.heap.size,0,none⟩ _).mono ?_
    rintro e u' w'' ⟨rfl,rfl,rfl⟩
    simp [Leaves,settle,results,Tryz.results72,go_sem,t03]
    exact ⟨⟨_,g',glo',ghi',p0,p1,p2,k0,k1,k2,rfl,⟨u0,r,HU.out,HT.out⟩,HT3.out,HLO.out⟩,HBT.out⟩
   ·have t03:=cell_on b3 zT2 t02
    have tf3:w3.frozen? ⟨w.heap.size,0,none⟩=false:=by rw [World.frozen?_of_block (b3.block _ zT2)];exact tf2
    have HT:Hid (TellT g (bl u0) r g tQ):=hT
    have ht3:=ht2.below b3
    have B3:Below w.heap.size w w3:=B2.trans (b3.mono B2.size)
    have hR:=told_new ht ht3 B3 (.string ⟨#[63]⟩)
    unfold givE
    clear hT hbt cC hent
    refine leaves_cons (f:=117) (args:=#[.pointer (some ⟨w.heap.size,0,none⟩)]) (by simp) (by simp [go_sem]) ?_
    refine (catch_yes ⟨w.heap.size,0,none⟩ ⟨#[]⟩ u pv [] _ t03 tf3).mono ?_
    rintro e u' w'' ⟨rfl,rfl,rfl⟩
    simp [Leaves,settle,results,Tryz.results72,go_sem,t03]
    exact ⟨⟨_,g,glo,ghi,a0,a1,a2,d0,d1,d2,rfl,⟨u0,r,HU.out,HT.out⟩,hR.1,.inl ⟨rfl,rfl⟩⟩,hR.2⟩
end Go.Proofs.YtpfhegengmlkmacGreatDoor
