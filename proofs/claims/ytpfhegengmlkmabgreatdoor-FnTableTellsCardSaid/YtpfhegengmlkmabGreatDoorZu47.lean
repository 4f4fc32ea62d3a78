/- Texts of this claim. -/
import Derived.Test.YtpfhegengmlkmabGreatDoorZu43
import Derived.Test.YtpfhegengmlkmabGreatDoorZu46
namespace Go.Proofs.YtpfhegengmlkmabGreatDoor
open Go.RowKit Go.BigFrame
set_option maxRecDepth 100000
theorem Ei {g:aB}{c:List UInt8}{r:List ByteArray}(h:kZ c=none):fD g c r g tQ:=by
 unfold kZ at h
 unfold fD
 split at h
 ·cases h
 rename_i h1
 rw[if_neg h1]
 split at h
 ·cases h
 rename_i h2
 rw[if_neg h2]
 split at h
 ·cases h
 rename_i h3
 rw[if_neg h3]
 split at h
 ·cases h
 rename_i h4
 rw[if_neg h4]
 split at h
 ·cases h
 rename_i h5
 rw[if_neg h5]
 split at h
 ·cases h
 rename_i h6
 rw[if_neg h6]
 split at h
 ·cases h
 rename_i h7
 rw[if_neg h7]
 exact⟨rfl,rfl⟩
structure yw (w:World) (u:TypeId) (pv:Value):Prop where
 env:vU w u pv
 err:AB w
 ord:Lh w
theorem yw.below {w w':World}{u:TypeId}{pv:Value}(h:yw w u pv)(hb:Below w.heap.size w w'):yw w' u pv:=⟨h.env.below hb,h.err.below hb,h.ord.below hb⟩
theorem Gv {c:List UInt8}{k:Nat}(h:kZ c=some k):(c=mF/\k=58)∨(c=mV/\k=59)∨(c=xm/\k=63)∨(c=Bo/\k=64)∨(c=Bc/\k=62)∨(c=vX/\k=60)∨(c=CS/\k=61):=by
 unfold kZ at h
 split at h
 ·rename_i e;exact .inl ⟨e,by simpa using h.symm⟩
 split at h
 ·rename_i e;exact .inr (.inl ⟨e,by simpa using h.symm⟩)
 split at h
 ·rename_i e;exact .inr (.inr (.inl ⟨e,by simpa using h.symm⟩))
 split at h
 ·rename_i e;exact .inr (.inr (.inr (.inl ⟨e,by simpa using h.symm⟩)))
 split at h
 ·rename_i e;exact .inr (.inr (.inr (.inr (.inl ⟨e,by simpa using h.symm⟩))))
 split at h
 ·rename_i e;exact .inr (.inr (.inr (.inr (.inr (.inl ⟨e,by simpa using h.symm⟩)))))
 split at h
 ·rename_i e;exact .inr (.inr (.inr (.inr (.inr (.inr ⟨e,by simpa using h.symm⟩)))))
 ·cases h
def NK (w w':World)(bT glo ghi:Nat)(g:aB)(l:ByteArray)(e:Ending):Prop:=
 ∃s g' glo' ghi' b0 b1 b2 d0 d1 d2,e=.returned (.string s)/\fP g (aZ 32 l) g' (bl s)/\jb w' bT glo' ghi' g' b0 b1 b2 d0 d1 d2/\((glo'=glo/\ghi'=ghi)∨w.heap.size<=glo')
structure Fc (W:World) (V1 V2:Value) (u0:ByteArray) (f:Nat->Bool) (bC nC:Nat) (v6 v7 v11 v12 v13 v14 v15 v16 v17 v18:Value) (u:World):Prop where
 bel:Below W.heap.size W u
 k0:f 0=true->v12=.map (some bC)/\GU u bC nC (fun s=>kZ (bl s))
 k1:f 1=true->v13=V1
 k2:f 2=true->v14=V2
 k3:f 3=true->v15=.string u0
 k4:f 4=true->v16=.tuple #[BP (bl u0),.bool (kZ (bl u0)).isSome]
 k5:f 5=true->v11=.tuple #[BP (bl u0),.bool (kZ (bl u0)).isSome]
 k6:f 6=true->v17=BP (bl u0)
 k7:f 7=true->v18=.bool (kZ (bl u0)).isSome
 k8:f 8=true->v6=BP (bl u0)
 k9:f 9=true->v7=.bool (kZ (bl u0)).isSome
theorem Fc.below {W:World}{V1 V2:Value}{u0:ByteArray}{f:Nat->Bool}{bC nC:Nat}{v6 v7 v11 v12 v13 v14 v15 v16 v17 v18:Value}{u u':World}(h:Fc W V1 V2 u0 f bC nC v6 v7 v11 v12 v13 v14 v15 v16 v17 v18 u)(hb:Below u.heap.size u u'):Fc W V1 V2 u0 f bC nC v6 v7 v11 v12 v13 v14 v15 v16 v17 v18 u':=
 { h with bel:=h.bel.trans (hb.mono h.bel.size),k0:=fun e=>⟨(h.k0 e).1,(h.k0 e).2.below hb⟩ }
theorem ET {c:List UInt8}{k:Nat}(h:kZ c=some k):∀args w,(callFunc k args).run Tryz.prog w=.ok (.enter k args) w:=by
 rcases Gv h with⟨_,rfl⟩|⟨_,rfl⟩|⟨_,rfl⟩|⟨_,rfl⟩|⟨_,rfl⟩|⟨_,rfl⟩|⟨_,rfl⟩
 ·exact enters_of Tryz.func58 (by kernel_rfl) rfl
 ·exact enters_of Tryz.func59 (by kernel_rfl) rfl
 ·exact enters_of Tryz.func63 (by kernel_rfl) rfl
 ·exact enters_of Tryz.func64 (by kernel_rfl) rfl
 ·exact enters_of Tryz.func62 (by kernel_rfl) rfl
 ·exact enters_of Tryz.func60 (by kernel_rfl) rfl
 ·exact enters_of Tryz.func61 (by kernel_rfl) rfl
theorem jb.far {w:World}{bT glo ghi q:Nat}{g:aB}{a0 a1 a2:Option Addr}{d0 d1 d2:Nat}(h:jb w bT glo ghi g a0 a1 a2 d0 d1 d2)(h1:bT≠q)(h2:q<glo∨ghi<=q)(i:Nat)(v:Value):jb (w.setCell ⟨q,i,none⟩ v) bT glo ghi g a0 a1 a2 d0 d1 d2:=by
 have sp:aJ q (q+1) w (w.setCell ⟨q,i,none⟩ v):=(aJ.refl _ _ _).setCell (Nat.le_refl _) (Nat.lt_succ_self _) _ _
 exact⟨h.tri.far h1 i v,h.rows.agree (sp.agree (by omega)),h.nice,Nat.le_trans h.glt sp.size,h.box,h.cap,Nat.lt_of_lt_of_le h.lt sp.size⟩
theorem xY {w w2:World}{bT glo ghi:Nat}{g:aB}{a0 a1 a2:Option Addr}{d0 d1 d2:Nat}(ht:jb w bT glo ghi g a0 a1 a2 d0 d1 d2)(ht2:jb w2 bT glo ghi g a0 a1 a2 d0 d1 d2)(B2:Below w.heap.size w w2)(v:Value) :
  jb (w2.setCell ⟨w.heap.size,0,none⟩ v) bT glo ghi g a0 a1 a2 d0 d1 d2/\But bT w (w2.setCell ⟨w.heap.size,0,none⟩ v):=
 ⟨ht2.far (Nat.ne_of_lt ht.lt) (.inr ht.glt) 0 v,(But.of_below B2).setOut (Nat.le_refl _) 0 v⟩
def GI (c:List UInt8):Prop:=∀(k:Nat),kZ c=some k->∀(bT glo ghi:Nat) (g:aB) (a0 a1 a2 a:Option Addr) (d0 d1 d2 cap:Nat) (r:List ByteArray) (w:World),jb w bT glo ghi g a0 a1 a2 d0 d1 d2->AP w a cap r->∀(u:TypeId) (pv:Value),yw w u pv->∀w00:World,w00.heap.size<=bT->Below w00.heap.size w00 w->yw w00 u pv ->
  Calls Tryz.prog k #[.pointer (some ⟨bT,0,none⟩),.slice a r.length cap] w fun e w'=>MK (fD g c r) u pv w w' bT glo ghi g e/\But bT w w'
set_option maxHeartbeats 3200000 in
theorem Jc (bT glo ghi:Nat)(g:aB)(a0 a1 a2:Option Addr)(d0 d1 d2:Nat)(l:ByteArray)(w:World)(ht:jb w bT glo ghi g a0 a1 a2 d0 d1 d2)(hl:l.size<=3000)(u:TypeId)(pv:Value)(henv:yw w u pv)(w00:World)(h00:w00.heap.size<=bT)(b00:Below w00.heap.size w00 w)(henv0:yw w00 u pv)(hcc:∀u0 r,aZ 32 l=u0::r->GI (bl u0)) :
  Calls Tryz.prog 22 #[.pointer (some ⟨bT,0,none⟩),.string l] w fun e w'=>NK w w' bT glo ghi g l e/\But bT w w':=by
 have hmf:∀(fn:Fn) (first cap:Array Value) (w:World),(Instr.makeFunc fn first cap).run Tryz.prog w=.ok (.func fn first cap) w:=fun _ _ _ _=>rfl
 have bx:Below w.heap.size w (w.alloc (.cells #[.string ⟨#[]⟩] 9)):=(Below.refl _ _).alloc (Nat.le_refl _) _
 have cS:=zJ 32 l (w.alloc (.cells #[.string ⟨#[]⟩] 9)) (by omega)
 go_enter_defers Tryz.func22,Tryz.ntmps22
 go_wp2_with (go_at_call 20;refine cS.mono ?_)
 rintro e w1 ⟨⟨b,cap,rfl,hrow,hcp,hcp2,hnew⟩,b1⟩
 have hx0:(w.alloc (.cells #[.string ⟨#[]⟩] 9)).cell? ⟨w.heap.size,0,none⟩=some (.string ⟨#[]⟩):=by simp[go_sem]
 have hx1:(w.alloc (.cells #[.string ⟨#[]⟩] 9)).frozen? ⟨w.heap.size,0,none⟩=false:=by simp[go_sem]
 have hxl:w.heap.size<(w.alloc (.cells #[.string ⟨#[]⟩] 9)).heap.size:=by simp
 have hnew2:w.heap.size<b:=Nat.lt_of_lt_of_le hxl hnew
 have B1:Below w.heap.size w w1:=bx.trans (b1.mono bx.size)
 have t0:=ae b1 hxl hx0
 have tf:w1.frozen? ⟨w.heap.size,0,none⟩=false:=by rw[World.frozen?_of_block (b1.block _ hxl)];exact hx1
 have zT:w.heap.size<w1.heap.size:=Nat.lt_of_lt_of_le hxl b1.size
 obtain⟨u0,r,hur⟩:∃u0 r,aZ 32 l=u0::r:=List.exists_cons_of_ne_nil (FM 32 l)
 have hsz:=sH 32 l
 have hfree:∀x∈aZ 32 l,(32:UInt8)∉bl x:=fun x hx=>zn hx
 have HCC:Hid (GI (bl u0)):=hcc u0 r hur
 clear hcc
 rw[hur]at hrow hcp hsz hfree
 have HU:Hid (aZ 32 l=u0::r):=hur
 rw[hur]
 have ht1:=ht.below B1
 have hen1:=henv.below B1
 have B01:=b00.trans (B1.mono b00.size)
 have hu0:u0.size<=100000:=by have:=hsz.2 u0 (List.mem_cons_self ..);omega
 simp only[List.length_cons]at hcp hsz
 obtain⟨b',o',eq,hblt,cw⟩:=hrow 0 (by simp)
 obtain⟨rfl,rfl⟩:b=b'/\0=o':=by simpa using eq
 have cw:w1.cell? ⟨b,0,none⟩=some (.string u0):=cw
 have hwr:∀q cq,(q=some ⟨b,1,none⟩∨r=[])->r.length<=cq->cq<=maxLen->AP w1 q cq r:=fun q cq hq h1 h2=>by
  refine⟨?_,by omega,fun x hx=>by have:=hsz.2 x (List.mem_cons_of_mem _ hx);omega,h1,h2,fun x hx=>hfree x (List.mem_cons_of_mem _ hx)⟩
  rcases hq with rfl|rfl
  ·exact(dQ.drop hrow 1:dQ w1 (some ⟨b,0+1,none⟩) ((u0::r).drop 1))
  ·exact DD _ _
 clear eq hrow hfree hur cS b1 hx0 hx1 hxl bx
 have hpos:(0:Int)<(r.length:Int)+1:=by omega
 have hp1:(1:Int)<=(r.length:Int)+1:=by omega
 go_wp2_with fail
 refine lm (by kernel_rfl) (by kernel_rfl) (fun f act x=>∃(bC nC:Nat) (v6 v7 v11 v12 v13 v14 v15 v16 v17 v18:Value),act={ tmps:=#[Value.pointer (some { block:=bT,off:=0 }),Value.string l,undef,undef,Value.pointer (some { block:=w.heap.size,off:=0 }),Value.slice (some { block:=b,off:=0 }) (r.length+1) cap,v6,v7,Value.func (Fn.func 37) #[] #[Value.pointer (some { block:=w.heap.size,off:=0 })],Value.string l,Value.slice (some { block:=b,off:=0 }) (r.length+1) cap,v11,v12,v13,v14,v15,v16,v17,v18,undef,undef,undef,undef,undef,undef,undef],defers:=[{ target:=Target.fn (Fn.func 37) #[Value.pointer (some { block:=w.heap.size,off:=0 })],args:=#[] }] }/\Fc w1 (.slice (some ⟨b,0,none⟩) (r.length+1) cap) (.pointer (some ⟨b,0,none⟩)) u0 f bC nC v6 v7 v11 v12 v13 v14 v15 v16 v17 v18 x) ?start ?step ?fin
 case start=>
  refine⟨0,0,_,_,_,_,_,_,_,_,_,_,rfl, ?_⟩
  exact{ bel:=(Below.refl _ _).drew,k0:=(fun h=>by cases h),k1:=(fun h=>by cases h),k2:=(fun h=>by cases h),k3:=(fun h=>by cases h),k4:=(fun h=>by cases h),k5:=(fun h=>by cases h),k6:=(fun h=>by cases h),k7:=(fun h=>by cases h),k8:=(fun h=>by cases h),k9:=(fun h=>by cases h) }
 case step=>
  rintro f act x j ⟨bC,nC,v6,v7,v11,v12,v13,v14,v15,v16,v17,v18,rfl,hF⟩ hj hfj hwt
  have hj':j<10:=hj
  have z1:=ae hF.bel hblt cw
  rcases(by omega:j=0∨j=1∨j=2∨j=3∨j=4∨j=5∨j=6∨j=7∨j=8∨j=9)with rfl|rfl|rfl|rfl|rfl|rfl|rfl|rfl|rfl|rfl
  ·refine ax rfl (by kernel_rfl) ?_
   go_simp
   refine Calls.mono (Ag x) ?_
   rintro e x' ⟨⟨bC',nC',rfl,hlC,hC⟩,bx⟩
   have hF':=hF.below bx
   exact⟨bC',nC',_,_,_,_,_,_,_,_,_,_,⟨rfl,rfl,rfl,rfl,rfl,rfl,rfl,rfl,rfl,rfl⟩,{ hF' with k0:=fun _=>⟨rfl,hC⟩ }⟩
  ·refine ax rfl (by kernel_rfl) ?_
   go_simp
   exact⟨bC,nC,_,_,_,_,_,_,_,_,_,_,⟨rfl,rfl,rfl,rfl,rfl,rfl,rfl,rfl,rfl,rfl⟩,{ hF with k1:=fun _=>rfl }⟩
  ·have h1:f 1=true:=hwt 1 (of_decide_eq_true (by kernel_rfl))
   obtain rfl:=hF.k1 h1
   refine ax rfl (by kernel_rfl) ?_
   go_simp
   exact⟨bC,nC,_,_,_,_,_,_,_,_,_,_,⟨rfl,rfl,rfl,rfl,rfl,rfl,rfl,rfl,rfl,rfl⟩,{ hF with k2:=fun _=>rfl }⟩
  ·have h2:f 2=true:=hwt 2 (of_decide_eq_true (by kernel_rfl))
   obtain rfl:=hF.k2 h2
   refine ax rfl (by kernel_rfl) ?_
   go_simp
   exact⟨bC,nC,_,_,_,_,_,_,_,_,_,_,⟨rfl,rfl,rfl,rfl,rfl,rfl,rfl,rfl,rfl,rfl⟩,{ hF with k3:=fun _=>rfl }⟩
  ·have h0:f 0=true:=hwt 0 (of_decide_eq_true (by kernel_rfl))
   have h3:f 3=true:=hwt 3 (of_decide_eq_true (by kernel_rfl))
   obtain⟨rfl,hC⟩:=hF.k0 h0
   obtain rfl:=hF.k3 h3
   have hl2:=hC.looks u0 hu0
   refine ax rfl (by kernel_rfl) ?_
   go_simp
   exact⟨bC,nC,_,_,_,_,_,_,_,_,_,_,⟨rfl,rfl,rfl,rfl,rfl,rfl,rfl,rfl,rfl,rfl⟩,{ hF with k4:=fun _=>rfl }⟩
  ·have h4:f 4=true:=hwt 4 (of_decide_eq_true (by kernel_rfl))
   obtain rfl:=hF.k4 h4
   refine ax rfl (by kernel_rfl) ?_
   go_simp
   exact⟨bC,nC,_,_,_,_,_,_,_,_,_,_,⟨rfl,rfl,rfl,rfl,rfl,rfl,rfl,rfl,rfl,rfl⟩,{ hF with k5:=fun _=>rfl }⟩
  ·have h5:f 5=true:=hwt 5 (of_decide_eq_true (by kernel_rfl))
   obtain rfl:=hF.k5 h5
   refine ax rfl (by kernel_rfl) ?_
   go_simp
   exact⟨bC,nC,_,_,_,_,_,_,_,_,_,_,⟨rfl,rfl,rfl,rfl,rfl,rfl,rfl,rfl,rfl,rfl⟩,{ hF with k6:=fun _=>rfl }⟩
  ·have h5:f 5=true:=hwt 5 (of_decide_eq_true (by kernel_rfl))
   obtain rfl:=hF.k5 h5
   refine ax rfl (by kernel_rfl) ?_
   go_simp
   exact⟨bC,nC,_,_,_,_,_,_,_,_,_,_,⟨rfl,rfl,rfl,rfl,rfl,rfl,rfl,rfl,rfl,rfl⟩,{ hF with k7:=fun _=>rfl }⟩
  ·have h6:f 6=true:=hwt 6 (of_decide_eq_true (by kernel_rfl))
   obtain rfl:=hF.k6 h6
   refine ax rfl (by kernel_rfl) ?_
   go_simp
   exact⟨bC,nC,_,_,_,_,_,_,_,_,_,_,⟨rfl,rfl,rfl,rfl,rfl,rfl,rfl,rfl,rfl,rfl⟩,{ hF with k8:=fun _=>rfl }⟩
  ·have h7:f 7=true:=hwt 7 (of_decide_eq_true (by kernel_rfl))
   obtain rfl:=hF.k7 h7
   refine ax rfl (by kernel_rfl) ?_
   go_simp
   exact⟨bC,nC,_,_,_,_,_,_,_,_,_,_,⟨rfl,rfl,rfl,rfl,rfl,rfl,rfl,rfl,rfl,rfl⟩,{ hF with k9:=fun _=>rfl }⟩
 case fin=>
  rintro f act w2 ⟨bC,nC,v6,v7,v11,v12,v13,v14,v15,v16,v17,v18,rfl,hF⟩ hall
  obtain rfl:=hF.k1 (hall 1 (of_decide_eq_true (by kernel_rfl)))
  obtain rfl:=hF.k2 (hall 2 (of_decide_eq_true (by kernel_rfl)))
  obtain rfl:=hF.k3 (hall 3 (of_decide_eq_true (by kernel_rfl)))
  obtain rfl:=hF.k4 (hall 4 (of_decide_eq_true (by kernel_rfl)))
  obtain rfl:=hF.k5 (hall 5 (of_decide_eq_true (by kernel_rfl)))
  obtain rfl:=hF.k6 (hall 6 (of_decide_eq_true (by kernel_rfl)))
  obtain rfl:=hF.k7 (hall 7 (of_decide_eq_true (by kernel_rfl)))
  obtain rfl:=hF.k8 (hall 8 (of_decide_eq_true (by kernel_rfl)))
  obtain rfl:=hF.k9 (hall 9 (of_decide_eq_true (by kernel_rfl)))
  obtain⟨rfl,_⟩:=hF.k0 (hall 0 (of_decide_eq_true (by kernel_rfl)))
  have b2d:=hF.bel
  have B2:Below w.heap.size w w2:=B1.trans (b2d.mono B1.size)
  have ht2:=ht1.below b2d
  have hen2:=hen1.below b2d
  have B02:=B01.trans (b2d.mono B01.size)
  have t02:=ae b2d zT t0
  have tf2:w2.frozen? ⟨w.heap.size,0,none⟩=false:=by rw[World.frozen?_of_block (b2d.block _ zT)];exact tf
  have zT2:=Nat.lt_of_lt_of_le zT b2d.size
  have hgv:=hen2.env.giv
  clear hF hall
  cases hcf:kZ (bl u0)with
  |none=>
   have HT:Hid (fD g (bl u0) r g tQ):=Ei hcf
   clear hcf
   simp only[Option.isSome_none]
   go_wp2_with (go_at_call 39;refine(wK u pv _ hgv).mono ?_;rintro e w3 ⟨rfl,rfl⟩)
   refine leaves_cons (f:=37) (args:=#[.pointer (some ⟨w.heap.size,0,none⟩)]) (by simp) (by simp[go_sem]) ?_
   refine(sO ⟨w.heap.size,0,none⟩ ⟨#[]⟩ u pv [] _ t02 tf2).mono ?_
   rintro e u' w'' ⟨rfl,rfl,rfl⟩
   have hR:=xY ht ht2 B2 (.string ⟨#[63]⟩)
   simp[Leaves,settle,results,Tryz.results22,go_sem,t02]
   exact⟨⟨_,g,glo,ghi,a0,a1,a2,d0,d1,d2,rfl,⟨u0,r,HU.out,HT.out⟩,hR.1,.inl ⟨rfl,rfl⟩⟩,hR.2⟩
  |some k=>
   have hv:BP (bl u0)=.func (Fn.func k) #[] #[]:=by unfold BP;rw[hcf]
   have hent:=ET hcf
   simp only[hv,Option.isSome_some]
   by_cases hc1:cap=1
   ·subst hc1
    obtain rfl:r=[]:=List.length_eq_zero_iff.1 (by omega)
    have cC:=HCC.out _ hcf bT glo ghi g a0 a1 a2 (some ⟨b,0,none⟩) d0 d1 d2 0 [] w2 ht2 ((hwr (some ⟨b,0,none⟩) 0 (.inr rfl) (Nat.le_refl _) (Nat.zero_le _)).below b2d) u pv hen2 w00 h00 B02 henv0
    clear hcf hv hwr
    go_wp2_with (first|(go_at_call 39;refine(o7 _).mono ?_;rintro e w3 ⟨rfl,rfl⟩)|(go_at_fn k;refine cC.mono ?_))
    rintro e w3 ⟨hG,hbt⟩
    have hne:w.heap.size≠bT:=Nat.ne_of_gt ht.lt
    rcases hG with⟨s,g',glo',ghi',p0,p1,p2,k0,k1,k2,rfl,hT,ht3,hlo⟩|⟨hT,rfl,b3⟩
    ·have t03:w3.cell? ⟨w.heap.size,0,none⟩=some (.string ⟨#[]⟩):=by rw[hbt.cell 0 zT2 hne];exact t02
     have tf3:w3.frozen? ⟨w.heap.size,0,none⟩=false:=by rw[hbt.frozen 0 zT2 hne];exact tf2
     have HT:Hid (fD g (bl u0) [] g' (bl s)):=hT
     have HBT:Hid (But bT w (w3.setCell ⟨w.heap.size,0,none⟩ (.string s))):=((But.of_below B2).trans hbt).setOut (Nat.le_refl _) 0 _
     have HT3:Hid (jb (w3.setCell ⟨w.heap.size,0,none⟩ (.string s)) bT glo' ghi' g' p0 p1 p2 k0 k1 k2):=ht3.far (Nat.ne_of_lt ht.lt) (by have:=ht.glt;omega) 0 _
     have HLO:Hid ((glo'=glo/\ghi'=ghi)∨w.heap.size<=glo'):=by have:=B2.size;unfold Hid;omega
     clear hT hbt ht3 hlo cC hent
     go_wp2_with fail
     refine leaves_cons (f:=37) (args:=#[.pointer (some ⟨w.heap.size,0,none⟩)]) (by simp) (by simp[go_sem]) ?_
     refine(DJ ⟨w.heap.size,0,none⟩ _).mono ?_
     rintro e u' w'' ⟨rfl,rfl,rfl⟩
     simp[Leaves,settle,results,Tryz.results22,go_sem,t03]
     exact⟨⟨_,g',glo',ghi',p0,p1,p2,k0,k1,k2,rfl,⟨u0,[],HU.out,HT.out⟩,HT3.out,HLO.out⟩,HBT.out⟩
    ·have t03:=ae b3 zT2 t02
     have tf3:w3.frozen? ⟨w.heap.size,0,none⟩=false:=by rw[World.frozen?_of_block (b3.block _ zT2)];exact tf2
     have HT:Hid (fD g (bl u0) [] g tQ):=hT
     have ht3:=ht2.below b3
     have B3:Below w.heap.size w w3:=B2.trans (b3.mono B2.size)
     have hR:=xY ht ht3 B3 (.string ⟨#[63]⟩)
     unfold Jg
     clear hT hbt cC hent
     refine leaves_cons (f:=37) (args:=#[.pointer (some ⟨w.heap.size,0,none⟩)]) (by simp) (by simp[go_sem]) ?_
     refine(sO ⟨w.heap.size,0,none⟩ ⟨#[]⟩ u pv [] _ t03 tf3).mono ?_
     rintro e u' w'' ⟨rfl,rfl,rfl⟩
     simp[Leaves,settle,results,Tryz.results22,go_sem,t03]
     exact⟨⟨_,g,glo,ghi,a0,a1,a2,d0,d1,d2,rfl,⟨u0,[],HU.out,HT.out⟩,hR.1,.inl ⟨rfl,rfl⟩⟩,hR.2⟩
   have hc2:¬cap-1=0:=by omega
   have cC:=HCC.out _ hcf bT glo ghi g a0 a1 a2 (some ⟨b,1,none⟩) d0 d1 d2 (cap-1) r w2 ht2 ((hwr (some ⟨b,1,none⟩) (cap-1) (.inl rfl) (by omega) (by unfold maxLen;omega)).below b2d) u pv hen2 w00 h00 B02 henv0
   clear hcf hv hwr
   go_wp2_with (first|(go_at_call 39;refine(o7 _).mono ?_;rintro e w3 ⟨rfl,rfl⟩)|(go_at_fn k;refine cC.mono ?_))
   rintro e w3 ⟨hG,hbt⟩
   have hne:w.heap.size≠bT:=Nat.ne_of_gt ht.lt
   rcases hG with⟨s,g',glo',ghi',p0,p1,p2,k0,k1,k2,rfl,hT,ht3,hlo⟩|⟨hT,rfl,b3⟩
   ·have t03:w3.cell? ⟨w.heap.size,0,none⟩=some (.string ⟨#[]⟩):=by rw[hbt.cell 0 zT2 hne];exact t02
    have tf3:w3.frozen? ⟨w.heap.size,0,none⟩=false:=by rw[hbt.frozen 0 zT2 hne];exact tf2
    have HT:Hid (fD g (bl u0) r g' (bl s)):=hT
    have HBT:Hid (But bT w (w3.setCell ⟨w.heap.size,0,none⟩ (.string s))):=((But.of_below B2).trans hbt).setOut (Nat.le_refl _) 0 _
    have HT3:Hid (jb (w3.setCell ⟨w.heap.size,0,none⟩ (.string s)) bT glo' ghi' g' p0 p1 p2 k0 k1 k2):=ht3.far (Nat.ne_of_lt ht.lt) (by have:=ht.glt;omega) 0 _
    have HLO:Hid ((glo'=glo/\ghi'=ghi)∨w.heap.size<=glo'):=by have:=B2.size;unfold Hid;omega
    clear hT hbt ht3 hlo cC hent
    go_wp2_with fail
    refine leaves_cons (f:=37) (args:=#[.pointer (some ⟨w.heap.size,0,none⟩)]) (by simp) (by simp[go_sem]) ?_
    refine(DJ ⟨w.heap.size,0,none⟩ _).mono ?_
    rintro e u' w'' ⟨rfl,rfl,rfl⟩
    simp[Leaves,settle,results,Tryz.results22,go_sem,t03]
    exact⟨⟨_,g',glo',ghi',p0,p1,p2,k0,k1,k2,rfl,⟨u0,r,HU.out,HT.out⟩,HT3.out,HLO.out⟩,HBT.out⟩
   ·have t03:=ae b3 zT2 t02
    have tf3:w3.frozen? ⟨w.heap.size,0,none⟩=false:=by rw[World.frozen?_of_block (b3.block _ zT2)];exact tf2
    have HT:Hid (fD g (bl u0) r g tQ):=hT
    have ht3:=ht2.below b3
    have B3:Below w.heap.size w w3:=B2.trans (b3.mono B2.size)
    have hR:=xY ht ht3 B3 (.string ⟨#[63]⟩)
    unfold Jg
    clear hT hbt cC hent
    refine leaves_cons (f:=37) (args:=#[.pointer (some ⟨w.heap.size,0,none⟩)]) (by simp) (by simp[go_sem]) ?_
    refine(sO ⟨w.heap.size,0,none⟩ ⟨#[]⟩ u pv [] _ t03 tf3).mono ?_
    rintro e u' w'' ⟨rfl,rfl,rfl⟩
    simp[Leaves,settle,results,Tryz.results22,go_sem,t03]
    exact⟨⟨_,g,glo,ghi,a0,a1,a2,d0,d1,d2,rfl,⟨u0,r,HU.out,HT.out⟩,hR.1,.inl ⟨rfl,rfl⟩⟩,hR.2⟩
structure CJ (w wL wr:World) (bT bB glo ghi:Nat) (g:aB) (a0 a1 a2:Option Addr) (d0 d1 d2:Nat) (v:Value) (o:List UInt8):Prop where
 tab:jb wr bT glo ghi g a0 a1 a2 d0 d1 d2
 bui:BJ w.heap.size wr bB v o
 row:∀q,v.ownBlock=some q->wL.heap.size<=q/\(q<glo∨ghi<=q)
 old:∀q,q<wL.heap.size->q≠bT->q≠bB->wr.heap[q]?=wL.heap[q]?
 low:wL.heap.size<=glo
 bel:Below w.heap.size w wr
 size:wL.heap.size<=wr.heap.size
 bt:w.heap.size<=bT/\bT<wL.heap.size
 bb:w.heap.size<=bB/\bB<wL.heap.size
 ne:bT≠bB
theorem CJ.told {w wL wr w1:World}{bT bB glo ghi glo' ghi':Nat}{g g':aB}{a0 a1 a2 b0 b1 b2:Option Addr}{d0 d1 d2 e0 e1 e2:Nat}{v:Value}{o:List UInt8}(h:CJ w wL wr bT bB glo ghi g a0 a1 a2 d0 d1 d2 v o)
  (hb:But bT wr w1) (ht:jb w1 bT glo' ghi' g' b0 b1 b2 e0 e1 e2) (hl:(glo'=glo/\ghi'=ghi)∨wr.heap.size<=glo'):CJ w wL w1 bT bB glo' ghi' g' b0 b1 b2 e0 e1 e2 v o:=by
 have hs:=h.size
 have hbt:=h.bt
 have hbb:=h.bb
 have hne:=h.ne
 have hz:=h.bel.size
 have hrow:∀q,v.ownBlock=some q->w1.heap[q]?=wr.heap[q]?:=fun q e=>hb.block q (h.bui.row q e).2 (by have:=(h.row q e).1;omega)
 refine⟨ht,⟨h.bui.ge, ?_,vG h.bui.own hrow,h.bui.ne⟩,fun q e=>?_,fun q h1 h2 h3=>?_, ?_,h.bel.trans (hb.below hbt.1 hz),Nat.le_trans hs hb.size,hbt,hbb,hne⟩
 ·obtain⟨p,hp,hbx⟩:=h.bui.box
  exact⟨p,hp,by rw[hb.block bB (by omega) (Ne.symm hne)];exact hbx⟩
 ·obtain⟨q1,q2⟩:=h.row q e
  have q3:=(h.bui.row q e).2
  refine⟨q1, ?_⟩
  rcases hl with⟨rfl,rfl⟩|hl
  ·exact q2
  ·left;omega
 ·rw[hb.block q (by omega) h2]
  exact h.old q h1 h2 h3
 ·rcases hl with⟨rfl,rfl⟩|hl
  ·exact h.low
  ·omega
theorem CJ.wrote {w wL wr w1:World}{bT bB glo ghi:Nat}{g:aB}{a0 a1 a2:Option Addr}{d0 d1 d2:Nat}{v v':Value}{o o':List UInt8}(h:CJ w wL wr bT bB glo ghi g a0 a1 a2 d0 d1 d2 v o)
  (hE:JE w.heap.size wr w1 bB v v' o'):CJ w wL w1 bT bB glo ghi g a0 a1 a2 d0 d1 d2 v' o':=by
 have hs:=h.size
 have hbt:=h.bt
 have hbb:=h.bb
 have hne:=h.ne
 have hlow:=h.low
 have hglt:=h.tab.glt
 have hz:=h.bel.size
 have hT:w1.heap[bT]?=wr.heap[bT]?:=hE.keep bT (by omega) hne (fun e=>by have:=(h.row bT e).1;omega)
 refine⟨⟨?_,h.tab.rows.agree ⟨hE.size,fun k k1 k2 k3=>hE.keep k k3 (by omega) (fun e=>by have:=(h.row k e).2;omega)⟩,h.tab.nice,Nat.le_trans hglt hE.size,h.tab.box,h.tab.cap,Nat.lt_of_lt_of_le h.tab.lt hE.size⟩,hE.bui,fun q e=>?_,fun q h1 h2 h3=>?_,hlow,h.bel.trans hE.bel,Nat.le_trans hs hE.size,hbt,hbb,hne⟩
 ·obtain⟨q0,q1,q2,q3,q4,q5⟩:=h.tab.tri
  exact⟨by rw[World.cell?_of_block hT];exact q0,by rw[World.cell?_of_block hT];exact q1,by rw[World.cell?_of_block hT];exact q2,by rw[World.frozen?_of_block hT];exact q3,by rw[World.frozen?_of_block hT];exact q4,by rw[World.frozen?_of_block hT];exact q5⟩
 ·rcases hE.at_ q e with h1|h1
  ·exact h.row q h1
  ·exact⟨by omega,.inr (by omega)⟩
 ·rw[hE.keep q (by omega) h3 (fun e=>by have:=(h.row q e).1;omega)]
  exact h.old q h1 h2 h3
theorem dQ.kept {wL wr:World}{a:Option Addr}{l:List ByteArray}{bT bB:Nat}(h:dQ wL a l)(hold:∀q,q<wL.heap.size->q≠bT->q≠bB->wr.heap[q]?=wL.heap[q]?)(hs:wL.heap.size<=wr.heap.size)(hf:∀b o,a=some ⟨b,o,none⟩->b≠bT/\b≠bB):dQ wr a l:=fun k hk=>by
 obtain⟨b,o,e,hb,hc⟩:=h k hk
 obtain⟨f1,f2⟩:=hf b o e
 exact⟨b,o,e,by omega,by rw[World.cell?_of_block (hold b hb f1 f2)];exact hc⟩
def KT (t:ByteArray)(e:Ending):Prop:=∃s,e=.returned (.string s)/\lT t s
set_option maxHeartbeats 3200000 in
theorem DF (t:ByteArray)(w:World)(u:TypeId)(pv:Value)(hall:yw w u pv)(hcc:∀l∈aZ 10 t,bl l≠[]->∀u0 r,aZ 32 l=u0::r->GI (bl u0)) :
  Calls Tryz.prog 8 #[.string t] w fun e w'=>KT t e/\Below w.heap.size w w':=by
 have HCC:Hid (∀l∈aZ 10 t,bl l≠[]->∀u0 r,aZ 32 l=u0::r->GI (bl u0)):=hcc
 clear hcc
 go_enter Tryz.func8,Tryz.ntmps8
 by_cases hl:3000<t.size
 ·have HL:Hid (KT t (.returned (.string ⟨#[108,111,110,103,10]⟩))):=⟨_,rfl,.inl ⟨.inl hl,rfl⟩⟩
  have hl':(3000:Int)<(t.size:Int):=by omega
  go_wp2_with fail
  go_ret
  exact⟨HL.out,Below.refl _ _⟩
 have hl':¬(3000:Int)<(t.size:Int):=by omega
 have hlen:=LC 10 t
 have cC:=(Tryz.strings_Count_one t 10 w).mono fun _ _ h=>(⟨h.1,h.2.symm⟩:_/\w=_)
 have hcb:Lib.countByte t.data.toList 10=(bl t).count 10:=rfl
 rw[hcb]at cC
 obtain⟨N,hN⟩:∃N,(bl t).count 10=N:=⟨_,rfl⟩
 rw[hN]at cC hlen
 have hN1:=(sH 10 t).1
 have HLEN:Hid ((aZ 10 t).length=N+1):=hlen
 have hNb:N<=3000:=by omega
 by_cases hm:80<N+1
 ·have HL:Hid (KT t (.returned (.string ⟨#[108,111,110,103,10]⟩))):=⟨_,rfl,.inl ⟨.inr (by rw[hlen];exact hm),rfl⟩⟩
  have hm':(80:Int)<(N:Int)+1:=by omega
  clear hlen hN hcb hN1 HLEN
  go_wp2_with (go_at_call 19;refine cC.mono ?_;rintro e w3 ⟨rfl,rfl⟩)
  go_ret
  exact⟨HL.out,Below.refl _ _⟩
 have hm':¬(80:Int)<(N:Int)+1:=by omega
 have HNL:Hid (¬xh t):=fun h=>by rcases h with h|h <;> omega
 obtain⟨W0,hW0⟩:∃W0,(w.alloc (.cells #[.slice none 0 0,.slice none 0 0,.slice none 0 0] 58)).alloc (.cells #[.pointer none,.slice none 0 0] 61)=W0:=⟨_,rfl⟩
 have cS:=zJ 10 t W0 (by omega)
 have hz:W0.heap.size=w.heap.size+2:=by rw[<- hW0];simp
 have B0:Below w.heap.size w W0:=by rw[<- hW0];exact((Below.refl _ _).alloc (Nat.le_refl _) _).alloc (by simp) _
 have tT:iy W0 w.heap.size (.slice none 0 0) (.slice none 0 0) (.slice none 0 0):=by rw[<- hW0];constructor <;> simp[go_sem]
 have hbB:W0.heap[w.heap.size+1]?=some (.cells #[.pointer none,.slice none 0 0] 61 (0,0)):=by
  rw[<- hW0]
  have e:(w.alloc (.cells #[.slice none 0 0,.slice none 0 0,.slice none 0 0] 58)).heap.size=w.heap.size+1:=by simp
  rw[<- e]
  unfold World.alloc
  exact Array.getElem?_push_size
 have HW0:Hid ((w.alloc (.cells #[.slice none 0 0,.slice none 0 0,.slice none 0 0] 58)).alloc (.cells #[.pointer none,.slice none 0 0] 61)=W0):=hW0
 have z0:w.heap.size<W0.heap.size:=by omega
 have z1:w.heap.size+1<W0.heap.size:=by omega
 clear hlen hN hcb hN1 hW0 hz
 go_wp2_with (first|rw[HW0.out]|(go_at_call 19;refine cC.mono ?_;rintro e w3 ⟨rfl,rfl⟩)|(go_at_call 20;refine cS.mono ?_))
 rintro e wL ⟨⟨bL,capL,rfl,hrow,hcp,hcp2,hnew⟩,bl1⟩
 have BL:Below w.heap.size w wL:=B0.trans (bl1.mono B0.size)
 have tTL:=tT.keep bl1
 have hbL:wL.heap[w.heap.size+1]?=some (.cells #[.pointer none,.slice none 0 0] 61 (0,0)):=by rw[bl1.block _ z1];exact hbB
 have zL0:=Nat.lt_of_lt_of_le z0 bl1.size
 have zL1:=Nat.lt_of_lt_of_le z1 bl1.size
 have hR0:CJ w wL wL w.heap.size (w.heap.size+1) wL.heap.size wL.heap.size fF none none none 0 0 0 (.slice none 0 0) []:=by
  refine⟨⟨tTL,qK _ _ _ _ _ _,nJ,Nat.le_refl _,.inl zL0,⟨Nat.le_refl _,Nat.zero_le _⟩,zL0⟩,⟨Nat.le_succ _,⟨_,.inl rfl,hbL⟩,World.ownsRow_nil _ _ _ _,by simp[Value.ownBlock]⟩,fun q e=>by simp[Value.ownBlock]at e,fun q _ _ _=>rfl,Nat.le_refl _,BL,Nat.le_refl _,⟨Nat.le_refl _,zL0⟩,⟨Nat.le_succ _,zL1⟩,by omega⟩
 have HSZ:Hid (∀x∈aZ 10 t,x.size<=3000):=fun x hx=>by have:=(sH 10 t).2 x hx;omega
 have hn81:(aZ 10 t).length<=81:=by rw[HLEN.out];omega
 obtain⟨ls,hls⟩:∃ls,aZ 10 t=ls:=⟨_,rfl⟩
 have HLS:Hid (aZ 10 t=ls):=hls
 rw[hls]at hrow hcp HSZ hn81 HCC
 rw[hls]
 clear hls cC cS HLEN B0 tT hbB HW0 bl1 tTL hbL
 have hfar:bL≠w.heap.size/\bL≠w.heap.size+1:=by omega
 go_wp2_with fail
 go_loopw [19] (fun i wr=>∃(k glo ghi:Nat) (g:aB) (a0 a1 a2:Option Addr) (d0 d1 d2:Nat) (v:Value) (o:List UInt8),k<=ls.length/\i=.int .i64 k/\CJ w wL wr w.heap.size (w.heap.size+1) glo ghi g a0 a1 a2 d0 d1 d2 v o/\Hid (dX (ls.take k) g o)) (fun i _=>ls.length-(intOf i).toNat)
 case atStart=>exact⟨0,_,_,_,_,_,_,_,_,_,_,_,Nat.zero_le _,rfl,hR0,by rw[List.take_zero];exact .nil⟩
 case round=>
  clear hR0
  obtain⟨k,glo,ghi,g,a0,a1,a2,d0,d1,d2,v,o,hk,rfl,hR,HT⟩:=hrel
  by_cases hlt:k<ls.length
  ·have hrow2:=dQ.kept hrow hR.old hR.size (fun b o e=>by simp only[Option.some.injEq,Addr.mk.injEq]at e;obtain⟨rfl,_⟩:=e;exact hfar)
   obtain⟨b',o',eq,hb',cl⟩:=hrow2 k hlt
   obtain⟨rfl,rfl⟩:bL=b'/\0=o':=by simpa using eq
   rw[Nat.zero_add]at cl
   have k0:(0:Int)<=(k:Int):=by omega
   have k1:(k:Int)<(ls.length:Int):=by omega
   have hst:=yJ hlt HT.out
   have hsz:ls[k].size<=3000:=HSZ.out _ (List.getElem_mem hlt)
   clear eq hrow2
   by_cases he:bl ls[k]=[]
   ·have HT2:Hid (dX (ls.take (k+1)) g o):=hst.1 he
    have heq:(ls[k].toList==[])=true:=by rw[ByteArray.toList_eq];unfold bl at he;rw[he];rfl
    clear hst he
    go_wp2_with fail
    exact⟨⟨k+1,glo,ghi,g,a0,a1,a2,d0,d1,d2,v,o,by omega,by go_num,hR,HT2⟩,by simp[intOf];omega⟩
   ·have heq:(ls[k].toList==[])=false:=by rw[ByteArray.toList_eq,beq_eq_false_iff_ne];exact he
    have hof:=HT.out.facts.2
    have hol:o.length<=81081:=by
     have:(ls.take k).length<=81:=by rw[List.length_take];omega
     have:=Nat.mul_le_mul_right 1001 this
     omega
    have cT:=Jc w.heap.size glo ghi g a0 a1 a2 d0 d1 d2 ls[k] wr hR.tab hsz u pv (hall.below hR.bel) w (Nat.le_refl _) hR.bel hall (HCC.out _ (List.getElem_mem hlt) he)
    have HST:Hid (∀g' t,fP g (aZ 32 ls[k]) g' t->dX (ls.take (k+1)) g' (o++(t++[10]))):=fun g' t h=>hst.2 g' t he h
    have hgn:=hR.tab.nice
    have HGN:Hid (dM g):=hgn
    clear hst he hof hgn
    go_wp2_with (go_at_call 22;refine cT.mono ?_)
    rintro e w2 ⟨⟨s,g',glo',ghi',b0,b1,b2,e0,e1,e2,rfl,hTT,ht2,hlo⟩,hbt⟩
    have hR2:=hR.told hbt ht2 hlo
    have HRT:Hid (dX (ls.take (k+1)) g' (o++(bl s++[10]))):=HST.out _ _ hTT
    have hsl:s.size<=1000:=by
     obtain⟨x,y,_,hz⟩:=hTT
     rw[<- ak]
     exact(hz.facts HGN.out).2
    have zz:=hR2.bel.size
    have cW:=write_any w.heap.size (w.heap.size+1) v o s w2 hR2.bui (by omega) zz
    clear cT hTT hbt ht2 hlo hR HST
    go_wp2_with (go_at_call 21;refine cW.mono ?_)
    rintro e w3 ⟨rfl,v3,hE3⟩
    have hR3:=hR2.wrote hE3
    have zz3:=hR3.bel.size
    have cB:=EX w.heap.size (w.heap.size+1) v3 (o++bl s) w3 hR3.bui (by rw[List.length_append,ak];omega) zz3
    clear cW hE3 hR2
    go_wp2_with (go_at_call 23;refine cB.mono ?_)
    rintro e w4 ⟨rfl,v4,hE4⟩
    have hR4:=hR3.wrote hE4
    rw[List.append_assoc]at hR4
    clear cB hE4 hR3
    go_wp2_with fail
    exact⟨⟨k+1,_,_,g',_,_,_,_,_,_,v4,_,by omega,by go_num,hR4,HRT⟩,by simp[intOf];omega⟩
  ·obtain rfl:k=ls.length:=by omega
   have hRT:=HT.out
   rw[List.take_length]at hRT
   have HE:Hid (KT t (.returned (.string ⟨o.toArray⟩))):=⟨_,rfl,.inr ⟨HNL.out,g,by rw[HLS.out];simpa[bl]using hRT⟩⟩
   have cS:=EJ w.heap.size (w.heap.size+1) v o wr hR.bui hR.bel.size
   have hbw:=hR.bel
   clear hRT HT hR
   go_wp2_with (go_at_call 24;refine cS.mono ?_)
   rintro e w2 ⟨rfl,b2⟩
   go_wp2_with fail
   go_ret
   exact⟨HE.out,hbw.trans b2⟩
end Go.Proofs.YtpfhegengmlkmabGreatDoor
