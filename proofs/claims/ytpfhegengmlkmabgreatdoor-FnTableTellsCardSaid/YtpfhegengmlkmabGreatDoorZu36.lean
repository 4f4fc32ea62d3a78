/- Texts of this claim. -/
import Derived.Carry
import Derived.Test.YtpfhegengmlkmabGreatDoorRows
import Derived.ProofKit
import Derived.OpenShut
import Derived.ChangeOld
import Derived.ChangeSlices
import Derived.Test.YtpfhegengmlkmabGreatDoorZu28
import Derived.Test.YtpfhegengmlkmabGreatDoorZu31
namespace Go.Proofs.YtpfhegengmlkmabGreatDoor
open Go.RowKit Go.BigFrame
set_option maxRecDepth 100000
abbrev fQ:=Int×af
def IX (w:World)(a:Option Addr)(l:List fQ):Prop:=
 ∀k,(h:k<l.length)->∃b o,a=some ⟨b,o,none⟩/\b<w.heap.size/\w.cell? ⟨b,o+k*3,none⟩=some (.int .i64 l[k].1)/\w.cell? ⟨b,o+k*3+1,none⟩=some (.int .i64 l[k].2.1)/\∃v,w.cell? ⟨b,o+k*3+2,none⟩=some v/\lN w v l[k].2.2
def Nk (l:List fQ):Prop:=l.length<=maxLen/\∀j,(h:j<l.length)->uO l[j].2.2
theorem IX.below {w w':World}{a:Option Addr}{l:List fQ}(h:IX w a l)(hb:Below w.heap.size w w'):IX w' a l:=fun k hk=>by
 obtain⟨b,o,ha,hlt,h0,h1,v,h2,h3⟩:=h k hk
 exact⟨b,o,ha,Nat.lt_of_lt_of_le hlt hb.size,by rw[hb.cell hlt];exact h0,by rw[hb.cell hlt];exact h1,v,by rw[hb.cell hlt];exact h2,h3.below hb⟩
theorem iy.span {w w':World}{b lo hi:Nat}{x y z:Value}(h:iy w b x y z)(hs:aJ lo hi w w')(hd:b<lo∨hi<=b):iy w' b x y z:=by
 have hlt:b<w.heap.size:=block_lt_of_cell h.c0
 have e:=hs.block b hlt hd
 exact⟨(World.cell?_of_block (a:=⟨b,0,none⟩) e).trans h.c0,(World.cell?_of_block (a:=⟨b,1,none⟩) e).trans h.c1,(World.cell?_of_block (a:=⟨b,2,none⟩) e).trans h.c2,(World.frozen?_of_block (a:=⟨b,0,none⟩) e).trans h.f0,(World.frozen?_of_block (a:=⟨b,1,none⟩) e).trans h.f1,(World.frozen?_of_block (a:=⟨b,2,none⟩) e).trans h.f2⟩
def GU (w:World)(b n:Nat)(F:ByteArray->Option Nat):Prop:=
 ∃D,w.ownsMap Tryz.prog 9 uk b n D/\Maps.IsMap D/\∀s,(∀k,F s=some k->Maps.has D (lw s)=true/\∀z,D.atKey (lw s) z=.held (.func (Fn.func k) #[] #[]))/\(F s=none->Maps.has D (lw s)=false)
theorem IZ (w:World):GU (w.alloc (.map #[] 0)) w.heap.size 0 (fun _=>none):=⟨.map [],World.ownsMap_made _ _ _ _,Maps.isMap_empty,fun s=>⟨fun k h=>by(cases h),fun _=>rfl⟩⟩
theorem GU.below {w w':World}{b n:Nat}{F:ByteArray->Option Nat}(h:GU w b n F)(hb:Below w.heap.size w w'):GU w' b n F:=by
 obtain⟨D,h1,h2,h3⟩:=h
 exact⟨D,h1.kept (grown_below hb none) (by simp),h2,h3⟩
open Classical in
theorem GU.store {w:World}{b n:Nat}{F:ByteArray->Option Nat}(h:GU w b n F)(hn:n<100)(s:ByteArray)(k:Nat)(hs:s.size<=100) :
  ∃w',(Instr.mapUpdate 89 (.map (some b)) (.string s) (.func (Fn.func k) #[] #[])).run Tryz.prog w=.ok () w'/\GU w' b (n+1) (fun t=>if t=s then some k else F t)/\w.grownBy w' (some b):=by
 obtain⟨D,h1,h2,h3⟩:=h
 obtain⟨w',hrun,r1,r2⟩:=h1.update Tryz.keyed Tryz.underlying89 (by unfold maxLen;omega) (key:=.string s) (val:=.func (Fn.func k) #[] #[]) (kl:=lw s) (d:=.held (.func (Fn.func k) #[] #[])) (ps:=[]) (rO s (by unfold maxLen;omega)) rfl
 refine⟨w',hrun, ?_,r2⟩
 refine⟨_,r1,h2.put _ _,fun t=>?_⟩
 by_cases e:t=s
 ·subst e
  refine⟨fun k' hk=>?_,fun hk=>by simp at hk⟩
  simp only[if_true,Option.some.injEq]at hk
  subst hk
  exact⟨Maps.has_put_same h2 (qU _) _,fun z=>Maps.atKey_put_same h2 (qU _) _ _⟩
 ·have hne:lw t≠lw s:=fun h=>e (xw h)
  refine⟨fun k' hk=>?_,fun hk=>?_⟩
  ·simp only[if_neg e]at hk
   obtain⟨q1,q2⟩:=(h3 t).1 k' hk
   exact⟨by rw[Maps.has_put_other hne];exact q1,fun z=>by rw[Maps.atKey_put_other hne];exact q2 z⟩
  ·simp only[if_neg e]at hk
   rw[Maps.has_put_other hne]
   exact(h3 t).2 hk
theorem Tryz.zeroCmd (w:World):(zeroValue 87).run Tryz.prog w=.ok .nilFunc w:=by kernel_rfl
theorem GU.look {w:World}{b n:Nat}{F:ByteArray->Option Nat}(h:GU w b n F)(s:ByteArray)(hs:s.size<=100000) :
  (∀k,F s=some k->(Instr.lookup 89 (.map (some b)) (.string s) true).run Tryz.prog w=.ok (.tuple #[.func (Fn.func k) #[] #[],.bool true]) w) /\
  (F s=none->(Instr.lookup 89 (.map (some b)) (.string s) true).run Tryz.prog w=.ok (.tuple #[.nilFunc,.bool false]) w):=by
 obtain⟨D,h1,h2,h3⟩:=h
 obtain⟨v,ps,hrun,hv⟩:=h1.look_ok Tryz.keyed Tryz.underlying89 (Tryz.zeroCmd w) (zd:=.held .nilFunc) (zp:=[]) rfl (rO s (by unfold maxLen;omega))
 unfold uk at hv
 simp only[Option.some.injEq,Prod.mk.injEq]at hv
 refine⟨fun k hk=>?_,fun hk=>?_⟩
 ·obtain⟨q1,q2⟩:=(h3 s).1 k hk
  rw[q2]at hv
  obtain rfl:v=_:=by simpa using hv.1
  rw[hrun,q1]
 ·have q:=(h3 s).2 hk
  rw[Maps.atKey_of_not_has q]at hv
  obtain rfl:v=_:=by simpa using hv.1
  rw[hrun,q]
def kZ (c:List UInt8):Option Nat:=
 if c=mF then some 58 else if c=mV then some 59 else if c=xm then some 63 else if c=Bo then some 64
 else if c=Bc then some 62 else if c=vX then some 60 else if c=CS then some 61 else none
def BP (c:List UInt8):Value:=match kZ c with
 |some k=>.func (Fn.func k) #[] #[]
 |none=>.nilFunc
theorem GU.looks {w:World}{b n:Nat}(h:GU w b n (fun s=>kZ (bl s)))(s:ByteArray)(hs:s.size<=100000) :
  (Instr.lookup 89 (.map (some b)) (.string s) true).run Tryz.prog w=.ok (.tuple #[BP (bl s),.bool (kZ (bl s)).isSome]) w:=by
 obtain⟨h1,h2⟩:=h.look s hs
 unfold BP
 cases hc:kZ (bl s)with
 |none=>exact h2 hc
 |some k=>exact h1 k hc
def Nc (w':World)(lo:Nat)(e:Ending):Prop:=∃b n,e=.returned (.map (some b))/\lo<=b/\GU w' b n (fun s=>kZ (bl s))
open Classical in
theorem KQ (F:ByteArray->Option Nat)(h:F=fun t=>if t=⟨#[106,111,105,110]⟩then some 64 else if t=⟨#[111,114,100,101,114]⟩then some 63 else if t=⟨#[108,97,115,116]⟩then some 62
  else if t=⟨#[98,101,115,116]⟩then some 61 else if t=⟨#[99,111,117,110,116]⟩then some 60 else if t=⟨#[112,117,116]⟩then some 59 else if t=⟨#[105,110,115]⟩then some 58 else none):F=fun s=>kZ (bl s):=by
 subst h
 funext t
 have key:∀l:List UInt8,(t=⟨l.toArray⟩)=(bl t=l):=fun l=>propext ⟨fun h=>by rw[h];simp[bl],fun h=>gW (by show bl t=bl ⟨l.toArray⟩;rw[h];simp[bl])⟩
 have k1:=key mF
 have k2:=key mV
 have k3:=key xm
 have k4:=key Bo
 have k5:=key Bc
 have k6:=key vX
 have k7:=key CS
 unfold kZ
 simp only[mF,mV,xm,Bo,Bc,vX,CS]at k1 k2 k3 k4 k5 k6 k7 ⊢
 simp only[k1,k2,k3,k4,k5,k6,k7]
 generalize bl t=l
 by_cases h1:l=[105,110,115]
 ·subst h1;simp
 by_cases h2:l=[112,117,116]
 ·subst h2;simp
 by_cases h3:l=[111,114,100,101,114]
 ·subst h3;simp
 by_cases h4:l=[106,111,105,110]
 ·subst h4;simp
 by_cases h5:l=[108,97,115,116]
 ·subst h5;simp
 by_cases h6:l=[99,111,117,110,116]
 ·subst h6;simp
 by_cases h7:l=[98,101,115,116]
 ·subst h7;simp
 simp[h1,h2,h3,h4,h5,h6,h7]
open Classical in
set_option maxHeartbeats 1600000 in
theorem Ag (w:World):Calls Tryz.prog 38 #[] w fun e w'=>Nc w' w.heap.size e/\Below w.heap.size w w':=by
 have hmm:=@run_makeMap Tryz.prog
 have hc0:=IZ w
 have hb0:Below w.heap.size w (w.alloc (.map #[] 0)):=(Below.refl _ _).alloc (Nat.le_refl _) _
 obtain⟨w1,e1,hc1,g1⟩:=hc0.store (by decide) ⟨#[105,110,115]⟩ 58 (by decide)
 obtain⟨w2,e2,hc2,g2⟩:=hc1.store (by decide) ⟨#[112,117,116]⟩ 59 (by decide)
 obtain⟨w3,e3,hc3,g3⟩:=hc2.store (by decide) ⟨#[99,111,117,110,116]⟩ 60 (by decide)
 obtain⟨w4,e4,hc4,g4⟩:=hc3.store (by decide) ⟨#[98,101,115,116]⟩ 61 (by decide)
 obtain⟨w5,e5,hc5,g5⟩:=hc4.store (by decide) ⟨#[108,97,115,116]⟩ 62 (by decide)
 obtain⟨w6,e6,hc6,g6⟩:=hc5.store (by decide) ⟨#[111,114,100,101,114]⟩ 63 (by decide)
 obtain⟨w7,e7,hc7,g7⟩:=hc6.store (by decide) ⟨#[106,111,105,110]⟩ 64 (by decide)
 rw[KQ _ rfl]at hc7
 have HC:Hid (Nc w7 w.heap.size (.returned (.map (some w.heap.size)))):=⟨_,_,rfl,Nat.le_refl _,hc7⟩
 have st:∀{x y:World},Below w.heap.size w x->x.grownBy y (some w.heap.size)->Below w.heap.size w y:=fun h g=>h.grown g h.size (fun q hq=>by cases hq;exact Nat.le_refl _)
 have HB:Hid (Below w.heap.size w w7):=st (st (st (st (st (st (st hb0 g1) g2) g3) g4) g5) g6) g7
 clear hc0 hc1 hc2 hc3 hc4 hc5 hc6 hc7 g1 g2 g3 g4 g5 g6 g7 st hb0
 go_enter Tryz.func38,Tryz.ntmps38
 go_wp2_with fail
 go_ret
 exact⟨HC.out,HB.out⟩
end Go.Proofs.YtpfhegengmlkmabGreatDoor
namespace Go.Proofs.YtpfhegengmlkmabGreatDoor
open Go.ChangeShapes Go.WideShapes Go.ChangeAt Go.RowKit
theorem Tryz.cells5:Tryz.prog.cellsOf 5=1:=by kernel_rfl
theorem Tryz.own:ownKnob Tryz.prog.godebug=none:=by kernel_rfl
theorem Tryz.laidOut:laidOutB Tryz.prog=true:=by kernel_rfl
theorem open_bytes {H:Type}{enc:TypeId×Value->H}{W:World}{a:Option Addr}{len cap:Nat}{d:DataW H}{ps:List MemPlace}
  (h:DataW.Trod enc Tryz.prog W 0 (fun _=>true) true 22 (.slice a len cap) d ps):Bytes W a len cap/\len<=maxLen:=by
 obtain⟨fuel,hf⟩:=h
 rcases open_ints Tryz.underlying22 Tryz.underlying5 Tryz.cells5 hf with⟨hcs,_⟩|hh
 ·simp[Value.cells]at hcs
  obtain⟨rfl,rfl,rfl⟩:=hcs
  exact⟨⟨Nat.le_refl _,fun k h=>absurd h (Nat.not_lt_zero k)⟩,Nat.zero_le _⟩
 ·obtain⟨x,n,c,zs,hcs,_,hl,hm,hz,_,hcell,hwf⟩:=hh
  simp[Value.cells]at hcs
  obtain⟨rfl,rfl,rfl⟩:=hcs
  simp only[if_true]at hz
  refine⟨⟨hl,fun k hk=>?_⟩,Nat.le_trans hl hm⟩
  have e0:=hcell k (by omega)
  obtain⟨b,o,spot⟩:=x
  have hspot:spot=none:=by simpa[Addr.add]using World.cell?_spot (hcell 0 (by omega))
  subst hspot
  rw[add_plain]at e0
  have hw:=hwf (zs.getD k 0) (by
   have hkz:k<zs.length:=by omega
   simp only[List.getD_eq_getElem?_getD,List.getElem?_eq_getElem hkz,Option.getD_some]
   exact List.getElem_mem hkz)
  simp[Lit.wf,IntKind.min,IntKind.max,IntKind.signed,IntKind.bits]at hw
  exact⟨b,o,zs.getD k 0,rfl,block_lt_of_cell e0,by simpa using hw.1,by simpa using hw.2,e0⟩
end Go.Proofs.YtpfhegengmlkmabGreatDoor
