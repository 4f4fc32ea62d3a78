/- Texts of this claim. -/
import Derived.Test.YtpfhegengmlkmabGreatDoorZu31
namespace Go.Proofs.YtpfhegengmlkmabGreatDoor
open Go.RowKit Go.BigFrame
set_option maxRecDepth 100000
theorem jE {o:Oper}{a:Act}{w:World}{K:Act->World->Prop}{Q:Exit->Act->World->Prop}(s x:Operand)
  (ho:o.op=.call { callee:=.builtin .append,args:=#[s,x],argTypes:=#[23,23] }) (base:Nat) (v:Value) (hs:a.eval s=v) (hg:w.ownsRow base 9 1 v 0 []) (hbase:base<=w.heap.size)
  (ad:Addr) (l:List ByteArray) (cap:Nat) (hx:a.eval x=.slice (some ad) l.length cap) (hn:∀j u,(l.map Value.string)[j]?=some u->w.cell? (ad.add j)=some u) (hl:l.length<=1048576)
  (h:∀v' w',aI w' base v' l->w.grownBy w' v.ownBlock->K (a.put o.dst v') w'):o.wp Tryz.prog a w K Q:=by
 obtain⟨i0,hi,hz0,hz1,hz2⟩:=info_parts Tryz.infoS
 obtain⟨v',w',hr,h2,h3,_,h5⟩:=run_append_own_at (P:=Tryz.prog) w base 23 o.type 9 i0 (.string .empty) 1 16 Tryz.underlying23 hi hz0 hz1 hz2 rfl (by decide) v 0 [] hg ad l.length cap (l.map Value.string) (by simp) hn (by simp[Value.oneCell']) (by unfold maxLen;omega) (by omega) hbase
 unfold Oper.wp execOp
 simp only[ho,resolve,invoke,builtin,Sem.run_bind,Sem.run_pure,Result.andThen_ok,List.map_toArray,List.map_cons,List.map_nil,hs,hx,hr]
 simp only[Nat.zero_add,List.nil_append]at h2
 exact h _ w' h2 h3
theorem iy.set2c {w:World}{b:Nat}{x y z:Value}(h:iy w b x y z)(v:Value):iy (w.setCell ⟨b,2,none⟩ v) b x y v:=
 ⟨by simp[go_sem,h.c0],by simp[go_sem,h.c1],by simp[go_sem,h.c2],by simp[go_sem,h.f0],by simp[go_sem,h.f1],by simp[go_sem,h.f2]⟩
theorem xu {w:World}{b B c n:Nat}{y z:Value}{l:List ByteArray}(h:iy w b (.slice none 0 0) y z)(hg:aI w B (.slice (some ⟨b,0,none⟩) n c) l)(hl:0<l.length):False:=by
 obtain⟨g,c',e,_,hs⟩:=hg.block hl
 obtain rfl:b=g:=by simp only[Value.slice.injEq,Option.some.injEq,Addr.mk.injEq]at e;exact e.1.1
 have h0:=hs.cell hl
 rw[h.c0]at h0
 cases h0
def rD (w:World)(b:Nat)(e:TypeId)(c:Nat):Prop:=∃cur:Array Value,w.heap[b]?=some (.cells cur e (0,0))/\cur.size=c
theorem rD.of_block {w w':World}{b:Nat}{e:TypeId}{c:Nat}(h:rD w b e c)(hb:w'.heap[b]?=w.heap[b]?):rD w' b e c:=by
 obtain⟨cur,h1,h2⟩:=h
 exact⟨cur,hb.trans h1,h2⟩
theorem rD.lt {w:World}{b:Nat}{e:TypeId}{c:Nat}(h:rD w b e c):b<w.heap.size:=by
 obtain⟨cur,h1,_⟩:=h
 exact(Array.getElem?_eq_some_iff.1 h1).1
theorem rD.set {w:World}{b:Nat}{e:TypeId}{c:Nat}(h:rD w b e c)(g i:Nat)(v:Value):rD (w.setCell ⟨g,i,none⟩ v) b e c:=by
 by_cases e':b=g
 ·subst e'
  obtain⟨cur,h1,h2⟩:=h
  exact⟨_,heap_setCell_same w b i cur e v h1,by simpa using h2⟩
 ·exact h.of_block (heap_setCell_other w ⟨g,i,none⟩ b v e')
theorem FX {w:World}{B g n' n c:Nat}{e:TypeId}{xs:List Value}(h:w.ownsRow B e 1 (.slice (some ⟨g,0,none⟩) n' c) n xs):rD w g e c/\n<=c/\c<=maxLen:=by
 rcases h.2 with⟨h',_⟩|⟨g',cap',cur,h',_,hg,hn,hc,hs,_⟩
 ·simp at h'
 ·simp only[Value.slice.injEq,Option.some.injEq,Addr.mk.injEq,and_true]at h'
  obtain⟨rfl,rfl,rfl⟩:=h'
  exact⟨⟨cur,hg,by omega⟩,hn,hc⟩
theorem rD.own {w:World}{B b c n:Nat}{e:TypeId}{xs:List Value}(h:rD w b e c)(hB:B<=b)(hn:n<=c)(hc:c<=maxLen)(hl:xs.length=n)(hx:∀j u,xs[j]?=some u->w.cell? ⟨b,j,none⟩=some u):w.ownsRow B e 1 (.slice (some ⟨b,0,none⟩) n c) n xs:=by
 obtain⟨cur,h1,h2⟩:=h
 refine⟨by omega,.inr ⟨b,c,cur,rfl,hB,h1,hn,hc,by omega, ?_⟩⟩
 apply List.ext_getElem?
 intro j
 rw[List.getElem?_take]
 by_cases hj:j<n
 ·rw[if_pos (by omega)]
  have hj':j<xs.length:=by omega
  have:=hx j xs[j] (by simp[hj'])
  rw[cell_of_row w b j cur e (0,0) h1]at this
  simp only[Array.getElem?_toList]
  rw[this]
  simp[hj']
 ·rw[if_neg (by omega)]
  simp
  omega
structure qi (w:World) (g c:Nat) (l:List ByteArray):Prop where
 str:pq w g l
 lie:rD w g 9 c
theorem qi.lt {w:World}{g c:Nat}{l:List ByteArray}(h:qi w g c l):g<w.heap.size:=h.str.lt
theorem qi.of_block {w w':World}{g c:Nat}{l:List ByteArray}(h:qi w g c l)(hb:w'.heap[g]?=w.heap[g]?):qi w' g c l:=by
 refine⟨?_,h.lie.of_block hb⟩
 obtain⟨m,f,h7,hf⟩:=h.str
 exact⟨m,f,h7.of_block hb,hf⟩
theorem qi.below {w w':World}{g c:Nat}{l:List ByteArray}(h:qi w g c l)(hb:Below w.heap.size w w'):qi w' g c l:=h.of_block (hb.block g h.lt)
theorem qi.span {w w':World}{g c lo hi:Nat}{l:List ByteArray}(h:qi w g c l)(hs:aJ lo hi w w')(hd:g<lo∨hi<=g):qi w' g c l:=h.of_block (hs.block g h.lt hd)
structure jD (w:World) (lo hi b t c0 c1:Nat) (a2:Option Addr) (nm:List ByteArray) (L:List aS) (m:List (ByteArray×Int)):Prop extends gz w lo hi b t a2 nm L m where
 l0:rD w b 9 c0
 l1:rD w t 129 c1
 r0:nm.length<=c0/\c0<=maxLen
 r1:L.length<=c1/\c1<=maxLen
theorem jD.below {w w':World}{lo hi b t c0 c1:Nat}{a2:Option Addr}{nm:List ByteArray}{L:List aS}{m:List (ByteArray×Int)}(h:jD w lo hi b t c0 c1 a2 nm L m)(hb:Below w.heap.size w w'):jD w' lo hi b t c0 c1 a2 nm L m:=
 ⟨gz.below h.togz hb,h.l0.of_block (hb.block b h.l0.lt),h.l1.of_block (hb.block t h.l1.lt),h.r0,h.r1⟩
theorem jD.span {w w':World}{lo hi b t c0 c1 lo' hi':Nat}{a2:Option Addr}{nm:List ByteArray}{L:List aS}{m:List (ByteArray×Int)}(h:jD w lo hi b t c0 c1 a2 nm L m)(hs:aJ lo' hi' w w')(hd:hi<=lo'∨hi'<=lo):jD w' lo hi b t c0 c1 a2 nm L m:=
 ⟨gz.span h.togz hs hd,h.l0.of_block (hs.block b h.l0.lt (by have:=h.bin;omega)),h.l1.of_block (hs.block t h.l1.lt (by have:=h.tin;omega)),h.r0,h.r1⟩
theorem jD.widen {w:World}{lo hi lo' hi' b t c0 c1:Nat}{a2:Option Addr}{nm:List ByteArray}{L:List aS}{m:List (ByteArray×Int)}(h:jD w lo hi b t c0 c1 a2 nm L m)(h1:lo'<=lo)(h2:hi<=hi'):jD w lo' hi' b t c0 c1 a2 nm L m:=
 ⟨gz.widen h.togz h1 h2,h.l0,h.l1,h.r0,h.r1⟩
theorem jD.setWin {w:World}{lo hi b t c0 c1:Nat}{a2:Option Addr}{nm:List ByteArray}{L:List aS}{m:List (ByteArray×Int)}(h:jD w lo hi b t c0 c1 a2 nm L m){k:Nat}(hk:k<L.length){q:aS}(hq:∃a c,q.v=.slice a q.l.length c/\q.l.length<=c/\jH w q.lo q.hi a q.l)(hin:lo<=q.lo/\q.lo<=q.hi/\q.hi<=hi)(hqb:b<q.lo∨q.hi<=b)(hqt:t<q.lo∨q.hi<=t)(hqs:∀s,a2=some ⟨s,0,none⟩->s<q.lo∨q.hi<=s)(hqL:∀p∈L,p.hi<=q.lo∨q.hi<=p.lo) :
  jD (w.setCell ⟨t,k,none⟩ q.v) lo hi b t c0 c1 a2 nm (L.set k q) m:=
 ⟨gz.setWin h.togz hk hq hin hqb hqt hqs hqL,h.l0.set t k _,h.l1.set t k _,h.r0,by simpa using h.r1⟩
structure FV (w:World) (lo hi:Nat) (a0 a1:Option Addr) (d0 d1 n0 n1:Nat):Prop where
 w0:∃xs,w.ownsRow lo 9 1 (.slice a0 n0 d0) n0 xs
 w1:∃xs,w.ownsRow lo 129 1 (.slice a1 n1 d1) n1 xs
 h0:∀k,(Value.slice a0 n0 d0).ownBlock=some k->k<hi
 h1:∀k,(Value.slice a1 n1 d1).ownBlock=some k->k<hi
theorem E5 (w:World)(lo hi:Nat):FV w lo hi none none 0 0 0 0:=⟨⟨_,World.ownsRow_nil _ _ _ _⟩,⟨_,World.ownsRow_nil _ _ _ _⟩,(fun k e=>by cases e),(fun k e=>by cases e)⟩
theorem jD.room {w:World}{lo hi b t c0 c1:Nat}{a2:Option Addr}{nm:List ByteArray}{L:List aS}{m:List (ByteArray×Int)}(h:jD w lo hi b t c0 c1 a2 nm L m):FV w lo hi (some ⟨b,0,none⟩) (some ⟨t,0,none⟩) c0 c1 nm.length L.length:=by
 refine⟨⟨nm.map .string,h.l0.own h.bin.1 h.r0.1 h.r0.2 (by simp) fun j u hj=>?_⟩,⟨L.map (·.v),h.l1.own h.tin.1 h.r1.1 h.r1.2 (by simp) fun j u hj=>?_⟩,fun k e=>?_,fun k e=>?_⟩
 ·have hj':j<nm.length:=by
   have:=(List.getElem?_eq_some_iff.1 hj).1
   simpa using this
  rw[h.names.cell hj']
  simpa[hj']using hj
 ·have hj':j<L.length:=by
   have:=(List.getElem?_eq_some_iff.1 hj).1
   simpa using this
  rw[h.wins.cell j hj']
  simpa[hj']using hj
 ·have e':b=k:=by simpa[Value.ownBlock]using e
  have:=h.bin
  omega
 ·have e':t=k:=by simpa[Value.ownBlock]using e
  have:=h.tin
  omega
set_option maxHeartbeats 12800000 in
theorem xy (a0 a1 a2:Option Addr)(c0 c1 c2:Nat)(g:aB)(w:World)(hg:lS g)(r0:dQ w a0 g.ins)(r1:iF w a1 g.wins)(r2:Row w a2 g.shown) :
  Calls Tryz.prog 112 #[.agg #[.slice a0 g.ins.length c0,.slice a1 g.wins.length c1,.slice a2 g.shown.length c2]] w fun e w'=>(∃b t e0 e1 gm cm L,e=.returned (.agg #[.slice (some ⟨b,0,none⟩) g.ins.length e0,.slice (some ⟨t,0,none⟩) L.length e1,.slice (some ⟨gm,0,none⟩) g.shown.length cm])/\jD w' w.heap.size w'.heap.size b t e0 e1 (some ⟨gm,0,none⟩) g.ins L g.shown/\L.map (·.l)=g.wins/\(∀k,w'.frozen? ⟨t,k,none⟩=false)/\w.heap.size<=gm/\(g.ins.length<=e0/\e0<=maxLen))/\Below w.heap.size w w':=by
 have HG:Hid (lS g):=hg
 have h1i:=hg.ins.1
 have h6:=hg.ins.2.1
 clear hg
 obtain⟨bn,on,rfl,hbn,_⟩:=r0 0 (by omega)
 have BG:Below w.heap.size w ((w.alloc (.cells #[.slice (some ⟨bn,on,none⟩) g.ins.length c0,.slice a1 g.wins.length c1,.slice a2 g.shown.length c2] 30)).alloc (.cells #[.slice none 0 0,.slice none 0 0,.slice none 0 0] 30)):=((Below.refl _ _).alloc (Nat.le_refl _) _).alloc (by simp) _
 have tP:=(aQ w (.slice (some ⟨bn,on,none⟩) g.ins.length c0) (.slice a1 g.wins.length c1) (.slice a2 g.shown.length c2) 30).keep (show Below _ _ ((w.alloc (.cells #[.slice (some ⟨bn,on,none⟩) g.ins.length c0,.slice a1 g.wins.length c1,.slice a2 g.shown.length c2] 30)).alloc (.cells #[.slice none 0 0,.slice none 0 0,.slice none 0 0] 30))from(Below.refl _ _).alloc (Nat.le_refl _) _)
 have tR:iy ((w.alloc (.cells #[.slice (some ⟨bn,on,none⟩) g.ins.length c0,.slice a1 g.wins.length c1,.slice a2 g.shown.length c2] 30)).alloc (.cells #[.slice none 0 0,.slice none 0 0,.slice none 0 0] 30)) (w.heap.size+1) (.slice none 0 0) (.slice none 0 0) (.slice none 0 0):=by
  have h:=aQ (w.alloc (.cells #[.slice (some ⟨bn,on,none⟩) g.ins.length c0,.slice a1 g.wins.length c1,.slice a2 g.shown.length c2] 30)) (.slice none 0 0) (.slice none 0 0) (.slice none 0 0) 30
  rw[World.size_alloc]at h
  exact h
 have hz:((w.alloc (.cells #[.slice (some ⟨bn,on,none⟩) g.ins.length c0,.slice a1 g.wins.length c1,.slice a2 g.shown.length c2] 30)).alloc (.cells #[.slice none 0 0,.slice none 0 0,.slice none 0 0] 30)).heap.size=w.heap.size+2:=by simp
 go_enter Tryz.func112,Tryz.ntmps112
 go_wp2_with fail
 generalize (w.alloc (.cells #[.slice (some ⟨bn,on,none⟩) g.ins.length c0,.slice a1 g.wins.length c1,.slice a2 g.shown.length c2] 30)).alloc (.cells #[.slice none 0 0,.slice none 0 0,.slice none 0 0] 30)=WG at *
 have HN:Hid (∀u:World,Below WG.heap.size WG u->∀j v,(g.ins.map Value.string)[j]?=some v->u.cell? ((⟨bn,on,none⟩:Addr).add j)=some v):=fun u hu j v hj=>by
  have hj':j<g.ins.length:=by
   rcases Nat.lt_or_ge j g.ins.length with h|h
   ·exact h
   ·rw[List.getElem?_eq_none (by simpa using h)]at hj;cases hj
  obtain⟨b,o,e,_,hc⟩:=r0.below (BG.trans (hu.mono BG.size)) j hj'
  cases e
  have ea:(⟨bn,on,none⟩:Addr).add j=⟨bn,on+j,none⟩:=by unfold Addr.add;split <;> simp_all
  rw[ea,hc]
  simpa[hj']using hj
 have HS:Hid (∀u:World,Below WG.heap.size WG u->u.cell? ⟨w.heap.size,0,none⟩=some (.slice (some ⟨bn,on,none⟩) g.ins.length c0)/\u.cell? ⟨w.heap.size,2,none⟩=some (.slice a2 g.shown.length c2)):=fun u hu=>⟨ae hu (by omega) tP.c0,ae hu (by omega) tP.c2⟩
 refine wp_mono (Q:=Exit.then (fun a' u=>∃(bo g3 c3 gm cm:Nat) (v5 v6 v7 v8 v9 v10 v11 v12:Value),a'={ tmps:=#[.agg #[.slice (some ⟨bn,on,none⟩) g.ins.length c0,.slice a1 g.wins.length c1,.slice a2 g.shown.length c2],.pointer (some ⟨w.heap.size,0,none⟩),.pointer (some ⟨w.heap.size+1,0,none⟩),.pointer (some ⟨bo,0,none⟩),undef,v5,v6,v7,v8,v9,v10,v11,v12,undef,undef,undef,undef,undef,undef,undef,undef,undef,undef,undef,undef,undef,undef,undef,undef,undef,undef,undef],defers:=[] } /\
   iy u bo (.slice (some ⟨g3,0,none⟩) g.ins.length c3) (.slice none 0 0) (.slice (some ⟨gm,0,none⟩) g.shown.length cm)/\aI u WG.heap.size (.slice (some ⟨g3,0,none⟩) g.ins.length c3) g.ins/\Own u gm g.shown/\bo≠g3/\bo≠gm/\g3≠gm/\WG.heap.size<=bo/\WG.heap.size<=gm/\g.shown.length<=cm/\Below WG.heap.size WG u) (fun _ _ _=>False)) ?_ ?_
 ·rename_i k0
  have bu:Below WG.heap.size WG WG.drew:=(Below.refl _ _).drew
  have Sx:=HS.out _ bu
  refine wp_region_held_drew (S:=fun u=>u.cell? ⟨w.heap.size,0,none⟩=some (.slice (some ⟨bn,on,none⟩) g.ins.length c0)/\u.cell? ⟨w.heap.size,2,none⟩=some (.slice a2 g.shown.length c2)) (by kernel_rfl) Sx (fun _=>?_)
  refine wpAnyH_take (i:=1) (v:=.pointer (some ⟨w.heap.size,0,none⟩)) rfl (by kernel_rfl) (by kernel_rfl) (by kernel_rfl) (fun _ _ _ h=>h) (Or.inl ⟨by rfl, ?_⟩) Sx ?_
  ·rintro u ⟨p1,p2⟩
   go_simp
  simp only[Act.put,List.setIfInBounds_toArray]
  refine wpAnyH_take (i:=2) (v:=.slice (some ⟨bn,on,none⟩) g.ins.length c0) rfl (by kernel_rfl) (by kernel_rfl) (by kernel_rfl) (fun _ _ _ h=>h) (Or.inl ⟨by rfl, ?_⟩) Sx ?_
  ·rintro u ⟨p1,p2⟩
   go_simp
  simp only[Act.put]
  refine wpAnyH_take (i:=4) (v:=.pointer (some ⟨w.heap.size,2,none⟩)) rfl (by kernel_rfl) (by kernel_rfl) (by kernel_rfl) (fun _ _ _ h=>h) (Or.inl ⟨by rfl, ?_⟩) Sx ?_
  ·rintro u ⟨p1,p2⟩
   go_simp
  simp only[Act.put]
  refine wpAnyH_take (i:=5) (v:=.slice a2 g.shown.length c2) rfl (by kernel_rfl) (by kernel_rfl) (by kernel_rfl) (fun _ _ _ h=>h) (Or.inl ⟨by rfl, ?_⟩) Sx ?_
  ·rintro u ⟨p1,p2⟩
   go_simp
  simp only[Act.put]
  generalize WG.drew=W1 at *
  clear Sx
  have Sx:=HS.out _ bu
  refine wpAnyH_ready (rs:=[0,8]) (by kernel_rfl) (by simp) ?_
  refine AllReadyH.cons rfl (fun K hK=>?_) (AllReadyH.cons rfl (fun K hK=>?_) AllReadyH.nil)
  ·rw[if_pos (by rfl)]
   go_simp
   have bx:Below W1.heap.size W1 (W1.alloc (.cells #[] 9)):=(Below.refl _ _).alloc (Nat.le_refl _) _
   have hown:(W1.alloc (.cells #[] 9)).ownsRow WG.heap.size 9 1 (.slice (some ⟨W1.heap.size,0,none⟩) 0 0) 0 []:=⟨rfl,.inr ⟨W1.heap.size,0,#[],rfl,bu.size,heap_alloc_new W1 _,Nat.le_refl _,Nat.zero_le _,rfl,rfl⟩⟩
   replace bu:=bu.trans (bx.mono bu.size)
   have hqz:W1.heap.size<(W1.alloc (.cells #[] 9)).heap.size:=by simp
   obtain⟨q0,hq0⟩:∃q0,q0=W1.heap.size:=⟨_,rfl⟩
   rw[<- hq0]at hown hqz ⊢
   clear bx
   generalize W1.alloc (.cells #[] 9)=n1 at *
   clear hq0
   have Sx:=HS.out _ bu
   refine hK.out _ _ Sx (fun _=>?_)
   clear hK K
   refine wpAnyH_ready (rs:=[3,8]) (by kernel_rfl) (by simp) ?_
   refine AllReadyH.cons rfl (fun K hK=>?_) (AllReadyH.cons rfl (fun K hK=>?_) AllReadyH.nil)
   ·rw[if_pos (by rfl)]
    refine jE _ _ rfl WG.heap.size (.slice (some ⟨q0,0,none⟩) 0 0) rfl hown bu.size ⟨bn,on,none⟩ g.ins c0 rfl (HN.out _ bu) (by omega) ?_
    intro v3 n2 hgs hgr
    obtain⟨g3,c3,rfl,hg3z,_⟩:=hgs.block (by omega)
    replace bu:=bu.grown hgr bu.size (fun q hq=>by have:=aT hown q hq;omega)
    have hg3l:=(World.ownsRow.lt hgs g3 rfl).2
    clear hown hgr
    have Sx:=HS.out _ bu
    refine hK.out _ _ Sx (fun _=>?_)
    clear hK K
    refine wpAnyH_ready (rs:=[6,8]) (by kernel_rfl) (by simp) ?_
    refine AllReadyH.cons rfl (fun K hK=>?_) (AllReadyH.cons rfl (fun K hK=>?_) AllReadyH.nil)
    ·rw[if_pos (by rfl)]
     go_simp
     refine(eQ a2 c2 g.shown _ (r2.below (BG.trans (bu.mono BG.size))) (by have:=HG.out.shown.1;omega)).mono ?_
     rintro e n3 ⟨⟨gm,cm,rfl,hgmz,hcm,hom⟩,bx⟩
     have hgm3:g3≠gm:=by have:=hg3l;omega
     replace hgs:=hgs.keep bx
     have hgmW:WG.heap.size<=gm:=Nat.le_trans bu.size hgmz
     replace bu:=bu.trans (bx.mono bu.size)
     replace hg3l:=(World.ownsRow.lt hgs g3 rfl).2
     clear bx hgmz
     have Sx:=HS.out _ bu
     refine hK.out _ _ Sx (fun _=>?_)
     clear hK K
     refine wpAnyH_take (i:=7) (v:=.agg #[.slice (some ⟨g3,0,none⟩) g.ins.length c3,.slice none 0 0,.slice (some ⟨gm,0,none⟩) g.shown.length cm]) rfl (by kernel_rfl) (by kernel_rfl) (by kernel_rfl) (fun _ _ _ h=>h) (Or.inl ⟨by rfl, ?_⟩) Sx ?_
     ·rintro u ⟨p1,p2⟩
      go_simp
     simp only[Act.put,List.setIfInBounds_toArray]
     refine wpAnyH_ready (rs:=[8]) (by kernel_rfl) (by simp) ?_
     refine AllReadyH.cons rfl (fun K hK=>?_) AllReadyH.nil
     rw[if_pos (by rfl)]
     go_simp
     have bx:Below n3.heap.size n3 (n3.alloc (.cells #[.slice none 0 0,.slice none 0 0,.slice none 0 0] 30)):=(Below.refl _ _).alloc (Nat.le_refl _) _
     have hT:=aQ n3 (.slice none 0 0) (.slice none 0 0) (.slice none 0 0) 30
     obtain⟨bo,hbo⟩:∃bo,bo=n3.heap.size:=⟨_,rfl⟩
     have hboz:WG.heap.size<=bo:=by rw[hbo];exact bu.size
     replace hgs:=hgs.keep bx
     have hbg:bo≠g3:=by have:=hg3l;omega
     replace hg3l:=(World.ownsRow.lt hgs g3 rfl).2
     have hbm:bo≠gm:=by have:=hom.lt;omega
     replace hom:=hom.below bx
     rw[<- hbo]at hT ⊢
     replace bu:=bu.trans (bx.mono bu.size)
     have hTl:bo<(n3.alloc (.cells #[.slice none 0 0,.slice none 0 0,.slice none 0 0] 30)).heap.size:=block_lt_of_cell hT.c0
     clear bx
     generalize n3.alloc (.cells #[.slice none 0 0,.slice none 0 0,.slice none 0 0] 30)=n4 at *
     clear hbo
     have Sx:=HS.out _ bu
     refine hK.out _ _ Sx (fun _=>?_)
     clear hK K
     refine wpAnyH_ready (rs:=[9]) (by kernel_rfl) (by simp) ?_
     refine AllReadyH.cons rfl (fun K hK=>?_) AllReadyH.nil
     rw[if_pos (by rfl)]
     obtain⟨i0,i1,i2,j0,j1,j2⟩:=id hT
     go_simp
     have hT9:=((hT.set0 (.slice (some ⟨g3,0,none⟩) g.ins.length c3)).set1 (.slice none 0 0)).set2c (.slice (some ⟨gm,0,none⟩) g.shown.length cm)
     have hb9:But bo n4 (((n4.setCell ⟨bo,0,none⟩ (.slice (some ⟨g3,0,none⟩) g.ins.length c3)).setCell ⟨bo,1,none⟩ (.slice none 0 0)).setCell ⟨bo,2,none⟩ (.slice (some ⟨gm,0,none⟩) g.shown.length cm)):=(((But.refl _ _).setCell _ _).setCell _ _).setCell _ _
     have hg9:aI (((n4.setCell ⟨bo,0,none⟩ (.slice (some ⟨g3,0,none⟩) g.ins.length c3)).setCell ⟨bo,1,none⟩ (.slice none 0 0)).setCell ⟨bo,2,none⟩ (.slice (some ⟨gm,0,none⟩) g.shown.length cm)) WG.heap.size (.slice (some ⟨g3,0,none⟩) g.ins.length c3) g.ins:=own_ne (own_ne (own_ne hgs (by simp[Value.ownBlock];omega) _ _) (by simp[Value.ownBlock];omega) _ _) (by simp[Value.ownBlock];omega) _ _
     have ho9:=hb9.own hom (Ne.symm hbm)
     have B9:Below WG.heap.size WG _:=bu.trans (hb9.below hboz bu.size)
     have S9:=HS.out _ B9
     refine hK.out _ _ S9 (fun _=>?_)
     clear hK K
     refine wpAnyH_done (by kernel_rfl) ?_ _
     exact⟨bo,g3,c3,gm,cm,_,_,_,_,_,_,_,_,rfl,hT9,hg9,ho9,hbg,hbm,hgm3,hboz,hgmW,hcm,B9⟩
    ·rw[if_pos (by rfl)]
     go_simp
     have bx:Below n2.heap.size n2 (n2.alloc (.cells #[.slice none 0 0,.slice none 0 0,.slice none 0 0] 30)):=(Below.refl _ _).alloc (Nat.le_refl _) _
     have hT:=aQ n2 (.slice none 0 0) (.slice none 0 0) (.slice none 0 0) 30
     obtain⟨bo,hbo⟩:∃bo,bo=n2.heap.size:=⟨_,rfl⟩
     have hboz:WG.heap.size<=bo:=by rw[hbo];exact bu.size
     replace hgs:=hgs.keep bx
     have hbg:bo≠g3:=by have:=hg3l;omega
     replace hg3l:=(World.ownsRow.lt hgs g3 rfl).2
     rw[<- hbo]at hT ⊢
     replace bu:=bu.trans (bx.mono bu.size)
     have hTl:bo<(n2.alloc (.cells #[.slice none 0 0,.slice none 0 0,.slice none 0 0] 30)).heap.size:=block_lt_of_cell hT.c0
     clear bx
     generalize n2.alloc (.cells #[.slice none 0 0,.slice none 0 0,.slice none 0 0] 30)=n5 at *
     clear hbo
     have Sx:=HS.out _ bu
     refine hK.out _ _ Sx (fun _=>?_)
     clear hK K
     refine wpAnyH_ready (rs:=[6]) (by kernel_rfl) (by simp) ?_
     refine AllReadyH.cons rfl (fun K hK=>?_) AllReadyH.nil
     rw[if_pos (by rfl)]
     go_simp
     refine(eQ a2 c2 g.shown _ (r2.below (BG.trans (bu.mono BG.size))) (by have:=HG.out.shown.1;omega)).mono ?_
     rintro e n6 ⟨⟨gm,cm,rfl,hgmz,hcm,hom⟩,bx⟩
     have hgm3:g3≠gm:=by have:=hg3l;omega
     have hbm:bo≠gm:=by have:=hTl;omega
     replace hT:=hT.keep bx
     replace hTl:bo<n6.heap.size:=block_lt_of_cell hT.c0
     replace hgs:=hgs.keep bx
     have hgmW:WG.heap.size<=gm:=Nat.le_trans bu.size hgmz
     replace bu:=bu.trans (bx.mono bu.size)
     replace hg3l:=(World.ownsRow.lt hgs g3 rfl).2
     clear bx hgmz
     have Sx:=HS.out _ bu
     refine hK.out _ _ Sx (fun _=>?_)
     clear hK K
     refine wpAnyH_take (i:=7) (v:=.agg #[.slice (some ⟨g3,0,none⟩) g.ins.length c3,.slice none 0 0,.slice (some ⟨gm,0,none⟩) g.shown.length cm]) rfl (by kernel_rfl) (by kernel_rfl) (by kernel_rfl) (fun _ _ _ h=>h) (Or.inl ⟨by rfl, ?_⟩) Sx ?_
     ·rintro u ⟨p1,p2⟩
      go_simp
     simp only[Act.put,List.setIfInBounds_toArray]
     refine wpAnyH_ready (rs:=[9]) (by kernel_rfl) (by simp) ?_
     refine AllReadyH.cons rfl (fun K hK=>?_) AllReadyH.nil
     rw[if_pos (by rfl)]
     obtain⟨i0,i1,i2,j0,j1,j2⟩:=id hT
     go_simp
     have hT9:=((hT.set0 (.slice (some ⟨g3,0,none⟩) g.ins.length c3)).set1 (.slice none 0 0)).set2c (.slice (some ⟨gm,0,none⟩) g.shown.length cm)
     have hb9:But bo n6 (((n6.setCell ⟨bo,0,none⟩ (.slice (some ⟨g3,0,none⟩) g.ins.length c3)).setCell ⟨bo,1,none⟩ (.slice none 0 0)).setCell ⟨bo,2,none⟩ (.slice (some ⟨gm,0,none⟩) g.shown.length cm)):=(((But.refl _ _).setCell _ _).setCell _ _).setCell _ _
     have hg9:aI (((n6.setCell ⟨bo,0,none⟩ (.slice (some ⟨g3,0,none⟩) g.ins.length c3)).setCell ⟨bo,1,none⟩ (.slice none 0 0)).setCell ⟨bo,2,none⟩ (.slice (some ⟨gm,0,none⟩) g.shown.length cm)) WG.heap.size (.slice (some ⟨g3,0,none⟩) g.ins.length c3) g.ins:=own_ne (own_ne (own_ne hgs (by simp[Value.ownBlock];omega) _ _) (by simp[Value.ownBlock];omega) _ _) (by simp[Value.ownBlock];omega) _ _
     have ho9:=hb9.own hom (Ne.symm hbm)
     have B9:Below WG.heap.size WG _:=bu.trans (hb9.below hboz bu.size)
     have S9:=HS.out _ B9
     refine hK.out _ _ S9 (fun _=>?_)
     clear hK K
     refine wpAnyH_done (by kernel_rfl) ?_ _
     exact⟨bo,g3,c3,gm,cm,_,_,_,_,_,_,_,_,rfl,hT9,hg9,ho9,hbg,hbm,hgm3,hboz,hgmW,hcm,B9⟩
   ·rw[if_pos (by rfl)]
    go_simp
    have bx:Below n1.heap.size n1 (n1.alloc (.cells #[.slice none 0 0,.slice none 0 0,.slice none 0 0] 30)):=(Below.refl _ _).alloc (Nat.le_refl _) _
    have hT:=aQ n1 (.slice none 0 0) (.slice none 0 0) (.slice none 0 0) 30
    obtain⟨bo,hbo⟩:∃bo,bo=n1.heap.size:=⟨_,rfl⟩
    have hboz:WG.heap.size<=bo:=by rw[hbo];exact bu.size
    replace hown:=dh hown bx
    have hqT:bo≠q0:=by omega
    rw[<- hbo]at hT ⊢
    replace bu:=bu.trans (bx.mono bu.size)
    have hTl:bo<(n1.alloc (.cells #[.slice none 0 0,.slice none 0 0,.slice none 0 0] 30)).heap.size:=block_lt_of_cell hT.c0
    clear bx
    generalize n1.alloc (.cells #[.slice none 0 0,.slice none 0 0,.slice none 0 0] 30)=n7 at *
    clear hbo
    have Sx:=HS.out _ bu
    refine hK.out _ _ Sx (fun _=>?_)
    clear hK K
    refine wpAnyH_ready (rs:=[3]) (by kernel_rfl) (by simp) ?_
    refine AllReadyH.cons rfl (fun K hK=>?_) AllReadyH.nil
    rw[if_pos (by rfl)]
    refine jE _ _ rfl WG.heap.size (.slice (some ⟨q0,0,none⟩) 0 0) rfl hown bu.size ⟨bn,on,none⟩ g.ins c0 rfl (HN.out _ bu) (by omega) ?_
    intro v3 n8 hgs hgr
    obtain⟨g3,c3,rfl,hg3z,_⟩:=hgs.block (by omega)
    replace hT:=hT.grown hgr (by intro e;exact hqT (by simpa[Value.ownBlock]using e))
    have hbg:bo≠g3:=fun e=>by have hx:=hgs;rw[<- e]at hx;exact xu hT hx (by omega)
    replace bu:=bu.grown hgr bu.size (fun q hq=>by have:=aT hown q hq;omega)
    have hg3l:=(World.ownsRow.lt hgs g3 rfl).2
    clear hown hgr
    replace hTl:bo<n8.heap.size:=block_lt_of_cell hT.c0
    have Sx:=HS.out _ bu
    refine hK.out _ _ Sx (fun _=>?_)
    clear hK K
    refine wpAnyH_ready (rs:=[6]) (by kernel_rfl) (by simp) ?_
    refine AllReadyH.cons rfl (fun K hK=>?_) AllReadyH.nil
    rw[if_pos (by rfl)]
    go_simp
    refine(eQ a2 c2 g.shown _ (r2.below (BG.trans (bu.mono BG.size))) (by have:=HG.out.shown.1;omega)).mono ?_
    rintro e n9 ⟨⟨gm,cm,rfl,hgmz,hcm,hom⟩,bx⟩
    have hgm3:g3≠gm:=by have:=hg3l;omega
    have hbm:bo≠gm:=by have:=hTl;omega
    replace hT:=hT.keep bx
    replace hTl:bo<n9.heap.size:=block_lt_of_cell hT.c0
    replace hgs:=hgs.keep bx
    have hgmW:WG.heap.size<=gm:=Nat.le_trans bu.size hgmz
    replace bu:=bu.trans (bx.mono bu.size)
    replace hg3l:=(World.ownsRow.lt hgs g3 rfl).2
    clear bx hgmz
    have Sx:=HS.out _ bu
    refine hK.out _ _ Sx (fun _=>?_)
    clear hK K
    refine wpAnyH_take (i:=7) (v:=.agg #[.slice (some ⟨g3,0,none⟩) g.ins.length c3,.slice none 0 0,.slice (some ⟨gm,0,none⟩) g.shown.length cm]) rfl (by kernel_rfl) (by kernel_rfl) (by kernel_rfl) (fun _ _ _ h=>h) (Or.inl ⟨by rfl, ?_⟩) Sx ?_
    ·rintro u ⟨p1,p2⟩
     go_simp
    simp only[Act.put,List.setIfInBounds_toArray]
    refine wpAnyH_ready (rs:=[9]) (by kernel_rfl) (by simp) ?_
    refine AllReadyH.cons rfl (fun K hK=>?_) AllReadyH.nil
    rw[if_pos (by rfl)]
    obtain⟨i0,i1,i2,j0,j1,j2⟩:=id hT
    go_simp
    have hT9:=((hT.set0 (.slice (some ⟨g3,0,none⟩) g.ins.length c3)).set1 (.slice none 0 0)).set2c (.slice (some ⟨gm,0,none⟩) g.shown.length cm)
    have hb9:But bo n9 (((n9.setCell ⟨bo,0,none⟩ (.slice (some ⟨g3,0,none⟩) g.ins.length c3)).setCell ⟨bo,1,none⟩ (.slice none 0 0)).setCell ⟨bo,2,none⟩ (.slice (some ⟨gm,0,none⟩) g.shown.length cm)):=(((But.refl _ _).setCell _ _).setCell _ _).setCell _ _
    have hg9:aI (((n9.setCell ⟨bo,0,none⟩ (.slice (some ⟨g3,0,none⟩) g.ins.length c3)).setCell ⟨bo,1,none⟩ (.slice none 0 0)).setCell ⟨bo,2,none⟩ (.slice (some ⟨gm,0,none⟩) g.shown.length cm)) WG.heap.size (.slice (some ⟨g3,0,none⟩) g.ins.length c3) g.ins:=own_ne (own_ne (own_ne hgs (by simp[Value.ownBlock];omega) _ _) (by simp[Value.ownBlock];omega) _ _) (by simp[Value.ownBlock];omega) _ _
    have ho9:=hb9.own hom (Ne.symm hbm)
    have B9:Below WG.heap.size WG _:=bu.trans (hb9.below hboz bu.size)
    have S9:=HS.out _ B9
    refine hK.out _ _ S9 (fun _=>?_)
    clear hK K
    refine wpAnyH_done (by kernel_rfl) ?_ _
    exact⟨bo,g3,c3,gm,cm,_,_,_,_,_,_,_,_,rfl,hT9,hg9,ho9,hbg,hbm,hgm3,hboz,hgmW,hcm,B9⟩
  ·rw[if_pos (by rfl)]
   go_simp
   have bx:Below W1.heap.size W1 (W1.alloc (.cells #[.slice none 0 0,.slice none 0 0,.slice none 0 0] 30)):=(Below.refl _ _).alloc (Nat.le_refl _) _
   have hT:=aQ W1 (.slice none 0 0) (.slice none 0 0) (.slice none 0 0) 30
   obtain⟨bo,hbo⟩:∃bo,bo=W1.heap.size:=⟨_,rfl⟩
   have hboz:WG.heap.size<=bo:=by rw[hbo];exact bu.size
   rw[<- hbo]at hT ⊢
   replace bu:=bu.trans (bx.mono bu.size)
   have hTl:bo<(W1.alloc (.cells #[.slice none 0 0,.slice none 0 0,.slice none 0 0] 30)).heap.size:=block_lt_of_cell hT.c0
   clear bx
   generalize W1.alloc (.cells #[.slice none 0 0,.slice none 0 0,.slice none 0 0] 30)=n10 at *
   clear hbo
   have Sx:=HS.out _ bu
   refine hK.out _ _ Sx (fun _=>?_)
   clear hK K
   refine wpAnyH_ready (rs:=[0]) (by kernel_rfl) (by simp) ?_
   refine AllReadyH.cons rfl (fun K hK=>?_) AllReadyH.nil
   rw[if_pos (by rfl)]
   go_simp
   have bx:Below n10.heap.size n10 (n10.alloc (.cells #[] 9)):=(Below.refl _ _).alloc (Nat.le_refl _) _
   have hown:(n10.alloc (.cells #[] 9)).ownsRow WG.heap.size 9 1 (.slice (some ⟨n10.heap.size,0,none⟩) 0 0) 0 []:=⟨rfl,.inr ⟨n10.heap.size,0,#[],rfl,bu.size,heap_alloc_new n10 _,Nat.le_refl _,Nat.zero_le _,rfl,rfl⟩⟩
   replace hT:=hT.keep bx
   replace bu:=bu.trans (bx.mono bu.size)
   have hqz:n10.heap.size<(n10.alloc (.cells #[] 9)).heap.size:=by simp
   obtain⟨q0,hq0⟩:∃q0,q0=n10.heap.size:=⟨_,rfl⟩
   rw[<- hq0]at hown hqz ⊢
   have hqT:bo≠q0:=by have:=hTl;omega
   clear bx
   generalize n10.alloc (.cells #[] 9)=n11 at *
   clear hq0
   have Sx:=HS.out _ bu
   refine hK.out _ _ Sx (fun _=>?_)
   clear hK K
   refine wpAnyH_ready (rs:=[3]) (by kernel_rfl) (by simp) ?_
   refine AllReadyH.cons rfl (fun K hK=>?_) AllReadyH.nil
   rw[if_pos (by rfl)]
   refine jE _ _ rfl WG.heap.size (.slice (some ⟨q0,0,none⟩) 0 0) rfl hown bu.size ⟨bn,on,none⟩ g.ins c0 rfl (HN.out _ bu) (by omega) ?_
   intro v3 n12 hgs hgr
   obtain⟨g3,c3,rfl,hg3z,_⟩:=hgs.block (by omega)
   replace hT:=hT.grown hgr (by intro e;exact hqT (by simpa[Value.ownBlock]using e))
   have hbg:bo≠g3:=fun e=>by have hx:=hgs;rw[<- e]at hx;exact xu hT hx (by omega)
   replace bu:=bu.grown hgr bu.size (fun q hq=>by have:=aT hown q hq;omega)
   have hg3l:=(World.ownsRow.lt hgs g3 rfl).2
   clear hown hgr
   replace hTl:bo<n12.heap.size:=block_lt_of_cell hT.c0
   have Sx:=HS.out _ bu
   refine hK.out _ _ Sx (fun _=>?_)
   clear hK K
   refine wpAnyH_ready (rs:=[6]) (by kernel_rfl) (by simp) ?_
   refine AllReadyH.cons rfl (fun K hK=>?_) AllReadyH.nil
   rw[if_pos (by rfl)]
   go_simp
   refine(eQ a2 c2 g.shown _ (r2.below (BG.trans (bu.mono BG.size))) (by have:=HG.out.shown.1;omega)).mono ?_
   rintro e n13 ⟨⟨gm,cm,rfl,hgmz,hcm,hom⟩,bx⟩
   have hgm3:g3≠gm:=by have:=hg3l;omega
   have hbm:bo≠gm:=by have:=hTl;omega
   replace hT:=hT.keep bx
   replace hTl:bo<n13.heap.size:=block_lt_of_cell hT.c0
   replace hgs:=hgs.keep bx
   have hgmW:WG.heap.size<=gm:=Nat.le_trans bu.size hgmz
   replace bu:=bu.trans (bx.mono bu.size)
   replace hg3l:=(World.ownsRow.lt hgs g3 rfl).2
   clear bx hgmz
   have Sx:=HS.out _ bu
   refine hK.out _ _ Sx (fun _=>?_)
   clear hK K
   refine wpAnyH_take (i:=7) (v:=.agg #[.slice (some ⟨g3,0,none⟩) g.ins.length c3,.slice none 0 0,.slice (some ⟨gm,0,none⟩) g.shown.length cm]) rfl (by kernel_rfl) (by kernel_rfl) (by kernel_rfl) (fun _ _ _ h=>h) (Or.inl ⟨by rfl, ?_⟩) Sx ?_
   ·rintro u ⟨p1,p2⟩
    go_simp
   simp only[Act.put,List.setIfInBounds_toArray]
   refine wpAnyH_ready (rs:=[9]) (by kernel_rfl) (by simp) ?_
   refine AllReadyH.cons rfl (fun K hK=>?_) AllReadyH.nil
   rw[if_pos (by rfl)]
   obtain⟨i0,i1,i2,j0,j1,j2⟩:=id hT
   go_simp
   have hT9:=((hT.set0 (.slice (some ⟨g3,0,none⟩) g.ins.length c3)).set1 (.slice none 0 0)).set2c (.slice (some ⟨gm,0,none⟩) g.shown.length cm)
   have hb9:But bo n13 (((n13.setCell ⟨bo,0,none⟩ (.slice (some ⟨g3,0,none⟩) g.ins.length c3)).setCell ⟨bo,1,none⟩ (.slice none 0 0)).setCell ⟨bo,2,none⟩ (.slice (some ⟨gm,0,none⟩) g.shown.length cm)):=(((But.refl _ _).setCell _ _).setCell _ _).setCell _ _
   have hg9:aI (((n13.setCell ⟨bo,0,none⟩ (.slice (some ⟨g3,0,none⟩) g.ins.length c3)).setCell ⟨bo,1,none⟩ (.slice none 0 0)).setCell ⟨bo,2,none⟩ (.slice (some ⟨gm,0,none⟩) g.shown.length cm)) WG.heap.size (.slice (some ⟨g3,0,none⟩) g.ins.length c3) g.ins:=own_ne (own_ne (own_ne hgs (by simp[Value.ownBlock];omega) _ _) (by simp[Value.ownBlock];omega) _ _) (by simp[Value.ownBlock];omega) _ _
   have ho9:=hb9.own hom (Ne.symm hbm)
   have B9:Below WG.heap.size WG _:=bu.trans (hb9.below hboz bu.size)
   have S9:=HS.out _ B9
   refine hK.out _ _ S9 (fun _=>?_)
   clear hK K
   refine wpAnyH_done (by kernel_rfl) ?_ _
   exact⟨bo,g3,c3,gm,cm,_,_,_,_,_,_,_,_,rfl,hT9,hg9,ho9,hbg,hbm,hgm3,hboz,hgmW,hcm,B9⟩
 ·rintro e a' u h
  cases e <;> first|exact h.elim|skip
  obtain⟨bo,g3,c3,gm,cm,v5,v6,v7,v8,v9,v10,v11,v12,rfl,hT,hgs,hom,hbg,hbm,hgm3,hboz,hgmz,hcm,bu⟩:=h
  have HCAP:Hid (g.ins.length<=c3/\c3<=maxLen):=by
   unfold Hid
   rcases(show World.ownsRow _ _ _ _ _ _ _ from hgs).2 with⟨_,e⟩|⟨g',cap,cur,e,_,_,hn,hmx,_⟩
   ·omega
   ·simp only[Value.slice.injEq]at e
    omega
  have hTP:=tP.keep bu
  have tR':=tR.keep bu
  have hTl:bo<u.heap.size:=block_lt_of_cell hT.c0
  obtain⟨g3',c3',hg3e,hg3z,hsb⟩:=hgs.block (by omega)
  obtain rfl:g3=g3':=by simp only[Value.slice.injEq,Option.some.injEq,Addr.mk.injEq]at hg3e;exact hg3e.1.1
  replace hsb:qi u g3 c3 g.ins:=⟨hsb,(FX hgs).1⟩
  have hgl:g3<u.heap.size:=hsb.lt
  have hml:=hom.lt
  have BU:Below w.heap.size w u:=BG.trans (bu.mono BG.size)
  have HLEN:Hid (g.wins.length=g.ins.length):=HG.out.len
  have hl6:g.wins.length<=6:=by have:=HLEN.out;omega
  have hl0:0<g.wins.length:=by have:=HLEN.out;omega
  clear HN HS tP tR hgs hg3e
  obtain⟨Z,hZ⟩:∃Z,Z=u.heap.size:=⟨_,rfl⟩
  rw[<- hZ]at hTl hgl hml
  have hZu:Z<=u.heap.size:=by omega
  have hwZ:w.heap.size+2<=Z:=by have:=bu.size;omega
  clear hZ
  go_wp2_with fail
  go_loopw [4] (fun i wr=>∃(k:Nat) (vw:Value) (L:List aS),k<=g.wins.length/\i=.int .i64 k/\ed wr Z vw L/\Hid (L.map (·.l)=g.wins.take k)/\qi wr g3 c3 g.ins/\Own wr gm g.shown/\iy wr bo (.slice (some ⟨g3,0,none⟩) g.ins.length c3) vw (.slice (some ⟨gm,0,none⟩) g.shown.length cm)/\iy wr w.heap.size (.slice (some ⟨bn,on,none⟩) g.ins.length c0) (.slice a1 g.wins.length c1) (.slice a2 g.shown.length c2)/\iy wr (w.heap.size+1) (.slice none 0 0) (.slice none 0 0) (.slice none 0 0)/\Z<=wr.heap.size/\Below w.heap.size w wr) (fun i _=>g.wins.length-(intOf i).toNat)
  case atStart=>exact⟨0,_,[],Nat.zero_le _,rfl,qg _ _,by simp[Hid],hsb,hom,hT,hTP,tR',hZu,BU⟩
  case round=>
   clear hsb hom hT hTP tR' BU bu
   obtain⟨k,vw,L,hk,rfl,hgy,HL,hsb,hom,hT,hTP,tR',hZr,hbl⟩:=hrel
   have hpx:=hTP.c1
   by_cases hlt:k<g.wins.length
   ·obtain⟨bw,ow,rfl,hbw,sw,tw,m0,htw,hrw⟩:=r1.below hbl k hlt
    have hbw0:bw<w.heap.size:=by
     obtain⟨b',o',e,hb,_⟩:=r1 k hlt
     cases e
     exact hb
    have k0:(0:Int)<=(k:Int):=by omega
    have k1:(k:Int)<(g.wins.length:Int):=by omega
    have hfi:∀u,Below wr.heap.size wr u->Calls Tryz.prog 118 #[.slice sw g.wins[k].length tw] u fun e w'=>(∃v,e=.returned v/\bD w' u.heap.size v g.wins[k])/\Below u.heap.size u w':=fun u hu=>nD sw tw g.wins[k] u (uy (HG.out.wins.2.2 k hlt)).small (hrw.below hu)
    have x1:=hT.c1
    have hbo1:bo<wr.heap.size:=block_lt_of_cell hT.c0
    have hpw:w.heap.size<wr.heap.size:=block_lt_of_cell hTP.c0
    go_wp2_with fail
    have hbd6:Below wr.heap.size wr wr.drew:=(Below.refl _ _).drew
    have HSS:Hid (∀u:World,Below wr.heap.size wr u->u.cell? ⟨w.heap.size,1,none⟩=some (.slice (some ⟨bw,ow,none⟩) g.wins.length c1)/\u.cell? ⟨bw,ow+k,none⟩=some (.slice sw g.wins[k].length tw)):=fun u hu=>⟨ae hu hpw hTP.c1,ae hu hbw m0⟩
    have SW:=HSS.out _ hbd6
    have x1d:wr.drew.cell? ⟨bo,1,none⟩=some vw:=x1
    refine wp_region_held_drew (S:=fun u=>u.cell? ⟨w.heap.size,1,none⟩=some (.slice (some ⟨bw,ow,none⟩) g.wins.length c1)/\u.cell? ⟨bw,ow+k,none⟩=some (.slice sw g.wins[k].length tw)) (by kernel_rfl) SW (fun _=>?_)
    refine wpAnyH_take (i:=0) (v:=.pointer (some ⟨bo,1,none⟩)) rfl (by kernel_rfl) (by kernel_rfl) (by kernel_rfl) (fun _ _ _ h=>h) (Or.inl ⟨by rfl, ?_⟩) SW ?_
    ·rintro u ⟨q1,q2⟩
     go_simp
    simp only[Act.put,List.setIfInBounds_toArray]
    refine wpAnyH_take (i:=2) (v:=.pointer (some ⟨w.heap.size,1,none⟩)) rfl (by kernel_rfl) (by kernel_rfl) (by kernel_rfl) (fun _ _ _ h=>h) (Or.inl ⟨by rfl, ?_⟩) SW ?_
    ·rintro u ⟨q1,q2⟩
     go_simp
    simp only[Act.put]
    refine wpAnyH_take (i:=3) (v:=.slice (some ⟨bw,ow,none⟩) g.wins.length c1) rfl (by kernel_rfl) (by kernel_rfl) (by kernel_rfl) (fun _ _ _ h=>h) (Or.inl ⟨by rfl, ?_⟩) SW ?_
    ·rintro u ⟨q1,q2⟩
     go_simp
    simp only[Act.put]
    refine wpAnyH_take (i:=4) (v:=.int .i64 k) rfl (by kernel_rfl) (by kernel_rfl) (by kernel_rfl) (fun _ _ _ h=>h) (Or.inl ⟨by rfl, ?_⟩) SW ?_
    ·rintro u ⟨q1,q2⟩
     go_simp
    simp only[Act.put]
    refine wpAnyH_take (i:=5) (v:=.pointer (some ⟨bw,ow+k,none⟩)) rfl (by kernel_rfl) (by kernel_rfl) (by kernel_rfl) (fun _ _ _ h=>h) (Or.inl ⟨by rfl, ?_⟩) SW ?_
    ·rintro u ⟨q1,q2⟩
     go_simp
    simp only[Act.put]
    refine wpAnyH_take (i:=6) (v:=.slice sw g.wins[k].length tw) rfl (by kernel_rfl) (by kernel_rfl) (by kernel_rfl) (fun _ _ _ h=>h) (Or.inl ⟨by rfl, ?_⟩) SW ?_
    ·rintro u ⟨q1,q2⟩
     go_simp
    simp only[Act.put]
    refine wpAnyH_ready (rs:=[1,7]) (by kernel_rfl) (by simp) ?_
    refine AllReadyH.cons rfl (fun K hK=>?_) (AllReadyH.cons rfl (fun K hK=>?_) AllReadyH.nil)
    rw[if_pos (by rfl)]
    go_simp
    refine hK.out _ _ SW (fun _=>?_)
    clear hK K
    refine wpAnyH_ready (rs:=[7]) (by kernel_rfl) (by simp) ?_
    refine AllReadyH.cons rfl (fun K hK=>?_) AllReadyH.nil
    rw[if_pos (by rfl)]
    go_simp
    refine(hfi _ hbd6).mono ?_
    rintro e w7 ⟨⟨v7,rfl,hg7⟩,b7⟩
    have b7':Below wr.heap.size wr w7:=hbd6.trans (b7.mono hbd6.size)
    have S7:=HSS.out _ b7'
    refine hK.out _ _ S7 (fun _=>?_)
    clear hK K
    obtain⟨v7a,v7c,rfl,h7c,_⟩:=hg7.safe
    have b8:Below wr.heap.size wr (w7.alloc (.cells #[.slice v7a g.wins[k].length v7c] 129)):=b7'.alloc b7'.size _
    have S8:=HSS.out _ b8
    refine wpAnyH_ready (rs:=[8]) (by kernel_rfl) (by simp) ?_
    refine AllReadyH.cons rfl (fun K hK=>?_) AllReadyH.nil
    rw[if_pos (by rfl)]
    go_simp
    refine hK.out _ _ S8 (fun _=>?_)
    clear hK K
    rotate_left
    rw[if_pos (by rfl)]
    go_simp
    refine(hfi _ hbd6).mono ?_
    rintro e w7 ⟨⟨v7,rfl,hg7⟩,b7⟩
    have b7':Below wr.heap.size wr w7:=hbd6.trans (b7.mono hbd6.size)
    have S7:=HSS.out _ b7'
    refine hK.out _ _ S7 (fun _=>?_)
    clear hK K
    obtain⟨v7a,v7c,rfl,h7c,_⟩:=hg7.safe
    have b8:Below wr.heap.size wr (w7.alloc (.cells #[.slice v7a g.wins[k].length v7c] 129)):=b7'.alloc b7'.size _
    have S8:=HSS.out _ b8
    have y7:=(hT.keep b7').c1
    have y8:=(hT.keep b8).c1
    refine wpAnyH_ready (rs:=[1,8]) (by kernel_rfl) (by simp) ?_
    refine AllReadyH.cons rfl (fun K hK=>?_) (AllReadyH.cons rfl (fun K hK=>?_) AllReadyH.nil)
    rw[if_pos (by rfl)]
    go_simp
    refine hK.out _ _ S7 (fun _=>?_)
    clear hK K
    refine wpAnyH_ready (rs:=[8]) (by kernel_rfl) (by simp) ?_
    refine AllReadyH.cons rfl (fun K hK=>?_) AllReadyH.nil
    rw[if_pos (by rfl)]
    go_simp
    refine hK.out _ _ S8 (fun _=>?_)
    clear hK K y7 y8
    rotate_left
    rw[if_pos (by rfl)]
    go_simp
    refine hK.out _ _ S8 (fun _=>?_)
    clear hK K
    refine wpAnyH_ready (rs:=[1]) (by kernel_rfl) (by simp) ?_
    refine AllReadyH.cons rfl (fun K hK=>?_) AllReadyH.nil
    rw[if_pos (by rfl)]
    go_simp
    refine hK.out _ _ S8 (fun _=>?_)
    clear hK K y7 y8
    all_goals
     have hzd:wr.drew.heap.size=wr.heap.size:=rfl
     have hin0:=hg7.winY b7.size
     have hin:(aS.mk g.wins[k] (.slice v7a g.wins[k].length v7c) wr.drew.heap.size w7.heap.size).In w7 Z:=⟨hin0.1,by show Z<=wr.drew.heap.size;omega,hin0.2.2.1,hin0.2.2.2⟩
     have hbx8:Below w7.heap.size w7 (w7.alloc (.cells #[.slice v7a g.wins[k].length v7c] 129)):=(Below.refl _ _).alloc (Nat.le_refl _) _
     have hlL:L.length<=1048576:=by have:=congrArg List.length HL.out;rw[List.length_map,List.length_take]at this;omega
     refine wpAnyH_ready (rs:=[9]) (by kernel_rfl) (by simp) ?_
     refine AllReadyH.cons rfl (fun K hK=>?_) AllReadyH.nil
     rw[if_pos (by rfl)]
     refine kX _ _ rfl Z vw L rfl (hgy.keep b8) (by have:=b8.size;omega) w7.heap.size (aS.mk g.wins[k] (.slice v7a g.wins[k].length v7c) wr.drew.heap.size w7.heap.size) (fun q hq=>by have:=(hgy.at_ q hq).2.2.2;exact this) (hin.below hbx8) (fun q hq=>.inl (by have:=(World.ownsRow.lt hgy.own q hq).2;exact this)) rfl (by simp[go_sem]) hlL ?_
     intro vw' w9 hgy9 hgr9 hloc9
     have hfar9:∀q,q<Z->some q≠vw.ownBlock:=fun q hq e=>by have:=aT hgy.own q e.symm;omega
     have tP9:=(hTP.keep b8).grown hgr9 (hfar9 _ (by omega))
     have tR9:=(tR'.keep b8).grown hgr9 (hfar9 _ (by omega))
     have tT9:=(hT.keep b8).grown hgr9 (hfar9 _ (by omega))
     have hom9:=sN (hom.below b8) hgr9 (hfar9 _ (by omega))
     have hsb9:qi w9 g3 c3 g.ins:=(hsb.below b8).of_block (hgr9.block g3 (hsb.below b8).lt (hfar9 _ (by omega)))
     have z9:=hgr9.size
     have z8:=b8.size
     have B9:Below w.heap.size w w9:=(hbl.trans (b8.mono hbl.size)).grown hgr9 (by have:=hbl.size;omega) (fun q hq=>by have:=aT hgy.own q hq;omega)
     have HL9:Hid ((L++[(aS.mk g.wins[k] (.slice v7a g.wins[k].length v7c) wr.drew.heap.size w7.heap.size)]).map (·.l)=g.wins.take (k+1)):=by
      unfold Hid
      rw[List.map_append,HL.out,List.take_succ_eq_append_getElem hlt]
      rfl
     have S9:w9.cell? ⟨w.heap.size,1,none⟩=some (.slice (some ⟨bw,ow,none⟩) g.wins.length c1)/\w9.cell? ⟨bw,ow+k,none⟩=some (.slice sw g.wins[k].length tw):=⟨tP9.c1,dn hgr9 (hfar9 _ (by omega)) S8.2⟩
     obtain⟨vwa,vwc,rfl,_,_⟩:=hgy9.row
     generalize (L++[(aS.mk g.wins[k] (.slice v7a g.wins[k].length v7c) wr.drew.heap.size w7.heap.size)])=L9 at *
     generalize L9.length=n9 at hgy9 hloc9 ⊢
     refine hK.out _ _ S9 (fun _=>?_)
     clear hK K
     have q0:=tT9.c1
     have q1:=tT9.f1
     refine wpAnyH_ready (rs:=[10]) (by kernel_rfl) (by simp) ?_
     refine AllReadyH.cons rfl (fun K hK=>?_) AllReadyH.nil
     rw[if_pos (by rfl)]
     go_simp
     refine hK.out _ _ S9 (fun _=>?_)
     clear hK K
     have tPf:=tP9.far (q:=bo) (by omega) 1 (.slice vwa n9 vwc)
     have S10:(w9.setCell ⟨bo,1,none⟩ (.slice vwa n9 vwc)).cell? ⟨w.heap.size,1,none⟩=some (.slice (some ⟨bw,ow,none⟩) g.wins.length c1)/\(w9.setCell ⟨bo,1,none⟩ (.slice vwa n9 vwc)).cell? ⟨bw,ow+k,none⟩=some (.slice sw g.wins[k].length tw):=⟨tPf.c1,by rw[aV _ _ _ _ (by omega)];exact S9.2⟩
     have hsbf:qi (w9.setCell ⟨bo,1,none⟩ (.slice vwa n9 vwc)) g3 c3 g.ins:=hsb9.span ((aJ.refl bo (bo+1) w9).setCell (Nat.le_refl _) (Nat.lt_succ_self _) 1 _) (by omega)
     refine wpAnyH_ready (rs:=[11]) (by kernel_rfl) (by simp) ?_
     refine AllReadyH.cons rfl (fun K hK=>?_) AllReadyH.nil
     rw[if_pos (by rfl)]
     go_simp
     refine hK.out _ _ S10 (fun _=>?_)
     clear hK K
     refine wpAnyH_done (by kernel_rfl) ?_ _
     go_wp2_with fail
     exact⟨⟨k+1,_,L9,by omega,by go_num,hgy9.set (by omega) 1 _,HL9,hsbf,hom9.setOther (by omega) 1 _,tT9.set1 _,tPf,tR9.far (by omega) 1 _,by simp only[World.size_setCell];omega,B9.setCell (by simp only;omega) _⟩,by simp[intOf];omega⟩
   ·obtain rfl:k=g.wins.length:=by omega
    have HLE:Hid (L.map (·.l)=g.wins):=by
     have:=HL.out
     rw[List.take_of_length_le (Nat.le_refl _)]at this
     exact this
    have hLl:L.length=g.wins.length:=by have:=congrArg List.length HLE.out;simpa using this
    obtain⟨t,e1,rfl,hc1,htB,htl,hcell,hfz,hft⟩:=hgy.blockY (by omega)
    have HLL:Hid (L.length=g.wins.length):=hLl
    clear hLl
    obtain⟨j0,j1,j2,_,_,_⟩:=id hT
    obtain⟨i0,i1,i2,f0,f1,f2⟩:=id tR'
    go_wp2_with fail
    obtain⟨w9,h9⟩:∃w9,((wr.setCell ⟨w.heap.size+1,0,none⟩ (.slice (some ⟨g3,0,none⟩) g.ins.length c3)).setCell ⟨w.heap.size+1,1,none⟩ (.slice (some ⟨t,0,none⟩) L.length e1)).setCell ⟨w.heap.size+1,2,none⟩ (.slice (some ⟨gm,0,none⟩) g.shown.length cm)=w9:=⟨_,rfl⟩
    have sp:aJ (w.heap.size+1) (w.heap.size+2) wr w9:=by rw[<- h9];exact(((aJ.refl _ _ _).setCell (by omega) (by omega) _ _).setCell (by omega) (by omega) _ _).setCell (by omega) (by omega) _ _
    have B9:Below w.heap.size w w9:=by rw[<- h9];exact((hbl.setCell (by simp only;omega) _).setCell (by simp only;omega) _).setCell (by simp only;omega) _
    have y0:w9.cell? ⟨w.heap.size+1,0,none⟩=some (.slice (some ⟨g3,0,none⟩) g.ins.length c3):=by rw[<- h9];simp[go_sem,i0]
    have y1:w9.cell? ⟨w.heap.size+1,1,none⟩=some (.slice (some ⟨t,0,none⟩) L.length e1):=by rw[<- h9];simp[go_sem,i1]
    have y2:w9.cell? ⟨w.heap.size+1,2,none⟩=some (.slice (some ⟨gm,0,none⟩) g.shown.length cm):=by rw[<- h9];simp[go_sem,i2]
    have hlt':=FX hgy.own
    have hfull:jD wr (w.heap.size+2) wr.heap.size g3 t c3 e1 (some ⟨gm,0,none⟩) g.ins L g.shown:=
     ⟨⟨hsb.str,⟨htl,hcell,fun p hp=>(hgy.at_ p hp).1,hft,fun p hp=>by have:=(hgy.at_ p hp).2;omega,hgy.dis.imp fun h=>.inl h⟩,by omega,⟨by omega,hsb.lt⟩,⟨by omega,htl⟩,fun p hp=>.inl (by have:=(hgy.at_ p hp).2;omega),.inr ⟨gm,rfl,by omega,hom.lt,by omega,by omega,hom,fun p hp=>.inl (by have:=(hgy.at_ p hp).2;omega)⟩⟩,hsb.lie,hlt'.1,HCAP.out,hlt'.2⟩
    have hz9:=sp.size
    have hfz9:∀k,w9.frozen? ⟨t,k,none⟩=false:=fun k=>by rw[World.frozen?_of_block (sp.block t htl (by omega))];exact hfz k
    rw[h9]
    clear h9
    exact bodyPost_ret (v:=.agg #[.slice (some ⟨g3,0,none⟩) g.ins.length c3,.slice (some ⟨t,0,none⟩) L.length e1,.slice (some ⟨gm,0,none⟩) g.shown.length cm]) (by simp[results,Tryz.results112,go_sem,y0,y1,y2]) rfl ⟨⟨g3,t,c3,e1,gm,cm,L,rfl,(hfull.span sp (.inr (Nat.le_refl _))).widen (by omega) hz9,HLE.out,hfz9,by omega,HCAP.out⟩,B9⟩
end Go.Proofs.YtpfhegengmlkmabGreatDoor
