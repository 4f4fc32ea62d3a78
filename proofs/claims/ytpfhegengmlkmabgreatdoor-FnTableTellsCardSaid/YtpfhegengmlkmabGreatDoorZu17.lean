/- Texts of this claim. -/
import Derived.Deep.RegionHeld3
import Derived.RangeFuncNested
import Derived.RangeFuncBound
import Derived.RangeFuncCalls
import Derived.RangeFuncLeaves
import Derived.Shelf.Abstract
import Derived.Shelf.RegionOpen
import Derived.OwnWalkIn
import Derived.TacticsInMore
import Derived.LoopNIn
import Derived.LoopIn
import Derived.Test.YtpfhegengmlkmabGreatDoorZu1
namespace Go.Proofs.YtpfhegengmlkmabGreatDoor
open Go.RowKit Go.BigFrame
set_option maxHeartbeats 400000 in
theorem uY (s:ByteArray)(v:Int)(w:World) :
  Calls Tryz.prog 166 #[.agg #[.string s,.int .i64 v]] w fun e w'=>e=.returned (.bool (decide (0<v)))/\Below w.heap.size w w':=by
 go_enter Tryz.func166,Tryz.ntmps166
 go_wp2
 go_ret
 exact⟨rfl,(Below.refl _ _).alloc (Nat.le_refl _) _⟩
set_option maxHeartbeats 400000 in
theorem oV (x y:ByteArray×Int)(w:World) :
  Calls Tryz.prog 140 #[.agg #[.string x.1,.int .i64 x.2],.agg #[.string y.1,.int .i64 y.2]] w fun e w'=>e=.returned (.agg #[.string (aG x y).1,.int .i64 (aG x y).2])/\Below w.heap.size w w':=by
 by_cases h:x.2<y.2
 ·have H:Hid (aG x y=y):=by unfold Hid aG;rw[if_pos h]
  go_enter Tryz.func140,Tryz.ntmps140
  go_wp2
  rw[H.out]
  exact bodyPost_ret (v:=.agg #[.string y.1,.int .i64 y.2]) (by simp[results,Tryz.results140,go_sem]) rfl ⟨rfl,(((Below.refl _ _).alloc (Nat.le_refl _) _).alloc (by simp) _).alloc (by simp;omega) _⟩
 ·have H:Hid (aG x y=x):=by unfold Hid aG;rw[if_neg h]
  go_enter Tryz.func140,Tryz.ntmps140
  go_wp2
  rw[H.out]
  exact bodyPost_ret (v:=.agg #[.string x.1,.int .i64 x.2]) (by simp[results,Tryz.results140,go_sem]) rfl ⟨rfl,(((Below.refl _ _).alloc (Nat.le_refl _) _).alloc (by simp) _).alloc (by simp;omega) _⟩
theorem Row.first {w:World}{a:Option Addr}{l:List (ByteArray×Int)}(h:Row w a l)(h0:0<l.length):∃b o,a=some ⟨b,o,none⟩/\b<w.heap.size/\w.cell? ⟨b,o,none⟩=some (.string l[0].1)/\w.cell? ⟨b,o+1,none⟩=some (.int .i64 l[0].2):=by
 obtain⟨b,o,e,hb,c0,c1⟩:=h 0 h0
 exact⟨b,o,e,hb,by simpa using c0,by simpa using c1⟩
theorem aK (W:World){h b i k:Nat}(v:Value)(hne:b≠h):(W.setCell ⟨h,i,none⟩ v).cell? ⟨b,k,none⟩=W.cell? ⟨b,k,none⟩:=World.cell?_of_block (Below.heap_setCell _ _ _ _ hne)
theorem lC (w:World)(n:Nat):∃W,((w.alloc (.cells #[.string ⟨#[]⟩,.int .i64 0] 54)).alloc (.cells #[.string ⟨#[]⟩,.int .i64 0] 54)).drewN n=W/\∃x0 x1 y0 y1:Value,
  W.cell? ⟨w.heap.size,0,none⟩=some x0/\W.cell? ⟨w.heap.size,1,none⟩=some x1/\W.cell? ⟨w.heap.size+1,0,none⟩=some y0/\W.cell? ⟨w.heap.size+1,1,none⟩=some y1 /\
  W.frozen? ⟨w.heap.size,0,none⟩=false/\W.frozen? ⟨w.heap.size,1,none⟩=false/\W.frozen? ⟨w.heap.size+1,0,none⟩=false/\W.frozen? ⟨w.heap.size+1,1,none⟩=false/\Below w.heap.size w W/\W.heap.size=w.heap.size+2:=
 ⟨_,rfl,_,_,_,_,by simp[go_sem];rfl,by simp[go_sem];rfl,by simp[go_sem];rfl,by simp[go_sem];rfl,by simp[go_sem],by simp[go_sem],by simp[go_sem],by simp[go_sem],below_drewN (((Below.refl _ _).alloc (Nat.le_refl _) _).alloc (by simp) _) n,by simp⟩
set_option maxHeartbeats 800000 in
theorem JB (aa ab:Option Addr)(ca cb:Nat)(la lb:List (ByteArray×Int))(w:World)(ha:Row w aa la)(h0:0<la.length)(h1:lb.length=0) :
  Calls Tryz.prog 165 #[.slice aa la.length ca,.slice ab lb.length cb] w fun e w'=>e=.returned (.tuple #[.agg #[.string la[0].1,.int .i64 la[0].2],.agg #[.string la[0].1,.int .i64 0]])/\Below w.heap.size w w':=by
 obtain⟨b,o,rfl,hblt,c0,c1⟩:=ha.first h0
 have ne1:b≠w.heap.size:=by omega
 have ne2:b≠w.heap.size+1:=by omega
 have g:((lb.length:Int)==0)=true:=by simp[h1]
 clear h1
 go_enter Tryz.func165,Tryz.ntmps165
 go_wp2_with fail
 go_quiet (fail)
 go_wp2_with fail
 obtain⟨W,hW,K⟩:=lC w nq
 rw[hW]
 clear hW
 obtain⟨x0,x1,y0,y1,d0,d1,e0,e1,f0,f1,f2,f3,hbel,hsz⟩:=K
 have c0:=ae hbel hblt c0
 have c1:=ae hbel hblt c1
 go_region_held3 (fun w'=>w'.cell? ⟨b,o,none⟩=some (.string la[0].1)/\w'.cell? ⟨b,o+1,none⟩=some (.int .i64 la[0].2)) (simp only[World.cell?_drew,aK _ _ ne1,aK _ _ ne2,c0,c1,and_self]) (fail)
 all_goals go_wp2_with fail
 all_goals exact bodyPost_ret (v:=.tuple #[.agg #[.string la[0].1,.int .i64 la[0].2],.agg #[.string la[0].1,.int .i64 0]]) (by simp[results,Tryz.results165,go_sem,d0,d1,e0,e1]) rfl ⟨rfl,by repeat (first|exact hbel|apply Below.drew|apply below_drewN|refine Below.setCell ?_ (by simp) _)⟩
set_option maxHeartbeats 800000 in
theorem Je (aa ab:Option Addr)(ca cb:Nat)(la lb:List (ByteArray×Int))(w:World)(ha:Row w aa la)(hb:Row w ab lb)(h0:0<la.length)(h0':0<lb.length)(h1:Op.bytesLess la[0].1.toList lb[0].1.toList=true) :
  Calls Tryz.prog 165 #[.slice aa la.length ca,.slice ab lb.length cb] w fun e w'=>e=.returned (.tuple #[.agg #[.string la[0].1,.int .i64 la[0].2],.agg #[.string la[0].1,.int .i64 0]])/\Below w.heap.size w w':=by
 obtain⟨b,o,rfl,hblt,c0,c1⟩:=ha.first h0
 have ne1:b≠w.heap.size:=by omega
 have ne2:b≠w.heap.size+1:=by omega
 obtain⟨b',o',rfl,hblt',k0,k1⟩:=hb.first h0'
 have ne3:b'≠w.heap.size:=by omega
 have ne4:b'≠w.heap.size+1:=by omega
 have g:((lb.length:Int)==0)=false:=beq_eq_false_iff_ne.2 (by omega)
 have g1:decide (0<la.length)=true:=by simpa using h0
 go_enter Tryz.func165,Tryz.ntmps165
 go_wp2_with fail
 go_quiet (fail)
 go_wp2_with fail
 obtain⟨W,hW,K⟩:=lC w nq
 rw[hW]
 clear hW
 obtain⟨x0,x1,y0,y1,d0,d1,e0,e1,f0,f1,f2,f3,hbel,hsz⟩:=K
 have c0:=ae hbel hblt c0
 have c1:=ae hbel hblt c1
 have k0:=ae hbel hblt' k0
 have k1:=ae hbel hblt' k1
 go_region_held3 (fun w'=>w'.cell? ⟨b,o,none⟩=some (.string la[0].1)/\w'.cell? ⟨b,o+1,none⟩=some (.int .i64 la[0].2)/\w'.cell? ⟨b',o',none⟩=some (.string lb[0].1)/\w'.cell? ⟨b',o'+1,none⟩=some (.int .i64 lb[0].2)) (simp only[World.cell?_drew,aK _ _ ne1,aK _ _ ne2,c0,c1,aK _ _ ne3,aK _ _ ne4,k0,k1,and_self]) (fail)
 all_goals go_wp2_with fail
 all_goals exact bodyPost_ret (v:=.tuple #[.agg #[.string la[0].1,.int .i64 la[0].2],.agg #[.string la[0].1,.int .i64 0]]) (by simp[results,Tryz.results165,go_sem,d0,d1,e0,e1]) rfl ⟨rfl,by repeat (first|exact hbel|apply Below.drew|apply below_drewN|refine Below.setCell ?_ (by simp) _)⟩
set_option maxHeartbeats 800000 in
theorem JP (aa ab:Option Addr)(ca cb:Nat)(la lb:List (ByteArray×Int))(w:World)(hb:Row w ab lb)(h0':0<lb.length)(h1:la.length=0) :
  Calls Tryz.prog 165 #[.slice aa la.length ca,.slice ab lb.length cb] w fun e w'=>e=.returned (.tuple #[.agg #[.string lb[0].1,.int .i64 0],.agg #[.string lb[0].1,.int .i64 lb[0].2]])/\Below w.heap.size w w':=by
 obtain⟨b',o',rfl,hblt',k0,k1⟩:=hb.first h0'
 have ne3:b'≠w.heap.size:=by omega
 have ne4:b'≠w.heap.size+1:=by omega
 have g:((lb.length:Int)==0)=false:=beq_eq_false_iff_ne.2 (by omega)
 have g1:decide (0<la.length)=false:=by simp[h1]
 have g2:((la.length:Int)==0)=true:=by simp[h1]
 clear h1
 go_enter Tryz.func165,Tryz.ntmps165
 go_wp2_with fail
 go_quiet (fail)
 go_wp2_with fail
 go_quiet (fail)
 go_wp2_with fail
 obtain⟨W,hW,K⟩:=lC w _
 rw[hW]
 clear hW
 obtain⟨x0,x1,y0,y1,d0,d1,e0,e1,f0,f1,f2,f3,hbel,hsz⟩:=K
 have k0:=ae hbel hblt' k0
 have k1:=ae hbel hblt' k1
 go_region_held3 (fun w'=>w'.cell? ⟨b',o',none⟩=some (.string lb[0].1)/\w'.cell? ⟨b',o'+1,none⟩=some (.int .i64 lb[0].2)) (simp only[World.cell?_drew,World.cell?_drewN,aK _ _ ne3,aK _ _ ne4,k0,k1,and_self]) (fail)
 all_goals go_wp2_with fail
 all_goals exact bodyPost_ret (v:=.tuple #[.agg #[.string lb[0].1,.int .i64 0],.agg #[.string lb[0].1,.int .i64 lb[0].2]]) (by simp[results,Tryz.results165,go_sem,d0,d1,e0,e1]) rfl ⟨rfl,by repeat (first|exact hbel|apply Below.drew|apply below_drewN|refine Below.setCell ?_ (by simp) _)⟩
set_option maxHeartbeats 800000 in
theorem Jr (aa ab:Option Addr)(ca cb:Nat)(la lb:List (ByteArray×Int))(w:World)(ha:Row w aa la)(hb:Row w ab lb)(h0:0<la.length)(h0':0<lb.length)(h1:Op.bytesLess la[0].1.toList lb[0].1.toList=false)(h2:Op.bytesLess lb[0].1.toList la[0].1.toList=true) :
  Calls Tryz.prog 165 #[.slice aa la.length ca,.slice ab lb.length cb] w fun e w'=>e=.returned (.tuple #[.agg #[.string lb[0].1,.int .i64 0],.agg #[.string lb[0].1,.int .i64 lb[0].2]])/\Below w.heap.size w w':=by
 obtain⟨b,o,rfl,hblt,c0,c1⟩:=ha.first h0
 have ne1:b≠w.heap.size:=by omega
 have ne2:b≠w.heap.size+1:=by omega
 obtain⟨b',o',rfl,hblt',k0,k1⟩:=hb.first h0'
 have ne3:b'≠w.heap.size:=by omega
 have ne4:b'≠w.heap.size+1:=by omega
 have g:((lb.length:Int)==0)=false:=beq_eq_false_iff_ne.2 (by omega)
 have g1:decide (0<la.length)=true:=by simpa using h0
 have g2:((la.length:Int)==0)=false:=beq_eq_false_iff_ne.2 (by omega)
 go_enter Tryz.func165,Tryz.ntmps165
 go_wp2_with fail
 go_quiet (fail)
 go_wp2_with fail
 go_quiet (fail)
 go_wp2_with fail
 obtain⟨W,hW,K⟩:=lC w _
 rw[hW]
 clear hW
 obtain⟨x0,x1,y0,y1,d0,d1,e0,e1,f0,f1,f2,f3,hbel,hsz⟩:=K
 have c0:=ae hbel hblt c0
 have c1:=ae hbel hblt c1
 have k0:=ae hbel hblt' k0
 have k1:=ae hbel hblt' k1
 go_region_held3 (fun w'=>w'.cell? ⟨b,o,none⟩=some (.string la[0].1)/\w'.cell? ⟨b,o+1,none⟩=some (.int .i64 la[0].2)/\w'.cell? ⟨b',o',none⟩=some (.string lb[0].1)/\w'.cell? ⟨b',o'+1,none⟩=some (.int .i64 lb[0].2)) (simp only[World.cell?_drew,World.cell?_drewN,aK _ _ ne1,aK _ _ ne2,c0,c1,aK _ _ ne3,aK _ _ ne4,k0,k1,and_self]) (fail)
 all_goals go_wp2_with fail
 all_goals exact bodyPost_ret (v:=.tuple #[.agg #[.string lb[0].1,.int .i64 0],.agg #[.string lb[0].1,.int .i64 lb[0].2]]) (by simp[results,Tryz.results165,go_sem,d0,d1,e0,e1]) rfl ⟨rfl,by repeat (first|exact hbel|apply Below.drew|apply below_drewN|refine Below.setCell ?_ (by simp) _)⟩
set_option maxHeartbeats 800000 in
theorem J9 (aa ab:Option Addr)(ca cb:Nat)(la lb:List (ByteArray×Int))(w:World)(ha:Row w aa la)(hb:Row w ab lb)(h0:0<la.length)(h0':0<lb.length)(h1:Op.bytesLess la[0].1.toList lb[0].1.toList=false)(h2:Op.bytesLess lb[0].1.toList la[0].1.toList=false) :
  Calls Tryz.prog 165 #[.slice aa la.length ca,.slice ab lb.length cb] w fun e w'=>e=.returned (.tuple #[.agg #[.string la[0].1,.int .i64 la[0].2],.agg #[.string lb[0].1,.int .i64 lb[0].2]])/\Below w.heap.size w w':=by
 obtain⟨b,o,rfl,hblt,c0,c1⟩:=ha.first h0
 have ne1:b≠w.heap.size:=by omega
 have ne2:b≠w.heap.size+1:=by omega
 obtain⟨b',o',rfl,hblt',k0,k1⟩:=hb.first h0'
 have ne3:b'≠w.heap.size:=by omega
 have ne4:b'≠w.heap.size+1:=by omega
 have g:((lb.length:Int)==0)=false:=beq_eq_false_iff_ne.2 (by omega)
 have g1:decide (0<la.length)=true:=by simpa using h0
 have g2:((la.length:Int)==0)=false:=beq_eq_false_iff_ne.2 (by omega)
 go_enter Tryz.func165,Tryz.ntmps165
 go_wp2_with fail
 go_quiet (fail)
 go_wp2_with fail
 go_quiet (fail)
 go_wp2_with fail
 obtain⟨W,hW,K⟩:=lC w _
 rw[hW]
 clear hW
 obtain⟨x0,x1,y0,y1,d0,d1,e0,e1,f0,f1,f2,f3,hbel,hsz⟩:=K
 have c0:=ae hbel hblt c0
 have c1:=ae hbel hblt c1
 have k0:=ae hbel hblt' k0
 have k1:=ae hbel hblt' k1
 go_region_held3 (fun w'=>w'.cell? ⟨b,o,none⟩=some (.string la[0].1)/\w'.cell? ⟨b,o+1,none⟩=some (.int .i64 la[0].2)/\w'.cell? ⟨b',o',none⟩=some (.string lb[0].1)/\w'.cell? ⟨b',o'+1,none⟩=some (.int .i64 lb[0].2)) (simp only[World.cell?_drew,World.cell?_drewN,aK _ _ ne1,aK _ _ ne2,c0,c1,aK _ _ ne3,aK _ _ ne4,k0,k1,and_self]) (fail)
 all_goals go_wp2_with fail
 all_goals exact bodyPost_ret (v:=.tuple #[.agg #[.string la[0].1,.int .i64 la[0].2],.agg #[.string lb[0].1,.int .i64 lb[0].2]]) (by simp[results,Tryz.results165,go_sem,d0,d1,e0,e1]) rfl ⟨rfl,by repeat (first|exact hbel|apply Below.drew|apply below_drewN|refine Below.setCell ?_ (by simp) _)⟩
theorem first_any (aa ab:Option Addr)(ca cb:Nat)(la lb:List (ByteArray×Int))(w:World)(ha:Row w aa la)(hb:Row w ab lb)(p:(ByteArray×Int)×(ByteArray×Int))(hp:dU la lb=some p) :
  Calls Tryz.prog 165 #[.slice aa la.length ca,.slice ab lb.length cb] w fun e w'=>e=.returned (.tuple #[.agg #[.string p.1.1,.int .i64 p.1.2],.agg #[.string p.2.1,.int .i64 p.2.2]])/\Below w.heap.size w w':=by
 cases la with
 |nil=>
  cases lb with
  |nil=>simp[dU]at hp
  |cons y lb=>
   simp only[dU,Option.some.injEq]at hp
   subst hp
   exact JP aa ab ca cb [] (y::lb) w hb (by simp) rfl
 |cons x la=>
  cases lb with
  |nil=>
   simp only[dU,Option.some.injEq]at hp
   subst hp
   exact JB aa ab ca cb (x::la) [] w ha (by simp) rfl
  |cons y lb=>
   cases h1:Op.bytesLess x.1.toList y.1.toList
   ·cases h2:Op.bytesLess y.1.toList x.1.toList
    ·simp[dU,h1,h2]at hp
     subst hp
     exact J9 aa ab ca cb (x::la) (y::lb) w ha hb (by simp) (by simp) h1 h2
    ·simp[dU,h1,h2]at hp
     subst hp
     exact Jr aa ab ca cb (x::la) (y::lb) w ha hb (by simp) (by simp) h1 h2
   ·simp[dU,h1]at hp
    subst hp
    exact Je aa ab ca cb (x::la) (y::lb) w ha hb (by simp) (by simp) h1
end Go.Proofs.YtpfhegengmlkmabGreatDoor
namespace Go.Proofs.YtpfhegengmlkmabGreatDoor
open Go.RowKit Go.Shelf Go.WideShapes
attribute [local go_sem] Oper.semAt_some
structure KS (lo hi:Nat) (W W':World):Prop where
 size:W.heap.size<=W'.heap.size
 block:∀k o,(k<lo∨(hi<=k/\W.cell? ⟨k,3,none⟩=none))->W.heap[k]?=some o->o.isCells=true->W'.heap[k]?=some o
theorem KS.refl (lo hi:Nat)(W:World):KS lo hi W W:=⟨Nat.le_refl _,fun _ _ _ h _=>h⟩
theorem KS.trans {lo hi:Nat}{A B C:World}(h:KS lo hi A B)(k:KS lo hi B C):KS lo hi A C:=
 ⟨Nat.le_trans h.size k.size,fun i o hn hi ho=>by
  have h1:=h.block i o hn hi ho
  refine k.block i o (hn.imp id fun q=>⟨q.1, ?_⟩) h1 ho
  rw[World.cell?_of_block (w:=A) (w':=B) (a:=⟨i,3,none⟩) (by rw[h1,hi])];exact q.2⟩
theorem KS.of_below {lo hi:Nat}{A B:World}(h:Below A.heap.size A B):KS lo hi A B:=⟨h.size,fun k o _ hk _=>by
 rw[h.block k (Array.getElem?_eq_some_iff.1 hk).1];exact hk⟩
theorem KS.put {lo hi:Nat}(W:World)(l:Nat)(o o':Obj)(h:W.heap[l]?=some o)(ho:o.isCells=false):KS lo hi W (W.putObj l o'):=⟨by simp,fun k o1 _ hk h1=>by
 have hne:k≠l:=fun e=>by subst e;rw[h]at hk;cases hk;rw[ho]at h1;cases h1
 rw[World.putObj_heap_other (fun e=>hne e)];exact hk⟩
theorem BH {A:World}{b o:Nat}{v:Value}(h:A.cell? ⟨b,o,none⟩=some v):∃ob,A.heap[b]?=some ob/\ob.isCells=true:=by
 unfold World.cell? at h
 cases hh:A.heap[b]? with
 |none=>simp[hh]at h
 |some ob=>
  refine⟨ob,rfl, ?_⟩
  cases ob <;> simp_all [Obj.isCells]
theorem KS.cell {lo hi:Nat}{A B:World}(h:KS lo hi A B){b o:Nat}{v:Value}(hn:b<lo∨(hi<=b/\A.cell? ⟨b,3,none⟩=none))(hc:A.cell? ⟨b,o,none⟩=some v):B.cell? ⟨b,o,none⟩=some v:=by
 obtain⟨ob,h1,h2⟩:=BH hc
 have h3:=h.block b ob hn h1 h2
 rw[World.cell?_of_block (w:=A) (w':=B) (a:=⟨b,o,none⟩) (by rw[h3,h1])];exact hc
theorem KS.row {lo hi:Nat}{A B:World}(h:KS lo hi A B){a:Option Addr}{l:List (ByteArray×Int)}(hr:∀k,(hk:k<l.length)->∃b o,a=some ⟨b,o,none⟩/\b<lo/\A.cell? ⟨b,o+k*2,none⟩=some (.string l[k].1)/\A.cell? ⟨b,o+k*2+1,none⟩=some (.int .i64 l[k].2))(hB:lo<=B.heap.size):Row B a l:=fun k hk=>by
 obtain⟨b,o,ha,hb,c0,c1⟩:=hr k hk
 exact⟨b,o,ha,by omega,h.cell (.inl hb) c0,h.cell (.inl hb) c1⟩
def Dy (lo:Nat)(w:World)(a:Option Addr)(l:List (ByteArray×Int)):Prop:=
 ∀k,(hk:k<l.length)->∃b o,a=some ⟨b,o,none⟩/\b<lo/\w.cell? ⟨b,o+k*2,none⟩=some (.string l[k].1)/\w.cell? ⟨b,o+k*2+1,none⟩=some (.int .i64 l[k].2)
theorem Row.low {w:World}{a:Option Addr}{l:List (ByteArray×Int)}(h:Row w a l):Dy w.heap.size w a l:=h
theorem Dy.below {lo:Nat}{w w':World}{a:Option Addr}{l:List (ByteArray×Int)}(h:Dy lo w a l)(hb:Below lo w w'):Dy lo w' a l:=fun k hk=>by
 obtain⟨b,o,ha,hlt,c0,c1⟩:=h k hk
 exact⟨b,o,ha,hlt,by rw[hb.cell hlt];exact c0,by rw[hb.cell hlt];exact c1⟩
theorem Tryz.elemM:Tryz.prog.underlying 28=some (.slice (Tryz.prog.elem 28)):=by kernel_rfl
theorem Tryz.sizeM (u:World):(sizeOf (Tryz.prog.elem 28)).run Tryz.prog u=.ok 2 u:=by kernel_rfl
theorem wO (aa:Option Addr)(cap i:Nat)(l:List (ByteArray×Int))(hi:i<=l.length)(hc:l.length<=cap):∃aa':Option Addr,
  (∀u:World,(Instr.slice 28 (.slice aa l.length cap) (some (.int .i64 (i:Int))) none none).run Tryz.prog u=.ok (.slice aa' (l.length-i) (cap-i)) u)/\(∀w,Row w aa l->Row w aa' (l.drop i)):=by
 refine⟨if cap=i then aa else aa.map (·.add (i*2)),fun u=>?_,fun w h k hk=>?_⟩
 ·rw[run_slice_l u 28 aa l.length cap Tryz.elemM .i64 (i:Int) (by omega) (by omega),Tryz.sizeM]
  simp[Result.andThen,sliced]
 ·rw[List.length_drop]at hk
  obtain⟨b,o,ha,hb,c0,c1⟩:=h (i+k) (by omega)
  refine⟨b,o+i*2, ?_,hb, ?_, ?_⟩
  ·rw[if_neg (by omega),ha]
   simp[add_plain]
  ·rw[List.getElem_drop]
   have e:o+i*2+k*2=o+(i+k)*2:=by omega
   rw[e];exact c0
  ·rw[List.getElem_drop]
   have e:o+i*2+k*2+1=o+(i+k)*2+1:=by omega
   rw[e];exact c1
theorem GV (aa ab:Option Addr)(ca cb na nb:Nat)(la lb:List (ByteArray×Int))(hna:na=la.length)(hnb:nb=lb.length)(w:World)(ha:Row w aa la)(hb:Row w ab lb)(p:(ByteArray×Int)×(ByteArray×Int))(hp:dU la lb=some p) :
  Calls Tryz.prog 165 #[.slice aa na ca,.slice ab nb cb] w fun e w'=>e=.returned (.tuple #[.agg #[.string p.1.1,.int .i64 p.1.2],.agg #[.string p.2.1,.int .i64 p.2.2]])/\Below w.heap.size w w':=by
 subst hna hnb
 exact first_any aa ab ca cb la lb w ha hb p hp
structure PM where
 p:(ByteArray×Int)×(ByteArray×Int)
 h:p.1.1.size<=1048576/\p.2.1.size<=1048576
theorem EQ {a b:List (ByteArray×Int)}{p:(ByteArray×Int)×(ByteArray×Int)}(ha:∀m∈a,m.1.size<=1048576)(hb:∀m∈b,m.1.size<=1048576)(hp:dU a b=some p):p.1.1.size<=1048576/\p.2.1.size<=1048576:=by
 cases a with
 |nil=>
  cases b with
  |nil=>simp[dU]at hp
  |cons y b=>simp only[dU,Option.some.injEq]at hp;subst hp;exact⟨hb y (by simp),hb y (by simp)⟩
 |cons x a=>
  cases b with
  |nil=>simp only[dU,Option.some.injEq]at hp;subst hp;exact⟨ha x (by simp),ha x (by simp)⟩
  |cons y b=>
   have h1:=ha x (by simp)
   have h2:=hb y (by simp)
   simp only[dU]at hp
   split at hp
   ·simp only[Option.some.injEq]at hp;subst hp;exact⟨h1,h1⟩
   ·split at hp
    ·simp only[Option.some.injEq]at hp;subst hp;exact⟨h2,h2⟩
    ·simp only[Option.some.injEq]at hp;subst hp;exact⟨h1,h2⟩
theorem Ih {a b:List (ByteArray×Int)}{p:(ByteArray×Int)×(ByteArray×Int)}(ha:∀m∈a,1<=m.2)(hb:∀m∈b,1<=m.2)(hp:dU a b=some p):(0<p.1.2->0<a.length)/\(0<p.2.2->0<b.length)/\(0<p.1.2∨0<p.2.2):=by
 cases a with
 |nil=>
  cases b with
  |nil=>simp[dU]at hp
  |cons y b=>
   have h2:=hb y (by simp)
   simp only[dU,Option.some.injEq]at hp;subst hp;exact⟨fun h=>by simp at h,fun _=>by simp,.inr (by simp only;omega)⟩
 |cons x a=>
  have h1:=ha x (by simp)
  cases b with
  |nil=>simp only[dU,Option.some.injEq]at hp;subst hp;exact⟨fun _=>by simp,fun h=>by simp at h,.inl (by simp only;omega)⟩
  |cons y b=>
   have h2:=hb y (by simp)
   refine⟨fun _=>by simp,fun _=>by simp, ?_⟩
   simp only[dU]at hp
   split at hp
   ·simp only[Option.some.injEq]at hp;subst hp;exact .inl (by simp only;omega)
   ·split at hp
    ·simp only[Option.some.injEq]at hp;subst hp;exact .inr (by simp only;omega)
    ·simp only[Option.some.injEq]at hp;subst hp;exact .inl (by simp only;omega)
theorem EY {a b:List (ByteArray×Int)}(h:0<a.length+b.length):∃p,dU a b=some p:=by
 cases a with
 |nil=>
  cases b with
  |nil=>simp at h
  |cons y b=>exact⟨_,rfl⟩
 |cons x a=>
  cases b with
  |nil=>exact⟨_,rfl⟩
  |cons y b=>
   simp only[dU]
   split
   ·exact⟨_,rfl⟩
   ·split <;> exact⟨_,rfl⟩
theorem NH {wr w1:World}{B:Nat}{t:TypeId}{p q p' q':Value}(hB:wr.heap.size+1<B)(hb1:Below B ((wr.alloc (.cells #[p,q] t)).alloc (.cells #[p',q'] t)).drew w1):w1.cell? ⟨wr.heap.size,0,none⟩=some p/\w1.cell? ⟨wr.heap.size,1,none⟩=some q:=by
 refine⟨(hb1.cell (p:=⟨wr.heap.size,0,none⟩) (by simp only;omega)).trans ?_,(hb1.cell (p:=⟨wr.heap.size,1,none⟩) (by simp only;omega)).trans ?_⟩
 ·simp[go_sem]
 ·simp[go_sem]
end Go.Proofs.YtpfhegengmlkmabGreatDoor
namespace Go.Proofs.YtpfhegengmlkmabGreatDoor
open Go.RowKit Go.Shelf Go.BigFrame
attribute [local go_sem] Oper.semAt_some
def Iw (x:PM):Array Value:=#[.agg #[.string x.p.1.1,.int .i64 x.p.1.2],.agg #[.string x.p.2.1,.int .i64 x.p.2.2]]
theorem nK {A B:World}(h:Below A.heap.size A B):A.grownBy B none:=⟨h.os,h.tape,h.output,h.size,fun k hk _=>h.block k hk⟩
theorem Jl {a b a' b':List (ByteArray×Int)}{pre:List PM}{n f:Nat}{p:(ByteArray×Int)×(ByteArray×Int)}(h:aO n a b=pre.map PM.p++aO f a' b')(hp:dU a' b'=some p)(hf:0<f):pre.length<n:=by
 have h1:=qN n a b
 rw[h]at h1
 obtain⟨g,rfl⟩:∃g,f=g+1:=⟨f-1,by omega⟩
 simp only[aO,hp,List.length_append,List.length_map,List.length_cons]at h1
 omega
theorem Jw {a b a' b':List (ByteArray×Int)}{pre:List PM}{n f:Nat}{x:PM}(h:aO n a b=pre.map PM.p++aO f a' b')(hp:dU a' b'=some x.p)(hf:0<f):(pre++[x]).map PM.p <+: aO n a b:=by
 obtain⟨g,rfl⟩:∃g,f=g+1:=⟨f-1,by omega⟩
 rw[h]
 simp only[aO,hp,List.map_append,List.map_cons,List.map_nil]
 refine⟨aO g (if 0<x.p.1.2 then a'.tail else a') (if 0<x.p.2.2 then b'.tail else b'), ?_⟩
 simp
theorem Gt {a b:List (ByteArray×Int)}{pre:List PM}{n f i j:Nat}{x:PM}(h:aO n a b=pre.map PM.p++aO f (a.drop i) (b.drop j))(hp:dU (a.drop i) (b.drop j)=some x.p)(hf:0<f) :
  aO n a b=(pre++[x]).map PM.p++aO (f-1) (if 0<x.p.1.2 then a.drop (i+1)else a.drop i) (if 0<x.p.2.2 then b.drop (j+1)else b.drop j):=by
 obtain⟨g,rfl⟩:∃g,f=g+1:=⟨f-1,by omega⟩
 rw[h]
 simp only[aO,hp,List.map_append,List.map_cons,List.map_nil,List.tail_drop]
 simp
set_option maxRecDepth 100000 in
set_option maxHeartbeats 6000000 in
theorem JV (n:Nat)(l Ba Bb lo hi:Nat)(aa ab:Option Addr)(ca cb:Nat)(la lb:List (ByteArray×Int))(hca:la.length<=ca)(hcb:lb.length<=cb)(hma:la.length<=12)(hmb:lb.length<=12)(hsa:∀m∈la,m.1.size<=1048576)(hsb:∀m∈lb,m.1.size<=1048576)(hva:∀m∈la,1<=m.2)(hvb:∀m∈lb,1<=m.2)
  (hBa:hi<=Ba) (hBb:hi<=Bb) (J Jx:List PM->World->Prop) (W:World) (hWl:lo<=W.heap.size) (hJ:AbidesFrom W.heap.size J)
  (hY:∀pre x W,J pre W->pre.length<la.length+lb.length->YieldAt Fence.wide (n-1) Tryz.prog l (Iw x) W fun e W'=>
   (e=.returned (.bool true)/\J (pre++[x]) W'/\KS lo hi W W')∨(e=.returned (.bool false)/\Jx (pre++[x]) W'))
  (cA:W.cell? ⟨Ba,0,none⟩=some (.slice aa la.length ca)) (cB:W.cell? ⟨Bb,0,none⟩=some (.slice ab lb.length cb)) (nA3:W.cell? ⟨Ba,3,none⟩=none) (nB3:W.cell? ⟨Bb,3,none⟩=none) (hra:Dy lo W aa la) (hrb:Dy lo W ab lb) (h0:J [] W) :
  CallsIn Fence.wide n Tryz.prog 164 #[.func (.yield l) #[] #[],.pointer (some ⟨Ba,0,none⟩),.pointer (some ⟨Bb,0,none⟩)] W fun e W'=>(∃v,e=.returned v) /\
   ((∃ys,ys.map PM.p=aO (la.length+lb.length) la lb/\J ys W')∨(∃pre,pre.map PM.p <+: aO (la.length+lb.length) la lb/\Jx pre W')):=by
 refine callsIn_of_wp Tryz.func164 rfl trivial ?_ rfl
 simp only[Tryz.ntmps164,List.size_toArray,List.length_cons,List.length_nil,Nat.reduceAdd,Nat.reduceSub,Array.replicate_succ,Array.replicate_zero,List.push_toArray,List.append_toArray,List.nil_append,List.cons_append]
 gi_wp2
 gi_loopw [4,5] (fun i j wr=>∃(iN jN f:Nat) (pre:List PM),iN<=la.length/\jN<=lb.length/\i=.int .i64 iN/\j=.int .i64 jN/\Hid (aO (la.length+lb.length) la lb=pre.map PM.p++aO f (la.drop iN) (lb.drop jN))/\(la.length-iN)+(lb.length-jN)<=f/\J pre wr/\KS lo hi W wr)
  (fun i j _=>(la.length-(intOf i).toNat)+(lb.length-(intOf j).toNat))
 case atStart=>exact⟨0,0,la.length+lb.length,[],Nat.zero_le _,Nat.zero_le _,rfl,rfl,rfl,by omega,h0,KS.refl _ _ _⟩
 case round=>
  obtain⟨iN,jN,f,pre,hiN,hjN,rfl,rfl,HP,hf,hJs,hks⟩:=hrel
  have cA':=hks.cell (.inr ⟨hBa,nA3⟩) cA
  have cB':=hks.cell (.inr ⟨hBb,nB3⟩) cB
  clear nA3 nB3
  by_cases hend:la.length-iN+(lb.length-jN)=0
  ·have HD:Hid (pre.map PM.p=aO (la.length+lb.length) la lb):=by
    have h1:la.drop iN=[]:=List.drop_of_length_le (by omega)
    have h2:lb.drop jN=[]:=List.drop_of_length_le (by omega)
    have:=HP.out
    rw[h1,h2]at this
    rw[this]
    cases f <;> simp[aO,dU,Hid]
   clear HP
   gi_wp2
   go_end0
   exact⟨⟨_,rfl⟩,.inl ⟨pre,HD.out,hJs⟩⟩
  ·obtain⟨p,hp⟩:=EY (a:=la.drop iN) (b:=lb.drop jN) (by rw[List.length_drop,List.length_drop];omega)
   obtain⟨aa',hsla,hrowa⟩:=wO aa ca iN la hiN hca
   obtain⟨ab',hslb,hrowb⟩:=wO ab cb jN lb hjN hcb
   have hWr:lo<=wr.heap.size:=Nat.le_trans hWl hks.size
   have ltA:Ba<wr.heap.size:=block_lt_of_cell cA'
   have ltB:Bb<wr.heap.size:=block_lt_of_cell cB'
   have hRA:∀X,Below wr.heap.size wr X->Row X aa' (la.drop iN):=fun X hX=>hrowa X ((hks.row hra hWr).below hX)
   have hRB:∀X,Below wr.heap.size wr X->Row X ab' (lb.drop jN):=fun X hX=>hrowb X ((hks.row hrb hWr).below hX)
   have keep3:∀X,Below wr.heap.size wr X->X.cell? ⟨Ba,0,none⟩=some (.slice aa la.length ca)/\X.cell? ⟨Bb,0,none⟩=some (.slice ab lb.length cb)/\Below wr.heap.size wr X:=fun X hX=>⟨ae hX ltA cA',ae hX ltB cB',hX⟩
   have HH:Hid (dU (la.drop iN) (lb.drop jN)=some p):=hp
   have HA:Hid (∀X,Below wr.heap.size wr X->Calls Tryz.prog 165 #[.slice aa' (la.length-iN) (ca-iN),.slice ab' (lb.length-jN) (cb-jN)] X fun e w1=>e=.returned (.tuple #[.agg #[.string p.1.1,.int .i64 p.1.2],.agg #[.string p.2.1,.int .i64 p.2.2]])/\Below X.heap.size X w1/\Below wr.heap.size wr w1/\w1.cell? ⟨Ba,0,none⟩=some (.slice aa la.length ca)/\w1.cell? ⟨Bb,0,none⟩=some (.slice ab lb.length cb)):=fun X hX=>
    (GV aa' ab' (ca-iN) (cb-jN) _ _ (la.drop iN) (lb.drop jN) (by simp) (by simp) X (hRA X hX) (hRB X hX) p hp).mono fun e w1 ⟨he,hb1⟩=>by
     have hbw:=hX.trans (hb1.mono hX.size)
     exact⟨he,hb1,hbw,(keep3 w1 hbw).1,(keep3 w1 hbw).2.1⟩
   have b0:Below wr.heap.size wr wr.drew:=(Below.refl _ _).drew
   have b1:Below wr.heap.size wr (wr.alloc (.cells #[.string ⟨#[]⟩,.int .i64 0] 54)).drew:=((Below.refl _ _).alloc (Nat.le_refl _) _).drew
   have b2:Below wr.heap.size wr ((wr.alloc (.cells #[.string ⟨#[]⟩,.int .i64 0] 54)).alloc (.cells #[.string ⟨#[]⟩,.int .i64 0] 54)).drew:=(((Below.refl _ _).alloc (Nat.le_refl _) _).alloc (by simp) _).drew
   clear hRA hRB keep3 hp hrowa hrowb
   have hpos:=Ih (fun m hm=>hva m (List.mem_of_mem_drop hm)) (fun m hm=>hvb m (List.mem_of_mem_drop hm)) HH.out
   rw[List.length_drop,List.length_drop]at hpos
   obtain⟨hp1,hp2,hp3⟩:=hpos
   rcases(by omega:iN<la.length∨(¬iN<la.length/\jN<lb.length))with hi1|⟨hi1,hj1⟩
   all_goals
    gi_wp2
    refine wpIn_mono (Q:=fun e a' w'=>e=.normal/\∃(bx bz:Nat) (v8 v9 v10 v11 v12 v13 v14 v15 v16 v17 v18 v19 v20 v21 v22 v23 v24 v25 v26 v27:Value),a'={ tmps:=#[.func (.yield l) #[] #[],.pointer (some ⟨Ba,0,none⟩),.pointer (some ⟨Bb,0,none⟩),undef,.int .i64 (iN:Int),.int .i64 (jN:Int),.pointer (some ⟨bx,0,none⟩),.pointer (some ⟨bz,0,none⟩),v8,v9,v10,v11,v12,v13,v14,v15,v16,v17,v18,v19,v20,v21,v22,v23,v24,v25,v26,v27,u28,u29,u30,u31,u32,u33,u34,u35,u36,u37,u38,u39,u40],defers:=[] }/\wr.heap.size<=bx/\wr.heap.size<=bz/\Below wr.heap.size wr w'/\w'.cell? ⟨bx,0,none⟩=some (.string p.1.1)/\w'.cell? ⟨bx,1,none⟩=some (.int .i64 p.1.2)/\w'.cell? ⟨bz,0,none⟩=some (.string p.2.1)/\w'.cell? ⟨bz,1,none⟩=some (.int .i64 p.2.2)/\w'.cell? ⟨bx,3,none⟩=none/\w'.cell? ⟨bz,3,none⟩=none) (wpIn_wide.2 ?_) ?_
    ·rename_i Qo Qi K0 k0
     clear k0 K0 Qi Qo hY hJ h0 hra hrb hks hsa hsb HP hJs hf hend hWr hi1 hma hmb hca hcb hBa hBb cA cB hWl hva hvb hp1 hp2 hp3 HH
     have nA:=World.new_ne wr _ cA'
     have nB:=World.new_ne wr _ cB'
     have nA0:Ba≠wr.heap.size:=by omega
     have nA1:Ba≠wr.heap.size+1:=by omega
     have nB0:Bb≠wr.heap.size:=by omega
     have nB1:Bb≠wr.heap.size+1:=by omega
     go_region_held3 (fun w'=>w'.cell? ⟨Ba,0,none⟩=some (.slice aa la.length ca)/\w'.cell? ⟨Bb,0,none⟩=some (.slice ab lb.length cb)) (first|(simp only[aK _ _ nA0,aK _ _ nA1,aK _ _ nB0,aK _ _ nB1,q0,q1,and_self];done)|go_keep)
      (first|(go_at_call 165;refine(HA.out _ b0).mono ?_;rintro e w1 ⟨rfl,hb1,hbw1,q0,q1⟩;obtain⟨hcc1,hff1⟩:=KC hb1;have hz0:=hb1.size;simp at hz0;have nwA:Ba≠w1.heap.size:=(by omega);have nwB:Bb≠w1.heap.size:=(by omega))|(go_at_call 165;refine(HA.out _ b1).mono ?_;rintro e w1 ⟨rfl,hb1,hbw1,q0,q1⟩;obtain⟨hcc1,hff1⟩:=KC hb1;have hz0:=hb1.size;simp at hz0;have nwA:Ba≠w1.heap.size:=(by omega);have nwB:Bb≠w1.heap.size:=(by omega);have hz1:wr.heap.size<w1.heap.size:=(by omega))|(go_at_call 165;refine(HA.out _ b2).mono ?_;rintro e w1 ⟨rfl,hb1,hbw1,q0,q1⟩;obtain⟨hcc1,hff1⟩:=KC hb1;have hz0:=hb1.size;simp at hz0;have nwA:Ba≠w1.heap.size:=(by omega);have nwB:Bb≠w1.heap.size:=(by omega);have hz1:wr.heap.size<w1.heap.size:=(by omega);have hz2:wr.heap.size+1<w1.heap.size:=(by omega);obtain⟨bb0,bb1⟩:=NH (by simp) hb1))
     all_goals refine⟨rfl,_,_,_,_,_,_,_,_,_,_,_,_,_,_,_,_,_,_,_,_,_,_,rfl, ?_, ?_, ?_, ?_, ?_, ?_, ?_, ?_, ?_⟩
     all_goals first|omega|(go_simp;done)|((repeat' (first|exact hbw1|refine Below.alloc ?_ ?_ _|refine Below.setCell ?_ ?_ _)) <;> (first|omega|(simp;omega)|(simp;done)))
    ·rintro e a' w' ⟨rfl,bx,bz,v8,v9,v10,v11,v12,v13,v14,v15,v16,v17,v18,v19,v20,v21,v22,v23,v24,v25,v26,v27,rfl,lbx,lbz,hbel,x0,x1,z0,z1,x3,z3⟩
     have hJ':J pre w':=hJ _ _ _ none hJs (nK hbel) (fun r e=>by cases e)
     have hps:=EQ (fun m hm=>hsa m (List.mem_of_mem_drop hm)) (fun m hm=>hsb m (List.mem_of_mem_drop hm)) HH.out
     have hlen:pre.length<la.length+lb.length:=Jl HP.out HH.out (by omega)
     obtain⟨fn,tmps,assign,body,hy,hR⟩:=hY pre ⟨p,hps⟩ w' hJ' hlen
     dsimp only[Iw]at hy
     gi_wp2
     refine⟨fun h=>(by cases h),hR.mono ?_⟩
     rintro e W3 (⟨rfl,hJ3,hk3⟩|⟨rfl,hJx3⟩)
     ·have y0:=hk3.cell (.inr ⟨by omega,x3⟩) x0
      have y1:=hk3.cell (.inr ⟨by omega,x3⟩) x1
      have t0:=hk3.cell (.inr ⟨by omega,z3⟩) z0
      have t1:=hk3.cell (.inr ⟨by omega,z3⟩) z1
      clear hR hy x0 x1 z0 z1 hY
      have hJ5:∀X,Below W3.heap.size W3 X->J (pre++[⟨p,hps⟩]) X:=fun X hX=>hJ _ _ _ none hJ3 (nK hX) (fun r e=>by cases e)
      have HJ5:Hid (∀X,Below W3.heap.size W3 X->J (pre++[⟨p,hps⟩]) X):=hJ5
      have HN:Hid (aO (la.length+lb.length) la lb=(pre++[(⟨p,hps⟩:PM)]).map PM.p++aO (f-1) (if 0<p.1.2 then la.drop (iN+1)else la.drop iN) (if 0<p.2.2 then lb.drop (jN+1)else lb.drop jN)):=Gt HP.out HH.out (by omega)
      have hks3:KS lo hi W W3:=(hks.trans (KS.of_below hbel)).trans hk3
      clear hJ hJ3 hJ5 HP HH hk3 hks hJ' hJs
      gi_wp2_with fail
      refine⟨trivial,fun h=>(by cases h),(callsIn_wide.2 (uY _ _ _)).mono ?_⟩
      rintro e w4 ⟨rfl,hb4⟩
      have s0:=ae hb4 (block_lt_of_cell t0) t0
      have s1:=ae hb4 (block_lt_of_cell t1) t1
      by_cases c1:0<p.1.2
      all_goals
       gi_wp2_with fail
       refine⟨trivial,fun h=>(by cases h),(callsIn_wide.2 (uY _ _ _)).mono ?_⟩
       rintro e w5 ⟨rfl,hb5⟩
       have hb45:Below W3.heap.size W3 w5:=hb4.trans (hb5.mono hb4.size)
       by_cases c2:0<p.2.2
      ·have HN':Hid (aO (la.length+lb.length) la lb=(pre++[(⟨p,hps⟩:PM)]).map PM.p++aO (f-1) (la.drop (iN+1)) (lb.drop (jN+1))):=by have:=HN.out;rwa [if_pos c1,if_pos c2]at this
       gi_wp2_with fail
       all_goals exact⟨⟨iN+1,jN+1,f-1,pre++[⟨p,hps⟩],by omega,by omega,by go_num,by go_num,HN',by omega,HJ5.out _ hb45,hks3.trans (KS.of_below hb45)⟩,by simp[intOf];omega⟩
      ·have HN':Hid (aO (la.length+lb.length) la lb=(pre++[(⟨p,hps⟩:PM)]).map PM.p++aO (f-1) (la.drop (iN+1)) (lb.drop jN)):=by have:=HN.out;rwa [if_pos c1,if_neg (by omega)]at this
       gi_wp2_with fail
       all_goals exact⟨⟨iN+1,jN,f-1,pre++[⟨p,hps⟩],by omega,by omega,by go_num,rfl,HN',by omega,HJ5.out _ hb45,hks3.trans (KS.of_below hb45)⟩,by simp[intOf];omega⟩
      ·have HN':Hid (aO (la.length+lb.length) la lb=(pre++[(⟨p,hps⟩:PM)]).map PM.p++aO (f-1) (la.drop iN) (lb.drop (jN+1))):=by have:=HN.out;rwa [if_neg (by omega),if_pos c2]at this
       gi_wp2_with fail
       all_goals exact⟨⟨iN,jN+1,f-1,pre++[⟨p,hps⟩],by omega,by omega,rfl,by go_num,HN',by omega,HJ5.out _ hb45,hks3.trans (KS.of_below hb45)⟩,by simp[intOf];omega⟩
      ·exact absurd hp3 (by omega)
     ·gi_wp2
      refine bodyPost_ret (results_none rfl _ _ _) rfl ?_
      exact⟨⟨_,rfl⟩,.inr ⟨pre++[⟨p,hps⟩],Jw HP.out HH.out (by omega),hJx3⟩⟩
end Go.Proofs.YtpfhegengmlkmabGreatDoor
