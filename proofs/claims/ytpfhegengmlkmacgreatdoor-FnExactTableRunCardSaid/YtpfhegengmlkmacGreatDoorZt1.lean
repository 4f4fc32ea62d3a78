/- Texts of this claim. -/
import GoSem.Op.String
import Derived.Laws.Strings
import Derived.Test.YtpfhegengmlkmacGreatDoorProg
import Derived.WalkKit
import Derived.WalkSpells
import Derived.WalkLawsBesides
import Derived.Below
import Derived.Deep.OwnRows
import Derived.Deep.QuietTactic
import Derived.BigQuiet
namespace Go.Proofs.YtpfhegengmlkmacGreatDoor
def NB (c:Int):Prop:=(97<=c∧c<=122)∨(48<=c∧c<=57)∨c=45
def NameP (s:ByteArray):Prop:=1<=s.size∧s.size<=8∧∀ j,(h:j < s.size)->NB (s[j].toNat:Int)
def MarkP (m:ByteArray×Int):Prop:=NameP m.1∧1<=m.2∧m.2<=1099511627776
def Asc (s t:ByteArray):Prop:=Op.bytesLess s.toList t.toList=true
def StampP (l:List (ByteArray×Int)):Prop:=l.length<=12∧(∀ j,(h:j < l.length)->MarkP l[j])∧∀ j,(h:j + 1 < l.length)->Asc l[j].1 l[j + 1].1
def StampTo (l:List (ByteArray×Int)) (k:Nat):Prop:=(∀ j,(h:j < l.length)->j < k->MarkP l[j])∧∀ j,(h:j + 1 < l.length)->j + 1 < k->Asc l[j].1 l[j + 1].1
theorem stampTo_zero (l:List (ByteArray×Int)):StampTo l 0:=⟨fun _ _ h=>by omega,fun _ _ h=>by omega⟩
theorem stampTo_step {l:List (ByteArray×Int)} {k:Nat} (H:StampTo l k) (hk:k < l.length) (hm:MarkP l[k]) (ha:0 < k->Asc l[k - 1].1 l[k].1):StampTo l (k + 1):=by
 refine ⟨fun j hj hlt=>?_,fun j hj hlt=>?_⟩
 ·by_cases e:j=k
  ·subst e;exact hm
  ·exact H.1 j hj (by omega)
 ·by_cases e:j + 1=k
  ·subst e;exact ha (by omega)
  ·exact H.2 j hj (by omega)
theorem asc_at {l:List (ByteArray×Int)} (h:StampP l) {k:Nat} (h0:¬ k < 1) (hk:k < l.length):Asc l[k - 1].1 l[k].1:=by
 obtain ⟨m,rfl⟩:∃ m,k=m + 1:=⟨k - 1,by omega⟩
 exact h.2.2 m hk
theorem stampP_of {l:List (ByteArray×Int)} {k:Nat} (H:StampTo l k) (hk:¬ k < l.length) (h:l.length<=12):StampP l:=
 ⟨h,fun j hj=>H.1 j hj (by omega),fun j hj=>H.2 j hj (by omega)⟩
theorem toList_inj {s t:ByteArray} (h:s.toList=t.toList):s=t:=by
 rw [ByteArray.toList_eq,ByteArray.toList_eq] at h
 cases s;cases t
 simpa using h
theorem toList_beq {s t:ByteArray}:(s.toList == t.toList)=true↔s=t:=by
 rw [beq_iff_eq]
 exact ⟨toList_inj,fun h=>by rw [h]⟩
theorem toList_bne {s t:ByteArray}:(s.toList == t.toList)=false↔s≠t:=by
 rw [beq_eq_false_iff_ne]
 exact ⟨fun h e=>h (by rw [e]),fun h e=>h (toList_inj e)⟩
def getM:List (ByteArray×Int)->ByteArray->Int
 | [],_=>0
 | m :: r,s=>if m.1=s then m.2 else getM r s
theorem getM_none {s:ByteArray}:∀ {l:List (ByteArray×Int)},(∀ j,(h:j < l.length)->l[j].1≠s)->getM l s=0
 | [],_=>rfl
 | m :: r,h=>by
  have h0:m.1≠s:=h 0 (by simp)
  rw [getM,if_neg h0]
  exact getM_none fun j hj=>h (j + 1) (by simpa using hj)
theorem getM_at {s:ByteArray}:∀ {l:List (ByteArray×Int)} {k:Nat} (hk:k < l.length),(∀ j,(h:j < l.length)->j < k->l[j].1≠s)->l[k].1=s->getM l s=l[k].2
 | m :: r,0,_,_,h=>by
  have h0:m.1=s:=h
  rw [getM,if_pos h0]
  rfl
 | m :: r,k + 1,hk,hb,h=>by
  have h0:m.1≠s:=hb 0 (by simp) (by omega)
  rw [getM,if_neg h0]
  exact getM_at (k:=k) (by simpa using hk) (fun j hj hlt=>hb (j + 1) (by simpa using hj) (by omega)) h
theorem ne_step {s:ByteArray} {l:List (ByteArray×Int)} {k:Nat} (H:∀ j,(h:j < l.length)->j < k->l[j].1≠s) (hk:k < l.length) (h:l[k].1≠s):∀ j,(h:j < l.length)->j < k + 1->l[j].1≠s:=fun j hj hlt=>by
 by_cases e:j=k
 ·subst e;exact h
 ·exact H j hj (by omega)
end Go.Proofs.YtpfhegengmlkmacGreatDoor
namespace Go.Proofs.YtpfhegengmlkmacGreatDoor
open Go.RowKit
def Row (w:World) (a:Option Addr) (l:List (ByteArray×Int)):Prop:=
 ∀ k,(h:k < l.length)->∃ b o,a=some ⟨b,o,none⟩∧b < w.heap.size∧w.cell? ⟨b,o + k * 2,none⟩=some (.string l[k].1)∧w.cell? ⟨b,o + k * 2 + 1,none⟩=some (.int .i64 l[k].2)
theorem Row.below {w w':World} {a:Option Addr} {l:List (ByteArray×Int)} (h:Row w a l) (hb:Below w.heap.size w w'):Row w' a l:=fun k hk=>by
 obtain ⟨b,o,ha,hlt,h0,h1⟩:=h k hk
 exact ⟨b,o,ha,Nat.lt_of_lt_of_le hlt hb.size,by rw [hb.cell hlt];exact h0,by rw [hb.cell hlt];exact h1⟩
theorem bcell {W w1:World} (hb:Below W.heap.size W w1):(∀ b o,b < W.heap.size->w1.cell? ⟨b,o,none⟩=W.cell? ⟨b,o,none⟩)∧(∀ b o,b < W.heap.size->w1.frozen? ⟨b,o,none⟩=W.frozen? ⟨b,o,none⟩):=
 ⟨fun _ _ h=>hb.cell (p:=⟨_,_,none⟩) h,fun _ _ h=>hb.frozen (p:=⟨_,_,none⟩) h⟩
theorem cell_on {W w1:World} (hb:Below W.heap.size W w1) {b o:Nat} {v:Value} (hlt:b < W.heap.size) (h:W.cell? ⟨b,o,none⟩=some v):w1.cell? ⟨b,o,none⟩=some v:=by
 rw [hb.cell hlt];exact h
theorem box0 (w:World) (x y:Value) (t:TypeId):(w.alloc (.cells #[x,y] t)).cell? ⟨w.heap.size,0,none⟩=some x:=by simp [go_sem]
theorem box1 (w:World) (x y:Value) (t:TypeId):(w.alloc (.cells #[x,y] t)).cell? ⟨w.heap.size,1,none⟩=some y:=by simp [go_sem]
theorem box_lt (w:World) (o:Obj):w.heap.size < (w.alloc o).heap.size:=by simp
def Own (w:World) (b:Nat) (l:List (ByteArray×Int)):Prop:=
 ∃ m f,w.rowIs b 144 m f∧l.length * 2<=m∧∀ k,(h:k < l.length)->f (k * 2)=.string l[k].1∧f (k * 2 + 1)=.int .i64 l[k].2
theorem Own.lt {w:World} {b:Nat} {l:List (ByteArray×Int)} (h:Own w b l):b < w.heap.size:=by
 obtain ⟨m,f,h,_⟩:=h
 exact h.lt
theorem Own.row {w:World} {b:Nat} {l:List (ByteArray×Int)} (h:Own w b l):Row w (some ⟨b,0,none⟩) l:=fun k hk=>by
 obtain ⟨m,f,h,hm,hf⟩:=h
 refine ⟨b,0,rfl,h.lt, ?_, ?_⟩
 ·rw [Nat.zero_add,h.cell (by omega),(hf k hk).1]
 ·rw [Nat.zero_add,h.cell (by omega),(hf k hk).2]
theorem Own.below {w w':World} {b:Nat} {l:List (ByteArray×Int)} (h:Own w b l) (hb:Below w.heap.size w w'):Own w' b l:=by
 have hlt:=h.lt
 obtain ⟨m,f,h,hf⟩:=h
 exact ⟨m,f,h.of_block (hb.block b hlt),hf⟩
structure But (b:Nat) (w w':World):Prop where
 os:w'.os=w.os
 tape:w'.tape=w.tape
 output:w'.output=w.output
 size:w.heap.size<=w'.heap.size
 block:∀ k,k < w.heap.size->k≠b->w'.heap[k]?=w.heap[k]?
theorem But.refl (b:Nat) (w:World):But b w w:=⟨rfl,rfl,rfl,Nat.le_refl _,fun _ _ _=>rfl⟩
theorem But.trans {b:Nat} {x y z:World} (h:But b x y) (k:But b y z):But b x z:=
 ⟨k.os.trans h.os,k.tape.trans h.tape,k.output.trans h.output,Nat.le_trans h.size k.size,fun i hi hn=>(k.block i (Nat.lt_of_lt_of_le hi h.size) hn).trans (h.block i hi hn)⟩
theorem But.of_below {b:Nat} {w w':World} (h:Below w.heap.size w w'):But b w w':=⟨h.os,h.tape,h.output,h.size,fun k hk _=>h.block k hk⟩
theorem But.setCell {b:Nat} {x w:World} (h:But b x w) (i:Nat) (v:Value):But b x (w.setCell ⟨b,i,none⟩ v):=
 h.trans ⟨rfl,rfl,rfl,by simp [World.setCell],fun k _ hn=>Below.heap_setCell _ _ _ _ hn⟩
theorem But.below {b B:Nat} {w w':World} (h:But b w w') (hb:B<=b) (hw:B<=w.heap.size):Below B w w':=
 ⟨h.os,h.tape,h.output,h.size,fun k hk=>h.block k (by omega) (by omega)⟩
theorem But.own {b c:Nat} {w w':World} {l:List (ByteArray×Int)} (h:But b w w') (ho:Own w c l) (hc:c≠b):Own w' c l:=by
 have hlt:=ho.lt
 obtain ⟨m,f,h',hf⟩:=ho
 exact ⟨m,f,h'.of_block (h.block c hlt hc),hf⟩
abbrev ItemL:=Int×List (ByteArray×Int)
def IsSl (w:World) (v:Value) (l:List (ByteArray×Int)):Prop:=∃ a c,v=.slice a l.length c∧l.length<=c∧Row w a l
def RowI (w:World) (a:Option Addr) (l:List ItemL):Prop:=
 ∀ k,(h:k < l.length)->∃ b o,a=some ⟨b,o,none⟩∧b < w.heap.size∧w.cell? ⟨b,o + k * 2,none⟩=some (.int .i64 l[k].1)∧∃ v,w.cell? ⟨b,o + k * 2 + 1,none⟩=some v∧IsSl w v l[k].2
def FitM (l:List (ByteArray×Int)):Prop:=l.length<=maxLen∧∀ j,(h:j < l.length)->l[j].1.size<=maxLen
def FitI (l:List ItemL):Prop:=l.length<=maxLen∧∀ j,(h:j < l.length)->FitM l[j].2
theorem IsSl.below {w w':World} {v:Value} {l:List (ByteArray×Int)} (h:IsSl w v l) (hb:Below w.heap.size w w'):IsSl w' v l:=by
 obtain ⟨a,c,h1,h2,h3⟩:=h
 exact ⟨a,c,h1,h2,h3.below hb⟩
theorem RowI.below {w w':World} {a:Option Addr} {l:List ItemL} (h:RowI w a l) (hb:Below w.heap.size w w'):RowI w' a l:=fun k hk=>by
 obtain ⟨b,o,ha,hlt,h0,v,h1,h2⟩:=h k hk
 exact ⟨b,o,ha,Nat.lt_of_lt_of_le hlt hb.size,by rw [hb.cell hlt];exact h0,v,by rw [hb.cell hlt];exact h1,h2.below hb⟩
structure Lat (W:World) where
 w:World
 h:Below W.heap.size W w
theorem Lat.some (W:World):Nonempty (Lat W):=⟨⟨W,Below.refl _ _⟩⟩
theorem Lat.cell {W:World} (n:Lat W) {b o:Nat} {v:Value} (hlt:b < W.heap.size) (h:W.cell? ⟨b,o,none⟩=Option.some v):n.w.cell? ⟨b,o,none⟩=Option.some v:=cell_on n.h hlt h
theorem wp_region_lat {P:Program} {id:Nat} {Q:Exit->Act->World->Prop} {a:Act} {w:World} {l:List Oper} (hm:P.follows .mixedOrders=true) (hB:Region.lexB .any l.toArray=true)
  (h:wpQuiet P l.toArray (fun w'=>∃ n:Lat w,w'=n.w) (fun a'=>∀ w',(∃ n:Lat w,w'=n.w)->Q .normal a' w') l a):(Code.region id l.toArray true).wp P Q a w:=
 wp_region_quiet (C:=fun w'=>∃ n:Lat w,w'=n.w) hm hB ⟨⟨w.drew,(Below.refl _ _).drew⟩,rfl⟩ (by simpa using h)
theorem Calls.lat_of {P:Program} {f:FuncId} {args:Array Value} {W:World} {n:Lat W} {v:Value}
  (h:Calls P f args n.w fun e w'=>e=.returned v∧Below n.w.heap.size n.w w'):Calls P f args n.w fun e w''=>e=.returned v∧∃ m:Lat W,w''=m.w:=
 h.mono fun _ w' ⟨he,hb⟩=>⟨he,⟨w',n.h.trans (hb.mono n.h.size)⟩,rfl⟩
theorem Calls.lat_same {P:Program} {f:FuncId} {args:Array Value} {W:World} {n:Lat W} {v:Value}
  (h:Calls P f args n.w fun e w'=>e=.returned v∧w'=n.w):Calls P f args n.w fun e w''=>e=.returned v∧∃ m:Lat W,w''=m.w:=
 h.mono fun _ _ ⟨he,hb⟩=>⟨he,n,hb⟩
end Go.Proofs.YtpfhegengmlkmacGreatDoor
