/- Texts of this claim. -/
import Derived.Test.YtpfhegengmlkmacGreatDoorZt10
namespace Go.Proofs.YtpfhegengmlkmacGreatDoor
open Go.RowKit Go.BigFrame
def WinC (W0:World) (c:List Value) (l:List ItemL):Prop:=c.length=10∧l.length<=4∧c[8]?=some (.int .i64 0)∧c[9]?=some (.int .i64 l.length) ∧
 ∀ k,(h:k < l.length)->c[k * 2]?=some (.int .i64 l[k].1)∧∃ v,c[k * 2 + 1]?=some v∧IsSl W0 v l[k].2
theorem WinV.cells {W0:World} {v:Value} {l:List ItemL} (h:WinV W0 v l):∃ (x0 x1 x2 x3:Int) (a0 a1 a2 a3:Option Addr) (n0 n1 n2 n3 c0 c1 c2 c3:Nat),v=.agg #[.int .i64 x0,.slice a0 n0 c0,.int .i64 x1,.slice a1 n1 c1,.int .i64 x2,.slice a2 n2 c2,.int .i64 x3,.slice a3 n3 c3,.int .i64 0,.int .i64 l.length] ∧
  WinC W0 [.int .i64 x0,.slice a0 n0 c0,.int .i64 x1,.slice a1 n1 c1,.int .i64 x2,.slice a2 n2 c2,.int .i64 x3,.slice a3 n3 c3,.int .i64 0,.int .i64 l.length] l:=by
 obtain ⟨x0,x1,x2,x3,a0,a1,a2,a3,n0,n1,n2,n3,c0,c1,c2,c3,rfl,h4,hk⟩:=h
 refine ⟨x0,x1,x2,x3,a0,a1,a2,a3,n0,n1,n2,n3,c0,c1,c2,c3,rfl,rfl,h4,rfl,rfl,fun k h=>?_⟩
 rcases (by omega:k=0∨k=1∨k=2∨k=3) with rfl | rfl | rfl | rfl
 ·obtain ⟨q1,a,n,c,q2,q3⟩:=hk 0 h
  obtain ⟨rfl,rfl,rfl⟩:a0=a∧n0=n∧c0=c:=by simpa using q2
  have e1:x0=l[0].1:=by simpa using q1
  exact ⟨by rw [<- e1];rfl,_,rfl,q3⟩
 ·obtain ⟨q1,a,n,c,q2,q3⟩:=hk 1 h
  obtain ⟨rfl,rfl,rfl⟩:a1=a∧n1=n∧c1=c:=by simpa using q2
  have e1:x1=l[1].1:=by simpa using q1
  exact ⟨by rw [<- e1];rfl,_,rfl,q3⟩
 ·obtain ⟨q1,a,n,c,q2,q3⟩:=hk 2 h
  obtain ⟨rfl,rfl,rfl⟩:a2=a∧n2=n∧c2=c:=by simpa using q2
  have e1:x2=l[2].1:=by simpa using q1
  exact ⟨by rw [<- e1];rfl,_,rfl,q3⟩
 ·obtain ⟨q1,a,n,c,q2,q3⟩:=hk 3 h
  obtain ⟨rfl,rfl,rfl⟩:a3=a∧n3=n∧c3=c:=by simpa using q2
  have e1:x3=l[3].1:=by simpa using q1
  exact ⟨by rw [<- e1];rfl,_,rfl,q3⟩
def vcells (L:List (List ItemL×List Value)):List Value:=L.flatMap (·.2)
theorem vcells_at:∀ (L:List (List ItemL×List Value)),(∀ p∈L,p.2.length=10)->∀ (k:Nat) (h:k < L.length) (j:Nat),j < 10->(vcells L)[k * 10 + j]?=L[k].2[j]?
 | p :: r,hL,0,_,j,hj=>by
  have h10:=hL p (by simp)
  simp only [vcells,List.flatMap_cons,Nat.zero_mul,Nat.zero_add,List.getElem_cons_zero]
  rw [List.getElem?_append_left (by omega)]
 | p :: r,hL,k + 1,h,j,hj=>by
  have h10:=hL p (by simp)
  have:=vcells_at r (fun q hq=>hL q (by simp [hq])) k (by simpa using h) j hj
  simp only [vcells,List.flatMap_cons,List.getElem_cons_succ] at this ⊢
  rw [List.getElem?_append_right (by omega),<- this]
  congr 1
  omega
def GathW (W0 w:World) (B:Nat) (v:Value) (L:List (List ItemL×List Value)):Prop:=w.ownsRow B 190 10 v L.length (vcells L)∧∀ p∈L,WinC W0 p.2 p.1
theorem GathW.snoc {W0 w w':World} {B:Nat} {v v':Value} {L:List (List ItemL×List Value)} {l:List ItemL} {c:List Value} (h:GathW W0 w B v L) (hc:WinC W0 c l) (h':w'.ownsRow B 190 10 v' (L.length + 1) (vcells L ++ c)):GathW W0 w' B v' (L ++ [(l,c)]):=by
 refine ⟨?_,fun p hp=>?_⟩
 ·have e:vcells (L ++ [(l,c)])=vcells L ++ c:=by simp [vcells]
  rw [e,List.length_append]
  exact h'
 ·rcases List.mem_append.1 hp with hp | hp
  ·exact h.2 p hp
  ·obtain rfl:p=(l,c):=by simpa using hp
   exact hc
theorem GathW.keep {W0 w w':World} {B:Nat} {v:Value} {L:List (List ItemL×List Value)} (h:GathW W0 w B v L) (hb:Below w.heap.size w w'):GathW W0 w' B v L:=⟨own_keep h.1 hb,h.2⟩
def RowV (W0 w:World) (a:Option Addr) (ws:List (List ItemL)):Prop:=∀ k,(h:k < ws.length)->∃ b o,a=some ⟨b,o,none⟩∧WinO W0 w b (o + k * 10) ws[k]
theorem RowV.below {W0 w w':World} {a:Option Addr} {ws:List (List ItemL)} (h:RowV W0 w a ws) (hb:Below w.heap.size w w'):RowV W0 w' a ws:=fun k hk=>by
 obtain ⟨b,o,e,h1⟩:=h k hk
 exact ⟨b,o,e,h1.below hb⟩
theorem GathW.row {W0 w:World} {B:Nat} {v:Value} {L:List (List ItemL×List Value)} (h:GathW W0 w B v L):∃ a cap,v=.slice a L.length cap∧L.length<=cap∧RowV W0 w a (L.map (·.1)):=by
 rcases h.1.2 with ⟨rfl,h0⟩ | ⟨g,cap,cur,rfl,hB,hh,hn,_⟩
 ·exact ⟨none,0,by rw [h0],by omega,fun k hk=>by rw [List.length_map] at hk;omega⟩
 ·have hlt:g < w.heap.size:=(Array.getElem?_eq_some_iff.1 hh).1
  refine ⟨_,cap,rfl,hn,fun k hk=>⟨g,0,rfl, ?_⟩⟩
  rw [List.length_map] at hk
  have hc:=h.2 L[k] (List.getElem_mem hk)
  have hat:∀ j,j < 10->w.cell? ⟨g,0 + k * 10 + j,none⟩=L[k].2[j]?:=fun j hj=>by
   rw [Nat.zero_add,World.ownsRow.cellAt h.1 _ (by omega),vcells_at L (fun p hp=>(h.2 p hp).1) k hk j hj]
  simp only [List.getElem_map]
  refine ⟨hlt,hc.2.1,(hat 8 (by omega)).trans hc.2.2.1,(hat 9 (by omega)).trans hc.2.2.2.1,fun j hj=>?_⟩
  obtain ⟨h1,v,h2,h3⟩:=hc.2.2.2.2 j hj
  have:=hc.2.1
  exact ⟨(hat (j * 2) (by omega)).trans h1,v,(hat (j * 2 + 1) (by omega)).trans h2,h3⟩
def RowP (w:World) (a:Option Addr) (l:List Spot):Prop:=∀ k,(h:k < l.length)->∃ b o,a=some ⟨b,o,none⟩∧b < w.heap.size∧w.cell? ⟨b,o + k * 2,none⟩=some (.int .i64 (l[k].1:Int))∧w.cell? ⟨b,o + k * 2 + 1,none⟩=some (.int .i64 (l[k].2:Int))
theorem RowP.below {w w':World} {a:Option Addr} {l:List Spot} (h:RowP w a l) (hb:Below w.heap.size w w'):RowP w' a l:=fun k hk=>by
 obtain ⟨b,o,e,h1,h2,h3⟩:=h k hk
 exact ⟨b,o,e,Nat.lt_of_lt_of_le h1 hb.size,cell_on hb h1 h2,cell_on hb h1 h3⟩
theorem GathP.row {w:World} {B:Nat} {v:Value} {l:List Spot} (h:GathP w B v l):∃ a cap,v=.slice a l.length cap∧l.length<=cap∧RowP w a l:=by
 rcases h.2 with ⟨rfl,h0⟩ | ⟨g,cap,cur,rfl,hB,hh,hn,_⟩
 ·exact ⟨none,0,by rw [h0],by omega,fun k hk=>by omega⟩
 ·have hlt:g < w.heap.size:=(Array.getElem?_eq_some_iff.1 hh).1
  refine ⟨_,cap,rfl,hn,fun k hk=>⟨g,0,rfl,hlt, ?_, ?_⟩⟩
  ·rw [Nat.zero_add,World.ownsRow.cellAt h _ (by omega),(scells_at l k hk).1]
  ·rw [Nat.zero_add,World.ownsRow.cellAt h _ (by omega),(scells_at l k hk).2]
def RowG (w:World) (a:Option Addr) (sh:List (List Spot)):Prop:=∀ k,(h:k < sh.length)->∃ b o,a=some ⟨b,o,none⟩∧b < w.heap.size∧∃ s c,w.cell? ⟨b,o + k,none⟩=some (.slice s sh[k].length c)∧sh[k].length<=c∧RowP w s sh[k]
theorem RowG.below {w w':World} {a:Option Addr} {sh:List (List Spot)} (h:RowG w a sh) (hb:Below w.heap.size w w'):RowG w' a sh:=fun k hk=>by
 obtain ⟨b,o,e,h1,s,c,h2,h3,h4⟩:=h k hk
 exact ⟨b,o,e,Nat.lt_of_lt_of_le h1 hb.size,s,c,cell_on hb h1 h2,h3,h4.below hb⟩
def ChB (W0 w:World) (b:Nat) (ws:List (List ItemL)) (sh:List (List Spot)):Prop:=
 b < w.heap.size∧∃ a c a' c',w.cell? ⟨b,0,none⟩=some (.slice a ws.length c)∧ws.length<=c∧w.cell? ⟨b,1,none⟩=some (.slice a' sh.length c')∧sh.length<=c'∧RowV W0 w a ws∧RowG w a' sh
theorem ChB.below {W0 w w':World} {b:Nat} {ws:List (List ItemL)} {sh:List (List Spot)} (h:ChB W0 w b ws sh) (hb:Below w.heap.size w w'):ChB W0 w' b ws sh:=by
 obtain ⟨h0,a,c,a',c',h1,h2,h3,h4,h5,h6⟩:=h
 exact ⟨Nat.lt_of_lt_of_le h0 hb.size,a,c,a',c',cell_on hb h0 h1,h2,cell_on hb h0 h3,h4,h5.below hb,h6.below hb⟩
end Go.Proofs.YtpfhegengmlkmacGreatDoor
namespace Go.Proofs.YtpfhegengmlkmacGreatDoor
open Go.RowKit Go.BigFrame
set_option maxRecDepth 100000
set_option maxHeartbeats 1600000 in
theorem has_any (W0 w:World) (b:Nat) (ws:List (List ItemL)) (sh:List (List Spot)) (a':Option Addr) (cap':Nat) (ps:List Int) (h:ChB W0 w b ws sh) (h6:ws.length<=6) (hp:ps.length<=maxLen) (hr':RowZ w a' ps) :
  Calls Tryz.prog 139 #[.pointer (some ⟨b,0,none⟩),.slice a' ps.length cap'] w fun e w'=>IsB (ps.length=ws.length∧InW ws ps) e∧Below w.heap.size w w':=by
 have hpl:ps.length<=2 ^ 63 - 1:=hp
 clear hp
 obtain ⟨hb,a,c,a2,c2,e0,hc,e1,hc2,hv,hg⟩:=h
 by_cases hlen:ps.length=ws.length
 ·have hlen':((ps.length:Int) != (ws.length:Int))=false:=by rw [bne_eq_false_iff_eq];omega
  have HL:Hid (ps.length=ws.length):=hlen
  have hle1:ps.length<=ws.length:=by omega
  clear hlen
  go_enter Tryz.func139,Tryz.ntmps139
  go_wp2_with fail
  go_loopw [17] (fun i wr=>∃ k:Nat,k<=ps.length∧i=.int .i64 k∧Hid (∀ j,(h:j < ps.length)->j < k->0<=ps[j]∧ps[j] < ((ws.getD j []).length:Int))∧wr=w) (fun i _=>ps.length - (intOf i).toNat)
  case atStart=>exact ⟨0,Nat.zero_le _,rfl,fun _ _ h=>absurd h (Nat.not_lt_zero _),rfl⟩
  case round=>
   obtain ⟨k,hk,rfl,HI,rfl⟩:=hrel
   by_cases hlt:k < ps.length
   ·have hwk:k < ws.length:=by omega
    obtain ⟨g,o,rfl,hwo⟩:=hv k hwk
    obtain ⟨c1,p1,rfl,gc,z1⟩:=hr' k hlt
    have k0:(0:Int)<=(k:Int):=by omega
    have k1:(k:Int) < (ps.length:Int):=by omega
    have k2:(k:Int) < (ws.length:Int):=by omega
    have HG:Hid (ws.getD k []=ws[k]):=getD_at hwk
    by_cases hn:ps[k] < 0
    ·have HN:Hid (¬ (ps.length=ws.length∧InW ws ps)):=fun h=>by have:=(h.2.2 k hlt).1;omega
     clear HG
     go_wp2_with fail
     go_ret
     exact ⟨isB_false HN.out,Below.refl _ _⟩
    have hn':decide (ps[k] < 0)=false:=decide_eq_false hn
    go_wp2_with fail
    refine (size_off W0 _ g (o + k * 10) ws[k] hwo).mono ?_
    rintro e w2 ⟨rfl,rfl⟩
    by_cases hq:ps[k] < (ws[k].length:Int)
    ·have HST:Hid (∀ j,(h:j < ps.length)->j < k + 1->0<=ps[j]∧ps[j] < ((ws.getD j []).length:Int)):=fun j hj hlt'=>by
      by_cases e:j=k
      ·subst e;rw [HG.out];exact ⟨by omega,hq⟩
      ·exact HI.out j hj (by omega)
     have hq':decide ((ws[k].length:Int)<=ps[k])=false:=decide_eq_false (by omega)
     clear HG
     go_wp2_with fail
     exact ⟨⟨k + 1,by omega,by go_num,HST,by trivial⟩,by simp [intOf];omega⟩
    ·have HN:Hid (¬ (ps.length=ws.length∧InW ws ps)):=fun h=>by have h3:=(h.2.2 k hlt).2;rw [HG.out] at h3;omega
     have hq':decide ((ws[k].length:Int)<=ps[k])=true:=decide_eq_true (by omega)
     clear HG
     go_wp2_with fail
     go_ret
     exact ⟨isB_false HN.out,Below.refl _ _⟩
   ·have HF:Hid (ps.length=ws.length∧InW ws ps):=⟨HL.out,hle1,fun j hj=>HI.out j hj (by omega)⟩
    go_wp2_with fail
    go_ret
    exact ⟨isB_true HF.out,Below.refl _ _⟩
 ·have hlen':((ps.length:Int) != (ws.length:Int))=true:=by rw [bne_iff_ne];omega
  go_enter Tryz.func139,Tryz.ntmps139
  go_wp2_with fail
  go_ret
  exact ⟨isB_false (fun h=>hlen h.1),Below.refl _ _⟩
theorem ver_facts {ws:List (List ItemL)} {ps:List Int} (hok:OkW ws) (hl:ps.length=ws.length) (hin:InW ws ps) {s:ByteArray} {p:Spot} (hs:SpotOf ws s p):∃ (hw:p.1 < ws.length) (_:p.1 < ps.length) (q:Nat) (hq:q < ws[p.1].length) (hm:p.2 < ws[p.1][q].2.length),ps[p.1]=(q:Int)∧verM ws ps p=(ws[p.1][q].2[p.2]).2:=by
 have hpw:=hs.1
 have hpp:p.1 < ps.length:=by omega
 obtain ⟨hmk,_,hver,_,_⟩:=verM_eq hok hl hin hs
 obtain ⟨_,q,hqe,hq,hpk⟩:=in_nat hin hpp
 have hm:p.2 < ws[p.1][q].2.length:=by rw [<- hpk];exact hmk
 refine ⟨hpw,hpp,q,hq,hm,hqe, ?_⟩
 rw [hver]
 congr 1
 simp only [hpk]
set_option maxHeartbeats 1600000 in
theorem version_any (W0 w:World) (b:Nat) (ws:List (List ItemL)) (sh:List (List Spot)) (a':Option Addr) (cap':Nat) (ps:List Int) (p:Spot) (s:ByteArray) (h:ChB W0 w b ws sh) (hW:Below W0.heap.size W0 w) (hok:OkW ws) (hl:ps.length=ws.length) (hin:InW ws ps) (hr':RowZ w a' ps) (hs:SpotOf ws s p) :
  Calls Tryz.prog 176 #[.pointer (some ⟨b,0,none⟩),.slice a' ps.length cap',.agg #[.int .i64 (p.1:Int),.int .i64 (p.2:Int)]] w fun e w'=>e=.returned (.int .i64 (verM ws ps p))∧Below w.heap.size w w':=by
 obtain ⟨hb,a,c,a2,c2,e0,hc,e1,hc2,hv,hg⟩:=h
 obtain ⟨hpw,hpp,q,hq,hmk2,hqe,hver⟩:=ver_facts hok hl hin hs
 have HV:Hid (verM ws ps p=(ws[p.1][q].2[p.2]).2):=hver
 have h6:=hok.2.1
 obtain ⟨g,o,rfl,hwo⟩:=hv p.1 hpw
 obtain ⟨c1,p1,rfl,gc,z1⟩:=hr' p.1 hpp
 have h4:=hwo.2.1
 obtain ⟨y0,yv,y1,sa,sc,rfl,hcap,hrow⟩:=hwo.2.2.2.2 q hq
 rw [hqe] at z1
 obtain ⟨bm,om,rfl,hbm,_,m1⟩:=hrow p.2 hmk2
 clear hver hqe hv hg hs hin
 have hgl:=hwo.1
 have c8:=hwo.2.2.1
 have hz0:=hW.size
 go_enter Tryz.func176,Tryz.ntmps176
 go_wp2_with fail
 have hb0:Below w.heap.size w (w.alloc (.cells #[.int .i64 (p.1:Int),.int .i64 (p.2:Int)] 245)):=(Below.refl _ _).alloc (Nat.le_refl _) _
 have hlt0:=box_lt w (.cells #[.int .i64 (p.1:Int),.int .i64 (p.2:Int)] 245)
 have d0:=box0 w (.int .i64 (p.1:Int)) (.int .i64 (p.2:Int)) 245
 have d1:=box1 w (.int .i64 (p.1:Int)) (.int .i64 (p.2:Int)) 245
 generalize w.alloc (.cells #[.int .i64 (p.1:Int),.int .i64 (p.2:Int)] 245)=W at *
 have hne:=Lat.some W
 have n0:∀ n:Lat W,n.w.cell? ⟨b,0,none⟩=some (.slice (some ⟨g,o,none⟩) ws.length c):=fun n=>n.cell (Nat.lt_of_lt_of_le hb hb0.size) (cell_on hb0 hb e0)
 have n1:∀ n:Lat W,n.w.cell? ⟨w.heap.size,0,none⟩=some (.int .i64 (p.1:Int)):=fun n=>n.cell hlt0 d0
 have n2:∀ n:Lat W,n.w.cell? ⟨w.heap.size,1,none⟩=some (.int .i64 (p.2:Int)):=fun n=>n.cell hlt0 d1
 have n3:∀ n:Lat W,n.w.cell? ⟨c1,p1 + p.1,none⟩=some (.int .i64 (q:Int)):=fun n=>n.cell (Nat.lt_of_lt_of_le gc hb0.size) (cell_on hb0 gc z1)
 have hbm':bm < w.heap.size:=Nat.lt_of_lt_of_le hbm hz0
 have n4:∀ n:Lat W,n.w.cell? ⟨bm,om + p.2 * 2 + 1,none⟩=some (.int .i64 ((ws[p.1][q]).2[p.2]).2):=fun n=>n.cell (Nat.lt_of_lt_of_le hbm' hb0.size) (cell_on hb0 hbm' (cell_on hW hbm m1))
 have ce:∀ n:Lat W,Calls Tryz.prog 142 #[.pointer (some ⟨g,o + p.1 * 10,none⟩),.int .i64 q] n.w fun e w''=>e=.returned (.agg #[.int .i64 (ws[p.1][q]).1,.slice (some ⟨bm,om,none⟩) (ws[p.1][q]).2.length sc])∧Below n.w.heap.size n.w w'':=fun n=>by
  have hx:∀ {i:Nat} {v:Value},w.cell? ⟨g,i,none⟩=some v->n.w.cell? ⟨g,i,none⟩=some v:=fun h=>n.cell (Nat.lt_of_lt_of_le hgl hb0.size) (cell_on hb0 hgl h)
  exact at_val n.w g (o + p.1 * 10) q _ _ _ _ (Nat.lt_of_lt_of_le (Nat.lt_of_lt_of_le hgl hb0.size) n.h.size) (by omega) (hx c8) (hx y0) (hx y1)
 have i0:(0:Int)<=(p.1:Int):=by omega
 have i1:(p.1:Int) < (ws.length:Int):=by omega
 have i2:(p.1:Int) < (ps.length:Int):=by omega
 have i3:(0:Int)<=(p.2:Int):=by omega
 have i4:(p.2:Int) < ((ws[p.1][q]).2.length:Int):=by omega
 have hfd:=field_stamp (ws[p.1][q]).1 (some ⟨bm,om,none⟩) (ws[p.1][q]).2.length sc
 clear e0 e1 z1 m1 y0 y1 d0 d1 hrow hwo c8
 refine wp_region_lat (by kernel_rfl) (by kernel_rfl) ?_
 repeat (go_big_quiet_step ((go_at_call 142;exact Calls.lat_of (ce _))))
 refine wpQuiet_nil ?_
 rintro _ ⟨nq,rfl⟩
 go_wp2_with fail
 go_ret
 exact ⟨by rw [HV.out];rfl,hb0.trans (nq.h.mono hb0.size)⟩
def ShW (ws:List (List ItemL)) (sh:List (List Spot)):Prop:=SharedP ws sh∧(∀ src∈sh,1 < src.length∧src.length<=1000)∧sh.length<=1000
def SameTo (ws:List (List ItemL)) (ps:List Int) (src:List Spot) (n:Nat):Prop:=∀ i,(h:i < src.length)->i < n->∀ h0:0 < src.length,verM ws ps src[i]=verM ws ps src[0]
theorem sameTo_step {ws:List (List ItemL)} {ps:List Int} {src:List Spot} {n:Nat} (H:SameTo ws ps src n) (hn:n < src.length) (h0:0 < src.length) (h:verM ws ps src[n]=verM ws ps src[0]):SameTo ws ps src (n + 1):=fun i hi hlt _=>by
 by_cases e:i=n
 ·subst e;exact h
 ·exact H i hi (by omega) h0
theorem agW_same {ws:List (List ItemL)} {ps:List Int} {sh:List (List Spot)} (hok:OkW ws) (hl:ps.length=ws.length) (hin:InW ws ps) (hsh:SharedP ws sh) (H:∀ j,(h:j < sh.length)->SameTo ws ps sh[j] sh[j].length):AgW ws ps:=by
 rw [agW_iff hok hl hin hsh]
 intro src hs p hp q hq
 obtain ⟨j,hj,rfl⟩:=List.mem_iff_getElem.1 hs
 obtain ⟨x,hx,rfl⟩:=List.mem_iff_getElem.1 hp
 obtain ⟨y,hy,rfl⟩:=List.mem_iff_getElem.1 hq
 rw [H j hj x hx hx (by omega),H j hj y hy hy (by omega)]
theorem agW_not {ws:List (List ItemL)} {ps:List Int} {sh:List (List Spot)} (hok:OkW ws) (hl:ps.length=ws.length) (hin:InW ws ps) (hsh:SharedP ws sh) {j i:Nat} (hj:j < sh.length) (hi:i < sh[j].length) (h0:0 < sh[j].length) (h:verM ws ps sh[j][i]≠verM ws ps sh[j][0]):¬ AgW ws ps:=fun hA=>
 h ((agW_iff hok hl hin hsh).1 hA sh[j] (List.getElem_mem hj) _ (List.getElem_mem hi) _ (List.getElem_mem h0))
theorem version_lat {W0 W:World} {b:Nat} {ws:List (List ItemL)} {sh:List (List Spot)} {a':Option Addr} {cap':Nat} {ps:List Int} (h:ChB W0 W b ws sh) (hW:Below W0.heap.size W0 W) (hok:OkW ws) (hl:ps.length=ws.length) (hin:InW ws ps) (hr':RowZ W a' ps) (hsh:SharedP ws sh) {src:List Spot} (hs:src∈sh) {p:Spot} (hp:p∈src) (n:Lat W) :
  Calls Tryz.prog 176 #[.pointer (some ⟨b,0,none⟩),.slice a' ps.length cap',.agg #[.int .i64 (p.1:Int),.int .i64 (p.2:Int)]] n.w fun e w'=>e=.returned (.int .i64 (verM ws ps p))∧Below n.w.heap.size n.w w':=by
 obtain ⟨s,hall⟩:=hsh.1 src hs
 exact version_any W0 n.w b ws sh a' cap' ps p s (h.below n.h) (hW.trans (n.h.mono hW.size)) hok hl hin (hr'.below n.h) (hall p hp)
set_option maxHeartbeats 1200000 in
theorem agrees_any (W0 w:World) (b:Nat) (ws:List (List ItemL)) (sh:List (List Spot)) (a':Option Addr) (cap':Nat) (ps:List Int) (h:ChB W0 w b ws sh) (hW:Below W0.heap.size W0 w) (hok:OkW ws) (hl:ps.length=ws.length) (hin:InW ws ps) (hr':RowZ w a' ps) (hsh:ShW ws sh) :
  Calls Tryz.prog 140 #[.pointer (some ⟨b,0,none⟩),.slice a' ps.length cap'] w fun e w'=>IsB (AgW ws ps) e∧Below w.heap.size w w':=by
 have HIN:Hid (InW ws ps):=hin
 have HOK:Hid (OkW ws):=hok
 have HSH:Hid (ShW ws sh):=hsh
 have HC:Hid (ChB W0 w b ws sh):=h
 have HL:Hid (ps.length=ws.length):=hl
 have HZ:Hid (RowZ w a' ps):=hr'
 have hshl:=hsh.2.2
 obtain ⟨hb,a,c,a2,c2,e0,hc,e1,hc2,hv,hg⟩:=h
 clear hin hok hsh hv hc hl hr'
 go_enter Tryz.func140,Tryz.ntmps140
 go_wp2_with fail
 go_loopw [14] (fun i wr=>∃ k:Nat,k<=sh.length∧i=.int .i64 k∧Hid (∀ j,(h:j < sh.length)->j < k->SameTo ws ps sh[j] sh[j].length)∧Below w.heap.size w wr) (fun i _=>sh.length - (intOf i).toNat)
 case atStart=>exact ⟨0,Nat.zero_le _,rfl,fun _ _ h=>absurd h (Nat.not_lt_zero _),Below.refl _ _⟩
 case round=>
  obtain ⟨k,hk,rfl,HI,hbl⟩:=hrel
  by_cases hlt:k < sh.length
  ·obtain ⟨b1,o1,rfl,hb1,s1,t1,f1,ht1,hp⟩:=hg.below hbl k hlt
   have k0:(0:Int)<=(k:Int):=by omega
   have k1:(k:Int) < (sh.length:Int):=by omega
   have hsrc:=HSH.out.2.1 sh[k] (List.getElem_mem hlt)
   have hs1:=hsrc.1
   have hs2:=hsrc.2
   have hmem:sh[k]∈sh:=List.getElem_mem hlt
   clear hsrc
   go_wp2_with fail
   go_loopw [20] (fun i2 wr2=>∃ j:Nat,j<=sh[k].length∧i2=.int .i64 j∧Hid (SameTo ws ps sh[k] j)∧Below wr.heap.size wr wr2) (fun i2 _=>sh[k].length - (intOf i2).toNat)
   case atStart=>exact ⟨0,Nat.zero_le _,rfl,fun _ _ h=>absurd h (Nat.not_lt_zero _),Below.refl _ _⟩
   case round=>
    obtain ⟨j,hj,rfl,HJ,hbl2⟩:=hrel
    have B2:Below w.heap.size w wr:=hbl.trans (hbl2.mono hbl.size)
    by_cases hjlt:j < sh[k].length
    ·obtain ⟨b2,o2,rfl,hb2,f2,f3⟩:=hp.below hbl2 j hjlt
     obtain ⟨b3,o3,e3,_,f4,f5⟩:=hp.below hbl2 0 (by omega)
     cases e3
     have j0:(0:Int)<=(j:Int):=by omega
     have j1:(j:Int) < (sh[k].length:Int):=by omega
     have j2:(0:Int) < (sh[k].length:Int):=by omega
     go_wp2_with fail
     simp only [Nat.zero_mul,Nat.add_zero] at f4 f5
     have hb0:Below wr.heap.size wr (wr.alloc (.cells #[.int .i64 (sh[k][j].1:Int),.int .i64 (sh[k][j].2:Int)] 245)):=(Below.refl _ _).alloc (Nat.le_refl _) _
     have hlt0:=box_lt wr (.cells #[.int .i64 (sh[k][j].1:Int),.int .i64 (sh[k][j].2:Int)] 245)
     have d0:=box0 wr (.int .i64 (sh[k][j].1:Int)) (.int .i64 (sh[k][j].2:Int)) 245
     have d1:=box1 wr (.int .i64 (sh[k][j].1:Int)) (.int .i64 (sh[k][j].2:Int)) 245
     generalize wr.alloc (.cells #[.int .i64 (sh[k][j].1:Int),.int .i64 (sh[k][j].2:Int)] 245)=W at *
     have B3:Below w.heap.size w W:=B2.trans (hb0.mono B2.size)
     have hne:=Lat.some W
     have n0:∀ n:Lat W,n.w.cell? ⟨wr.heap.size,0,none⟩=some (.int .i64 (sh[k][j].1:Int)):=fun n=>n.cell hlt0 d0
     have n1:∀ n:Lat W,n.w.cell? ⟨wr.heap.size,1,none⟩=some (.int .i64 (sh[k][j].2:Int)):=fun n=>n.cell hlt0 d1
     have n2:∀ n:Lat W,n.w.cell? ⟨b2,o2,none⟩=some (.int .i64 (sh[k][0].1:Int)):=fun n=>n.cell (Nat.lt_of_lt_of_le hb2 hb0.size) (cell_on hb0 hb2 f4)
     have n3:∀ n:Lat W,n.w.cell? ⟨b2,o2 + 1,none⟩=some (.int .i64 (sh[k][0].2:Int)):=fun n=>n.cell (Nat.lt_of_lt_of_le hb2 hb0.size) (cell_on hb0 hb2 f5)
     have c1:∀ n:Lat W,Calls Tryz.prog 176 #[.pointer (some ⟨b,0,none⟩),.slice a' ps.length cap',.agg #[.int .i64 (sh[k][j].1:Int),.int .i64 (sh[k][j].2:Int)]] n.w fun e w'=>e=.returned (.int .i64 (verM ws ps sh[k][j]))∧Below n.w.heap.size n.w w':=
      fun n=>version_lat (HC.out.below B3) (hW.trans (B3.mono hW.size)) HOK.out HL.out HIN.out (HZ.out.below B3) HSH.out.1 hmem (List.getElem_mem hjlt) n
     have c3:∀ n:Lat W,Calls Tryz.prog 176 #[.pointer (some ⟨b,0,none⟩),.slice a' ps.length cap',.agg #[.int .i64 (sh[k][0].1:Int),.int .i64 (sh[k][0].2:Int)]] n.w fun e w'=>e=.returned (.int .i64 (verM ws ps sh[k][0]))∧Below n.w.heap.size n.w w':=
      fun n=>version_lat (HC.out.below B3) (hW.trans (B3.mono hW.size)) HOK.out HL.out HIN.out (HZ.out.below B3) HSH.out.1 hmem (List.getElem_mem (by omega)) n
     clear f2 f3 f4 f5 d0 d1
     have HE:Hid (verM ws ps sh[k][j]=verM ws ps sh[k][0]->SameTo ws ps sh[k] (j + 1)):=fun he=>sameTo_step HJ.out hjlt (by omega) he
     have HNE:Hid (¬ verM ws ps sh[k][j]=verM ws ps sh[k][0]->¬ AgW ws ps):=fun he=>agW_not HOK.out HL.out HIN.out HSH.out.1 hlt hjlt (by omega) he
     clear HIN HOK HSH HC HL HZ HJ hp f1 hmem hg
     generalize verM ws ps sh[k][j]=va at *
     generalize verM ws ps sh[k][0]=vb at *
     generalize (sh[k][j].1:Int)=pa at *
     generalize (sh[k][j].2:Int)=pb at *
     generalize (sh[k][0].1:Int)=qa at *
     generalize (sh[k][0].2:Int)=qb at *
     by_cases he:va=vb
     ·have HST:Hid (SameTo ws ps sh[k] (j + 1)):=HE.out he
      clear HE HNE
      have he':(va != vb)=false:=by rw [bne_eq_false_iff_eq];exact he
      refine wp_region_lat (by kernel_rfl) (by kernel_rfl) ?_
      iterate 4 (go_big_quiet_step ((go_at_call 176;exact Calls.lat_of (c1 _))))
      iterate 7 (go_big_quiet_step ((go_at_call 176;exact Calls.lat_of (c3 _))))
      refine wpQuiet_nil ?_
      rintro _ ⟨nq,rfl⟩
      go_wp2_with fail
      exact ⟨⟨j + 1,by omega,by go_num,HST,(hbl2.trans (hb0.mono hbl2.size)).trans (nq.h.mono (Nat.le_trans hbl2.size hb0.size))⟩,by simp [intOf];omega⟩
     ·have HN:Hid (¬ AgW ws ps):=HNE.out he
      clear HE HNE
      have he':(va != vb)=true:=by rw [bne_iff_ne];exact he
      refine wp_region_lat (by kernel_rfl) (by kernel_rfl) ?_
      iterate 4 (go_big_quiet_step ((go_at_call 176;exact Calls.lat_of (c1 _))))
      iterate 7 (go_big_quiet_step ((go_at_call 176;exact Calls.lat_of (c3 _))))
      refine wpQuiet_nil ?_
      rintro _ ⟨nq,rfl⟩
      go_wp2_with fail
      go_ret
      exact ⟨isB_false HN.out,B3.trans (nq.h.mono B3.size)⟩
    ·have HST:Hid (∀ q,(h:q < sh.length)->q < k + 1->SameTo ws ps sh[q] sh[q].length):=fun q hq hlt'=>by
      by_cases e:q=k
      ·subst e
       exact fun i hi _ h0=>HJ.out i hi (by omega) h0
      ·exact HI.out q hq (by omega)
     go_wp2_with fail
     exact ⟨⟨k + 1,by omega,by go_num,HST,B2⟩,by simp [intOf];omega⟩
  ·have HF:Hid (AgW ws ps):=agW_same HOK.out HL.out HIN.out HSH.out.1 (fun j hj=>HI.out j hj (by omega))
   go_wp2_with fail
   go_ret
   exact ⟨isB_true HF.out,hbl⟩
end Go.Proofs.YtpfhegengmlkmacGreatDoor
namespace Go.Proofs.YtpfhegengmlkmacGreatDoor
open Go.RowKit Go.BigFrame
theorem GrpS.keep {w w':World} {B b n:Nat} {D:DataW Value} {V:ByteArray->Value} {S:ByteArray->List Spot} (h:GrpS w B b n D V S) (hb:Below w.heap.size w w'):GrpS w' B b n D V S:=
 ⟨h.own.kept (grown_below hb none) (by simp),h.lt,h.eq,h.has,fun s=>own_keep (h.row s) hb,h.far⟩
theorem Tryz.infoP:(Tryz.prog.info? 245).map (fun i=>(i.zero,i.size,i.bytes))=some (some (.agg #[.int .i64 0,.int .i64 0]),2,16):=by kernel_rfl
theorem wp_append_spot {o:Oper} {a:Act} {w:World} {K:Act->World->Prop} {Q:Exit->Act->World->Prop} (s x:Operand)
  (ho:o.op=.call { callee:=.builtin .append,args:=#[s,x],argTypes:=#[242,242] }) (base:Nat) (v:Value) (l:List Spot) (hs:a.eval s=v) (hg:GathP w base v l) (hbase:base<=w.heap.size)
  (ad:Nat) (p:Spot) (hx:a.eval x=.slice (some ⟨ad,0,none⟩) 1 1) (c0:w.cell? ⟨ad,0,none⟩=some (.int .i64 (p.1:Int))) (c1:w.cell? ⟨ad,1,none⟩=some (.int .i64 (p.2:Int))) (hl:l.length<=1048576)
  (h:∀ v' w',w'.ownsRow base 245 2 v' (l.length + 1) (scells l ++ [.int .i64 (p.1:Int),.int .i64 (p.2:Int)])->w.grownBy w' v.ownBlock->(v'.ownBlock=v.ownBlock∨v'.ownBlock=some w.heap.size)->K (a.put o.dst v') w'):o.wp Tryz.prog a w K Q:=by
 obtain ⟨i0,hi,hz0,hz1,hz2⟩:=info_parts Tryz.infoP
 obtain ⟨v',w',hr,h2,h3,_,h5⟩:=run_append_own_at (P:=Tryz.prog) w base 242 o.type 245 i0 (.agg #[.int .i64 0,.int .i64 0]) 2 16 Tryz.underlying242 hi hz0 hz1 hz2 rfl (by decide) v l.length (scells l) hg ⟨ad,0,none⟩ 1 1 [.int .i64 (p.1:Int),.int .i64 (p.2:Int)] rfl (by
   intro j u hj
   match j,hj with
   | 0,hj=>simp at hj;subst hj;exact c0
   | 1,hj=>simp at hj;subst hj;exact c1) (by simp [Value.oneCell']) (by unfold maxLen;omega) (by omega) hbase
 unfold Oper.wp execOp
 simp only [ho,resolve,invoke,builtin,Sem.run_bind,Sem.run_pure,Result.andThen_ok,List.map_toArray,List.map_cons,List.map_nil,hs,hx,hr]
 exact h _ w' h2 h3 h5
theorem Tryz.keyed:Maps.Keyed Tryz.prog 9:=Maps.string_keyed Tryz.underlying9
theorem key_text (s:ByteArray) (hs:s.size<=maxLen):keyOf Tryz.prog 9 (.string s)=some (litS s):=by
 rw [keyOf_string Tryz.underlying9]
 simp [mapKey,Tryz.underlying9,litS,hs]
theorem Tryz.zeroSp (w:World):(zeroValue 242).run Tryz.prog w=.ok (.slice none 0 0) w:=by kernel_rfl
theorem wp_update_spot {o:Oper} {a:Act} {w:World} {K:Act->World->Prop} {Q:Exit->Act->World->Prop} (m x y:Operand) (hop:o.op=Op.mapUpdate 261 m x y) (b n:Nat) (D:DataW Value) (hm:a.eval m=.map (some b)) (hown:w.ownsMap Tryz.prog 9 heldE b n D) (hn:n < maxLen) (s:ByteArray) (hs:s.size<=maxLen) (v:Value) (hx:a.eval x=.string s) (hy:a.eval y=v)
  (h:∀ w',w'.ownsMap Tryz.prog 9 heldE b (n + 1) (D.put (litS s) (.held v))->w.grownBy w' (some b)->K (a.put o.dst undef) w'):o.wp Tryz.prog a w K Q:=by
 obtain ⟨w',hrun,r1,r2⟩:=hown.update Tryz.keyed Tryz.underlying261 hn (key:=.string s) (val:=v) (kl:=litS s) (d:=.held v) (ps:=[]) (key_text s hs) rfl
 unfold Oper.wp
 simp [execOp,hop,hm,hx,hy,hrun,Result.andThen]
 exact h w' r1 r2
theorem lookup_spot {w:World} {b n:Nat} {D:DataW Value} {V:ByteArray->Value} {S:ByteArray->List Spot} {B:Nat} (h:GrpS w B b n D V S) (s:ByteArray) (hs:s.size<=maxLen):(Instr.lookup 261 (.map (some b)) (.string s) false).run Tryz.prog w=.ok (V s) w:=by
 obtain ⟨v,ps,hrun,hv⟩:=h.own.lookup Tryz.keyed Tryz.underlying261 (Tryz.zeroSp w) (zd:=.held (.slice none 0 0)) (zp:=[]) rfl (key_text s hs)
 unfold heldE at hv
 simp only [Option.some.injEq,Prod.mk.injEq] at hv
 rw [h.eq s] at hv
 obtain rfl:v=V s:=by simpa using hv.1
 exact hrun
def SpotsTo (ws:List (List ItemL)) (k j:Nat) (S:ByteArray->List Spot):Prop:=(∀ s p,p∈S s->SpotOf ws s p)∧∀ s p,SpotOf ws s p->(p.1 < k∨(p.1=k∧p.2 < j))->p∈S s
theorem spotsTo_start (ws:List (List ItemL)):SpotsTo ws 0 0 (fun _=>[]):=⟨fun s p h=>by simp at h,fun s p _ h=>by omega⟩
theorem SpotsTo.empty {ws:List (List ItemL)} {k:Nat} {S:ByteArray->List Spot} (h:SpotsTo ws k 0 S) (hk:k < ws.length) (h0:ws[k].length=0):SpotsTo ws (k + 1) 0 S:=⟨h.1,fun s p hp hlt=>by
 rcases Nat.lt_or_ge p.1 k with hl | hl
 ·exact h.2 s p hp (.inl hl)
 ·obtain ⟨_,h3,_⟩:=hp
  have e:p.1=k:=by omega
  exfalso
  simp only [e] at h3
  omega⟩
theorem SpotsTo.whole {ws:List (List ItemL)} {k:Nat} {S:ByteArray->List Spot} (hk:k < ws.length) (h0:0 < ws[k].length) (h:SpotsTo ws k (ws[k][ws[k].length - 1]).2.length S):SpotsTo ws (k + 1) 0 S:=⟨h.1,fun s p hp hlt=>by
 rcases Nat.lt_or_ge p.1 k with hl | hl
 ·exact h.2 s p hp (.inl hl)
 ·have e:p.1=k:=by omega
  have hp2:=hp
  obtain ⟨_,_,h4,_⟩:=hp2
  refine h.2 s p hp (.inr ⟨e, ?_⟩)
  simp only [e] at h4
  exact h4⟩
open Classical in
theorem SpotsTo.step {ws:List (List ItemL)} {k j:Nat} {S:ByteArray->List Spot} (h:SpotsTo ws k j S) (hk:k < ws.length) (h0:0 < ws[k].length) (hj:j < (ws[k][ws[k].length - 1]).2.length) {s:ByteArray} (hs:((ws[k][ws[k].length - 1]).2[j]).1=s):SpotsTo ws k (j + 1) (fun t=>if t=s then S s ++ [(k,j)] else S t):=by
 have hnew:SpotOf ws s (k,j):=⟨hk,h0,hj,hs⟩
 refine ⟨fun t p hp=>?_,fun t p hp hlt=>?_⟩
 ·by_cases e:t=s
  ·subst e
   simp only [↓reduceIte] at hp
   rcases List.mem_append.1 hp with hp | hp
   ·exact h.1 _ p hp
   ·obtain rfl:p=(k,j):=by simpa using hp
    exact hnew
  ·simp only [if_neg e] at hp
   exact h.1 t p hp
 ·by_cases hq:p.1 < k∨(p.1=k∧p.2 < j)
  ·have hm:=h.2 t p hp hq
   by_cases e:t=s
   ·subst e
    simp only [↓reduceIte]
    exact List.mem_append_left _ hm
   ·simp only [if_neg e]
    exact hm
  ·have e1:p=(k,j):=Prod.ext (by show p.1=k;omega) (by show p.2=j;omega)
   subst e1
   obtain ⟨_,_,_,hs'⟩:=hp
   simp only at hs'
   have e:t=s:=by rw [<- hs',hs]
   simp only [if_pos e]
   exact List.mem_append_right _ (by simp)
end Go.Proofs.YtpfhegengmlkmacGreatDoor
