/- Texts of this claim. -/
import Derived.Lib.AtoiAllCases
import Derived.Test.YtpfhegengmlkmacGreatDoorZt24
import Derived.Test.YtpfhegengmlkmacGreatDoorZt25
namespace Go.Proofs.YtpfhegengmlkmacGreatDoor
open Go.RowKit Go.BigFrame
def MarkR (r:List UInt8) (m:ByteArray×Int) (ok:Bool) (r':List UInt8):Prop:=
 (ok=true->∃ d,r=bl m.1 ++ 58 :: (d ++ r')∧NBs (bl m.1)∧Dig d m.2∧NoDig r')∧(ok=false->∀ (m':ByteArray×Int) d q,r=bl m'.1 ++ 58 :: (d ++ q)->NBs (bl m'.1)->Dig d m'.2->NoDig q->False)
def MarkE (w:World) (R:Nat) (t:ByteArray) (p:Nat) (e:Ending):Prop:=∃ m ok p',e=.returned (.tuple #[.agg #[.string m.1,.int .i64 m.2],.bool ok])∧Sr w R t p'∧p<=p'∧MarkR ((bl t).drop p) m ok ((bl t).drop p')∧m.1.size<=1000
theorem name_cut {n n' r x:List UInt8} (he:n ++ r=n' ++ 58 :: x) (hn:NBs n) (hn':NBs n') (hr:∀ y,r.head?=some y->¬ NB (y.toNat:Int)):n=n'∧r=58 :: x:=
 run_one (p:=fun y=>NB (y.toNat:Int)) he hn hn' hr (fun y hy=>by
  simp at hy
  subst hy
  unfold NB
  decide)
theorem markR_no {r n q:List UInt8} {m:ByteArray×Int} (r':List UInt8) (he:r=n ++ q) (hn:NBs n) (hq:∀ y,q.head?=some y->¬ NB (y.toNat:Int)) (h58:q.head?≠some 58):MarkR r m false r':=
 ⟨fun e=>Bool.noConfusion e,fun _ m' d z he' hn' _ _=>by
  rw [he] at he'
  obtain ⟨_,e2⟩:=name_cut he' hn hn' hq
  exact h58 (by rw [e2];rfl)⟩
theorem markR_ver {r q r':List UInt8} {s:ByteArray} {v:Int} {ok:Bool} (he:r=bl s ++ 58 :: q) (hn:NBs (bl s)) (hv:VerR q v ok r'):MarkR r (s,v) ok r':=by
 refine ⟨fun h=>?_,fun h m' d z he' hn' hd hz=>?_⟩
 ·obtain ⟨d,h1,h2,h3⟩:=hv.1 h
  exact ⟨d,by rw [he,h1],hn,h2,h3⟩
 ·rw [he] at he'
  obtain ⟨_,e2⟩:=cut_one he' (nbs_not hn (.inl rfl)) (nbs_not hn' (.inl rfl))
  exact hv.2 h d z m'.2 e2 hd hz
theorem take_58 (R p:Nat) (t:ByteArray) (w:World) (hr:Sr w R t p) :
  Calls Tryz.prog 232 #[.pointer (some ⟨R,0,none⟩),.int .u8 58] w fun e w'=>TakeE w' R t p 58 e∧But R w w':=take_any R p t 58 w hr
theorem take_32 (R p:Nat) (t:ByteArray) (w:World) (hr:Sr w R t p) :
  Calls Tryz.prog 232 #[.pointer (some ⟨R,0,none⟩),.int .u8 32] w fun e w'=>TakeE w' R t p 32 e∧But R w w':=take_any R p t 32 w hr
theorem But.frozen {R:Nat} {w w':World} (h:But R w w') {b:Nat} (o:Nat) (hb:b < w.heap.size) (hne:b≠R):w'.frozen? ⟨b,o,none⟩=w.frozen? ⟨b,o,none⟩:=World.frozen?_of_block (h.block b hb hne)
theorem But.cell' {R:Nat} {w w':World} (h:But R w w') {b:Nat} (o:Nat) (hb:b < w.heap.size) (hne:b≠R):w'.cell? ⟨b,o,none⟩=w.cell? ⟨b,o,none⟩:=World.cell?_of_block (h.block b hb hne)
theorem But.setNew {R B:Nat} {x w:World} (h:But R x w) (hB:x.heap.size<=B) (i:Nat) (v:Value):But R x (w.setCell ⟨B,i,none⟩ v):=
 ⟨h.os,h.tape,h.output,by simpa using h.size,fun k hk hn=>(Below.heap_setCell _ _ _ _ (by simp only;omega)).trans (h.block k hk hn)⟩
theorem Sr.setNew {w:World} {R p B:Nat} {t:ByteArray} (h:Sr w R t p) (hB:B≠R) (i:Nat) (v:Value):Sr (w.setCell ⟨B,i,none⟩ v) R t p:=h.same (Below.heap_setCell _ _ _ _ (by simp only;omega))
set_option maxHeartbeats 1600000 in
theorem mark_any (R p:Nat) (t:ByteArray) (w:World) (hr:Sr w R t p) :
  Calls Tryz.prog 231 #[.pointer (some ⟨R,0,none⟩)] w fun e w'=>MarkE w' R t p e∧But R w w':=by
 have hR:=hr.lt
 go_enter Tryz.func231,Tryz.ntmps231
 go_wp2_with fail
 have bx0:=box0 w (.string ⟨#[]⟩) (.int .i64 0) 144
 have bx1:=box1 w (.string ⟨#[]⟩) (.int .i64 0) 144
 have fx0:(w.alloc (.cells #[.string ⟨#[]⟩,.int .i64 0] 144)).frozen? ⟨w.heap.size,0,none⟩=false:=by simp [go_sem]
 have fx1:(w.alloc (.cells #[.string ⟨#[]⟩,.int .i64 0] 144)).frozen? ⟨w.heap.size,1,none⟩=false:=by simp [go_sem]
 have hlx:=box_lt w (.cells #[.string ⟨#[]⟩,.int .i64 0] 144)
 have hb0:Below w.heap.size w (w.alloc (.cells #[.string ⟨#[]⟩,.int .i64 0] 144)):=(Below.refl _ _).alloc (Nat.le_refl _) _
 replace hr:=hr.below hb0
 have hbu:But R w (w.alloc (.cells #[.string ⟨#[]⟩,.int .i64 0] 144)):=But.of_below hb0
 generalize w.alloc (.cells #[.string ⟨#[]⟩,.int .i64 0] 144)=W0 at *
 clear hb0
 refine (name_any R p t _ hr).mono ?_
 rintro e w1 ⟨⟨s,p1,rfl,hr1,hp1,he1,hn1,hq1,hs1⟩,b1⟩
 replace bx0:=(b1.cell' 0 hlx (by omega)).trans bx0
 replace bx1:=(b1.cell' 1 hlx (by omega)).trans bx1
 replace fx0:=(b1.frozen 0 hlx (by omega)).trans fx0
 replace fx1:=(b1.frozen 1 hlx (by omega)).trans fx1
 replace hlx:=Nat.lt_of_lt_of_le hlx b1.size
 replace hbu:=hbu.trans b1
 have HE1:Hid ((bl t).drop p=bl s ++ (bl t).drop p1):=he1
 have HN1:Hid (NBs (bl s)):=hn1
 have HQ1:Hid (∀ x,((bl t).drop p1).head?=some x->¬ NB (x.toNat:Int)):=hq1
 clear he1 hn1 hq1 b1 hr
 go_wp2_with fail
 refine (take_58 R p1 t _ hr1).mono ?_
 rintro e w2 ⟨hT,b2⟩
 replace bx0:=(b2.cell' 0 hlx (by omega)).trans bx0
 replace bx1:=(b2.cell' 1 hlx (by omega)).trans bx1
 replace fx0:=(b2.frozen 0 hlx (by omega)).trans fx0
 replace fx1:=(b2.frozen 1 hlx (by omega)).trans fx1
 replace hlx:=Nat.lt_of_lt_of_le hlx b2.size
 replace hbu:=hbu.trans b2
 clear b2 hr1
 rcases hT with ⟨hlt,h58,rfl,hr2⟩ | ⟨hno,rfl,hr2⟩
 ·have HE2:Hid ((bl t).drop p=bl s ++ 58 :: (bl t).drop (p1 + 1)):=by
   unfold Hid
   rw [HE1.out,pk_drop hlt,h58]
  clear h58 HE1 HQ1
  go_wp2_with fail
  refine (verRd_any R (p1 + 1) t _ hr2).mono ?_
  rintro e w3 ⟨⟨v,ok,p3,rfl,hr3,hp3,hv3⟩,b3⟩
  replace bx0:=(b3.cell' 0 hlx (by omega)).trans bx0
  replace bx1:=(b3.cell' 1 hlx (by omega)).trans bx1
  replace fx0:=(b3.frozen 0 hlx (by omega)).trans fx0
  replace fx1:=(b3.frozen 1 hlx (by omega)).trans fx1
  replace hbu:=hbu.trans b3
  have HMR:Hid (MarkR ((bl t).drop p) (s,v) ok ((bl t).drop p3)):=markR_ver HE2.out HN1.out hv3
  clear hv3 b3 hr2 HE2 HN1
  have y0:((w3.setCell ⟨w.heap.size,0,none⟩ (.string s)).setCell ⟨w.heap.size,1,none⟩ (.int .i64 v)).cell? ⟨w.heap.size,0,none⟩=some (.string s):=by simp [go_sem,bx0]
  have y1:((w3.setCell ⟨w.heap.size,0,none⟩ (.string s)).setCell ⟨w.heap.size,1,none⟩ (.int .i64 v)).cell? ⟨w.heap.size,1,none⟩=some (.int .i64 v):=by simp [go_sem,bx1]
  go_wp2_with fail
  exact bodyPost_ret (v:=.tuple #[.agg #[.string s,.int .i64 v],.bool ok]) (by simp [results,Tryz.results231,go_sem,y0,y1]) rfl ⟨⟨(s,v),ok,p3,rfl,(hr3.setNew (by omega) _ _).setNew (by omega) _ _,by omega,HMR.out,hs1⟩,(hbu.setNew (Nat.le_refl _) _ _).setNew (Nat.le_refl _) _ _⟩
 ·have HMR:Hid (MarkR ((bl t).drop p) (.empty,0) false ((bl t).drop p1)):=markR_no _ HE1.out HN1.out HQ1.out (fun e=>hno (pk_head.1 e))
  clear hno HE1 HN1 HQ1
  have y0:((w2.setCell ⟨w.heap.size,0,none⟩ (.string ⟨#[]⟩)).setCell ⟨w.heap.size,1,none⟩ (.int .i64 0)).cell? ⟨w.heap.size,0,none⟩=some (.string ⟨#[]⟩):=by simp [go_sem,bx0]
  have y1:((w2.setCell ⟨w.heap.size,0,none⟩ (.string ⟨#[]⟩)).setCell ⟨w.heap.size,1,none⟩ (.int .i64 0)).cell? ⟨w.heap.size,1,none⟩=some (.int .i64 0):=by simp [go_sem,bx1]
  go_wp2_with fail
  exact bodyPost_ret (v:=.tuple #[.agg #[.string ⟨#[]⟩,.int .i64 0],.bool false]) (by simp [results,Tryz.results231,go_sem,y0,y1]) rfl ⟨⟨(.empty,0),false,p1,rfl,(hr2.setNew (by omega) _ _).setNew (by omega) _ _,hp1,HMR.out,Nat.zero_le _⟩,(hbu.setNew (Nat.le_refl _) _ _).setNew (Nat.le_refl _) _ _⟩
theorem Gath.but2 {w w':World} {R B:Nat} {v:Value} {l:List (ByteArray×Int)} (h:Gath w B v l) (hb:But R w w') (hR:R < B):Gath w' B v l:=by
 obtain ⟨hl,h | ⟨g,cap,cur,hv,hgB,hh,r⟩⟩:=h
 ·exact ⟨hl,.inl h⟩
 ·exact ⟨hl,.inr ⟨g,cap,cur,hv,hgB,(hb.block g (Array.getElem?_eq_some_iff.1 hh).1 (by omega)).trans hh,r⟩⟩
theorem first_word {r:List UInt8} {ms:List (ByteArray×Int)} (h:Words (splitL 32 r) ms):∃ (m':ByteArray×Int) (d q:List UInt8),r=bl m'.1 ++ 58 :: (d ++ q)∧NBs (bl m'.1)∧Dig d m'.2∧NoDig q∧(q=[]∨q.head?=some 32):=by
 rcases splitL_two (c:=32) r with h1 | ⟨a,r',rfl,h1⟩
 ·rw [splitL_no h1] at h
  match ms,h with
  | m :: _,h=>
   obtain ⟨d,e,h2,h3⟩:=h.1
   exact ⟨m,d,[],by rw [List.append_nil];exact e,h2,h3,fun x hx=>by simp at hx,.inl rfl⟩
 ·rw [splitL_cut h1] at h
  match ms,h with
  | m :: _,h=>
   obtain ⟨d,e,h2,h3⟩:=h.1
   exact ⟨m,d,32 :: r',by rw [e,List.append_assoc];rfl,h2,h3,fun x hx=>by simp at hx;subst hx;unfold DG;decide,.inr rfl⟩
theorem marks_no {L r:List UInt8} {pw:List (List UInt8)} {m:ByteArray×Int} {r':List UInt8} (hs:splitL 32 L=pw ++ splitL 32 r) (h:MarkR r m false r'):∀ m',¬ Words (splitL 32 L) m':=fun m' hw=>by
 rw [hs] at hw
 obtain ⟨_,m2,_,_,h2⟩:=hw.cut
 obtain ⟨x,d,q,e,h3,h4,h5,_⟩:=first_word h2
 exact h.2 rfl x d q e h3 h4 h5
theorem marks_bad {L r:List UInt8} {pw:List (List UInt8)} {m:ByteArray×Int} {r':List UInt8} (hs:splitL 32 L=pw ++ splitL 32 r) (h:MarkR r m true r') (hr:r'≠[]) (h32:r'.head?≠some 32):∀ m',¬ Words (splitL 32 L) m':=fun m' hw=>by
 rw [hs] at hw
 obtain ⟨_,m2,_,_,h2⟩:=hw.cut
 obtain ⟨x,d,q,e,h3,h4,h5,h6⟩:=first_word h2
 obtain ⟨d0,e0,h7,h8,h9⟩:=h.1 rfl
 rw [e0] at e
 obtain ⟨_,e2⟩:=cut_one e (nbs_not h7 (.inl rfl)) (nbs_not h3 (.inl rfl))
 obtain ⟨_,rfl⟩:=run_one e2 h8.2.2.1 h4.2.2.1 h9 h5
 rcases h6 with h6 | h6
 ·exact hr h6
 ·exact h32 h6
theorem mark_word {r r':List UInt8} {m:ByteArray×Int} (h:MarkR r m true r'):∃ u,r=u ++ r'∧Word u m∧(32:UInt8)∉u:=by
 obtain ⟨d0,e0,h7,h8,h9⟩:=h.1 rfl
 have hw:Word (bl m.1 ++ 58 :: d0) m:=⟨d0,rfl,h7,h8⟩
 exact ⟨_,by rw [e0,List.append_assoc];rfl,hw,hw.free⟩
theorem marks_end {L r:List UInt8} {pw:List (List UInt8)} {o:List (ByteArray×Int)} {m:ByteArray×Int} (hs:splitL 32 L=pw ++ splitL 32 r) (ho:Words pw o) (h:MarkR r m true []):Words (splitL 32 L) (o ++ [m]):=by
 obtain ⟨u,e,hw,hf⟩:=mark_word h
 rw [List.append_nil] at e
 subst e
 rw [hs,splitL_no hf]
 exact ho.snoc hw
theorem marks_next {L r q:List UInt8} {pw:List (List UInt8)} {o:List (ByteArray×Int)} {m:ByteArray×Int} (hs:splitL 32 L=pw ++ splitL 32 r) (ho:Words pw o) (h:MarkR r m true (32 :: q)):∃ pw',splitL 32 L=pw' ++ splitL 32 q∧Words pw' (o ++ [m]):=by
 obtain ⟨u,e,hw,hf⟩:=mark_word h
 subst e
 exact ⟨pw ++ [u],by rw [hs,splitL_cut hf];simp,ho.snoc hw⟩
def MksE (w:World) (B:Nat) (t:ByteArray) (e:Ending):Prop:=∃ v o ok,e=.returned (.tuple #[v,.bool ok])∧Gath w B v o∧(ok=true->Words (splitL 32 (bl t)) o)∧(ok=false->∀ m',¬ Words (splitL 32 (bl t)) m')∧o.length<=1001∧(∀ m∈o,m.1.size<=1000)
set_option maxHeartbeats 1600000 in
theorem marks_any (R:Nat) (t:ByteArray) (w:World) (hr:Sr w R t 0) :
  Calls Tryz.prog 217 #[.pointer (some ⟨R,0,none⟩)] w fun e w'=>MksE w' w.heap.size t e∧But R w w':=by
 obtain ⟨i0,hi,hz0,hz1,hz2⟩:=info_parts Tryz.infoM
 have hR:=hr.lt
 go_enter Tryz.func217,Tryz.ntmps217
 go_wp2_with fail
 go_loopw [4] (fun sv wr=>∃ (k:Nat) (o:List (ByteArray×Int)) (pw:List (List UInt8)),k<=t.size∧Gath wr w.heap.size sv o∧o.length<=k∧(∀ m∈o,m.1.size<=1000)∧Words pw o∧splitL 32 (bl t)=pw ++ splitL 32 ((bl t).drop k)∧Sr wr R t k∧But R w wr) (fun _ wr=>t.size - atOf wr R)
 case atStart=>exact ⟨0,[],[],Nat.zero_le _,Gath.none _ _,Nat.le_refl _,by simp,trivial,by simp,hr,But.refl _ _⟩
 case round=>
  obtain ⟨k,o,pw,hkt,hg,hol,hos,hW,hS,hrr,hbr⟩:=hrel
  have hsm:=hrr.small
  have HM:Hid (atOf wr R=k):=hrr.atOf
  have HW:Hid (Words pw o):=hW
  have HS:Hid (splitL 32 (bl t)=pw ++ splitL 32 ((bl t).drop k)):=hS
  clear hW hS
  go_wp2_with fail
  refine (mark_any R k t _ hrr).mono ?_
  rintro e w2 ⟨⟨⟨ms,mv⟩,ok,p',rfl,hr2,hp2,hmr,hms⟩,b2⟩
  have hg2:=hg.but2 b2 hR
  have hB2:=hbr.trans b2
  have z2:=hB2.size
  have hle:=hr2.le
  have HMR:Hid (MarkR ((bl t).drop k) (ms,mv) ok ((bl t).drop p')):=hmr
  have hms:ms.size<=1000:=hms
  clear hmr b2 hg hrr hbr
  have hba:Below w2.heap.size w2 (w2.alloc (.cells #[.string ms,.int .i64 mv] 144)):=(Below.refl _ _).alloc (Nat.le_refl _) _
  cases ok
  ·have HNO:Hid (∀ m',¬ Words (splitL 32 (bl t)) m'):=marks_no HS.out HMR.out
   clear HMR HS HW
   go_wp2_with fail
   exact bodyPost_ret (v:=.tuple #[.slice none 0 0,.bool false]) (by simp [results,Tryz.results217,go_sem]) rfl ⟨⟨_,[],false,rfl,Gath.none _ _,fun e=>Bool.noConfusion e,fun _=>HNO.out,by simp,by simp⟩,hB2.trans (But.of_below hba)⟩
  ·have hg3:(w2.alloc (.cells #[.string ms,.int .i64 mv] 144)).ownsRow w.heap.size 144 2 _ o.length (mcells o):=World.ownsRow.alloc hg2 _
   have hob:=ownsRow_block hg3
   have x0:=box0 w2 (.string ms) (.int .i64 mv) 144
   have x1:=box1 w2 (.string ms) (.int .i64 mv) 144
   have tn:∀ j u,[Value.string ms,.int .i64 mv][j]?=some u->((w2.alloc (.cells #[.string ms,.int .i64 mv] 144)).alloc (.cells #[.string ms,.int .i64 mv] 144)).cell? ((⟨w2.heap.size + 1,0,none⟩:Addr).add j)=some u:=by
    have h:=two_new (w2.alloc (.cells #[.string ms,.int .i64 mv] 144)) (.string ms) (.int .i64 mv) 144
    rw [World.size_alloc] at h
    exact h
   have hba2:Below w2.heap.size w2 ((w2.alloc (.cells #[.string ms,.int .i64 mv] 144)).alloc (.cells #[.string ms,.int .i64 mv] 144)):=hba.alloc hba.size _
   have hos2:∀ m∈o ++ [(ms,mv)],m.1.size<=1000:=fun m hm=>by
    rcases List.mem_append.1 hm with h | h
    ·exact hos m h
    ·rw [List.mem_singleton.1 h];exact hms
   by_cases hend:p'=t.size
   ·have hend':((p':Int) == (t.size:Int))=true:=by rw [hend];simp
    have HOK:Hid (Words (splitL 32 (bl t)) (o ++ [(ms,mv)])):=by
     have h:=HMR.out
     have e:(bl t).drop p'=[]:=List.drop_of_length_le (by rw [bl_length];omega)
     rw [e] at h
     exact marks_end HS.out HW.out h
    clear HMR HS HW hend
    go_wp2_with (at_builtin;refine wpList_append_lies _ rfl _ _ 34 rfl w.heap.size 144 i0 (.agg #[.string .empty,.int .i64 0]) 2 24 Tryz.underlying34 hi hz0 hz1 hz2 rfl (by decide) _ _ _ rfl (World.ownsRow.alloc hg3 _) ⟨w2.heap.size + 1,0,none⟩ 1 1 [.string ms,.int .i64 mv] rfl rfl tn (by simp [Value.oneCell']) (by decide) (by unfold maxLen;omega) (by omega) (by simp;omega) _ rfl ?_;intro g' cap' w5 hown' hgrow _ _;have hr5:=(hr2.below hba2).grown hgrow (fun q e=>by have:=hob q e;omega);have hc0:=hr5.c0;have hc1:=hr5.c1;have hf1:=hr5.f1)
    have hB5:But R w w5:=(hB2.trans (But.of_below hba2)).grown2 hgrow hob
    go_quiet (fail)
    go_wp2_with fail
    exact bodyPost_ret (v:=.tuple #[.slice (some ⟨g',0,none⟩) (o.length + 1) cap',.bool true]) (by simp [results,Tryz.results217,go_sem]) rfl ⟨⟨_,o ++ [(ms,mv)],true,rfl,(Gath.snoc hown').keep (below_drewN (Below.refl _ _) nq),fun _=>HOK.out,fun e=>Bool.noConfusion e,by simp;omega,hos2⟩,hB5.trans (But.of_below (below_drewN (Below.refl _ _) nq))⟩
   ·have hend':((p':Int) == (t.size:Int))=false:=by rw [beq_eq_false_iff_ne];omega
    have hlt:p' < t.size:=by omega
    clear hend
    go_wp2_with (at_builtin;refine wpList_append_lies _ rfl _ _ 34 rfl w.heap.size 144 i0 (.agg #[.string .empty,.int .i64 0]) 2 24 Tryz.underlying34 hi hz0 hz1 hz2 rfl (by decide) _ _ _ rfl (World.ownsRow.alloc hg3 _) ⟨w2.heap.size + 1,0,none⟩ 1 1 [.string ms,.int .i64 mv] rfl rfl tn (by simp [Value.oneCell']) (by decide) (by unfold maxLen;omega) (by omega) (by simp;omega) _ rfl ?_;intro g' cap' w5 hown' hgrow _ _;have hr5:=(hr2.below hba2).grown hgrow (fun q e=>by have:=hob q e;omega);have hc0:=hr5.c0;have hc1:=hr5.c1;have hf1:=hr5.f1)
    have hB5:But R w w5:=(hB2.trans (But.of_below hba2)).grown2 hgrow hob
    go_quiet (fail)
    have hbq:Below w5.heap.size w5 (w5.drewN nq):=below_drewN (Below.refl _ _) nq
    have hg6:=(Gath.snoc hown').keep hbq
    have hB6:=hB5.trans (But.of_below hbq)
    have hr6:=hr5.below hbq
    clear hown' hgrow hB5 hr5 hc0 hc1 hf1 x0 x1 tn
    go_wp2_with fail
    refine (take_32 R p' t _ hr6).mono ?_
    rintro e w7 ⟨hT,b7⟩
    rcases hT with ⟨_,h32,rfl,hr7⟩ | ⟨hno,rfl,hr7⟩
    ·have HNX:Hid (∃ pw',splitL 32 (bl t)=pw' ++ splitL 32 ((bl t).drop (p' + 1))∧Words pw' (o ++ [(ms,mv)])):=by
      have h:=HMR.out
      rw [pk_drop hlt,h32] at h
      exact marks_next HS.out HW.out h
     have hg7:=hg6.but2 b7 hR
     have hB7:=hB6.trans b7
     clear h32 HMR HS HW
     go_wp2_with fail
     obtain ⟨pw',e1,e2⟩:=HNX.out
     refine ⟨⟨p' + 1,o ++ [(ms,mv)],pw',hlt,hg7,by simp;omega,hos2,e2,e1,hr7,hB7⟩, ?_⟩
     rw [hr7.atOf,HM.out]
     omega
    ·have HNO:Hid (∀ m',¬ Words (splitL 32 (bl t)) m'):=marks_bad HS.out HMR.out (fun e=>by rw [pk_drop hlt] at e;cases e) (fun e=>hno (pk_head.1 e))
     have hB7:=hB6.trans b7
     clear HMR HS HW hno
     go_wp2_with fail
     exact bodyPost_ret (v:=.tuple #[.slice none 0 0,.bool false]) (by simp [results,Tryz.results217,go_sem]) rfl ⟨⟨_,[],false,rfl,Gath.none _ _,fun e=>Bool.noConfusion e,fun _=>HNO.out,by simp,by simp⟩,hB7⟩
set_option maxHeartbeats 1600000 in
theorem implRead_any (t:ByteArray) (w:World) (ht:t.size<=1000000000) :
  Calls Tryz.prog 206 #[.string t] w fun e w'=>RE w' w.heap.size t e∧Below w.heap.size w w':=by
 by_cases h4:400 < t.size
 ·have H:Hid (IsR t [] false):=.inr ⟨rfl,rfl,fun m' h=>by have:=h.1;omega⟩
  go_enter Tryz.func206,Tryz.ntmps206
  go_wp2_with fail
  exact bodyPost_ret (v:=.tuple #[.slice none 0 0,.bool false]) (by simp [results,Tryz.results206,go_sem]) rfl ⟨⟨_,[],false,rfl,Gath.none _ _,H.out⟩,Below.refl _ _⟩
 by_cases hd:t=⟨#[45]⟩
 ·have hd':(t.toList == [45])=true:=by rw [hd,ByteArray.toList_eq];rfl
  have H:Hid (IsR t [] true):=.inl ⟨rfl,by omega,.inl ⟨by rw [hd],rfl⟩⟩
  clear hd
  go_enter Tryz.func206,Tryz.ntmps206
  go_wp2_with fail
  exact bodyPost_ret (v:=.tuple #[.slice none 0 0,.bool true]) (by simp [results,Tryz.results206,go_sem]) rfl ⟨⟨_,[],true,rfl,Gath.none _ _,H.out⟩,Below.refl _ _⟩
 have hd':(t.toList == [45])=false:=by
  have h:=toList_bne.2 hd
  rwa [show (⟨#[45]⟩:ByteArray).toList=[45] from by rw [ByteArray.toList_eq]] at h
 have HD:Hid (bl t≠[45]):=fun e=>hd (data_inj e)
 clear hd
 go_enter Tryz.func206,Tryz.ntmps206
 go_wp2_with fail
 have hba:Below w.heap.size w (w.alloc (.cells #[.string t,.int .i64 0] 282)):=(Below.refl _ _).alloc (Nat.le_refl _) _
 have hsr:Sr (w.alloc (.cells #[.string t,.int .i64 0] 282)) w.heap.size t 0:=⟨by simp [go_sem],by simp [go_sem],by simp [go_sem],Nat.zero_le _,by omega⟩
 have hlx:=box_lt w (.cells #[.string t,.int .i64 0] 282)
 generalize w.alloc (.cells #[.string t,.int .i64 0] 282)=W0 at *
 refine (marks_any w.heap.size t _ hsr).mono ?_
 rintro e w2 ⟨⟨v,o,ok,rfl,hg2,hyes,hno,hl2,hs2⟩,b2⟩
 have B2:Below w.heap.size w w2:=hba.trans (b2.below (Nat.le_refl _) (by omega))
 have HFAIL:Hid ((∀ m',Words (splitL 32 (bl t)) m'->¬ StampP m')->IsR t [] false):=fun h=>.inr ⟨rfl,rfl,fun m' hA=>by
  rcases hA.2 with ⟨h1,_⟩ | ⟨h1,h2⟩
  ·exact HD.out h1
  ·exact h m' h1 h2⟩
 cases ok
 ·have H:Hid (IsR t [] false):=HFAIL.out fun m' h=>absurd h (hno rfl m')
  clear hno hyes HFAIL HD
  go_wp2_with fail
  exact bodyPost_ret (v:=.tuple #[.slice none 0 0,.bool false]) (by simp [results,Tryz.results206,go_sem]) rfl ⟨⟨_,[],false,rfl,Gath.none _ _,H.out⟩,B2⟩
 have HY:Hid (Words (splitL 32 (bl t)) o):=hyes rfl
 have hg3:=hg2.lower (B':=w.heap.size) (by omega)
 obtain ⟨ao,co,rfl,hrow⟩:=hg3.shape
 clear hno hyes hg2
 go_wp2_with fail
 refine (implStampOk_any ao co o _ (by unfold maxLen;omega) hrow (fun j hj=>by have:=hs2 _ (List.getElem_mem hj);unfold maxLen;omega)).mono ?_
 rintro e w3 ⟨⟨r,rfl,hr3⟩,b3⟩
 have B3:Below w.heap.size w w3:=B2.trans (b3.mono B2.size)
 cases r
 ·have H:Hid (IsR t [] false):=HFAIL.out fun m' h hs=>by
   rw [h.one HY.out] at hs
   exact absurd (hr3.2 hs) (by simp)
  clear HFAIL HD HY hr3
  go_wp2_with fail
  exact bodyPost_ret (v:=.tuple #[.slice none 0 0,.bool false]) (by simp [results,Tryz.results206,go_sem]) rfl ⟨⟨_,[],false,rfl,Gath.none _ _,H.out⟩,B3⟩
 ·have H:Hid (IsR t o true):=.inl ⟨rfl,by omega,.inr ⟨HY.out,hr3.1 rfl⟩⟩
  have hg4:=hg3.keep b3
  clear HFAIL HD HY hr3
  go_wp2_with fail
  exact bodyPost_ret (v:=.tuple #[.slice ao o.length co,.bool true]) (by simp [results,Tryz.results206,go_sem]) rfl ⟨⟨_,o,true,rfl,hg4,H.out⟩,B3⟩
end Go.Proofs.YtpfhegengmlkmacGreatDoor
namespace Go.Proofs.YtpfhegengmlkmacGreatDoor
open Go.RowKit Go.BigFrame
set_option maxRecDepth 100000
structure EnvW (w:World) (u:TypeId) (pv:Value):Prop where
 tab:Tab w
 syn:∃ t p,w.cell? ⟨6,0,none⟩=some (.iface t p)
 ran:∃ t p,w.cell? ⟨7,0,none⟩=some (.iface t p)
 giv:GivW w u pv
theorem EnvW.below {w w':World} {u:TypeId} {pv:Value} (h:EnvW w u pv) (hb:Below w.heap.size w w'):EnvW w' u pv:=by
 obtain ⟨t1,p1,h1⟩:=h.syn
 obtain ⟨t2,p2,h2⟩:=h.ran
 exact ⟨h.tab.below hb,⟨t1,p1,cell_on hb (World.block_lt_of_cell? _ _ h1) h1⟩,⟨t2,p2,cell_on hb (World.block_lt_of_cell? _ _ h2) h2⟩,h.giv.below hb⟩
def givE (u:TypeId) (pv:Value):Ending:=.panicked [{ v:=.iface u pv,recovered:=false }]
theorem itoaI_any (n:Int) (w:World) (h0:-9223372036854775808<=n) (h1:n<=9223372036854775807) (ht:Tab w) :
  Calls Tryz.prog 191 #[.int .i64 n] w fun e w'=>e=.returned (.string ⟨(Lib.itoa n).toArray⟩)∧Below w.heap.size w w':=
 (Tryz.strconv_Itoa n h0 h1 w ht).mono fun _ w' ⟨he,k,os,hw⟩=>⟨he,by rw [hw];exact below_grow w k os⟩
set_option maxHeartbeats 1600000 in
theorem numbersText_any (a:Option Addr) (cap:Nat) (l:List Int) (w:World) (hl:l.length<=6) (hv:∀ v∈l,NumV v) (hr:RowZ w a l) (ht:Tab w) :
  Calls Tryz.prog 193 #[.slice a l.length cap] w fun e w'=>e=.returned (.string ⟨(numsB l).toArray⟩)∧Below w.heap.size w w':=by
 obtain ⟨i0,hi,hz0,hz1,hz2⟩:=info_parts Tryz.infoS
 go_enter Tryz.func193,Tryz.ntmps193
 go_wp2_with fail
 go_loopw [3,8] (fun ws iv wr=>∃ (k:Nat) (o:List ByteArray),k<=l.length∧iv=.int .i64 k∧GathS wr w.heap.size ws o∧o.length<=k∧Hid (o.map (·.data.toList)=(l.take k).map Lib.itoa)∧Below w.heap.size w wr) (fun _ iv _=>l.length - (intOf iv).toNat)
 case atStart=>exact ⟨0,[],Nat.zero_le _,rfl,gathS_none _ _,Nat.le_refl _,by simp [Hid],Below.refl _ _⟩
 case round=>
  obtain ⟨k,o,hk,rfl,hg,hol,HI,hbl⟩:=hrel
  have hzr:=hbl.size
  by_cases hlt:k < l.length
  ·obtain ⟨b2,o2,rfl,hlt2,c0⟩:=hr k hlt
   have e0:=cell_on hbl hlt2 c0
   have k0:(0:Int)<=(k:Int):=by omega
   have k1:(k:Int) < (l.length:Int):=by omega
   have hvk:=hv _ (List.getElem_mem hlt)
   have HT:Hid ((l.take (k + 1)).map Lib.itoa=(l.take k).map Lib.itoa ++ [Lib.itoa l[k]]):=by
    rw [Hid,List.take_succ_eq_append_getElem hlt,List.map_append,List.map_singleton]
   have cd:=itoaI_any l[k] wr (by have:=hvk.1;omega) (by have:=hvk.2;omega) (ht.below hbl)
   obtain ⟨D,hD⟩:∃ D:ByteArray,(⟨(Lib.itoa l[k]).toArray⟩:ByteArray)=D:=⟨_,rfl⟩
   have HDL:Hid (D.data.toList=Lib.itoa l[k]):=by rw [Hid,<- hD]
   rw [hD] at cd
   clear hD hvk c0
   go_wp2_with (go_at_call 191;refine cd.mono ?_)
   rintro e w3 ⟨rfl,b3⟩
   have B3:Below w.heap.size w w3:=hbl.trans (b3.mono hzr)
   have z3:=B3.size
   have hg3:w3.ownsRow w.heap.size 9 1 _ o.length (o.map .string):=hg.keep b3
   have hob:=ownsRow_block hg3
   go_wp2_with (at_builtin;refine wpList_append_lies _ rfl _ _ 22 rfl w.heap.size 9 i0 (.string .empty) 1 16 Tryz.underlying22 hi hz0 hz1 hz2 rfl (by decide) _ _ _ rfl (hg3.alloc _) ⟨w3.heap.size,0,none⟩ 1 1 [.string D] rfl rfl (one_new w3 _ _) (by simp [Value.oneCell']) (by decide) (by unfold maxLen;omega) (by omega) (by simp;omega) _ rfl ?_;intro g' cap' w5 hown' hgrow _ _)
   refine ⟨⟨k + 1,o ++ [D],by omega,by go_num,GathS.snoc hown',by simp;omega, ?_,(B3.alloc z3 _).grown hgrow (by simp;omega) hob⟩,by simp [intOf];omega⟩
   rw [Hid,HT.out,List.map_append,HI.out,List.map_singleton,HDL.out]
  ·have HI2:Hid (o.map (·.data.toList)=l.map Lib.itoa):=by
    have h:=HI.out
    rw [List.take_of_length_le (by omega)] at h
    exact h
   clear HI
   by_cases ho0:0 < o.length
   ·have hlen:(Lib.join (o.map (·.data.toList)) [32]).length<=140737488355328:=by
     rw [HI2.out]
     have h:=numsB_le hv
     show (numsB l).length<=_
     omega
    have HF:Hid ((⟨(Lib.join (o.map (·.data.toList)) [32]).toArray⟩:ByteArray)=⟨(numsB l).toArray⟩):=by rw [Hid,HI2.out];rfl
    obtain ⟨g,c,rfl,hcells,hgl,hcap⟩:=hg.slots ho0
    clear HI2
    have cJ:=Tryz.strings_Join g 0 c o ⟨#[32]⟩ wr hcells hgl (by omega) hcap hlen
    go_wp2_with (go_at_call 207;refine cJ.mono ?_;rintro e w3 ⟨rfl,b3⟩)
    go_ret
    exact ⟨by show Ending.returned (.string ⟨(Lib.join (o.map (·.data.toList)) [32]).toArray⟩)=_;rw [HF.out],hbl.trans (b3.mono hzr)⟩
   ·obtain rfl:o=[]:=List.length_eq_zero_iff.1 (by omega)
    have hl0:l=[]:=by have h:=congrArg List.length HI2.out;simp at h;exact List.length_eq_zero_iff.1 h.symm
    subst hl0
    obtain ⟨a5,c5,rfl,_⟩:=hg.shape
    have cJ:=Tryz.strings_Join_none a5 c5 ⟨#[32]⟩ wr
    clear HI2
    have hk0:¬ (k:Int) < 0:=by omega
    go_wp2_with (go_at_call 207;refine cJ.mono ?_)
    go_ret
    exact ⟨rfl,hbl⟩
theorem implText_det (a:Option Addr) (cap:Nat) (m:List (ByteArray×Int)) (w:World) (hs:StampP m) (hr:Row w a m) (ht:Tab w) :
  Calls Tryz.prog 197 #[.slice a m.length cap] w fun e w'=>e=.returned (.string (stampS m))∧Below w.heap.size w w':=
 (implText_any a cap m w (by have:=hs.1;unfold maxLen;omega) hr (stamp_size hs) ht).mono fun _ _ ⟨⟨_,he,h⟩,hb⟩=>⟨by rw [he,isTx_det hs h],hb⟩
def stampedB (l:List Int) (m:List (ByteArray×Int)):List UInt8:=numsB l ++ (tAt ++ bl (stampS m))
set_option maxHeartbeats 800000 in
theorem stampedText_any (a a2:Option Addr) (cap c2:Nat) (l:List Int) (m:List (ByteArray×Int)) (w:World) (hl:l.length<=6) (hv:∀ v∈l,NumV v) (hr:RowZ w a l) (hs:StampP m) (hm:Row w a2 m) (ht:Tab w) :
  Calls Tryz.prog 195 #[.slice a l.length cap,.slice a2 m.length c2] w fun e w'=>e=.returned (.string ⟨(stampedB l m).toArray⟩)∧Below w.heap.size w w':=by
 have c1:=numbersText_any a cap l w hl hv hr ht
 have HL:=numsB_le hv
 obtain ⟨D,hD⟩:∃ D:ByteArray,(⟨(numsB l).toArray⟩:ByteArray)=D:=⟨_,rfl⟩
 have hDs:D.size<=200:=by
  rw [<- hD]
  show (numsB l).toArray.size<=_
  simp
  omega
 have hSs:=stampS_size hs
 have HE:Hid ((D ++ (⟨#[32,64,32]⟩:ByteArray)) ++ stampS m=⟨(stampedB l m).toArray⟩):=eq_of_list (by
  rw [toList_append2,toList_append2,<- hD,List.append_assoc];rfl)
 rw [hD] at c1
 clear hD HL
 have c3:=fun w' (b:Below w.heap.size w w')=>implText_det a2 c2 m w' hs (hm.below b) (ht.below b)
 generalize stampS m=S at *
 go_enter Tryz.func195,Tryz.ntmps195
 go_wp2_with (go_at_call 193;refine c1.mono ?_)
 rintro e w1 ⟨rfl,b1⟩
 have c4:=c3 w1 b1
 go_wp2_with (go_at_call 197;refine c4.mono ?_)
 rintro e w2 ⟨rfl,b2⟩
 go_wp2_with fail
 go_ret
 exact ⟨by rw [<- HE.out];rfl,b1.trans (b2.mono b1.size)⟩
def putB (sv:List Int) (ss:List (ByteArray×Int)) (c:Int):List UInt8:=if c=1 then tShows ++ stampedB sv ss else if c=2 then tBad else codeB c
set_option maxHeartbeats 800000 in
theorem putText_any (a a2:Option Addr) (cap c2:Nat) (l:List Int) (m:List (ByteArray×Int)) (c:Int) (w:World) (hc:c=0∨c=1∨c=2∨c=3∨c=4) (hl:l.length<=6) (hv:∀ v∈l,NumV v) (hr:RowZ w a l) (hs:StampP m) (hm:Row w a2 m) (ht:Tab w) :
  Calls Tryz.prog 190 #[.agg #[.slice a l.length cap,.slice a2 m.length c2],.int .i64 c] w fun e w'=>e=.returned (.string ⟨(putB l m c).toArray⟩)∧Below w.heap.size w w':=by
 have d0:=box0 w (.slice a l.length cap) (.slice a2 m.length c2) 39
 have d1:=box1 w (.slice a l.length cap) (.slice a2 m.length c2) 39
 have bel:Below w.heap.size w (w.alloc (.cells #[.slice a l.length cap,.slice a2 m.length c2] 39)):=(Below.refl _ _).alloc (Nat.le_refl _) _
 have cS:=stampedText_any a a2 cap c2 l m _ hl hv (hr.below bel) hs (hm.below bel) (ht.below bel)
 have HL:=numsB_le hv
 have hSs:=stampS_size hs
 obtain ⟨D,hD⟩:∃ D:ByteArray,(⟨(stampedB l m).toArray⟩:ByteArray)=D:=⟨_,rfl⟩
 have hDs:D.size<=1000:=by
  rw [<- hD]
  show (stampedB l m).toArray.size<=_
  have e2:tAt.length=3:=rfl
  simp [stampedB,bl_length]
  omega
 have HE:Hid ((⟨#[115,104,111,119,115,32]⟩:ByteArray) ++ D=⟨(putB l m 1).toArray⟩):=eq_of_list (by
  rw [toList_append2,<- hD];rfl)
 rw [hD] at cS
 clear hD HL
 go_enter Tryz.func190,Tryz.ntmps190
 rcases hc with rfl | rfl | rfl | rfl | rfl
 ·go_wp2_with fail
  go_ret
  exact ⟨rfl,bel⟩
 ·go_wp2_with fail
  generalize w.alloc (.cells #[.slice a l.length cap,.slice a2 m.length c2] 39)=W0 at *
  go_wp2_with (go_at_call 195;refine cS.mono ?_)
  rintro e w1 ⟨rfl,b1⟩
  go_wp2_with fail
  go_ret
  exact ⟨by rw [<- HE.out];rfl,bel.trans (b1.mono bel.size)⟩
 ·go_wp2_with fail
  go_ret
  exact ⟨rfl,bel⟩
 ·go_wp2_with fail
  go_ret
  exact ⟨rfl,bel⟩
 ·go_wp2_with fail
  go_ret
  exact ⟨rfl,bel⟩
set_option maxHeartbeats 800000 in
theorem sliIndex_any (a:Option Addr) (cap:Nat) (l:List ByteArray) (s:ByteArray) (w:World) (hl:l.length<=1048576) (hr:RowS w a l) :
  Calls Tryz.prog 181 #[.slice a l.length cap,.string s] w fun e w'=>e=.returned (.int .i64 (Lib.idxOfS l s))∧Below w.heap.size w w':=by
 go_enter Tryz.func181,Tryz.ntmps181
 go_wp2_with fail
 go_loopw [8] (fun i wr=>∃ k:Nat,k<=l.length∧i=.int .i64 k∧Hid (∀ q,(hq:q < k)->(hl:q < l.length)->l[q]≠s)∧Below w.heap.size w wr) (fun i _=>l.length - (intOf i).toNat)
 case atStart=>exact ⟨0,Nat.zero_le _,rfl,fun _ h=>absurd h (Nat.not_lt_zero _),Below.refl _ _⟩
 case round=>
  obtain ⟨k,hk,rfl,HI,hbl⟩:=hrel
  by_cases hlt:k < l.length
  ·obtain ⟨b,o,rfl,hblt,c0⟩:=hr.below hbl k hlt
   have k0:(0:Int)<=(k:Int):=by omega
   have k1:(k:Int) < (l.length:Int):=by omega
   by_cases he:l[k]=s
   ·have hb':(s.toList == l[k].toList)=true:=toList_beq.2 he.symm
    have HX:Hid (Lib.idxOfS l s=k):=idx_hit hlt he HI.out
    clear he
    go_wp2_with fail
    go_ret
    exact ⟨by rw [HX.out];rfl,hbl⟩
   ·have hb':(s.toList == l[k].toList)=false:=toList_bne.2 (fun e=>he e.symm)
    have HJ:Hid (∀ q,(hq:q < k + 1)->(hl:q < l.length)->l[q]≠s):=fun q hq hl=>by
     by_cases e:q=k
     ·subst e;exact he
     ·exact HI.out q (by omega) hl
    clear he
    go_wp2_with fail
    exact ⟨⟨k + 1,by omega,by go_num,HJ,hbl⟩,by simp [intOf];omega⟩
  ·have HX:Hid (Lib.idxOfS l s=-1):=idx_miss fun q hl=>HI.out q (by omega) hl
   go_wp2_with fail
   go_ret
   exact ⟨by rw [HX.out];rfl,hbl⟩
end Go.Proofs.YtpfhegengmlkmacGreatDoor
