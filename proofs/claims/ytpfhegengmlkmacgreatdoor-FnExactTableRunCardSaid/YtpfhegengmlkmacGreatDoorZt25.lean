/- Texts of this claim. -/
import Derived.Test.YtpfhegengmlkmacGreatDoorShelf
import Derived.Lib.LaidTab
import Derived.Test.YtpfhegengmlkmacGreatDoorZt20
namespace Go.Proofs.YtpfhegengmlkmacGreatDoor
open Go.RowKit Go.BigFrame
set_option maxRecDepth 100000
theorem var_below {P:Program} {w w':World} {n:String} {cs:Array Value} (h:w.var? P n=some cs) (hb:Below w.heap.size w w'):w'.var? P n=some cs:=by
 unfold World.var? at h ⊢
 cases hg:P.globalNamed n with
 | none=>rw [hg] at h;cases h
 | some g=>
  rw [hg] at h
  simp only [Option.bind_some] at h ⊢
  have hlt:g < w.heap.size:=by
   rcases Nat.lt_or_ge g w.heap.size with h' | h'
   ·exact h'
   ·rw [Array.getElem?_eq_none h'] at h;cases h
  rw [hb.block g hlt]
  exact h
def Tab (w:World):Prop:=Lib.TabIs Tryz.prog w "internal/strconv.uint64pow10" .u64 Lib.pow10Tab
theorem Tab.below {w w':World} (h:Tab w) (hb:Below w.heap.size w w'):Tab w':=var_below h hb
theorem below_grow (w:World) (q:Nat) (os:Array Obj):Below w.heap.size w (Sort.grow (w.drewN q) os):=
 ⟨rfl,rfl,rfl,by simp [Sort.grow,World.drewN],fun k hk=>by
  show (w.heap ++ os)[k]?=_
  rw [Array.getElem?_append_left hk]⟩
theorem itoa_any (n:Nat) (w:World) (h1:n<=1099511627776) (ht:Tab w) :
  Calls Tryz.prog 191 #[.int .i64 (n:Int)] w fun e w'=>e=.returned (.string ⟨(Lib.decDigits n).toArray⟩)∧Below w.heap.size w w':=
 (Tryz.strconv_Itoa (n:Int) (by omega) (by omega) w ht).mono fun _ w' ⟨he,k,os,hw⟩=>⟨by rw [he];unfold Lib.itoa;rw [if_neg (by omega)];rfl,by rw [hw];exact below_grow w k os⟩
set_option maxHeartbeats 800000 in
theorem text_any (s:ByteArray) (n:Nat) (w:World) (hs:s.size<=8) (h1:n<=1099511627776) (ht:Tab w) :
  Calls Tryz.prog 210 #[.agg #[.string s,.int .i64 (n:Int)]] w fun e w'=>e=.returned (.string ⟨(wordB (s,(n:Int))).toArray⟩)∧Below w.heap.size w w':=by
 go_enter Tryz.func210,Tryz.ntmps210
 go_wp2_with fail
 have c0:=box0 w (.string s) (.int .i64 (n:Int)) 144
 have c1:=box1 w (.string s) (.int .i64 (n:Int)) 144
 have hlx:=box_lt w (.cells #[.string s,.int .i64 (n:Int)] 144)
 have hb0:Below w.heap.size w (w.alloc (.cells #[.string s,.int .i64 (n:Int)] 144)):=(Below.refl _ _).alloc (Nat.le_refl _) _
 replace ht:=ht.below hb0
 generalize w.alloc (.cells #[.string s,.int .i64 (n:Int)] 144)=W0 at *
 have hdl:=decDigits_len _ n (Nat.le_refl _)
 have cd:∀ m:Lat W0,Calls Tryz.prog 191 #[.int .i64 (n:Int)] m.w fun e w''=>e=.returned (.string ⟨(Lib.decDigits n).toArray⟩)∧Below m.w.heap.size m.w w'':=fun m=>itoa_any n m.w h1 (ht.below m.h)
 obtain ⟨D,hD⟩:∃ D:ByteArray,(⟨(Lib.decDigits n).toArray⟩:ByteArray)=D:=⟨_,rfl⟩
 have hDs:D.size<=1099511627777:=by
  rw [<- hD]
  show (Lib.decDigits n).toArray.size<=_
  simp
  omega
 rw [hD] at cd
 have HW:Hid (s ++ (⟨#[58]⟩:ByteArray) ++ D=⟨(wordB (s,(n:Int))).toArray⟩):=by
  apply data_eq
  rw [ByteArray.data_append,ByteArray.data_append,Array.toList_append,Array.toList_append,<- hD]
  show s.data.toList ++ [58] ++ Lib.decDigits n=wordB (s,(n:Int))
  unfold wordB
  rw [List.append_assoc]
  rfl
 have q0:∀ m:Lat W0,m.w.cell? ⟨w.heap.size,0,none⟩=some (.string s):=fun m=>m.cell hlx c0
 have q1:∀ m:Lat W0,m.w.cell? ⟨w.heap.size,1,none⟩=some (.int .i64 (n:Int)):=fun m=>m.cell hlx c1
 have hne:=Lat.some W0
 clear hD hdl
 refine wp_region_lat (by kernel_rfl) (by kernel_rfl) ?_
 repeat (go_big_quiet_step ((go_at_call 191;exact Calls.lat_of (cd _))))
 refine wpQuiet_nil ?_
 rintro _ ⟨nq,rfl⟩
 go_wp2_with fail
 go_ret
 exact ⟨by rw [<- HW.out];rfl,hb0.trans (nq.h.mono hb0.size)⟩
theorem GathS.slots {w:World} {B:Nat} {v:Value} {xs:List ByteArray} (h:GathS w B v xs) (h0:0 < xs.length):∃ g c,v=.slice (some ⟨g,0,none⟩) xs.length c∧(∀ (j:Nat) x,xs[j]?=some x->w.cell? ⟨g,0 + j,none⟩=some (.string x))∧g < w.heap.size∧xs.length<=c:=by
 rcases id h with ⟨hl,h1 | ⟨g,cap,cur,hv,hg,hh,hn,r⟩⟩
 ·omega
 ·subst hv
  refine ⟨g,cap,rfl,fun j x hx=>?_,(Array.getElem?_eq_some_iff.1 hh).1,hn⟩
  have hj:j < xs.length:=(List.getElem?_eq_some_iff.1 hx).1
  rw [Nat.zero_add,World.ownsRow.cellAt h j (by omega)]
  simp [hx]
set_option maxHeartbeats 1600000 in
theorem implText_any (a:Option Addr) (cap:Nat) (l:List (ByteArray×Int)) (w:World) (hl:l.length<=maxLen) (hr:Row w a l) (hs:∀ j,(h:j < l.length)->l[j].1.size<=maxLen) (ht:Tab w) :
  Calls Tryz.prog 197 #[.slice a l.length cap] w fun e w'=>(∃ s,e=.returned (.string s)∧IsTx l s)∧Below w.heap.size w w':=by
 obtain ⟨i0,hi,hz0,hz1,hz2⟩:=info_parts Tryz.infoS
 go_enter Tryz.func197,Tryz.ntmps197
 go_wp2_with fail
 refine (implStampOk_any a cap l _ hl hr hs).mono ?_
 rintro e w1 ⟨⟨r,rfl,hr1⟩,b1⟩
 cases r
 ·have H:Hid (IsTx l ⟨#[]⟩):=⟨fun h=>by simpa using hr1.2 h,fun _=>rfl⟩
  clear hr1
  go_wp2_with fail
  go_ret
  exact ⟨⟨_,rfl,H.out⟩,b1⟩
 have hS:StampP l:=hr1.1 rfl
 clear hr1
 by_cases h0:l.length=0
 ·have h0':((l.length:Int) == 0)=true:=by rw [beq_iff_eq];omega
  have H:Hid (IsTx l ⟨#[45]⟩):=⟨fun _=>by rw [if_pos (List.length_eq_zero_iff.1 h0)],fun h=>absurd hS h⟩
  clear hS h0
  go_wp2_with fail
  go_ret
  exact ⟨⟨_,rfl,H.out⟩,b1⟩
 have h0':((l.length:Int) == 0)=false:=by rw [beq_eq_false_iff_ne];omega
 have h12:=hS.1
 have HS:Hid (StampP l):=hS
 have hpos:0 < l.length:=by omega
 clear hS h0
 go_wp2_with fail
 go_loopw [3,14] (fun ws iv wr=>∃ (k:Nat) (o:List ByteArray),k<=l.length∧iv=.int .i64 k∧GathS wr w.heap.size ws o∧o.length<=k∧o.map (·.data.toList)=(l.take k).map wordB∧Below w.heap.size w wr) (fun _ iv _=>l.length - (intOf iv).toNat)
 case atStart=>exact ⟨0,[],Nat.zero_le _,rfl,gathS_none _ _,Nat.le_refl _,by simp,b1⟩
 case round=>
  obtain ⟨k,o,hk,rfl,hg,hol,hI,hbl⟩:=hrel
  have hzr:=hbl.size
  have HI:Hid (o.map (·.data.toList)=(l.take k).map wordB):=hI
  clear hI
  by_cases hlt:k < l.length
  ·obtain ⟨b2,o2,rfl,hlt2,c0,c1⟩:=hr k hlt
   have e0:=cell_on hbl hlt2 c0
   have e1:=cell_on hbl hlt2 c1
   have k0:(0:Int)<=(k:Int):=by omega
   have k1:(k:Int) < (l.length:Int):=by omega
   have hM:=HS.out.2.1 k hlt
   have hv1:=hM.2.1
   have hv2:=hM.2.2
   have hn8:=hM.1.2.1
   obtain ⟨V,hV⟩:∃ V:Nat,l[k].2=(V:Int):=⟨l[k].2.toNat,by omega⟩
   have HT:Hid ((l.take (k + 1)).map wordB=(l.take k).map wordB ++ [wordB (l[k].1,(V:Int))]):=by
    rw [Hid,List.take_succ_eq_append_getElem hlt,List.map_append,List.map_singleton,<- hV]
   rw [hV] at e1 hv1 hv2
   clear hV hM c0 c1
   have hba:Below wr.heap.size wr (wr.alloc (.cells #[.string l[k].1,.int .i64 (V:Int)] 144)):=(Below.refl _ _).alloc (Nat.le_refl _) _
   have ht2:Tab (wr.alloc (.cells #[.string l[k].1,.int .i64 (V:Int)] 144)):=(ht.below hbl).below hba
   go_wp2_with fail
   refine (text_any l[k].1 V _ hn8 (by omega) ht2).mono ?_
   rintro e w3 ⟨rfl,b3⟩
   have B3:Below w.heap.size w w3:=(hbl.trans (hba.mono hzr)).trans (b3.mono (Nat.le_trans hzr hba.size))
   have z3:=B3.size
   have hg3:w3.ownsRow w.heap.size 9 1 _ o.length (o.map .string):=(hg.keep hba).keep b3
   have hob:=ownsRow_block hg3
   have hba3:Below w3.heap.size w3 (w3.alloc (.cells #[.string ⟨(wordB (l[k].1,(V:Int))).toArray⟩] 9)):=(Below.refl _ _).alloc (Nat.le_refl _) _
   go_wp2_with (at_builtin;refine wpList_append_lies _ rfl _ _ 22 rfl w.heap.size 9 i0 (.string .empty) 1 16 Tryz.underlying22 hi hz0 hz1 hz2 rfl (by decide) _ _ _ rfl (hg3.alloc _) ⟨w3.heap.size,0,none⟩ 1 1 [.string ⟨(wordB (l[k].1,(V:Int))).toArray⟩] rfl rfl (one_new w3 _ _) (by simp [Value.oneCell']) (by decide) (by unfold maxLen;omega) (by omega) (by simp;omega) _ rfl ?_;intro g' cap' w5 hown' hgrow _ _)
   refine ⟨⟨k + 1,o ++ [⟨(wordB (l[k].1,(V:Int))).toArray⟩],by omega,by go_num,GathS.snoc hown',by simp;omega, ?_,(B3.alloc z3 _).grown hgrow (by simp;omega) hob⟩,by simp [intOf];omega⟩
   rw [HT.out,List.map_append,HI.out]
   rfl
  ·have HI2:Hid (o.map (·.data.toList)=l.map wordB):=by
    have h:=HI.out
    rw [List.take_of_length_le (by omega)] at h
    exact h
   have ho0:0 < o.length:=by
    have h:=congrArg List.length HI2.out
    rw [List.length_map,List.length_map] at h
    omega
   have hlen:(Lib.join (o.map (·.data.toList)) [32]).length<=140737488355328:=by
    rw [HI2.out]
    have h:=textB_len HS.out.2.1 l.length (Nat.le_refl _)
    rw [List.take_of_length_le (Nat.le_refl _)] at h
    show (textB l).length<=_
    omega
   have HF:Hid (IsTx l ⟨(Lib.join (o.map (·.data.toList)) [32]).toArray⟩):=⟨fun _=>by
    rw [if_neg (fun e=>by rw [e] at hpos;simp at hpos),HI2.out]
    rfl,fun h=>absurd HS.out h⟩
   obtain ⟨g,c,rfl,hcells,hgl,hcap⟩:=hg.slots ho0
   clear HI HI2
   go_wp2_with fail
   refine (Tryz.strings_Join g 0 c o ⟨#[32]⟩ _ hcells hgl (by omega) hcap hlen).mono ?_
   rintro e w3 ⟨rfl,b3⟩
   have B3:Below w.heap.size w w3:=hbl.trans (b3.mono hzr)
   go_wp2_with fail
   go_ret
   exact ⟨⟨_,rfl,HF.out⟩,B3⟩
end Go.Proofs.YtpfhegengmlkmacGreatDoor
namespace Go.Proofs.YtpfhegengmlkmacGreatDoor
open Go.RowKit Go.BigFrame
structure Sr (w:World) (R:Nat) (t:ByteArray) (p:Nat):Prop where
 c0:w.cell? ⟨R,0,none⟩=some (.string t)
 c1:w.cell? ⟨R,1,none⟩=some (.int .i64 (p:Int))
 f1:w.frozen? ⟨R,1,none⟩=false
 le:p<=t.size
 small:t.size<=1000
theorem Sr.lt {w:World} {R p:Nat} {t:ByteArray} (h:Sr w R t p):R < w.heap.size:=block_lt_of_cell h.c0
theorem Sr.same {w w':World} {R p:Nat} {t:ByteArray} (h:Sr w R t p) (hk:w'.heap[R]?=w.heap[R]?):Sr w' R t p:=
 ⟨(World.cell?_of_block hk).trans h.c0,(World.cell?_of_block hk).trans h.c1,(World.frozen?_of_block hk).trans h.f1,h.le,h.small⟩
theorem Sr.below {w w':World} {R p:Nat} {t:ByteArray} (h:Sr w R t p) (hb:Below w.heap.size w w'):Sr w' R t p:=h.same (hb.block R h.lt)
theorem Sr.step {w:World} {R p:Nat} {t:ByteArray} (h:Sr w R t p) (hp:p < t.size):Sr (w.setCell ⟨R,1,none⟩ (.int .i64 ((p:Int) + 1))) R t (p + 1):=
 ⟨by simp [go_sem,h.c0],by simp [go_sem,h.c1],by simp [go_sem,h.f1],hp,h.small⟩
def pk (t:ByteArray) (p:Nat):UInt8:=if h:p < t.size then t[p] else 0
theorem pk_at {t:ByteArray} {p:Nat} (h:p < t.size):pk t p=t[p]:=dif_pos h
theorem pk_end {t:ByteArray} {p:Nat} (h:¬ p < t.size):pk t p=0:=dif_neg h
set_option maxHeartbeats 800000 in
theorem peek_any (R p:Nat) (t:ByteArray) (w:World) (hr:Sr w R t p) :
  Calls Tryz.prog 266 #[.pointer (some ⟨R,0,none⟩)] w fun e w'=>e=.returned (.int .u8 ((pk t p).toNat:Int))∧Below w.heap.size w w':=by
 obtain ⟨c0,c1,f1,hle,hsm⟩:=hr
 go_enter Tryz.func266,Tryz.ntmps266
 by_cases hlt:p < t.size
 ·have hpe:((p:Int) == (t.size:Int))=false:=by rw [beq_eq_false_iff_ne];omega
  have HP:Hid (pk t p=t[p]):=pk_at hlt
  go_wp2_with fail
  go_quiet (fail)
  go_wp2_with fail
  go_quiet (fail)
  go_wp2_with fail
  go_ret
  exact ⟨by rw [HP.out];rfl,by repeat (first | exact Below.refl _ _ | apply below_drewN)⟩
 ·have hpe:((p:Int) == (t.size:Int))=true:=by rw [beq_iff_eq];omega
  have HP:Hid (pk t p=0):=pk_end hlt
  go_wp2_with fail
  go_quiet (fail)
  go_wp2_with fail
  go_ret
  exact ⟨by rw [HP.out];rfl,by repeat (first | exact Below.refl _ _ | apply below_drewN)⟩
def TakeE (w:World) (R:Nat) (t:ByteArray) (p:Nat) (c:UInt8) (e:Ending):Prop:=(p < t.size∧pk t p=c∧e=.returned (.bool true)∧Sr w R t (p + 1))∨(¬ (p < t.size∧pk t p=c)∧e=.returned (.bool false)∧Sr w R t p)
set_option maxHeartbeats 800000 in
theorem take_any (R p:Nat) (t:ByteArray) (c:UInt8) (w:World) (hr:Sr w R t p) :
  Calls Tryz.prog 232 #[.pointer (some ⟨R,0,none⟩),.int .u8 (c.toNat:Int)] w fun e w'=>TakeE w' R t p c e∧But R w w':=by
 obtain ⟨c0,c1,f1,hle,hsm⟩:=id hr
 go_enter Tryz.func232,Tryz.ntmps232
 by_cases hlt:p < t.size
 ·have hpe:((p:Int) == (t.size:Int))=false:=by rw [beq_eq_false_iff_ne];omega
  by_cases hc:t[p]=c
  ·have hc':((t[p].toNat:Int) != (c.toNat:Int))=false:=by rw [hc];simp
   have HP:Hid (pk t p=c):=(pk_at hlt).trans hc
   clear hc
   go_wp2_with fail
   go_quiet (fail)
   go_wp2_with fail
   go_ret
   exact ⟨.inl ⟨hlt,HP.out,rfl,(hr.below (below_drewN (Below.refl _ _) nq)).step hlt⟩,(But.of_below (below_drewN (Below.refl _ _) nq)).setCell _ _⟩
  ·have hc':((t[p].toNat:Int) != (c.toNat:Int))=true:=by
    rw [bne_iff_ne]
    exact fun e=>hc (UInt8.toNat_inj.1 (by omega))
   have HP:Hid (¬ (p < t.size∧pk t p=c)):=fun h=>hc ((pk_at hlt).symm.trans h.2)
   clear hc
   go_wp2_with fail
   go_quiet (fail)
   go_wp2_with fail
   go_ret
   exact ⟨.inr ⟨HP.out,rfl,hr.below (by repeat (first | exact Below.refl _ _ | apply below_drewN))⟩,But.of_below (by repeat (first | exact Below.refl _ _ | apply below_drewN))⟩
 ·have hpe:((p:Int) == (t.size:Int))=true:=by rw [beq_iff_eq];omega
  have HP:Hid (¬ (p < t.size∧pk t p=c)):=fun h=>hlt h.1
  go_wp2_with fail
  go_quiet (fail)
  go_wp2_with fail
  go_ret
  exact ⟨.inr ⟨HP.out,rfl,hr.below (by repeat (first | exact Below.refl _ _ | apply below_drewN))⟩,But.of_below (by repeat (first | exact Below.refl _ _ | apply below_drewN))⟩
def GathB (w:World) (B:Nat) (v:Value) (l:List UInt8):Prop:=w.ownsRow B 5 1 v l.length (l.map fun x=>.int .u8 (x.toNat:Int))
theorem gathB_none (w:World) (B:Nat):GathB w B (.slice none 0 0) []:=World.ownsRow_nil _ _ _ _
theorem GathB.but {w w':World} {R B:Nat} {v:Value} {l:List UInt8} (h:GathB w B v l) (hb:But R w w') (hR:R < B):GathB w' B v l:=by
 obtain ⟨hl,h | ⟨g,cap,cur,hv,hgB,hh,r⟩⟩:=h
 ·exact ⟨hl,.inl h⟩
 ·exact ⟨hl,.inr ⟨g,cap,cur,hv,hgB,(hb.block g (Array.getElem?_eq_some_iff.1 hh).1 (by omega)).trans hh,r⟩⟩
theorem GathB.keep {w w':World} {B:Nat} {v:Value} {l:List UInt8} (h:GathB w B v l) (hb:Below w.heap.size w w'):GathB w' B v l:=by
 obtain ⟨hl,h | ⟨g,cap,cur,hv,hg,hh,r⟩⟩:=h
 ·exact ⟨hl,.inl h⟩
 ·exact ⟨hl,.inr ⟨g,cap,cur,hv,hg,(hb.block g (Array.getElem?_eq_some_iff.1 hh).1).trans hh,r⟩⟩
theorem GathB.snoc {w:World} {B:Nat} {v:Value} {l:List UInt8} {x:UInt8} (h:w.ownsRow B 5 1 v (l.length + 1) ((l.map fun x=>.int .u8 (x.toNat:Int)) ++ [.int .u8 (x.toNat:Int)])):GathB w B v (l ++ [x]):=by
 unfold GathB
 rw [List.length_append,List.map_append]
 exact h
theorem GathB.conv {w:World} {B:Nat} {v:Value} {l:List UInt8} (h:GathB w B v l):(convert 121 9 v).run Tryz.prog w=.ok (.string ⟨l.toArray⟩) w:=by
 rcases id h with ⟨hl,h1 | ⟨g,cap,cur,hv,hg,hh,r⟩⟩
 ·obtain ⟨rfl,h2⟩:=h1
  obtain rfl:=List.length_eq_zero_iff.1 h2
  rw [run_convert_bytes_string w 121 9 5 none 0 0 Tryz.underlying121 Tryz.underlying5 Tryz.underlying9]
  rfl
 ·subst hv
  refine run_convert_bytes_back (P:=Tryz.prog) w 121 9 5 ⟨g,0,none⟩ cap l Tryz.underlying121 Tryz.underlying5 Tryz.underlying9 (fun j hj=>?_)
  have e:(⟨g,0,none⟩:Addr).add j=⟨g,j,none⟩:=by unfold Addr.add;by_cases h:j=0 <;> simp [h]
  rw [e,World.ownsRow.cellAt h j (by omega)]
  simp [hj]
theorem Tryz.infoB8:(Tryz.prog.info? 5).map (fun i=>(i.zero,i.size,i.bytes))=some (some (.int .u8 0),1,1):=by kernel_rfl
def atOf (w:World) (R:Nat):Nat:=(intOf ((w.cell? ⟨R,1,none⟩).getD undef)).toNat
theorem Sr.atOf {w:World} {R p:Nat} {t:ByteArray} (h:Sr w R t p):atOf w R=p:=by
 unfold Go.Proofs.YtpfhegengmlkmacGreatDoor.atOf
 rw [h.c1]
 simp [intOf]
theorem Sr.grown {w w':World} {R p:Nat} {t:ByteArray} {row:Option Nat} (h:Sr w R t p) (hg:w.grownBy w' row) (hr:∀ k,row=some k->R < k):Sr w' R t p:=
 h.same (hg.block R h.lt (fun e=>by have:=hr R e.symm;omega))
theorem But.grown2 {R:Nat} {x w w':World} {row:Option Nat} (h:But R x w) (hg:w.grownBy w' row) (hr:∀ k,row=some k->x.heap.size<=k):But R x w':=
 ⟨hg.os.trans h.os,hg.tape.trans h.tape,hg.output.trans h.output,Nat.le_trans h.size hg.size,fun k hk hn=>(hg.block k (Nat.lt_of_lt_of_le hk h.size) (fun e=>by have:=hr k e.symm;omega)).trans (h.block k hk hn)⟩
def NameE (w:World) (R:Nat) (t:ByteArray) (p:Nat) (e:Ending):Prop:=∃ s p',e=.returned (.string s)∧Sr w R t p'∧p<=p'∧(bl t).drop p=bl s ++ (bl t).drop p'∧NBs (bl s)∧(∀ x,((bl t).drop p').head?=some x->¬ NB (x.toNat:Int))∧s.size<=1000
set_option maxHeartbeats 1600000 in
theorem name_any (R p:Nat) (t:ByteArray) (w:World) (hr:Sr w R t p) :
  Calls Tryz.prog 251 #[.pointer (some ⟨R,0,none⟩)] w fun e w'=>NameE w' R t p e∧But R w w':=by
 obtain ⟨i0,hi,hz0,hz1,hz2⟩:=info_parts Tryz.infoB8
 have hR:=hr.lt
 go_enter Tryz.func251,Tryz.ntmps251
 go_wp2_with fail
 go_loopw [3] (fun nm wr=>∃ k:Nat,p<=k∧k<=t.size∧GathB wr w.heap.size nm (((bl t).take k).drop p)∧NBs (((bl t).take k).drop p)∧Sr wr R t k∧But R w wr) (fun _ wr=>t.size - atOf wr R)
 case atStart=>exact ⟨p,Nat.le_refl _,hr.le,by rw [List.drop_of_length_le (by rw [List.length_take];omega)];exact gathB_none _ _,by rw [List.drop_of_length_le (by rw [List.length_take];omega)];intro x hx;simp at hx,hr,But.refl _ _⟩
 case round=>
  obtain ⟨k,hpk,hkt,hg,hnb,hrr,hbr⟩:=hrel
  have hsm:=hrr.small
  have HM:Hid (atOf wr R=k):=hrr.atOf
  go_wp2_with fail
  refine (peek_any R k t _ hrr).mono ?_
  rintro e w1 ⟨rfl,b1⟩
  go_wp2_with fail
  refine (isNameByte_any _ _).mono ?_
  rintro e w1' ⟨⟨r,rfl,hnbr⟩,rfl⟩
  replace hrr:=hrr.below b1
  replace hg:=hg.keep b1
  replace hbr:=hbr.trans (But.of_below b1)
  have HNB:Hid (NBs (((bl t).take k).drop p)):=hnb
  have zz1:=hbr.size
  clear b1 hnb
  cases r
  ·have hno:¬ NB ((pk t k).toNat:Int):=fun h=>by simpa using hnbr.2 h
   have hcv:=hg.conv
   have HF:Hid (NameE w1' R t p (.returned (.string ⟨(((bl t).take k).drop p).toArray⟩))):=by
    refine ⟨_,k,rfl,hrr,hpk, ?_,HNB.out,fun x hx hn=>?_, ?_⟩
    ·rw [show bl ⟨(((bl t).take k).drop p).toArray⟩=((bl t).take k).drop p from rfl]
     exact drop_mid hpk (by rw [bl_length];omega)
    ·have hk:k < t.size:=by
      rw [List.head?_drop] at hx
      have:=(List.getElem?_eq_some_iff.1 hx).1
      rwa [bl_length] at this
     rw [List.head?_drop,bl_at t k hk] at hx
     have e:t[k]=x:=by simpa using hx
     rw [<- e,<- pk_at hk] at hn
     exact hno hn
    ·show (((bl t).take k).drop p).toArray.size<=1000
     rw [List.size_toArray,List.length_drop,List.length_take]
     omega
   clear hnbr hno
   go_wp2_with fail
   go_ret
   exact ⟨HF.out,hbr⟩
  ·have hyes:NB ((pk t k).toNat:Int):=hnbr.1 rfl
   have hk:k < t.size:=Classical.byContradiction fun h=>by
    rw [pk_end h] at hyes
    revert hyes
    unfold NB
    decide
   clear hnbr
   go_wp2_with fail
   refine (peek_any R k t _ hrr).mono ?_
   rintro e w3 ⟨rfl,b3⟩
   replace hrr:=hrr.below b3
   replace hg:=hg.keep b3
   replace hbr:=hbr.trans (But.of_below b3)
   have zz3:=hbr.size
   clear b3
   have HST:Hid (((bl t).take (k + 1)).drop p=((bl t).take k).drop p ++ [pk t k]∧NBs (((bl t).take (k + 1)).drop p)):=by
    have hat:=bl_at t k hk
    obtain ⟨hl,e⟩:=List.getElem?_eq_some_iff.1 hat
    have e1:((bl t).take (k + 1)).drop p=((bl t).take k).drop p ++ [pk t k]:=by
     rw [List.take_succ_eq_append_getElem hl,List.drop_append,List.length_take,Nat.min_eq_left (by omega),show p - k=0 by omega,List.drop_zero,e,pk_at hk]
    refine ⟨e1, ?_⟩
    rw [e1]
    intro x hx
    rcases List.mem_append.1 hx with h | h
    ·exact HNB.out x h
    ·rw [List.mem_singleton.1 h];exact hyes
   have hlen:(((bl t).take k).drop p).length<=1000:=by rw [List.length_drop,List.length_take];omega
   clear HNB hyes
   generalize ((bl t).take k).drop p=l at *
   have hg4:w3.ownsRow w.heap.size 5 1 _ l.length (l.map fun x=>.int .u8 (x.toNat:Int)):=hg
   have hob:=ownsRow_block hg4
   have hba:Below w3.heap.size w3 (w3.alloc (.cells #[.int .u8 ((pk t k).toNat:Int)] 5)):=(Below.refl _ _).alloc (Nat.le_refl _) _
   go_wp2_with (at_builtin;refine wpList_append_lies _ rfl _ _ 121 rfl w.heap.size 5 i0 (.int .u8 0) 1 1 Tryz.underlying121 hi hz0 hz1 hz2 rfl (by decide) _ _ _ rfl (hg4.alloc _) ⟨w3.heap.size,0,none⟩ 1 1 [.int .u8 ((pk t k).toNat:Int)] rfl rfl (one_new w3 _ _) (by simp [Value.oneCell']) (by decide) (by unfold maxLen;omega) (by omega) (by simp;omega) _ rfl ?_;intro g' cap' w5 hown' hgrow _ _;have hr5:=(hrr.below hba).grown hgrow (fun q e=>by have:=hob q e;omega);have hc0:=hr5.c0;have hc1:=hr5.c1;have hf1:=hr5.f1)
   have hB5:But R w w5:=(hbr.trans (But.of_below hba)).grown2 hgrow hob
   have hr6:=hr5.step hk
   refine ⟨⟨k + 1,by omega,hk, ?_,HST.out.2,hr6,hB5.setCell _ _⟩, ?_⟩
   ·rw [HST.out.1]
    exact (GathB.snoc hown').but ((But.refl R w5).setCell _ _) hR
   ·rw [hr6.atOf,HM.out]
    omega
def NoDig (r:List UInt8):Prop:=∀ x,r.head?=some x->¬ DG x
def VerR (r:List UInt8) (v:Int) (ok:Bool) (r':List UInt8):Prop:=(ok=true->∃ d,r=d ++ r'∧Dig d v∧NoDig r')∧(ok=false->∀ d q v',r=d ++ q->Dig d v'->NoDig q->False)
def VerE (w:World) (R:Nat) (t:ByteArray) (p:Nat) (e:Ending):Prop:=∃ v ok p',e=.returned (.tuple #[.int .i64 v,.bool ok])∧Sr w R t p'∧p<=p'∧VerR ((bl t).drop p) v ok ((bl t).drop p')
theorem pk_head {t:ByteArray} {k:Nat} {x:UInt8}:((bl t).drop k).head?=some x↔(k < t.size∧pk t k=x):=by
 rw [List.head?_drop]
 constructor
 ·intro h
  have hk:k < t.size:=by
   have:=(List.getElem?_eq_some_iff.1 h).1
   rwa [bl_length] at this
  rw [bl_at t k hk] at h
  exact ⟨hk,by rw [pk_at hk];simpa using h⟩
 ·rintro ⟨hk,rfl⟩
  rw [bl_at t k hk,pk_at hk]
theorem pk_drop {t:ByteArray} {k:Nat} (hk:k < t.size):(bl t).drop k=pk t k :: (bl t).drop (k + 1):=by
 rw [pk_at hk]
 exact drop_cons (bl_at t k hk)
theorem ver_great {d d0 q r:List UInt8} {v:Int} {x:UInt8} (he:d0 ++ x :: r=d ++ q) (h0:∀ y∈d0,DG y) (hx:DG x) (hd:Dig d v) (hq:NoDig q) (hg:1099511627776 < dval 0 (d0 ++ [x])):False:=by
 have key:∀ (d0 d:List UInt8),d0 ++ x :: r=d ++ q->(∀ y∈d0,DG y)->∃ d2,d=d0 ++ x :: d2:=by
  intro d0
  induction d0 with
  | nil=>
   intro d he _
   cases d with
   | nil=>exact absurd hx (hq x (by rw [<- show x :: r=q from he];rfl))
   | cons y d=>
    simp only [List.nil_append,List.cons_append,List.cons.injEq] at he
    exact ⟨d,by rw [he.1];rfl⟩
  | cons y d0 ih=>
   intro d he h0
   cases d with
   | nil=>exact absurd (h0 y (List.mem_cons_self ..)) (hq y (by rw [<- show y :: (d0 ++ x :: r)=q from he];rfl))
   | cons z d=>
    simp only [List.cons_append,List.cons.injEq] at he
    obtain ⟨d2,rfl⟩:=ih d he.2 (fun y hy=>h0 y (List.mem_cons_of_mem _ hy))
    exact ⟨d2,by rw [he.1];rfl⟩
 obtain ⟨d2,rfl⟩:=key d0 d he h0
 have h5:=hd.2.2.2.2
 have e:d0 ++ x :: d2=(d0 ++ [x]) ++ d2:=by simp
 rw [e,dval_append] at h5
 have:=dval_mono d2 (dval 0 (d0 ++ [x]))
 omega
set_option maxHeartbeats 1600000 in
theorem verRd_any (R p:Nat) (t:ByteArray) (w:World) (hr:Sr w R t p) :
  Calls Tryz.prog 252 #[.pointer (some ⟨R,0,none⟩)] w fun e w'=>VerE w' R t p e∧But R w w':=by
 have hR:=hr.lt
 go_enter Tryz.func252,Tryz.ntmps252
 go_wp2_with fail
 refine (peek_any R p t _ hr).mono ?_
 rintro e w1 ⟨rfl,b1⟩
 replace hr:=hr.below b1
 have hb1:But R w w1:=But.of_below b1
 clear b1
 by_cases h48:pk t p=48
 ·have h48':(((pk t p).toNat:Int) == 48)=true:=by rw [h48];decide
  have HV:Hid (VerR ((bl t).drop p) 0 false ((bl t).drop p)):=by
   refine ⟨fun e=>Bool.noConfusion e,fun _ d q v' he hd _=>?_⟩
   have hk:p < t.size:=Classical.byContradiction fun h=>by rw [pk_end h] at h48;exact absurd h48 (by decide)
   rw [pk_drop hk,h48] at he
   cases d with
   | nil=>exact hd.1 rfl
   | cons y d=>
    simp only [List.cons_append,List.cons.injEq] at he
    exact hd.2.1 (by rw [<- he.1];rfl)
  clear h48
  go_wp2_with fail
  exact bodyPost_ret (v:=.tuple #[.int .i64 0,.bool false]) (by simp [results,Tryz.results252,go_sem]) rfl ⟨⟨0,false,p,rfl,hr,Nat.le_refl _,HV.out⟩,hb1⟩
 have h48':(((pk t p).toNat:Int) == 48)=false:=by
  rw [beq_eq_false_iff_ne]
  exact fun e=>h48 (UInt8.toNat_inj.1 (by rw [show (48:UInt8).toNat=48 from rfl];omega))
 have H48:Hid (pk t p≠48):=h48
 clear h48
 go_wp2_with fail
 go_loopw [4] (fun vv wr=>∃ k:Nat,p<=k∧k<=t.size∧vv=.int .i64 (dval 0 (((bl t).take k).drop p):Nat)∧dval 0 (((bl t).take k).drop p)<=1099511627776∧(∀ x∈((bl t).take k).drop p,DG x)∧Sr wr R t k∧But R w wr) (fun _ wr=>t.size - atOf wr R)
 case atStart=>
  have e:((bl t).take p).drop p=[]:=List.drop_of_length_le (by rw [List.length_take];omega)
  exact ⟨p,Nat.le_refl _,hr.le,by rw [e];rfl,by rw [e,dval_nil];omega,by rw [e];intro x hx;simp at hx,hr,hb1⟩
 case round=>
  obtain ⟨k,hpk,hkt,rfl,hV,hall,hrr,hbr⟩:=hrel
  have hsm:=hrr.small
  have HM:Hid (atOf wr R=k):=hrr.atOf
  have hde:(bl t).drop p=((bl t).take k).drop p ++ (bl t).drop k:=drop_mid hpk (by rw [bl_length];omega)
  have HHD:Hid (((bl t).take k).drop p≠[]->(((bl t).take k).drop p).head?≠some 48):=fun hne he=>by
   have hlt:p < k:=Classical.byContradiction fun h=>hne (List.drop_of_length_le (by rw [List.length_take];omega))
   have h1:((bl t).drop p).head?=some 48:=by
    rw [hde]
    cases hd:((bl t).take k).drop p with
    | nil=>exact absurd hd hne
    | cons y d=>rw [hd] at he;simpa using he
   exact H48.out (pk_head.1 h1).2
  have hst:k < t.size->((bl t).take (k + 1)).drop p=((bl t).take k).drop p ++ [pk t k]:=fun hk=>by
   obtain ⟨hl,e⟩:=List.getElem?_eq_some_iff.1 (bl_at t k hk)
   rw [List.take_succ_eq_append_getElem hl,List.drop_append,List.length_take,Nat.min_eq_left (by omega),show p - k=0 by omega,List.drop_zero,e,pk_at hk]
  have HST:Hid (k < t.size->((bl t).take (k + 1)).drop p=((bl t).take k).drop p ++ [pk t k]):=hst
  have HDE:Hid ((bl t).drop p=((bl t).take k).drop p ++ (bl t).drop k):=hde
  have HALL:Hid (∀ x∈((bl t).take k).drop p,DG x):=hall
  clear hst hde hall
  generalize ((bl t).take k).drop p=d0 at *
  go_wp2_with fail
  refine (peek_any R k t _ hrr).mono ?_
  rintro e w2 ⟨rfl,b2⟩
  go_wp2_with fail
  refine (isDigit_any _ _).mono ?_
  rintro e w2' ⟨⟨r,rfl,hdg⟩,rfl⟩
  replace hrr:=hrr.below b2
  replace hbr:=hbr.trans (But.of_below b2)
  clear b2
  cases r
  ·have HND:Hid (NoDig ((bl t).drop k)):=fun x hx hd=>by
    obtain ⟨_,rfl⟩:=pk_head.1 hx
    have:=hdg.2 ⟨by have:=hd.1;omega,by have:=hd.2;omega⟩
    simp at this
   clear hdg
   by_cases hv0:dval 0 d0=0
   ·have HV:Hid (VerR ((bl t).drop p) 0 false ((bl t).drop k)):=by
     refine ⟨fun e=>Bool.noConfusion e,fun _ d q v' he hd hq=>?_⟩
     rw [HDE.out] at he
     obtain ⟨rfl,_⟩:=run_one he HALL.out hd.2.2.1 HND.out hq
     have:=hd.pos
     rw [hd.2.2.2.1,hv0] at this
     omega
    have hv0':decide ((0:Int) < ((dval 0 d0:Nat):Int))=false:=by rw [hv0];simp
    rw [hv0]
    clear hv0 hv0'
    go_wp2_with fail
    exact bodyPost_ret (v:=.tuple #[.int .i64 0,.bool false]) (by simp [results,Tryz.results252,go_sem]) rfl ⟨⟨0,false,k,rfl,hrr,hpk,HV.out⟩,hbr⟩
   ·have HV:Hid (VerR ((bl t).drop p) ((dval 0 d0:Nat):Int) true ((bl t).drop k)):=by
     refine ⟨fun _=>⟨d0,HDE.out, ?_,HND.out⟩,fun e=>Bool.noConfusion e⟩
     have hne:d0≠[]:=fun e=>hv0 (by rw [e,dval_nil])
     exact ⟨hne,HHD.out hne,HALL.out,rfl,hV⟩
    have hv1:0 < dval 0 d0:=by omega
    clear hv0 HHD HST HDE HALL
    generalize dval 0 d0=V at *
    go_wp2_with fail
    exact bodyPost_ret (v:=.tuple #[.int .i64 (V:Int),.bool true]) (by simp [results,Tryz.results252,go_sem]) rfl ⟨⟨(V:Int),true,k,rfl,hrr,hpk,HV.out⟩,hbr⟩
  ·have hyes:=hdg.1 rfl
   have hk:k < t.size:=Classical.byContradiction fun h=>by
    rw [pk_end h] at hyes
    revert hyes
    decide
   clear hdg
   have hd1:=hyes.1
   have hd2:=hyes.2
   have HDG:Hid (DG (pk t k)):=⟨by omega,by omega⟩
   clear hyes
   have HSN:Hid (dval 0 (d0 ++ [pk t k])=10 * dval 0 d0 + ((pk t k).toNat - 48)):=dval_snoc 0 d0 (pk t k)
   by_cases hbig:1099511627776 < dval 0 d0 * 10 + ((pk t k).toNat - 48)
   ·have HV:Hid (VerR ((bl t).drop p) 0 false ((bl t).drop k)):=by
     refine ⟨fun e=>Bool.noConfusion e,fun _ d q v' he hd hq=>?_⟩
     rw [HDE.out,pk_drop hk] at he
     exact ver_great he HALL.out HDG.out hd hq (by rw [HSN.out];omega)
    clear HHD HST HDE HALL HSN
    generalize dval 0 d0=V at *
    go_wp2_with fail
    refine (peek_any R k t _ hrr).mono ?_
    rintro e w3 ⟨rfl,b3⟩
    replace hrr:=hrr.below b3
    replace hbr:=hbr.trans (But.of_below b3)
    clear b3
    go_wp2_with fail
    exact bodyPost_ret (v:=.tuple #[.int .i64 0,.bool false]) (by simp [results,Tryz.results252,go_sem]) rfl ⟨⟨0,false,k,rfl,hrr,hpk,HV.out⟩,hbr⟩
   ·have HN:Hid (((bl t).take (k + 1)).drop p=d0 ++ [pk t k]∧dval 0 (d0 ++ [pk t k])<=1099511627776∧∀ x∈d0 ++ [pk t k],DG x):=by
     refine ⟨HST.out hk,by rw [HSN.out];omega,fun x hx=>?_⟩
     rcases List.mem_append.1 hx with h | h
     ·exact HALL.out x h
     ·rw [List.mem_singleton.1 h];exact HDG.out
    clear HHD HST HDE HALL
    have HSN2:Hid (∀ V,V=dval 0 d0->dval 0 (d0 ++ [pk t k])=10 * V + ((pk t k).toNat - 48)):=fun V e=>by rw [e];exact HSN.out
    clear HSN
    obtain ⟨V,hVe⟩:∃ V,V=dval 0 d0:=⟨_,rfl⟩
    have HSN3:=HSN2.out V hVe
    rw [<- hVe] at hV hbig ⊢
    have HSN4:Hid (dval 0 (d0 ++ [pk t k])=10 * V + ((pk t k).toNat - 48)):=HSN3
    clear HSN2 HSN3 hVe
    go_wp2_with fail
    refine (peek_any R k t _ hrr).mono ?_
    rintro e w3 ⟨rfl,b3⟩
    replace hrr:=hrr.below b3
    replace hbr:=hbr.trans (But.of_below b3)
    clear b3
    have hc0:=hrr.c0
    have hc1:=hrr.c1
    have hf1:=hrr.f1
    go_wp2_with fail
    have hr6:=hrr.step hk
    refine ⟨⟨k + 1,by omega,hk, ?_,by rw [HN.out.1];exact HN.out.2.1,by rw [HN.out.1];exact HN.out.2.2,hr6,hbr.setCell _ _⟩, ?_⟩
    ·rw [HN.out.1,HSN4.out]
     congr 1
     omega
    ·rw [hr6.atOf,HM.out]
     omega
end Go.Proofs.YtpfhegengmlkmacGreatDoor
