/- Texts of this claim. -/
import Derived.Test.YtpfhegengmlkmacGreatDoorZt26
namespace Go.Proofs.YtpfhegengmlkmacGreatDoor
open Go.RowKit Go.BigFrame
set_option maxRecDepth 100000
theorem parse_digs:∀ (d:List UInt8) (acc:Nat),(∀ x∈d,DG x)->dval acc d < 18446744073709551616->Lib.parseUint10 acc d=.ok (dval acc d)
 | [],acc,_,_=>by rw [dval_nil];rfl
 | c :: r,acc,h,hb=>by
  have hc:=h c (List.mem_cons_self ..)
  rw [dval_cons] at hb ⊢
  have hm:=dval_mono r (dnext acc c)
  have e:acc * 10 + (c.toNat - 48)=dnext acc c:=by unfold dnext;omega
  have hd:=dnext_le acc c
  have ih:=parse_digs r (dnext acc c) (fun x hx=>h x (List.mem_cons_of_mem _ hx)) hb
  unfold Lib.parseUint10
  rw [if_pos (show 48<=c.toNat∧c.toNat<=57 from hc),if_neg (by omega),e,if_neg (by omega)]
  exact ih
theorem dval_dec (k:Nat):dval 0 (Lib.decDigits k)=k:=by
 rcases Nat.eq_zero_or_pos k with rfl | hk
 ·rw [decDigits_small (by omega)];rfl
 ·exact (dec_digs k k (Nat.le_refl _) hk).2.2.2
theorem parse_dec {k:Nat} (h:k < 1000000000000000000):Lib.parseMag (Lib.decDigits k)=.ok k:=by
 unfold Lib.parseMag
 rw [if_neg (dec_ne k),parse_digs _ _ (dec_dg k) (by rw [dval_dec];omega),dval_dec]
theorem atoi_itoa {n:Int} (h:NumV n):Lib.atoiAll (Lib.itoa n)=.ok n:=by
 have h1:=h.1
 have h2:=h.2
 by_cases hn:n < 0
 ·obtain ⟨k,rfl⟩:∃ k:Nat,n=-(k:Int):=⟨n.natAbs,by omega⟩
  rw [itoa_minus (by omega),Lib.atoiAll_minus,parse_dec (by omega)]
  simp only [Lib.signed]
  rw [if_neg (by omega)]
 ·obtain ⟨k,rfl⟩:∃ k:Nat,n=(k:Int):=⟨n.toNat,by omega⟩
  rw [itoa_nat]
  have hp:=parse_dec (k:=k) (by omega)
  have hd:=dec_dg k
  cases hk:Lib.decDigits k with
  | nil=>exact absurd hk (dec_ne k)
  | cons c r=>
   have hc:=hd c (by rw [hk];exact List.mem_cons_self ..)
   rw [Lib.atoiAll_plain c r (by have:=hc.1;omega) (by have:=hc.1;omega),<- hk,hp]
   simp only [Lib.signless]
   rw [if_neg (by omega)]
theorem NumT.atoi {l:List UInt8} {n:Int} (h:NumT l n):Lib.atoiAll l=.ok n:=by rw [h.1];exact atoi_itoa h.2
theorem trim_itoa (v:Int):Lib.trimPrefix (Lib.itoa v) [45]=Lib.decDigits v.natAbs:=by
 by_cases hn:v < 0
 ·obtain ⟨k,rfl⟩:∃ k:Nat,v=-(k:Int):=⟨v.natAbs,by omega⟩
  rw [itoa_minus (by omega)]
  simp [Lib.trimPrefix,Lib.hasPrefix]
 ·obtain ⟨k,rfl⟩:∃ k:Nat,v=(k:Int):=⟨v.toNat,by omega⟩
  rw [itoa_nat]
  have:=dec_dash k
  unfold Lib.trimPrefix
  rw [if_neg]
  ·simp
  ·intro e
   cases hk:Lib.decDigits k with
   | nil=>exact dec_ne k hk
   | cons c r=>
    rw [hk] at e this
    simp [Lib.hasPrefix] at e
    simp at this
    exact this e.symm
theorem trim_num {v:Int} (h:(Lib.decDigits v.natAbs).length<=18):NumV v:=by
 have h1:=digs_lt (dec_dg v.natAbs) h
 rw [dval_dec] at h1
 exact ⟨by omega,by omega⟩
theorem trim_not {l:List UInt8} {v:Int} (hl:l=Lib.itoa v) (h:18 < (Lib.decDigits v.natAbs).length) (n:Int):¬ NumT l n:=fun hn=>by
 have:=itoa_one (hl.symm.trans hn.1)
 subst this
 have h1:=dec_len18 (k:=v.natAbs) (by have:=hn.2.1;have:=hn.2.2;omega)
 omega
def AtoE (t:ByteArray) (e:Ending):Prop:=(∃ v,Lib.atoiAll (bl t)=.ok v∧e=.returned (.tuple #[.int .i64 v,.nilIface]))∨((∀ v,Lib.atoiAll (bl t)≠.ok v)∧∃ n T p,e=.returned (.tuple #[.int .i64 n,.iface T p]))
theorem below_bytes (w:World) (t:TypeId) (s:ByteArray):Below w.heap.size w (Lib.bytesWorld w t s):=Lib.bytesWorld_below w t s
theorem atoi_any (t:ByteArray) (w:World) (ht:t.size<=100000) {u:TypeId} {pv:Value} (henv:EnvW w u pv) :
  Calls Tryz.prog 204 #[.string t] w fun e w'=>AtoE t e∧Below w.heap.size w w':=by
 cases h:Lib.atoiAll (bl t) with
 | ok v=>
  refine (Tryz.strconv_Atoi_ok t (by omega) v h w).mono ?_
  rintro e w' ⟨rfl,rfl | ⟨s,rfl⟩⟩
  ·exact ⟨.inl ⟨v,h,rfl⟩,Below.refl _ _⟩
  ·exact ⟨.inl ⟨v,h,rfl⟩,below_bytes _ _ _⟩
 | «syntax»=>
  obtain ⟨t1,p1,h1⟩:=henv.syn
  refine (Tryz.strconv_Atoi_syntax t (by omega) h _ w h1 (.inr ⟨_,_,rfl⟩)).mono ?_
  rintro e w' ⟨N,rfl,_,_,hb⟩
  exact ⟨.inr ⟨fun v hv=>(by rw [h] at hv;cases hv),_,_,_,rfl⟩,hb⟩
 | range=>
  obtain ⟨t1,p1,h1⟩:=henv.ran
  refine (Tryz.strconv_Atoi_range t (by omega) h _ w h1 (.inr ⟨_,_,rfl⟩)).mono ?_
  rintro e w' ⟨N,rfl,_,_,hb⟩
  exact ⟨.inr ⟨fun v hv=>(by rw [h] at hv;cases hv),_,_,_,rfl⟩,hb⟩
def RnE (t:ByteArray) (u:TypeId) (pv:Value) (e:Ending):Prop:=(∃ n,NumT (bl t) n∧e=.returned (.int .i64 n))∨((∀ n,¬ NumT (bl t) n)∧e=givE u pv)
theorem trim_any (t:ByteArray) (w:World):Calls Tryz.prog 205 #[.string t,.string ⟨#[45]⟩] w fun e w'=>e=.returned (.string ⟨(Lib.trimPrefix (bl t) [45]).toArray⟩)∧w'=w:=Tryz.strings_TrimPrefix t ⟨#[45]⟩ w
set_option maxHeartbeats 1600000 in
theorem readNumber_any (t:ByteArray) (w:World) (ht:t.size<=100000) (u:TypeId) (pv:Value) (henv:EnvW w u pv) :
  Calls Tryz.prog 188 #[.string t] w fun e w'=>RnE t u pv e∧Below w.heap.size w w':=by
 have cA:=atoi_any t w ht henv
 go_enter Tryz.func188,Tryz.ntmps188
 go_wp2_with (go_at_call 204;refine cA.mono ?_)
 rintro e w1 ⟨⟨v,hv,rfl⟩ | ⟨hno,n,T,p,rfl⟩,b1⟩
 ·have hbv:=Lib.atoiAll_bounds hv
  have hb0:=hbv.1
  have hb1:=hbv.2
  have e1:=henv.below b1
  have cI:=itoaI_any v w1 hb0 hb1 e1.tab
  obtain ⟨D,hD⟩:∃ D:ByteArray,(⟨(Lib.itoa v).toArray⟩:ByteArray)=D:=⟨_,rfl⟩
  have HDL:Hid (bl D=Lib.itoa v):=by rw [Hid,<- hD];rfl
  have HV:Hid (Lib.atoiAll (bl t)=.ok v):=hv
  rw [hD] at cI
  clear hD hv hbv
  go_wp2_with (go_at_call 191;refine cI.mono ?_)
  rintro e w2 ⟨rfl,b2⟩
  have B2:Below w.heap.size w w2:=b1.trans (b2.mono b1.size)
  have e2:=henv.below B2
  by_cases hd:D=t
  ·have hb':(D.toList == t.toList)=true:=toList_beq.2 hd
   have HT:Hid (bl t=Lib.itoa v):=by rw [Hid,<- hd];exact HDL.out
   clear hd
   have cT:∀ q,Calls Tryz.prog 205 #[.string t,.string ⟨#[45]⟩] q fun e w'=>e=.returned (.string ⟨(Lib.decDigits v.natAbs).toArray⟩)∧w'=q:=fun q=>by
    have:=trim_any t q
    rwa [HT.out,trim_itoa] at this
   obtain ⟨S0,hS0⟩:∃ S0:ByteArray,(⟨(Lib.decDigits v.natAbs).toArray⟩:ByteArray)=S0:=⟨_,rfl⟩
   have hsz:S0.size=(Lib.decDigits v.natAbs).length:=by
    rw [<- hS0]
    show (Lib.decDigits v.natAbs).toArray.size=_
    simp
   rw [hS0] at cT
   by_cases h18:S0.size<=18
   ·have HY:Hid (NumT (bl t) v):=⟨HT.out,trim_num (by omega)⟩
    have h18':(S0.size:Int)<=18:=by omega
    clear hsz hS0
    go_wp2_with (first | (go_at_call 119;refine (need_yes _).mono ?_;rintro e w3 ⟨rfl,rfl⟩) | (go_at_call 205;refine (cT _).mono ?_;rintro e w3 ⟨rfl,rfl⟩))
    go_ret
    exact ⟨.inl ⟨v,HY.out,rfl⟩,B2⟩
   ·have HN:Hid (∀ n,¬ NumT (bl t) n):=trim_not HT.out (by omega)
    have hdec:decide ((S0.size:Int)<=18)=false:=by simp;omega
    clear hsz hS0
    go_wp2_with (first | (go_at_call 119;refine (need_yes _).mono ?_;rintro e w3 ⟨rfl,rfl⟩) | (go_at_call 205;refine (cT _).mono ?_;rintro e w3 ⟨rfl,rfl⟩))
    go_wp2_with (go_at_call 119;refine (need_no u pv _ e2.giv).mono ?_;rintro e w3 ⟨rfl,rfl⟩)
    exact ⟨rfl,.inr ⟨HN.out,rfl⟩,B2⟩
  ·have hb':(D.toList == t.toList)=false:=toList_bne.2 hd
   have HN:Hid (∀ n,¬ NumT (bl t) n):=fun n hn=>hd (data_eq (by
    have:=hn.atoi
    rw [HV.out] at this
    have e:v=n:=by simpa using this
    show bl D=bl t
    rw [HDL.out,hn.1,e]))
   go_wp2_with (go_at_call 119;refine (need_no u pv _ e2.giv).mono ?_;rintro e w3 ⟨rfl,rfl⟩)
   exact ⟨rfl,.inr ⟨HN.out,rfl⟩,B2⟩
 ·have HN:Hid (∀ n,¬ NumT (bl t) n):=fun n hn=>hno n hn.atoi
  have e1:=henv.below b1
  clear hno
  go_wp2_with (go_at_call 119;refine (need_no u pv _ e1.giv).mono ?_;rintro e w3 ⟨rfl,rfl⟩)
  exact ⟨rfl,.inr ⟨HN.out,rfl⟩,b1⟩
def RsE (w':World) (ws:List ByteArray) (u:TypeId) (pv:Value) (e:Ending):Prop:=
 (∃ aa ca m,AccW ws m∧e=.returned (.slice aa (List.length m) ca)∧Row w' aa m∧m.length<=ca)∨((∀ m,¬ AccW ws m)∧e=givE u pv)
theorem joinW_le {ws:List ByteArray} (h1:ws.length<=3001) (h2:∀ x∈ws,x.size<=3000):(Lib.join (ws.map bl) [32]).length<=100000000:=by
 have:=join_le (K:=3000) (xs:=ws.map bl) (fun x hx=>by obtain ⟨y,hy,rfl⟩:=List.mem_map.1 hx;rw [bl_length];exact h2 y hy)
 rw [List.length_map] at this
 have h3:ws.length * 3000<=3001 * 3000:=Nat.mul_le_mul_right _ h1
 omega
theorem joinW_any (a:Option Addr) (cap:Nat) (ws:List ByteArray) (w:World) (hw:Wds w a cap ws) :
  Calls Tryz.prog 207 #[.slice a ws.length cap,.string ⟨#[32]⟩] w fun e w'=>e=.returned (.string ⟨(Lib.join (ws.map bl) [32]).toArray⟩)∧Below w.heap.size w w':=by
 by_cases h0:ws=[]
 ·subst h0
  refine (Tryz.strings_Join_none a cap ⟨#[32]⟩ w).mono ?_
  rintro e w' ⟨rfl,rfl⟩
  exact ⟨rfl,Below.refl _ _⟩
 ·have hp:0 < ws.length:=List.length_pos_iff.2 h0
  obtain ⟨b,o,rfl,hlt,_⟩:=hw.row 0 hp
  exact Tryz.strings_Join b o cap ws ⟨#[32]⟩ w (fun j x hx=>by
   obtain ⟨hj,rfl⟩:=List.getElem?_eq_some_iff.1 hx
   obtain ⟨b',o',e,_,c⟩:=hw.row j hj
   obtain ⟨rfl,rfl⟩:b=b'∧o=o':=by simpa using e
   exact c) hlt (by have:=hw.few;omega) hw.room (by have:=joinW_le hw.few hw.short;exact Nat.le_trans this (by decide))
theorem gath_room {w:World} {B:Nat} {v:Value} {l:List (ByteArray×Int)} (h:Gath w B v l):∃ a cap,v=.slice a l.length cap∧Row w a l∧l.length<=cap:=by
 rcases id h with ⟨hl,h1 | ⟨g,cap,cur,hv,hg,hh,hn,r⟩⟩
 ·obtain ⟨a,c,e,hr⟩:=h.shape
  refine ⟨a,c,e,hr, ?_⟩
  rw [h1.2];exact Nat.zero_le _
 ·obtain ⟨a,c,e,hr⟩:=h.shape
  refine ⟨a,c,e,hr, ?_⟩
  rw [hv] at e
  have:some ⟨g,0,none⟩=a∧cap=c:=by simpa using e
  omega
set_option maxHeartbeats 800000 in
theorem readStamp_any (a:Option Addr) (cap:Nat) (ws:List ByteArray) (w:World) (hw:Wds w a cap ws) (u:TypeId) (pv:Value) (henv:EnvW w u pv) :
  Calls Tryz.prog 189 #[.slice a ws.length cap] w fun e w'=>RsE w' ws u pv e∧Below w.heap.size w w':=by
 have cJ:=joinW_any a cap ws w hw
 have hjl:=joinW_le hw.few hw.short
 obtain ⟨t,ht⟩:∃ t:ByteArray,(⟨(Lib.join (ws.map bl) [32]).toArray⟩:ByteArray)=t:=⟨_,rfl⟩
 have HB:Hid (bl t=Lib.join (ws.map bl) [32]):=by rw [Hid,<- ht];rfl
 have hts:t.size<=1000000000:=by have h:=bl_length t;rw [HB.out] at h;omega
 have HA:Hid (∀ m,Acc t m↔AccW ws m):=acc_words hw.free HB.out
 rw [ht] at cJ
 clear ht hjl
 go_enter Tryz.func189,Tryz.ntmps189
 go_wp2_with (go_at_call 207;refine cJ.mono ?_;rintro e w1 ⟨rfl,b1⟩)
 refine (implRead_any t _ hts).mono ?_
 rintro e w2 ⟨⟨v,m,ok,rfl,hg,hR⟩,b2⟩
 obtain ⟨aa,ca,rfl,hrow,hca⟩:=gath_room hg
 have B2:Below w.heap.size w w2:=b1.trans (b2.mono b1.size)
 have e2:=henv.below B2
 rcases hR with ⟨rfl,hR⟩ | ⟨rfl,rfl,hR⟩
 ·have HY:Hid (AccW ws m):=(HA.out m).1 hR
  clear hR
  go_wp2_with (go_at_call 119;refine (need_yes _).mono ?_;rintro e w3 ⟨rfl,rfl⟩)
  go_ret
  exact ⟨.inl ⟨aa,ca,m,HY.out,rfl,hrow,hca⟩,B2⟩
 ·have HN:Hid (∀ m,¬ AccW ws m):=fun m h=>hR m ((HA.out m).2 h)
  clear hR
  go_wp2_with (go_at_call 119;refine (need_no u pv _ e2.giv).mono ?_;rintro e w3 ⟨rfl,rfl⟩)
  exact ⟨rfl,.inr ⟨HN.out,rfl⟩,B2⟩
def RsS (w w':World) (ws:List ByteArray) (u:TypeId) (pv:Value) (e:Ending):Prop:=
 (∃ aa ca m,AccW ws m∧e=.returned (.slice aa (List.length m) ca)∧Safe w' w.heap.size w'.heap.size aa m∧m.length<=ca)∨((∀ m,¬ AccW ws m)∧e=givE u pv)
theorem gath_safe {w:World} {B:Nat} {v:Value} {l:List (ByteArray×Int)} (h:Gath w B v l):∃ a cap,v=.slice a l.length cap∧Safe w B w.heap.size a l∧l.length<=cap:=by
 obtain ⟨a,c,e,_,hc⟩:=gath_room h
 refine ⟨a,c,e, ?_,hc⟩
 rcases h.form with ⟨_,rfl⟩ | ⟨g,cap,hv,hB,ho⟩
 ·exact .inl rfl
 ·rw [hv] at e
  have:(some ⟨g,0,Option.none⟩:Option Addr)=a∧cap=c:=by simpa using e
  exact .inr ⟨g,this.1.symm,hB,ho.lt,ho⟩
theorem safe_widen {w:World} {lo hi lo' hi':Nat} {a:Option Addr} {m:List (ByteArray×Int)} (h:Safe w lo hi a m) (h1:lo'<=lo) (h2:hi<=hi'):Safe w lo' hi' a m:=by
 rcases h with h | ⟨g,e,g1,g2,ho⟩
 ·exact .inl h
 ·exact .inr ⟨g,e,by omega,by omega,ho⟩
set_option maxHeartbeats 800000 in
theorem readStampS_any (a:Option Addr) (cap:Nat) (ws:List ByteArray) (w:World) (hw:Wds w a cap ws) (u:TypeId) (pv:Value) (henv:EnvW w u pv) :
  Calls Tryz.prog 189 #[.slice a ws.length cap] w fun e w'=>RsS w w' ws u pv e∧Below w.heap.size w w':=by
 have cJ:=joinW_any a cap ws w hw
 have hjl:=joinW_le hw.few hw.short
 obtain ⟨t,ht⟩:∃ t:ByteArray,(⟨(Lib.join (ws.map bl) [32]).toArray⟩:ByteArray)=t:=⟨_,rfl⟩
 have HB:Hid (bl t=Lib.join (ws.map bl) [32]):=by rw [Hid,<- ht];rfl
 have hts:t.size<=1000000000:=by have h:=bl_length t;rw [HB.out] at h;omega
 have HA:Hid (∀ m,Acc t m↔AccW ws m):=acc_words hw.free HB.out
 rw [ht] at cJ
 clear ht hjl
 go_enter Tryz.func189,Tryz.ntmps189
 go_wp2_with (go_at_call 207;refine cJ.mono ?_;rintro e w1 ⟨rfl,b1⟩)
 refine (implRead_any t _ hts).mono ?_
 rintro e w2 ⟨⟨v,m,ok,rfl,hg,hR⟩,b2⟩
 obtain ⟨aa,ca,rfl,hrow,hca⟩:=gath_safe hg
 have B2:Below w.heap.size w w2:=b1.trans (b2.mono b1.size)
 have e2:=henv.below B2
 rcases hR with ⟨rfl,hR⟩ | ⟨rfl,rfl,hR⟩
 ·have HY:Hid (AccW ws m):=(HA.out m).1 hR
  clear hR
  go_wp2_with (go_at_call 119;refine (need_yes _).mono ?_;rintro e w3 ⟨rfl,rfl⟩)
  go_ret
  exact ⟨.inl ⟨aa,ca,m,HY.out,rfl,safe_widen hrow b1.size (Nat.le_refl _),hca⟩,B2⟩
 ·have HN:Hid (∀ m,¬ AccW ws m):=fun m h=>hR m ((HA.out m).2 h)
  clear hR
  go_wp2_with (go_at_call 119;refine (need_no u pv _ e2.giv).mono ?_;rintro e w3 ⟨rfl,rfl⟩)
  exact ⟨rfl,.inr ⟨HN.out,rfl⟩,B2⟩
def R2E (w':World) (r:List ByteArray) (u:TypeId) (pv:Value) (e:Ending):Prop:=
 (∃ aa ca la ab cb lb,TwoP r la lb∧e=.returned (.tuple #[.slice aa (List.length la) ca,.slice ab (List.length lb) cb])∧Row w' aa la∧Row w' ab lb∧la.length<=ca∧lb.length<=cb)∨((∀ a b,¬ TwoP r a b)∧e=givE u pv)
theorem Wds.take {w:World} {b o cap:Nat} {r:List ByteArray} (h:Wds w (some ⟨b,o,none⟩) cap r) (k:Nat):Wds w (some ⟨b,o,none⟩) cap (r.take k):=
 ⟨h.row.take k,by have:=h.few;rw [List.length_take];omega,fun u hu=>h.short u (List.mem_of_mem_take hu),by have:=h.room;rw [List.length_take];omega,h.room2,fun u hu=>h.free u (List.mem_of_mem_take hu)⟩
theorem Wds.drop {w:World} {b o cap k:Nat} {r:List ByteArray} {q:Option Addr} (h:Wds w (some ⟨b,o,none⟩) cap r) (hq:q=some ⟨b,o + k,none⟩∨r.length<=k):Wds w q (cap - k) (r.drop k):=by
 refine ⟨?_,by have:=h.few;rw [List.length_drop];omega,fun u hu=>h.short u (List.mem_of_mem_drop hu),by have:=h.room;rw [List.length_drop];omega,by have:=h.room2;omega,fun u hu=>h.free u (List.mem_of_mem_drop hu)⟩
 rcases hq with rfl | hk
 ·exact h.row.drop k
 ·rw [List.drop_eq_nil_iff.2 hk];exact rowS_nil _ _
set_option maxHeartbeats 1600000 in
theorem readTwo_any (a:Option Addr) (cap:Nat) (r:List ByteArray) (w:World) (hw:Wds w a cap r) (u:TypeId) (pv:Value) (henv:EnvW w u pv) :
  Calls Tryz.prog 196 #[.slice a r.length cap] w fun e w'=>R2E w' r u pv e∧Below w.heap.size w w':=by
 have hf:=hw.few
 have hcp:=hw.room
 have hcp2:=hw.room2
 unfold maxLen at hcp2
 have cA:Calls Tryz.prog 181 #[.slice a r.length cap,.string ⟨#[47]⟩] w fun e w'=>e=.returned (.int .i64 (Lib.idxOfS r ⟨#[47]⟩))∧Below w.heap.size w w':=sliIndex_any a cap r ⟨#[47]⟩ w (by omega) hw.row
 obtain ⟨i,hi⟩:∃ i,Lib.idxOfS r ⟨#[47]⟩=i:=⟨_,rfl⟩
 have HI:Hid (Lib.idxOfS r slash=i):=hi
 have hilt:i < (r.length:Int)∨i=-1:=by rw [<- hi];exact idx_lt _ _
 rw [hi] at cA
 clear hi
 go_enter Tryz.func196,Tryz.ntmps196
 by_cases h0:i < 0
 ·have HN:Hid (∀ a b,¬ TwoP r a b):=twoP_low (by rw [HI.out];omega)
  have hdec:decide (0<=i)=false:=by simp;omega
  go_wp2_with (go_at_call 181;refine cA.mono ?_;rintro e w1 ⟨rfl,b1⟩)
  have e1:=henv.below b1
  go_wp2_with (go_at_call 119;refine (need_no u pv _ e1.giv).mono ?_;rintro e w3 ⟨rfl,rfl⟩)
  exact ⟨rfl,.inr ⟨HN.out,rfl⟩,b1⟩
 obtain ⟨k,rfl⟩:∃ k:Nat,i=(k:Int):=⟨i.toNat,by omega⟩
 have hkr:k < r.length:=by omega
 have hdec:decide (0<=(k:Int))=true:=by simp
 obtain ⟨b,o,rfl,hlt,c0⟩:=hw.row 0 (by omega)
 clear c0
 obtain ⟨q,hq⟩:∃ q:Option Addr,q=(if cap=k + 1 then some ⟨b,o,none⟩ else some ⟨b,o + (k + 1),none⟩):=⟨_,rfl⟩
 have hq2:q=some ⟨b,o + (k + 1),none⟩∨r.length<=k + 1:=by
  by_cases hc:cap=k + 1
  ·right;omega
  ·left;rw [hq,if_neg hc]
 have cM:∀ x,Below w.heap.size w x->Calls Tryz.prog 189 #[.slice (some ⟨b,o,none⟩) k cap] x fun e w'=>RsE w' (r.take k) u pv e∧Below x.heap.size x w':=fun x hx=>by
  have:=readStamp_any (some ⟨b,o,none⟩) cap (r.take k) x ((hw.below hx).take k) u pv (henv.below hx)
  rwa [List.length_take,Nat.min_eq_left (by omega)] at this
 have cN:∀ x,Below w.heap.size w x->Calls Tryz.prog 189 #[.slice q (r.length - (k + 1)) (cap - (k + 1))] x fun e w'=>RsE w' (r.drop (k + 1)) u pv e∧Below x.heap.size x w':=fun x hx=>by
  have:=readStamp_any q (cap - (k + 1)) (r.drop (k + 1)) x ((hw.below hx).drop hq2) u pv (henv.below hx)
  rwa [List.length_drop] at this
 have HN1:Hid ((∀ m,¬ AccW (r.take k) m)->∀ a b,¬ TwoP r a b):=fun h a b ⟨j,e,h1,_⟩=>by
  obtain rfl:j=k:=by have:=HI.out;omega
  exact h _ h1
 have HN2:Hid ((∀ m,¬ AccW (r.drop (k + 1)) m)->∀ a b,¬ TwoP r a b):=fun h a b ⟨j,e,_,h1⟩=>by
  obtain rfl:j=k:=by have:=HI.out;omega
  exact h _ h1
 have HQ:Hid (q=(if cap=k + 1 then some ⟨b,o,none⟩ else some ⟨b,o + (k + 1),none⟩)):=hq
 clear hq hq2
 go_wp2_with (first | (go_at_call 181;refine cA.mono ?_;rintro e w1 ⟨rfl,b1⟩) | (go_at_call 119;refine (need_yes _).mono ?_;rintro e w3 ⟨rfl,rfl⟩))
 have hkc:(k:Int)<=(cap:Int):=by omega
 have hkc2:(k:Int) + 1<=(r.length:Int):=by omega
 have hkc3:(k:Int) + 1<=(cap:Int):=by omega
 have hwrap:IntKind.i64.wrap ((k:Int) + 1)=(k:Int) + 1:=by rw [IntKind.wrap_i64];omega
 have B0:Below w.heap.size w w3.drew:=b1.drew
 refine wp_region_held_drew (S:=fun _=>True) (by kernel_rfl) trivial (fun _=>?_)
 refine wpAnyH_take (i:=0) (v:=.slice (some ⟨b,o,none⟩) r.length cap) rfl (by kernel_rfl) (by kernel_rfl) (by kernel_rfl) (fun _ _ _ h=>h) (Or.inl ⟨by rfl, ?_⟩) trivial ?_
 ·rintro u _
  go_simp
 simp only [Act.put,List.setIfInBounds_toArray]
 refine wpAnyH_take (i:=1) (v:=.int .i64 k) rfl (by kernel_rfl) (by kernel_rfl) (by kernel_rfl) (fun _ _ _ h=>h) (Or.inl ⟨by rfl, ?_⟩) trivial ?_
 ·rintro u _
  go_simp
 simp only [Act.put]
 refine wpAnyH_take (i:=2) (v:=.slice (some ⟨b,o,none⟩) k cap) rfl (by kernel_rfl) (by kernel_rfl) (by kernel_rfl) (fun _ _ _ h=>h) (Or.inl ⟨by rfl, ?_⟩) trivial ?_
 ·rintro u _
  go_simp
 simp only [Act.put]
 refine wpAnyH_take (i:=4) (v:=.slice (some ⟨b,o,none⟩) r.length cap) rfl (by kernel_rfl) (by kernel_rfl) (by kernel_rfl) (fun _ _ _ h=>h) (Or.inl ⟨by rfl, ?_⟩) trivial ?_
 ·rintro u _
  go_simp
 simp only [Act.put]
 refine wpAnyH_take (i:=5) (v:=.int .i64 k) rfl (by kernel_rfl) (by kernel_rfl) (by kernel_rfl) (fun _ _ _ h=>h) (Or.inl ⟨by rfl, ?_⟩) trivial ?_
 ·rintro u _
  go_simp
 simp only [Act.put]
 refine wpAnyH_take (i:=6) (v:=.int .i64 ((k:Int) + 1)) rfl (by kernel_rfl) (by kernel_rfl) (by kernel_rfl) (fun _ _ _ h=>h) (Or.inl ⟨by rfl, ?_⟩) trivial ?_
 ·rintro u _
  go_simp
 simp only [Act.put]
 refine wpAnyH_take (i:=7) (v:=.slice q (r.length - (k + 1)) (cap - (k + 1))) rfl (by kernel_rfl) (by kernel_rfl) (by kernel_rfl) (fun _ _ _ h=>h) (Or.inl ⟨by rfl, ?_⟩) trivial ?_
 ·rintro u _
  go_simp
  rw [if_pos (by omega),HQ.out]
 simp only [Act.put]
 generalize w3.drew=W1 at *
 refine wpAnyH_ready (rs:=[3]) (by kernel_rfl) (by simp) ?_
 refine AllReadyH.cons rfl (fun K hK=>?_) AllReadyH.nil
 rw [if_pos (by rfl)]
 go_simp
 refine (cM _ B0).mono ?_
 rintro e w4 ⟨hR,b4⟩
 have B4:Below w.heap.size w w4:=B0.trans (b4.mono B0.size)
 rcases hR with ⟨aa,ca,la,hA,rfl,rowA,capA⟩ | ⟨hno,rfl⟩
 ·refine hK.out _ _ trivial (fun _=>?_)
  clear hK K
  refine wpAnyH_ready (rs:=[8]) (by kernel_rfl) (by simp) ?_
  refine AllReadyH.cons rfl (fun K hK=>?_) AllReadyH.nil
  rw [if_pos (by rfl)]
  go_simp
  refine (cN _ B4).mono ?_
  rintro e w5 ⟨hR,b5⟩
  have B5:Below w.heap.size w w5:=B4.trans (b5.mono B4.size)
  rcases hR with ⟨ab,cb,lb,hB,rfl,rowB,capB⟩ | ⟨hno,rfl⟩
  ·have rowA':=rowA.below b5
   have HT:Hid (TwoP r la lb):=⟨k,HI.out,hA,hB⟩
   clear hA hB
   refine hK.out _ _ trivial (fun _=>?_)
   clear hK K
   refine wpAnyH_ready (rs:=[9]) (by kernel_rfl) (by simp) ?_
   refine AllReadyH.cons rfl (fun K hK=>?_) AllReadyH.nil
   rw [if_pos (by rfl)]
   go_simp
   refine hK.out _ _ trivial (fun _=>?_)
   clear hK K
   refine wpAnyH_ready (rs:=[10]) (by kernel_rfl) (by simp) ?_
   refine AllReadyH.cons rfl (fun K hK=>?_) AllReadyH.nil
   rw [if_pos (by rfl)]
   go_simp
   refine hK.out _ _ trivial (fun _=>?_)
   clear hK K
   refine wpAnyH_done (by kernel_rfl) ?_ _
   go_simp
   go_wp2_with fail
   exact bodyPost_ret (v:=.tuple #[.slice aa la.length ca,.slice ab lb.length cb]) (by simp [results,Tryz.results196,go_sem]) rfl ⟨.inl ⟨aa,ca,la,ab,cb,lb,HT.out,rfl,rowA',rowB,capA,capB⟩,B5⟩
  ·exact ⟨rfl,.inr ⟨HN2.out hno,rfl⟩,B5⟩
 ·exact ⟨rfl,.inr ⟨HN1.out hno,rfl⟩,B4⟩
end Go.Proofs.YtpfhegengmlkmacGreatDoor
namespace Go.Proofs.YtpfhegengmlkmacGreatDoor
open Go.RowKit Go.BigFrame
def StrB (w:World) (g:Nat) (l:List ByteArray):Prop:=∃ m f,w.rowIs g 9 m f∧l.length<=m∧∀ j,(h:j < l.length)->f j=.string l[j]
theorem StrB.cell {w:World} {g:Nat} {l:List ByteArray} (h:StrB w g l) {j:Nat} (hj:j < l.length):w.cell? ⟨g,j,none⟩=some (.string l[j]):=by
 obtain ⟨m,f,h,hm,hf⟩:=h
 rw [h.cell (by omega),hf j hj]
theorem StrB.lt {w:World} {g:Nat} {l:List ByteArray} (h:StrB w g l):g < w.heap.size:=by
 obtain ⟨m,f,h,_⟩:=h
 exact h.lt
theorem StrB.below {w w':World} {g:Nat} {l:List ByteArray} (h:StrB w g l) (hb:Below w.heap.size w w'):StrB w' g l:=by
 have hlt:=h.lt
 obtain ⟨m,f,h,hf⟩:=h
 exact ⟨m,f,h.of_block (hb.block g hlt),hf⟩
theorem StrB.span {w w':World} {g lo hi:Nat} {l:List ByteArray} (h:StrB w g l) (hs:Span lo hi w w') (hd:g < lo∨hi<=g):StrB w' g l:=by
 have hlt:=h.lt
 obtain ⟨m,f,h,hf⟩:=h
 exact ⟨m,f,h.of_block (hs.block g hlt hd),hf⟩
theorem StrB.row {w:World} {g:Nat} {l:List ByteArray} (h:StrB w g l):RowS w (some ⟨g,0,none⟩) l:=fun k hk=>⟨g,0,rfl,h.lt,by rw [Nat.zero_add];exact h.cell hk⟩
theorem GathS.block {w:World} {B:Nat} {v:Value} {l:List ByteArray} (h:GathS w B v l) (h0:0 < l.length):∃ g c,v=.slice (some ⟨g,0,none⟩) l.length c∧B<=g∧StrB w g l:=by
 rcases h.2 with ⟨_,e⟩ | ⟨g,cap,cur,e,hB,hh,hn,hc,hs,ht⟩
 ·omega
 ·refine ⟨g,cap,e,hB,cap * 1,fun i=>(cur[i]?).getD undef,⟨cur,hh,hs,fun i hi=>?_⟩,by omega,fun k hk=>?_⟩
  ·have hi':i < cur.size:=by omega
   simp [Array.getElem?_eq_getElem hi']
  ·have h2:(l.map Value.string)[k]?=some (.string l[k]):=by simp [hk]
   rw [<- ht,List.getElem?_take_of_lt (by simp;omega)] at h2
   simp only [Array.getElem?_toList] at h2
   simp only [h2]
   rfl
end Go.Proofs.YtpfhegengmlkmacGreatDoor
namespace Go.Proofs.YtpfhegengmlkmacGreatDoor
open Go.RowKit Go.BigFrame
set_option maxRecDepth 100000
structure YW (w:World) (lo hi t:Nat) (L:List WinY):Prop where
 lt:t < w.heap.size
 cell:∀ k,(h:k < L.length)->w.cell? ⟨t,k,none⟩=some L[k].v
 at_:∀ p∈L,∃ a c,p.v=.slice a p.l.length c∧p.l.length<=c∧SafeI w p.lo p.hi a p.l
 far:∀ p∈L,t < p.lo∨p.hi<=t
 in_:∀ p∈L,lo<=p.lo∧p.lo<=p.hi∧p.hi<=hi
 dis:L.Pairwise fun p q=>p.hi<=q.lo∨q.hi<=p.lo
theorem YW.below {w w':World} {lo hi t:Nat} {L:List WinY} (h:YW w lo hi t L) (hb:Below w.heap.size w w'):YW w' lo hi t L:=
 ⟨Nat.lt_of_lt_of_le h.lt hb.size,fun k hk=>cell_on hb h.lt (h.cell k hk),fun p hp=>by obtain ⟨a,c,h1,h2,h3⟩:=h.at_ p hp;exact ⟨a,c,h1,h2,h3.below hb⟩,h.far,h.in_,h.dis⟩
theorem YW.row {w:World} {lo hi t:Nat} {L:List WinY} (h:YW w lo hi t L):RowW w (some ⟨t,0,none⟩) (L.map (·.l)):=fun k hk=>by
 have hk':k < L.length:=by simpa using hk
 obtain ⟨a,c,h1,h2,h3⟩:=h.at_ L[k] (List.getElem_mem hk')
 exact ⟨t,0,rfl,h.lt,a,c,by rw [Nat.zero_add,h.cell k hk',h1];simp,by simpa using h2,by simpa using h3.row⟩
end Go.Proofs.YtpfhegengmlkmacGreatDoor
