/- Texts of this claim. -/
import Derived.Test.YtpfhegengmlkmacGreatDoorZt40
namespace Go.Proofs.YtpfhegengmlkmacGreatDoor
open Go.RowKit Go.BigFrame
set_option maxRecDepth 100000
structure TabW (w:World) (bT glo ghi:Nat) (g:GatL) (a0 a1 a2:Option Addr) (d0 d1 d2:Nat):Prop where
 tri:Tri w bT (.slice a0 g.ins.length d0) (.slice a1 g.wins.length d1) (.slice a2 g.shown.length d2)
 rows:RowsIn glo ghi w g a0 a1 a2
 nice:NiceV g
 glt:ghi<=w.heap.size
 box:bT < glo∨ghi<=bT
 cap:g.ins.length<=d0∧d0<=maxLen
 lt:bT < w.heap.size
theorem TabW.below {w w':World} {bT glo ghi:Nat} {g:GatL} {a0 a1 a2:Option Addr} {d0 d1 d2:Nat} (h:TabW w bT glo ghi g a0 a1 a2 d0 d1 d2) (hb:Below w.heap.size w w'):TabW w' bT glo ghi g a0 a1 a2 d0 d1 d2:=
 ⟨h.tri.keep hb,h.rows.agree (below_agree hb),h.nice,Nat.le_trans h.glt hb.size,h.box,h.cap,Nat.lt_of_lt_of_le h.lt hb.size⟩
def CmdE (T:List UInt8->Prop) (u:TypeId) (pv:Value) (e:Ending):Prop:=(∃ s,e=.returned (.string s)∧T (bl s))∨(T tQ∧e=givE u pv)
theorem bl_mk (l:List UInt8):bl ⟨l.toArray⟩=l:=by simp [bl]
set_option maxHeartbeats 800000 in
theorem count_any (bT glo ghi:Nat) (g:GatL) (a0 a1 a2 a:Option Addr) (d0 d1 d2 cap:Nat) (r:List ByteArray) (w:World) (ht:TabW w bT glo ghi g a0 a1 a2 d0 d1 d2) (hf:r.length<=3001) (u:TypeId) (pv:Value) (henv:EnvW w u pv) :
  Calls Tryz.prog 160 #[.pointer (some ⟨bT,0,none⟩),.slice a r.length cap] w fun e w'=>CmdE (CouT g r) u pv e∧Below w.heap.size w w':=by
 have c1:=ht.tri.c1
 obtain ⟨r0,r1,r2⟩:=ht.rows.here
 have hgv:=henv.giv
 go_enter Tryz.func160,Tryz.ntmps160
 by_cases h0:r=[]
 ·subst h0
  have cC:=implCC_any a1 d1 g.wins w (stamps_fitW ht.nice.nice.wins ht.nice.nice.items) r1
  go_wp2_with (go_at_call 119;refine (need_yes _).mono ?_;rintro e w3 ⟨rfl,rfl⟩)
  refine cC.mono ?_
  rintro e w1 ⟨⟨n,rfl,hn⟩,b1⟩
  have hle:=hn.le
  have cI:=itoaI_any (n:Int) w1 (by omega) (by omega) (henv.below b1).tab
  have HV:Hid (CouT g [] (Lib.itoa (n:Int))):=.inl ⟨rfl,n,hn,rfl⟩
  obtain ⟨D,hD⟩:∃ D:ByteArray,(⟨(Lib.itoa (n:Int)).toArray⟩:ByteArray)=D:=⟨_,rfl⟩
  have HDL:Hid (bl D=Lib.itoa (n:Int)):=by rw [Hid,<- hD];exact bl_mk _
  rw [hD] at cI
  clear hn hD
  go_wp2_with (go_at_call 191;refine cI.mono ?_;rintro e w2 ⟨rfl,b2⟩)
  go_ret
  exact ⟨.inl ⟨_,rfl,by show CouT g [] (bl D);rw [HDL.out];exact HV.out⟩,b1.trans (b2.mono b1.size)⟩
 ·have h1:((r.length:Int) == 0)=false:=by
   have:=List.length_pos_iff.2 h0
   rw [beq_eq_false_iff_ne];omega
  have HQ:Hid (CouT g r tQ):=.inr ⟨h0,rfl⟩
  clear h0
  go_wp2_with (go_at_call 119;refine (need_no u pv _ hgv).mono ?_;rintro e w3 ⟨rfl,rfl⟩)
  exact ⟨rfl,.inr ⟨HQ.out,rfl⟩,Below.refl _ _⟩
set_option maxHeartbeats 800000 in
theorem best_any (bT glo ghi:Nat) (g:GatL) (a0 a1 a2 a:Option Addr) (d0 d1 d2 cap:Nat) (r:List ByteArray) (w:World) (ht:TabW w bT glo ghi g a0 a1 a2 d0 d1 d2) (hf:r.length<=3001) (u:TypeId) (pv:Value) (henv:EnvW w u pv) :
  Calls Tryz.prog 161 #[.pointer (some ⟨bT,0,none⟩),.slice a r.length cap] w fun e w'=>CmdE (BesT g r) u pv e∧Below w.heap.size w w':=by
 have c1:=ht.tri.c1
 obtain ⟨r0,r1,r2⟩:=ht.rows.here
 have hgv:=henv.giv
 go_enter Tryz.func161,Tryz.ntmps161
 by_cases h0:r=[]
 ·subst h0
  have cC:=implCB_any a1 d1 g.wins w (stamps_fitW ht.nice.nice.wins ht.nice.nice.items) r1
  go_wp2_with (go_at_call 119;refine (need_yes _).mono ?_;rintro e w3 ⟨rfl,rfl⟩)
  refine cC.mono ?_
  rintro e w1 ⟨⟨q,c,out,rfl,hb,hq,hn⟩ | ⟨rfl,hb⟩,b1⟩
  ·have HV:Hid (BesT g [] (numsB out)):=.inl ⟨rfl,out,true,hb,.inr ⟨rfl,rfl⟩⟩
   have hz:RowZ w1 (some ⟨q,0,none⟩) out:=hn.row
   have cI:=numbersText_any (some ⟨q,0,none⟩) c out w1 hb.facts.1 hb.facts.2 hz (henv.below b1).tab
   obtain ⟨D,hD⟩:∃ D:ByteArray,(⟨(numsB out).toArray⟩:ByteArray)=D:=⟨_,rfl⟩
   have HDL:Hid (bl D=numsB out):=by rw [Hid,<- hD];exact bl_mk _
   rw [hD] at cI
   clear hb hD hn hz
   go_wp2_with (go_at_call 193;refine cI.mono ?_;rintro e w2 ⟨rfl,b2⟩)
   go_ret
   exact ⟨.inl ⟨_,rfl,by show BesT g [] (bl D);rw [HDL.out];exact HV.out⟩,b1.trans (b2.mono b1.size)⟩
  ·have HV:Hid (BesT g [] tNone):=.inl ⟨rfl,[],false,hb,.inl ⟨rfl,rfl⟩⟩
   clear hb
   go_wp2_with fail
   go_ret
   exact ⟨.inl ⟨_,rfl,HV.out⟩,b1⟩
 ·have h1:((r.length:Int) == 0)=false:=by
   have:=List.length_pos_iff.2 h0
   rw [beq_eq_false_iff_ne];omega
  have HQ:Hid (BesT g r tQ):=.inr ⟨h0,rfl⟩
  clear h0
  go_wp2_with (go_at_call 119;refine (need_no u pv _ hgv).mono ?_;rintro e w3 ⟨rfl,rfl⟩)
  exact ⟨rfl,.inr ⟨HQ.out,rfl⟩,Below.refl _ _⟩
structure OrdW (w:World):Prop where
 c0:w.cell? ⟨3,0,none⟩=some (.string ⟨#[115,97,109,101]⟩)
 c1:w.cell? ⟨3,1,none⟩=some (.string ⟨#[108,101,115,115]⟩)
 c2:w.cell? ⟨3,2,none⟩=some (.string ⟨#[109,111,114,101]⟩)
 c3:w.cell? ⟨3,3,none⟩=some (.string ⟨#[97,112,97,114,116]⟩)
theorem OrdW.below {w w':World} (h:OrdW w) (hb:Below w.heap.size w w'):OrdW w':=
 ⟨cell_on hb (World.block_lt_of_cell? _ _ h.c0) h.c0,cell_on hb (World.block_lt_of_cell? _ _ h.c1) h.c1,cell_on hb (World.block_lt_of_cell? _ _ h.c2) h.c2,cell_on hb (World.block_lt_of_cell? _ _ h.c3) h.c3⟩
set_option maxHeartbeats 800000 in
theorem order_any (p:Value) (a:Option Addr) (cap:Nat) (r:List ByteArray) (w:World) (hw:Wds w a cap r) (u:TypeId) (pv:Value) (henv:EnvW w u pv) (ho:OrdW w) :
  Calls Tryz.prog 163 #[p,.slice a r.length cap] w fun e w'=>CmdE (OrdT r) u pv e∧Below w.heap.size w w':=by
 have cR:=readTwo_any a cap r w hw u pv henv
 go_enter Tryz.func163,Tryz.ntmps163
 go_wp2_with (go_at_call 196;refine cR.mono ?_)
 rintro e w1 ⟨⟨aa,ca,la,ab,cb,lb,hT,rfl,rA,rB,kA,kB⟩ | ⟨hno,rfl⟩,b1⟩
 ·have hsA:=hT.stamps.1
  have hsB:=hT.stamps.2
  have h12a:=hsA.1
  have h12b:=hsB.1
  have HT:Hid (TwoP r la lb):=hT
  have cO:=implOrder_any aa ab ca cb la lb w1 (by unfold maxLen;omega) (by unfold maxLen;omega) kA kB rA rB (stamp_size hsA) (stamp_size hsB)
  clear hT
  go_wp2_with (go_at_call 98;refine cO.mono ?_)
  rintro e w2 ⟨⟨v,rfl,hv⟩,b2⟩
  have HV:Hid (OrdT r (ordB v)):=.inl ⟨la,lb,HT.out,v,hv,rfl⟩
  have B2:Below w.heap.size w w2:=b1.trans (b2.mono b1.size)
  obtain ⟨o0,o1,o2,o3⟩:=ho.below B2
  rcases hv.range hsA hsB with rfl | rfl | rfl | rfl
  all_goals
   clear hv cO
   go_wp2_with fail
   go_ret
   exact ⟨.inl ⟨_,rfl,HV.out⟩,B2⟩
 ·exact ⟨rfl,.inr ⟨.inr ⟨hno,rfl⟩,rfl⟩,b1⟩
set_option maxHeartbeats 800000 in
theorem join_any (p:Value) (a:Option Addr) (cap:Nat) (r:List ByteArray) (w:World) (hw:Wds w a cap r) (u:TypeId) (pv:Value) (henv:EnvW w u pv) :
  Calls Tryz.prog 164 #[p,.slice a r.length cap] w fun e w'=>CmdE (JoiT r) u pv e∧Below w.heap.size w w':=by
 have cR:=readTwo_any a cap r w hw u pv henv
 go_enter Tryz.func164,Tryz.ntmps164
 go_wp2_with (go_at_call 196;refine cR.mono ?_)
 rintro e w1 ⟨⟨aa,ca,la,ab,cb,lb,hT,rfl,rA,rB,kA,kB⟩ | ⟨hno,rfl⟩,b1⟩
 ·have hsA:=hT.stamps.1
  have hsB:=hT.stamps.2
  have h12a:=hsA.1
  have h12b:=hsB.1
  have HT:Hid (TwoP r la lb):=hT
  have cJ:=implJoin_any aa ab ca cb la lb w1 (by unfold maxLen;omega) (by unfold maxLen;omega) kA kB rA rB (stamp_size hsA) (stamp_size hsB)
  clear hT
  go_wp2_with (go_at_call 141;refine cJ.mono ?_)
  rintro e w2 ⟨⟨v,m,ok,rfl,hg,hj⟩,b2⟩
  have B2:Below w.heap.size w w2:=b1.trans (b2.mono b1.size)
  obtain ⟨am,cm,rfl,hrm⟩:=hg.shape
  have HJ:Hid (IsJ la lb m ok):=hj
  have hsm:=isJ_stamp hj
  clear hj cJ hg
  cases ok
  ·have HV:Hid (JoiT r tNo):=.inl ⟨la,lb,HT.out,m,false,HJ.out,.inl ⟨rfl,rfl⟩⟩
   go_wp2_with fail
   go_ret
   exact ⟨.inl ⟨_,rfl,HV.out⟩,B2⟩
  ·have cT:=implText_det am cm m w2 hsm hrm (henv.below B2).tab
   have HV:Hid (JoiT r (bl (stampS m))):=.inl ⟨la,lb,HT.out,m,true,HJ.out,.inr ⟨rfl,_,stampS_tx hsm,rfl⟩⟩
   generalize stampS m=S at *
   go_wp2_with (go_at_call 197;refine cT.mono ?_;rintro e w3 ⟨rfl,b3⟩)
   go_ret
   exact ⟨.inl ⟨_,rfl,HV.out⟩,B2.trans (b3.mono B2.size)⟩
 ·exact ⟨rfl,.inr ⟨.inr ⟨hno,rfl⟩,rfl⟩,b1⟩
theorem need_yes2 (w:World):Calls Tryz.prog 119 #[.bool true] w fun e w'=>e=.returned (.tuple #[])∧w=w':=(need_yes w).mono fun _ _ h=>⟨h.1,h.2.symm⟩
theorem need_no2 (u:TypeId) (pv:Value) (w:World) (h:GivW w u pv):Calls Tryz.prog 119 #[.bool false] w fun e w'=>e=.panicked [{ v:=.iface u pv,recovered:=false }]∧w=w':=(need_no u pv w h).mono fun _ _ h=>⟨h.1,h.2.symm⟩
set_option maxHeartbeats 1600000 in
theorem tbLast_any (bT glo ghi:Nat) (g:GatL) (a0 a1 a2 a:Option Addr) (d0 d1 d2 cap:Nat) (r:List ByteArray) (w:World) (ht:TabW w bT glo ghi g a0 a1 a2 d0 d1 d2) (hw:Wds w a cap r) (u:TypeId) (pv:Value) (henv:EnvW w u pv) :
  Calls Tryz.prog 162 #[.pointer (some ⟨bT,0,none⟩),.slice a r.length cap] w fun e w'=>CmdE (LasT g r) u pv e∧Below w.heap.size w w':=by
 have hf:=hw.few
 have hgv:=henv.giv
 go_enter Tryz.func162,Tryz.ntmps162
 by_cases h1:r.length=1
 ·obtain ⟨nm,rfl⟩:=List.length_eq_one_iff.1 h1
  clear h1
  obtain ⟨r0,r1,r2⟩:=ht.rows.here
  have h6:=ht.nice.nice.ins
  have hlt:=ht.lt
  have c0:=ht.tri.c0
  have c1:=ht.tri.c1
  obtain ⟨b,o,rfl,hblt,cw⟩:=hw.row 0 (by simp)
  have cw:w.cell? ⟨b,o,none⟩=some (.string nm):=cw
  obtain ⟨i,hi⟩:∃ i,Lib.idxOfS g.ins nm=i:=⟨_,rfl⟩
  have HI:Hid (Lib.idxOfS g.ins nm=i):=hi
  have hilt:i < (g.ins.length:Int)∨i=-1:=by rw [<- hi];exact idx_lt _ _
  have cA:∀ n:Lat w,Calls Tryz.prog 181 #[.slice a0 g.ins.length d0,.string nm] n.w fun e w'=>e=.returned (.int .i64 i)∧Below n.w.heap.size n.w w':=fun n=>by
   rw [<- hi];exact sliIndex_any a0 d0 g.ins nm n.w (by omega) (r0.below n.h)
  have q0:∀ n:Lat w,n.w.cell? ⟨bT,0,none⟩=some (.slice a0 g.ins.length d0):=fun n=>n.cell hlt c0
  have q1:∀ n:Lat w,n.w.cell? ⟨b,o,none⟩=some (.string nm):=fun n=>n.cell hblt cw
  have hne:=Lat.some w
  clear hi
  go_wp2_with (go_at_call 119;refine (need_yes2 _).mono ?_;rintro e w3 ⟨rfl,rfl⟩)
  refine wp_region_lat (by kernel_rfl) (by kernel_rfl) ?_
  repeat (go_big_quiet_step ((go_at_call 181;exact Calls.lat_of (cA _))))
  refine wpQuiet_nil ?_
  rintro _ ⟨nq,rfl⟩
  have b1:=nq.h
  have d1':=nq.cell hlt c1
  have r1':=r1.below b1
  have hrn:=henv.below b1
  generalize nq.w=w1 at *
  clear q0 q1 cA hne c0 c1 r1
  by_cases hneg:i < 0
  ·have HV:Hid (LasT g [nm] tNo):=.inl ⟨nm,rfl,.inl ⟨by rw [HI.out];exact hneg,rfl⟩⟩
   go_wp2_with fail
   go_ret
   exact ⟨.inl ⟨_,rfl,HV.out⟩,b1⟩
  obtain ⟨k,rfl⟩:∃ k:Nat,i=(k:Int):=⟨i.toNat,by omega⟩
  have hkw:k < g.wins.length:=by have:=ht.nice.len;omega
  obtain ⟨b2,o2,rfl,hlt1,s,c,cw2,hwc,hrI⟩:=r1' k hkw
  have HG:Hid (g.wins.getD k []=g.wins[k]):=by rw [Hid,List.getD_eq_getElem?_getD,List.getElem?_eq_getElem hkw,Option.getD_some]
  have hfI:FitI g.wins[k]:=(ht.nice.nice.items _ (List.getElem_mem hkw)).fit
  have cL:=implLast_any s c g.wins[k] w1 hfI hrI
  have hvals:=ht.nice.vals _ (List.getElem_mem hkw)
  have k0:(0:Int)<=(k:Int):=by omega
  have k1:(k:Int) < (g.wins.length:Int):=by omega
  go_wp2_with (go_at_call 194;refine cL.mono ?_)
  rintro e w2 ⟨x,a3,c3,m,ok,rfl,hL,hmc,hsafe⟩ b2'
  have B2:Below w.heap.size w w2:=b1.trans (b2'.mono b1.size)
  have HLL:Hid (IsL (g.wins.getD (Lib.idxOfS g.ins nm).toNat []) x m ok):=by rw [Hid,HI.out,Int.toNat_natCast,HG.out];exact hL
  have hnx:NumV x:=isL_vals hL hvals
  have hsm:=isL_stamp hL
  have hrow:=hsafe.row
  have het:=henv.below B2
  clear hL cL hsafe hvals HG
  have bx:Below w2.heap.size w2 (w2.alloc (.cells #[.int .i64 x,.slice a3 m.length c3] 44)):=(Below.refl _ _).alloc (Nat.le_refl _) _
  have x0:=box0 w2 (.int .i64 x) (.slice a3 m.length c3) 44
  have x1:=box1 w2 (.int .i64 x) (.slice a3 m.length c3) 44
  have hxl:=box_lt w2 (.cells #[.int .i64 x,.slice a3 m.length c3] 44)
  cases ok
  ·have HV:Hid (LasT g [nm] tNone):=.inl ⟨nm,rfl,.inr ⟨by rw [HI.out];omega,x,m,false,HLL.out,.inl ⟨rfl,rfl⟩⟩⟩
   go_wp2_with fail
   go_ret
   exact ⟨.inl ⟨_,rfl,HV.out⟩,B2.trans (bx.mono B2.size)⟩
  ·have HV:Hid (LasT g [nm] (stampedB [x] m)):=.inl ⟨nm,rfl,.inr ⟨by rw [HI.out];omega,x,m,true,HLL.out,.inr ⟨rfl,_,stampS_tx hsm,by simp [stampedB,numsB,Lib.join_one]⟩⟩⟩
   go_wp2_with fail
   have by5:Below (w2.alloc (.cells #[.int .i64 x,.slice a3 m.length c3] 44)).heap.size (w2.alloc (.cells #[.int .i64 x,.slice a3 m.length c3] 44)) ((w2.alloc (.cells #[.int .i64 x,.slice a3 m.length c3] 44)).alloc (.cells #[.int .i64 x] 3)):=(Below.refl _ _).alloc (Nat.le_refl _) _
   have B5:Below w2.heap.size w2 ((w2.alloc (.cells #[.int .i64 x,.slice a3 m.length c3] 44)).alloc (.cells #[.int .i64 x] 3)):=bx.trans (by5.mono bx.size)
   have hz5:RowZ ((w2.alloc (.cells #[.int .i64 x,.slice a3 m.length c3] 44)).alloc (.cells #[.int .i64 x] 3)) (some ⟨w2.heap.size + 1,0,none⟩) [x]:=fun j hj=>by
    obtain rfl:j=0:=by simpa using hj
    exact ⟨_,0,rfl,by simp,by simp [go_sem]⟩
   have cT:=stampedText_any (some ⟨w2.heap.size + 1,0,none⟩) a3 1 c3 [x] m _ (by simp) (fun v hv=>by rw [List.mem_singleton.1 hv];exact hnx) hz5 hsm (hrow.below B5) (het.below B5).tab
   have B6:Below w.heap.size w _:=B2.trans (B5.mono B2.size)
   generalize (w2.alloc (.cells #[.int .i64 x,.slice a3 m.length c3] 44)).alloc (.cells #[.int .i64 x] 3)=W5 at *
   obtain ⟨D,hD⟩:∃ D:ByteArray,(⟨(stampedB [x] m).toArray⟩:ByteArray)=D:=⟨_,rfl⟩
   have HDL:Hid (bl D=stampedB [x] m):=by rw [Hid,<- hD];exact bl_mk _
   rw [hD] at cT
   clear hD hz5
   refine cT.mono ?_
   rintro e w6 ⟨rfl,b6⟩
   go_wp2_with fail
   go_ret
   exact ⟨.inl ⟨_,rfl,by show LasT g [nm] (bl D);rw [HDL.out];exact HV.out⟩,B6.trans (b6.mono B6.size)⟩
 ·have h1':((r.length:Int) == 1)=false:=by rw [beq_eq_false_iff_ne];omega
  have HQ:Hid (LasT g r tQ):=.inr ⟨h1,rfl⟩
  clear h1
  go_wp2_with (go_at_call 119;refine (need_no2 u pv _ hgv).mono ?_;rintro e w3 ⟨rfl,rfl⟩)
  exact ⟨rfl,.inr ⟨HQ.out,rfl⟩,Below.refl _ _⟩
def CmdG (T:GatL->List UInt8->Prop) (u:TypeId) (pv:Value) (w w':World) (bT glo ghi:Nat) (g:GatL) (e:Ending):Prop:=
 (∃ s g' glo' ghi' b0 b1 b2 d0 d1 d2,e=.returned (.string s)∧T g' (bl s)∧TabW w' bT glo' ghi' g' b0 b1 b2 d0 d1 d2∧((glo'=glo∧ghi'=ghi)∨w.heap.size<=glo'))∨(T g tQ∧e=givE u pv∧Below w.heap.size w w')
theorem TabW.set {w:World} {bT glo ghi:Nat} {g:GatL} {a0 a1 a2:Option Addr} {d0 d1 d2:Nat} (h:TabW w bT glo ghi g a0 a1 a2 d0 d1 d2) {glo' ghi':Nat} {g':GatL} {b0 b1 b2:Option Addr} (e0 e1 e2:Nat)
  (hr:RowsIn glo' ghi' w g' b0 b1 b2) (hn:NiceV g') (hgl:ghi'<=w.heap.size) (hbx:bT < glo'∨ghi'<=bT) (hc:g'.ins.length<=e0∧e0<=maxLen) :
  TabW (((w.setCell ⟨bT,0,none⟩ (.slice b0 g'.ins.length e0)).setCell ⟨bT,1,none⟩ (.slice b1 g'.wins.length e1)).setCell ⟨bT,2,none⟩ (.slice b2 g'.shown.length e2)) bT glo' ghi' g' b0 b1 b2 e0 e1 e2:=by
 have hsp:Span bT (bT + 1) w (((w.setCell ⟨bT,0,none⟩ (.slice b0 g'.ins.length e0)).setCell ⟨bT,1,none⟩ (.slice b1 g'.wins.length e1)).setCell ⟨bT,2,none⟩ (.slice b2 g'.shown.length e2)):=(((Span.refl _ _ _).setCell (Nat.le_refl _) (Nat.lt_succ_self _) _ _).setCell (Nat.le_refl _) (Nat.lt_succ_self _) _ _).setCell (Nat.le_refl _) (Nat.lt_succ_self _) _ _
 exact ⟨((h.tri.set0 _).set1 _).set2c _,hr.agree (hsp.agree (by omega)),hn,Nat.le_trans hgl hsp.size,hbx,hc,Nat.lt_of_lt_of_le h.lt hsp.size⟩
set_option maxHeartbeats 1600000 in
theorem tbIns_any (bT glo ghi:Nat) (g:GatL) (a0 a1 a2 a:Option Addr) (d0 d1 d2 cap:Nat) (r:List ByteArray) (w:World) (ht:TabW w bT glo ghi g a0 a1 a2 d0 d1 d2) (hw:Wds w a cap r) (u:TypeId) (pv:Value) (henv:EnvW w u pv) :
  Calls Tryz.prog 158 #[.pointer (some ⟨bT,0,none⟩),.slice a r.length cap] w fun e w'=>CmdG (InsT g r) u pv w w' bT glo ghi g e∧But bT w w':=by
 have hf:=hw.few
 have hgv:=henv.giv
 have hlt:=ht.lt
 go_enter Tryz.func158,Tryz.ntmps158
 by_cases h1:r=[]
 ·subst h1
  have HQ:Hid (InsT g [] g tQ):=.inl ⟨rfl,rfl,rfl⟩
  go_wp2_with (go_at_call 119;refine (need_no2 u pv _ hgv).mono ?_;rintro e w3 ⟨rfl,rfl⟩)
  exact ⟨rfl,.inr ⟨HQ.out,rfl,Below.refl _ _⟩,But.refl _ _⟩
 have h1':(1:Int)<=(r.length:Int):=by have:=List.length_pos_iff.2 h1;omega
 have h1n:1<=r.length:=by omega
 have HR:Hid (r≠[]):=h1
 have cN:=implGN_any a cap r w (by omega) hw.room hw.room2 hw.row (fun j hj=>by have:=hw.short _ (List.getElem_mem hj);unfold maxLen;omega)
 clear h1
 go_wp2_with (first | (go_at_call 119;refine (need_yes2 _).mono ?_;rintro e w3 ⟨rfl,rfl⟩) | (go_at_call 65;refine cN.mono ?_))
 rintro e w1 ⟨hE,b1⟩
 have ht1:=ht.below b1
 rcases hE.start with ⟨e0,c0,e1,c1,e2,c2,L,rfl,hN,hm,hS,hc0,hc1⟩ | ⟨rfl,hN⟩
 ·have hP:InsP r:=by
   rcases hN with ⟨_,h,_⟩ | ⟨h,_⟩
   ·exact h
   ·cases h
  have hLl:L.length=(newG r).wins.length:=by rw [<- hm];simp
  have hrows:=hS.rowsIn (g:=newG r) hm
  rw [hLl]
  have hv:=newG_v hP
  have HV:Hid (InsT g r (newG r) tOk):=.inr (.inl ⟨HR.out,hP,rfl,rfl⟩)
  have hz:=b1.size
  have hst:=ht1.set c0 c1 c2 hrows hv (Nat.le_refl _) (.inl hlt) ⟨hc0,hc1⟩
  have HT:Hid (TabW _ bT w.heap.size w1.heap.size (newG r) e0 e1 e2 c0 c1 c2):=hst.below ((Below.refl _ _).alloc (Nat.le_refl _) (.cells #[.slice e0 r.length c0,.slice e1 (newG r).wins.length c1,.slice e2 0 c2] 36))
  have HB:Hid (But bT w _):=((((But.of_below b1).setCell 0 (.slice e0 r.length c0)).setCell 1 (.slice e1 (newG r).wins.length c1)).setCell 2 (.slice e2 0 c2)).trans (But.of_below ((Below.refl _ _).alloc (Nat.le_refl _) (.cells #[.slice e0 r.length c0,.slice e1 (newG r).wins.length c1,.slice e2 0 c2] 36)))
  have tx:=tri_new w1 (.slice e0 r.length c0) (.slice e1 (newG r).wins.length c1) (.slice e2 0 c2) 36
  have p0:=ht1.tri.c0
  have p1:=ht1.tri.c1
  have p2:=ht1.tri.c2
  have o0:=ht1.tri.f0
  have o1:=ht1.tri.f1
  have o2:=ht1.tri.f2
  have hl1:=ht1.lt
  clear hE hN hm hS hLl hrows hv hP hst
  go_wp2_with fail
  go_ret
  exact ⟨.inl ⟨_,newG r,w.heap.size,w1.heap.size,e0,e1,e2,c0,c1,c2,rfl,HV.out,HT.out,.inr (Nat.le_refl _)⟩,HB.out⟩
 ·have hP:¬ InsP r:=by
   rcases hN with ⟨h,_⟩ | ⟨_,h,_⟩
   ·cases h
   ·exact h
  have HV:Hid (InsT g r g tNo):=.inr (.inr ⟨HR.out,hP,rfl,rfl⟩)
  have bx:Below w1.heap.size w1 (w1.alloc (.cells #[.slice none 0 0,.slice none 0 0,.slice none 0 0] 36)):=(Below.refl _ _).alloc (Nat.le_refl _) _
  have ht2:=ht1.below bx
  have hB:=b1.trans (bx.mono b1.size)
  clear hE hN hP
  go_wp2_with fail
  go_ret
  exact ⟨.inl ⟨_,g,glo,ghi,a0,a1,a2,d0,d1,d2,rfl,HV.out,ht2,.inl ⟨rfl,rfl⟩⟩,But.of_below hB⟩
end Go.Proofs.YtpfhegengmlkmacGreatDoor
