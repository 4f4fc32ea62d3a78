/- Texts of this claim. -/
import Derived.Test.YtpfhegengmlkmabGreatDoorZu32
import Derived.Test.YtpfhegengmlkmabGreatDoorZu35
import Derived.Test.YtpfhegengmlkmabGreatDoorZu36
namespace Go.Proofs.YtpfhegengmlkmabGreatDoor
open Go.RowKit Go.BigFrame
set_option maxRecDepth 100000
theorem yE {o:Oper}{a:Act}{w:World}{K:Act->World->Prop}{Q:Exit->Act->World->Prop}(s x:Operand)
  (ho:o.op=.call { callee:=.builtin .append,args:=#[s,x],argTypes:=#[41,41] }) (base:Nat) (v:Value) (l:List Int) (hs:a.eval s=v) (hg:dZ w base v l) (hbase:base<=w.heap.size)
  (ad:Nat) (t:Int) (hx:a.eval x=.slice (some ⟨ad,0,none⟩) 1 1) (c0:w.cell? ⟨ad,0,none⟩=some (.int .i64 t)) (hl:l.length<=1048576)
  (h:∀v' w',dZ w' base v' (l++[t])->w.grownBy w' v.ownBlock->K (a.put o.dst v') w'):o.wp Tryz.prog a w K Q:=by
 obtain⟨i0,hi,hz0,hz1,hz2⟩:=info_parts Tryz.infoZ
 obtain⟨v',w',hr,h2,h3,_,h5⟩:=run_append_own_at (P:=Tryz.prog) w base 41 o.type 3 i0 (.int .i64 0) 1 8 Tryz.underlying41 hi hz0 hz1 hz2 rfl (by decide) v l.length (l.map fun y=>.int .i64 y) hg ⟨ad,0,none⟩ 1 1 [.int .i64 t] rfl (by
   intro j u hj
   match j,hj with
   |0,hj=>simp at hj;subst hj;exact c0) (by simp[Value.oneCell']) (by unfold maxLen;omega) (by omega) hbase
 unfold Oper.wp execOp
 simp only[ho,resolve,invoke,builtin,Sem.run_bind,Sem.run_pure,Result.andThen_ok,List.map_toArray,List.map_cons,List.map_nil,hs,hx,hr]
 exact h _ w' (dZ.snoc h2) h3
def Ny (w w':World)(g:aB)(i x:Int)(m:List (ByteArray×Int))(e:Ending):Prop:=
 ∃(g':aB) (L:List aS) (sv:List Int) (ss:List (ByteArray×Int)) (code:Int) (a0 a1 a2 a3 a4:Option Addr) (d0 d1 d2 d3 d4:Nat),e=.returned (.tuple #[.agg #[.slice a0 g'.ins.length d0,.slice a1 L.length d1,.slice a2 g'.shown.length d2],.agg #[.slice a3 sv.length d3,.slice a4 ss.length d4],.int .i64 code])/\mi g i x m g' sv ss code/\L.map (·.l)=g'.wins /\
  iV w' w.heap.size w'.heap.size a0 a1 a2 g'.ins L g'.shown/\kL w' w.heap.size w'.heap.size a3 sv/\Safe w' w.heap.size w'.heap.size a4 ss/\(g'.ins.length<=d0/\d0<=maxLen)/\FV w' w.heap.size w'.heap.size a0 a1 d0 d1 g'.ins.length L.length
set_option maxHeartbeats 12800000 in
theorem En (a0 a1 a2 am:Option Addr)(c0 c1 c2 cm:Nat)(g:aB)(i x:Int)(m:List (ByteArray×Int))(w:World)(hf:Ey g)(hi:g.ins.length<=1048576)(r0:dQ w a0 g.ins)(r1:iF w a1 g.wins)(r2:Row w a2 g.shown)(hfm:uO m)(hrm:Row w am m) :
  Calls Tryz.prog 68 #[.agg #[.slice a0 g.ins.length c0,.slice a1 g.wins.length c1,.slice a2 g.shown.length c2],.agg #[.int .i64 i,.int .i64 x,.slice am m.length cm]] w fun e w'=>Ny w w' g i x m e/\Below w.heap.size w w':=by
 obtain⟨W0,hW0⟩:∃W0,(((w.alloc (.cells #[.slice a0 g.ins.length c0,.slice a1 g.wins.length c1,.slice a2 g.shown.length c2] 30)).alloc (.cells #[.int .i64 i,.int .i64 x,.slice am m.length cm] 36)).alloc (.cells #[.slice none 0 0,.slice none 0 0,.slice none 0 0] 30)).alloc (.cells #[.slice none 0 0,.slice none 0 0] 73)=W0:=⟨_,rfl⟩
 have hz:W0.heap.size=w.heap.size+4:=by rw[<- hW0];simp
 have hb0:Below w.heap.size w W0:=by rw[<- hW0];exact((((Below.refl _ _).alloc (Nat.le_refl _) _).alloc (by simp) _).alloc (by simp;omega) _).alloc (by simp;omega) _
 have tP:iy W0 w.heap.size (.slice a0 g.ins.length c0) (.slice a1 g.wins.length c1) (.slice a2 g.shown.length c2):=by rw[<- hW0];constructor <;> simp[go_sem]
 have tF:iy W0 (w.heap.size+1) (.int .i64 i) (.int .i64 x) (.slice am m.length cm):=by rw[<- hW0];constructor <;> simp[go_sem]
 have tR:iy W0 (w.heap.size+1+1) (.slice none 0 0) (.slice none 0 0) (.slice none 0 0):=by rw[<- hW0];constructor <;> simp[go_sem]
 have y0:W0.cell? ⟨w.heap.size+1+1+1,0,none⟩=some (.slice none 0 0):=by rw[<- hW0];simp[go_sem]
 have y1:W0.cell? ⟨w.heap.size+1+1+1,1,none⟩=some (.slice none 0 0):=by rw[<- hW0];simp[go_sem]
 have fy0:W0.frozen? ⟨w.heap.size+1+1+1,0,none⟩=false:=by rw[<- hW0];simp[go_sem]
 have fy1:W0.frozen? ⟨w.heap.size+1+1+1,1,none⟩=false:=by rw[<- hW0];simp[go_sem]
 have HW:Hid (((((w.alloc (.cells #[.slice a0 g.ins.length c0,.slice a1 g.wins.length c1,.slice a2 g.shown.length c2] 30)).alloc (.cells #[.int .i64 i,.int .i64 x,.slice am m.length cm] 36)).alloc (.cells #[.slice none 0 0,.slice none 0 0,.slice none 0 0] 30)).alloc (.cells #[.slice none 0 0,.slice none 0 0] 73))=W0):=hW0
 clear hW0
 go_enter Tryz.func68,Tryz.ntmps68
 go_wp2_with fail
 rw[HW.out]
 clear HW
 refine(Cj a0 a1 a2 c0 c1 c2 g _ hf hi (r0.below hb0) (r1.below hb0) (r2.below hb0)).mono ?_
 rintro e w1 ⟨⟨r,rfl,hr1⟩,b1⟩
 have HR:Hid (r=true↔lS g):=hr1
 clear hr1
 have B1:Below w.heap.size w w1:=hb0.trans (b1.mono hb0.size)
 have z1:=b1.size
 replace tP:=tP.keep b1
 replace tF:=tF.keep b1
 replace tR:=tR.keep b1
 replace y0:=ae b1 (by omega) y0
 replace y1:=ae b1 (by omega) y1
 replace fy0:=(b1.frozen (p:=⟨w.heap.size+1+1+1,0,none⟩) (by simp only;omega)).trans fy0
 replace fy1:=(b1.frozen (p:=⟨w.heap.size+1+1+1,1,none⟩) (by simp only;omega)).trans fy1
 clear b1 hb0
 have HBAD:Hid (∀X:World,Below w.heap.size w X->(¬DR g i∨(DR g i/\∃r,zf (g.wins.getD i.toNat []) x m r 1))->Ny w (((((X.setCell ⟨w.heap.size+1+1,0,none⟩ (.slice none 0 0)).setCell ⟨w.heap.size+1+1,1,none⟩ (.slice none 0 0)).setCell ⟨w.heap.size+1+1,2,none⟩ (.slice none 0 0)).setCell ⟨w.heap.size+1+1+1,0,none⟩ (.slice none 0 0)).setCell ⟨w.heap.size+1+1+1,1,none⟩ (.slice none 0 0)) g i x m (.returned (.tuple #[.agg #[.slice none 0 0,.slice none 0 0,.slice none 0 0],.agg #[.slice none 0 0,.slice none 0 0],.int .i64 2]))/\Below w.heap.size w (((((X.setCell ⟨w.heap.size+1+1,0,none⟩ (.slice none 0 0)).setCell ⟨w.heap.size+1+1,1,none⟩ (.slice none 0 0)).setCell ⟨w.heap.size+1+1,2,none⟩ (.slice none 0 0)).setCell ⟨w.heap.size+1+1+1,0,none⟩ (.slice none 0 0)).setCell ⟨w.heap.size+1+1+1,1,none⟩ (.slice none 0 0))):=
  fun X hX h=>⟨⟨fF,[],[],[],2,none,none,none,none,none,0,0,0,0,0,rfl,by
   rcases h with h|⟨hI,r,hP⟩
   ·exact .inl ⟨h,rfl,rfl,rfl,rfl⟩
   ·exact .inr ⟨hI,r,1,hP,.inl ⟨rfl,rfl,rfl,rfl,rfl⟩⟩,rfl,.inl ⟨rfl,rfl,rfl⟩,.inl rfl,.inl rfl,⟨by simp[fF],by unfold maxLen;omega⟩,E5 _ _ _⟩,((((hX.setCell (by simp only;omega) _).setCell (by simp only;omega) _).setCell (by simp only;omega) _).setCell (by simp only;omega) _).setCell (by simp only;omega) _⟩
 obtain⟨x0,x1,x2,fx0,fx1,fx2⟩:=id tR
 by_cases hin:r=true/\0<=i/\i<(g.ins.length:Int)
 ·obtain⟨rfl,hi0,hi1⟩:=hin
  have HG:Hid (lS g):=HR.out.1 rfl
  clear HR
  have HLEN:Hid (g.wins.length=g.ins.length):=HG.out.len
  have hiw:i<(g.wins.length:Int):=by have:=HLEN.out;omega
  obtain⟨k,rfl⟩:∃k:Nat,i=(k:Int):=⟨i.toNat,by omega⟩
  have hkw:k<g.wins.length:=by omega
  have HIN:Hid (DR g (k:Int)):=⟨HG.out,hi0,hi1⟩
  obtain⟨bw,ow,rfl,hbw,s1,t1,q1,ht1,hri⟩:=r1.below B1 k hkw
  obtain⟨p0,p1,p2,_,_,_⟩:=id tP
  obtain⟨f0,f1,f2,_,_,_⟩:=id tF
  have k1:(k:Int)<(g.wins.length:Int):=by omega
  go_wp2_with fail
  have hbd:Below w1.heap.size w1 w1.drew:=(Below.refl _ _).drew
  have HS:Hid (∀u:World,Below w1.heap.size w1 u->u.cell? ⟨w.heap.size,1,none⟩=some (.slice (some ⟨bw,ow,none⟩) g.wins.length c1)/\u.cell? ⟨w.heap.size+1,0,none⟩=some (.int .i64 k)/\u.cell? ⟨w.heap.size+1,1,none⟩=some (.int .i64 x)/\u.cell? ⟨w.heap.size+1,2,none⟩=some (.slice am m.length cm)/\u.cell? ⟨bw,ow+k,none⟩=some (.slice s1 g.wins[k].length t1)):=fun u hu=>⟨ae hu (by omega) p1,ae hu (by omega) f0,ae hu (by omega) f1,ae hu (by omega) f2,ae hu hbw q1⟩
  have SW:=HS.out _ hbd
  refine wp_region_held_drew (S:=fun u=>u.cell? ⟨w.heap.size,1,none⟩=some (.slice (some ⟨bw,ow,none⟩) g.wins.length c1)/\u.cell? ⟨w.heap.size+1,0,none⟩=some (.int .i64 k)/\u.cell? ⟨w.heap.size+1,1,none⟩=some (.int .i64 x)/\u.cell? ⟨w.heap.size+1,2,none⟩=some (.slice am m.length cm)/\u.cell? ⟨bw,ow+k,none⟩=some (.slice s1 g.wins[k].length t1)) (by kernel_rfl) SW (fun _=>?_)
  refine wpAnyH_take (i:=0) (v:=.pointer (some ⟨w.heap.size,1,none⟩)) rfl (by kernel_rfl) (by kernel_rfl) (by kernel_rfl) (fun _ _ _ h=>h) (Or.inl ⟨by rfl, ?_⟩) SW ?_
  ·rintro u ⟨z1,z2,z3,z4,z5⟩
   go_simp
  simp only[Act.put,List.setIfInBounds_toArray]
  refine wpAnyH_take (i:=1) (v:=.slice (some ⟨bw,ow,none⟩) g.wins.length c1) rfl (by kernel_rfl) (by kernel_rfl) (by kernel_rfl) (fun _ _ _ h=>h) (Or.inl ⟨by rfl, ?_⟩) SW ?_
  ·rintro u ⟨z1,z2,z3,z4,z5⟩
   go_simp
  simp only[Act.put]
  refine wpAnyH_take (i:=2) (v:=.pointer (some ⟨w.heap.size+1,0,none⟩)) rfl (by kernel_rfl) (by kernel_rfl) (by kernel_rfl) (fun _ _ _ h=>h) (Or.inl ⟨by rfl, ?_⟩) SW ?_
  ·rintro u ⟨z1,z2,z3,z4,z5⟩
   go_simp
  simp only[Act.put]
  refine wpAnyH_take (i:=3) (v:=.int .i64 k) rfl (by kernel_rfl) (by kernel_rfl) (by kernel_rfl) (fun _ _ _ h=>h) (Or.inl ⟨by rfl, ?_⟩) SW ?_
  ·rintro u ⟨z1,z2,z3,z4,z5⟩
   go_simp
  simp only[Act.put]
  refine wpAnyH_take (i:=4) (v:=.pointer (some ⟨bw,ow+k,none⟩)) rfl (by kernel_rfl) (by kernel_rfl) (by kernel_rfl) (fun _ _ _ h=>h) (Or.inl ⟨by rfl, ?_⟩) SW ?_
  ·rintro u ⟨z1,z2,z3,z4,z5⟩
   go_simp
  simp only[Act.put]
  refine wpAnyH_take (i:=5) (v:=.slice s1 g.wins[k].length t1) rfl (by kernel_rfl) (by kernel_rfl) (by kernel_rfl) (fun _ _ _ h=>h) (Or.inl ⟨by rfl, ?_⟩) SW ?_
  ·rintro u ⟨z1,z2,z3,z4,z5⟩
   go_simp
  simp only[Act.put]
  refine wpAnyH_take (i:=6) (v:=.pointer (some ⟨w.heap.size+1,1,none⟩)) rfl (by kernel_rfl) (by kernel_rfl) (by kernel_rfl) (fun _ _ _ h=>h) (Or.inl ⟨by rfl, ?_⟩) SW ?_
  ·rintro u ⟨z1,z2,z3,z4,z5⟩
   go_simp
  simp only[Act.put]
  refine wpAnyH_take (i:=7) (v:=.agg #[.int .i64 x,.slice am m.length cm]) rfl (by kernel_rfl) (by kernel_rfl) (by kernel_rfl) (fun _ _ _ h=>h) (Or.inl ⟨by rfl, ?_⟩) SW ?_
  ·rintro u ⟨z1,z2,z3,z4,z5⟩
   go_simp
  simp only[Act.put]
  refine wpAnyH_ready (rs:=[8]) (by kernel_rfl) (by simp) ?_
  refine AllReadyH.cons rfl (fun K hK=>?_) AllReadyH.nil
  rw[if_pos (by rfl)]
  go_simp
  refine(BK s1 t1 g.wins[k] x am cm m _ (hf.wins.2 k hkw) (hri.below hbd) hfm (hrm.below (B1.trans (hbd.mono B1.size)))).mono ?_
  rintro e w2 ⟨⟨v2,rr,cc,rfl,hP,hg2⟩,b2⟩
  obtain⟨va,vc,rfl,hvc,hsv⟩:=hg2.safe
  have hb2:Below w1.heap.size w1 w2:=hbd.trans (b2.mono hbd.size)
  have B2:Below w.heap.size w w2:=B1.trans (hb2.mono B1.size)
  have HP:Hid (zf (g.wins.getD ((k:Nat):Int).toNat []) x m rr cc):=by unfold Hid;rw[Int.toNat_natCast,ig _ _ hkw];exact hP
  clear hP
  have S2:=HS.out _ hb2
  refine hK.out _ _ S2 (fun _=>?_)
  clear hK K SW
  refine wpAnyH_take (i:=9) (v:=.tuple #[.slice va rr.length vc,.int .i64 cc]) rfl (by kernel_rfl) (by kernel_rfl) (by kernel_rfl) (fun _ _ _ h=>h) (Or.inl ⟨by rfl, ?_⟩) S2 ?_
  ·rintro u ⟨z1,z2,z3,z4,z5⟩
   go_simp
  simp only[Act.put,List.setIfInBounds_toArray]
  refine wpAnyH_take (i:=10) (v:=.slice va rr.length vc) rfl (by kernel_rfl) (by kernel_rfl) (by kernel_rfl) (fun _ _ _ h=>h) (Or.inl ⟨by rfl, ?_⟩) S2 ?_
  ·rintro u ⟨z1,z2,z3,z4,z5⟩
   go_simp
  simp only[Act.put]
  refine wpAnyH_take (i:=11) (v:=.int .i64 cc) rfl (by kernel_rfl) (by kernel_rfl) (by kernel_rfl) (fun _ _ _ h=>h) (Or.inl ⟨by rfl, ?_⟩) S2 ?_
  ·rintro u ⟨z1,z2,z3,z4,z5⟩
   go_simp
  simp only[Act.put]
  refine wpAnyH_ready (rs:=[12]) (by kernel_rfl) (by simp) ?_
  refine AllReadyH.cons rfl (fun K hK=>?_) AllReadyH.nil
  rw[if_pos (by rfl)]
  go_simp
  refine hK.out _ _ S2 (fun _=>?_)
  clear hK K
  refine wpAnyH_ready (rs:=[13]) (by kernel_rfl) (by simp) ?_
  refine AllReadyH.cons rfl (fun K hK=>?_) AllReadyH.nil
  rw[if_pos (by rfl)]
  go_simp
  refine hK.out _ _ S2 (fun _=>?_)
  clear hK K
  refine wpAnyH_done (by kernel_rfl) ?_ _
  clear S2
  have z2:=hb2.size
  replace tP:=tP.keep hb2
  replace tF:=tF.keep hb2
  replace tR:=tR.keep hb2
  replace y0:=ae hb2 (by omega) y0
  replace y1:=ae hb2 (by omega) y1
  replace fy0:=(hb2.frozen (p:=⟨w.heap.size+1+1+1,0,none⟩) (by simp only;omega)).trans fy0
  replace fy1:=(hb2.frozen (p:=⟨w.heap.size+1+1+1,1,none⟩) (by simp only;omega)).trans fy1
  clear x0 x1 x2 fx0 fx1 fx2 p0 p1 p2 f0 f1 f2
  obtain⟨x0,x1,x2,fx0,fx1,fx2⟩:=id tR
  obtain⟨p0,p1,p2,_,_,_⟩:=id tP
  obtain⟨f0,f1,f2,_,_,_⟩:=id tF
  rcases HP.out.code with rfl|rfl|rfl
  ·go_wp2_with fail
   exact bodyPost_ret (v:=.tuple #[.agg #[.slice none 0 0,.slice none 0 0,.slice none 0 0],.agg #[.slice none 0 0,.slice none 0 0],.int .i64 2]) (by simp[results,Tryz.results68,go_sem,x0,x1,x2,y0,y1]) rfl (HBAD.out _ B2 (.inr ⟨HIN.out,_,HP.out⟩))
  ·go_wp2_with fail
   refine(xy a0 (some ⟨bw,ow,none⟩) a2 c0 c1 c2 g _ HG.out (r0.below B2) (r1.below B2) (r2.below B2)).mono ?_
   rintro e w3 ⟨⟨b,t,e0,e1,gm,em,L,rfl,hfull,hLL,hfz,hgmz,hcap3⟩,b3⟩
   have HCAP:Hid (g.ins.length<=e0/\e0<=maxLen):=hcap3
   clear hcap3
   have HLL:Hid (L.map (·.l)=g.wins):=hLL
   have HLL2:Hid (L.length=g.wins.length):=by have:=congrArg List.length hLL;unfold Hid;simpa using this
   have B3:Below w.heap.size w w3:=B2.trans (b3.mono B2.size)
   have z3:=b3.size
   have htl:=hfull.wins.lt
   have htz:=hfull.tin.1
   have hbz:=hfull.bin.1
   clear hLL
   have bT:Below w3.heap.size w3 (w3.alloc (.cells #[.slice (some ⟨b,0,none⟩) g.ins.length e0,.slice (some ⟨t,0,none⟩) L.length e1,.slice (some ⟨gm,0,none⟩) g.shown.length em] 30)):=(Below.refl _ _).alloc (Nat.le_refl _) _
   have tT:=aQ w3 (.slice (some ⟨b,0,none⟩) g.ins.length e0) (.slice (some ⟨t,0,none⟩) L.length e1) (.slice (some ⟨gm,0,none⟩) g.shown.length em) 30
   have b3T:Below w2.heap.size w2 (w3.alloc (.cells #[.slice (some ⟨b,0,none⟩) g.ins.length e0,.slice (some ⟨t,0,none⟩) L.length e1,.slice (some ⟨gm,0,none⟩) g.shown.length em] 30)):=b3.trans (bT.mono b3.size)
   replace tR:=tR.keep b3T
   replace y0:=ae b3T (by omega) y0
   replace y1:=ae b3T (by omega) y1
   replace fy0:=(b3T.frozen (p:=⟨w.heap.size+1+1+1,0,none⟩) (by simp only;omega)).trans fy0
   replace fy1:=(b3T.frozen (p:=⟨w.heap.size+1+1+1,1,none⟩) (by simp only;omega)).trans fy1
   have BT:Below w.heap.size w _:=B3.trans (bT.mono B3.size)
   replace hfull:=hfull.below bT
   clear x0 x1 x2 fx0 fx1 fx2 b3T bT p0 p1 p2 f0 f1 f2
   obtain⟨x0,x1,x2,fx0,fx1,fx2⟩:=id tR
   obtain⟨u0,u1,u2,_,_,_⟩:=id tT
   go_wp2_with fail
   generalize w3.alloc (.cells #[.slice (some ⟨b,0,none⟩) g.ins.length e0,.slice (some ⟨t,0,none⟩) L.length e1,.slice (some ⟨gm,0,none⟩) g.shown.length em] 30)=VT at *
   obtain⟨w9,h9⟩:∃w9,(((((VT.setCell ⟨w.heap.size+1+1,0,none⟩ (.slice (some ⟨b,0,none⟩) g.ins.length e0)).setCell ⟨w.heap.size+1+1,1,none⟩ (.slice (some ⟨t,0,none⟩) L.length e1)).setCell ⟨w.heap.size+1+1,2,none⟩ (.slice (some ⟨gm,0,none⟩) g.shown.length em)).setCell ⟨w.heap.size+1+1+1,0,none⟩ (.slice none 0 0)).setCell ⟨w.heap.size+1+1+1,1,none⟩ (.slice none 0 0))=w9:=⟨_,rfl⟩
   have sp:aJ (w.heap.size+2) (w.heap.size+4) VT w9:=by rw[<- h9];exact(((((aJ.refl _ _ _).setCell (by omega) (by omega) _ _).setCell (by omega) (by omega) _ _).setCell (by omega) (by omega) _ _).setCell (by omega) (by omega) _ _).setCell (by omega) (by omega) _ _
   have B9:Below w.heap.size w w9:=by rw[<- h9];exact((((BT.setCell (by simp only;omega) _).setCell (by simp only;omega) _).setCell (by simp only;omega) _).setCell (by simp only;omega) _).setCell (by simp only;omega) _
   have n0:w9.cell? ⟨w.heap.size+1+1,0,none⟩=some (.slice (some ⟨b,0,none⟩) g.ins.length e0):=by rw[<- h9];simp[go_sem,x0]
   have n1:w9.cell? ⟨w.heap.size+1+1,1,none⟩=some (.slice (some ⟨t,0,none⟩) L.length e1):=by rw[<- h9];simp[go_sem,x1]
   have n2:w9.cell? ⟨w.heap.size+1+1,2,none⟩=some (.slice (some ⟨gm,0,none⟩) g.shown.length em):=by rw[<- h9];simp[go_sem,x2]
   have n3:w9.cell? ⟨w.heap.size+1+1+1,0,none⟩=some (.slice none 0 0):=by rw[<- h9];simp[go_sem,y0]
   have n4:w9.cell? ⟨w.heap.size+1+1+1,1,none⟩=some (.slice none 0 0):=by rw[<- h9];simp[go_sem,y1]
   have z9:=sp.size
   rw[h9]
   clear h9
   have hf9:=(hfull.span sp (.inr (by omega))).widen (show w.heap.size<=w2.heap.size by omega) (show w3.heap.size<=w9.heap.size by have:=block_lt_of_cell tT.c0;simp only at this;omega)
   exact bodyPost_ret (v:=.tuple #[.agg #[.slice (some ⟨b,0,none⟩) g.ins.length e0,.slice (some ⟨t,0,none⟩) L.length e1,.slice (some ⟨gm,0,none⟩) g.shown.length em],.agg #[.slice none 0 0,.slice none 0 0],.int .i64 3]) (by simp[results,Tryz.results68,go_sem,n0,n1,n2,n3,n4]) rfl ⟨⟨g,L,[],[],3,_,_,_,none,none,_,_,_,0,0,rfl,.inr ⟨HIN.out,rr,2,HP.out,.inr (.inl ⟨rfl,rfl,rfl,rfl,rfl⟩)⟩,HLL.out,.inr ⟨b,t,rfl,rfl,hf9.togz⟩,.inl rfl,.inl rfl,HCAP.out,hf9.room⟩,B9⟩
  ·go_wp2_with fail
   refine(xy a0 (some ⟨bw,ow,none⟩) a2 c0 c1 c2 g _ HG.out (r0.below B2) (r1.below B2) (r2.below B2)).mono ?_
   rintro e w3 ⟨⟨b,t,e0,e1,gm,em,L,rfl,hfull,hLL,hfz,hgmz,hcap3⟩,b3⟩
   have HCAP:Hid (g.ins.length<=e0/\e0<=maxLen):=hcap3
   clear hcap3
   have HLL:Hid (L.map (·.l)=g.wins):=hLL
   have HLL2:Hid (L.length=g.wins.length):=by have:=congrArg List.length hLL;unfold Hid;simpa using this
   have B3:Below w.heap.size w w3:=B2.trans (b3.mono B2.size)
   have z3:=b3.size
   have htl:=hfull.wins.lt
   have htz:=hfull.tin.1
   have hbz:=hfull.bin.1
   clear hLL
   have hkL:k<L.length:=by rw[HLL2.out];exact hkw
   have kL1:(k:Int)<(L.length:Int):=by omega
   have q3:=hfull.wins.cell k hkL
   obtain⟨pa,pc,pv,_,_⟩:=hfull.wins.at_ _ (List.getElem_mem hkL)
   have hsw:=jD.setWin (hfull.widen (show w.heap.size+4<=w2.heap.size by omega) (Nat.le_refl _)) hkL (q:=aS.mk rr (.slice va rr.length vc) w1.drew.heap.size w2.heap.size) ⟨va,vc,rfl,hvc,hsv.below b3⟩ ⟨show w.heap.size+4<=w1.drew.heap.size by have:=hbd.size;omega,b2.size,z3⟩ (.inr hbz) (.inr htz) (fun s hs=>.inr (show w2.heap.size<=s by have h1:gm=s:=congrArg Addr.block (Option.some.inj hs);omega)) (fun p hp=>.inr (show w2.heap.size<=p.lo from(hfull.wins.in_ p hp).1))
   have bV:Below w3.heap.size w3 (w3.alloc (.cells #[.slice (some ⟨b,0,none⟩) g.ins.length e0,.slice (some ⟨t,0,none⟩) L.length e1,.slice (some ⟨gm,0,none⟩) g.shown.length em] 30)):=(Below.refl _ _).alloc (Nat.le_refl _) _
   replace tP:=(tP.keep b3).keep bV
   replace tF:=(tF.keep b3).keep bV
   have hbS:Below w2.heap.size w2 ((w3.setCell ⟨t,k,none⟩ (.slice va rr.length vc)).alloc (.cells #[.slice (some ⟨b,0,none⟩) g.ins.length e0,.slice (some ⟨t,0,none⟩) L.length e1,.slice (some ⟨gm,0,none⟩) g.shown.length em] 30)):=((b3.setCell (p:=⟨t,k,none⟩) htz _).alloc (by simp;omega) _)
   have bS:Below (w3.setCell ⟨t,k,none⟩ (.slice va rr.length vc)).heap.size (w3.setCell ⟨t,k,none⟩ (.slice va rr.length vc)) ((w3.setCell ⟨t,k,none⟩ (.slice va rr.length vc)).alloc (.cells #[.slice (some ⟨b,0,none⟩) g.ins.length e0,.slice (some ⟨t,0,none⟩) L.length e1,.slice (some ⟨gm,0,none⟩) g.shown.length em] 30)):=(Below.refl _ _).alloc (Nat.le_refl _) _
   have hfS:=hsw.below bS
   have BS:Below w.heap.size w ((w3.setCell ⟨t,k,none⟩ (.slice va rr.length vc)).alloc (.cells #[.slice (some ⟨b,0,none⟩) g.ins.length e0,.slice (some ⟨t,0,none⟩) L.length e1,.slice (some ⟨gm,0,none⟩) g.shown.length em] 30)):=B2.trans (hbS.mono B2.size)
   have hzS:((w3.setCell ⟨t,k,none⟩ (.slice va rr.length vc)).alloc (.cells #[.slice (some ⟨b,0,none⟩) g.ins.length e0,.slice (some ⟨t,0,none⟩) L.length e1,.slice (some ⟨gm,0,none⟩) g.shown.length em] 30)).heap.size=w3.heap.size+1:=by simp
   have tO:iy ((w3.setCell ⟨t,k,none⟩ (.slice va rr.length vc)).alloc (.cells #[.slice (some ⟨b,0,none⟩) g.ins.length e0,.slice (some ⟨t,0,none⟩) L.length e1,.slice (some ⟨gm,0,none⟩) g.shown.length em] 30)) w3.heap.size (.slice (some ⟨b,0,none⟩) g.ins.length e0) (.slice (some ⟨t,0,none⟩) L.length e1) (.slice (some ⟨gm,0,none⟩) g.shown.length em):=by
    have h:=aQ (w3.setCell ⟨t,k,none⟩ (.slice va rr.length vc)) (.slice (some ⟨b,0,none⟩) g.ins.length e0) (.slice (some ⟨t,0,none⟩) L.length e1) (.slice (some ⟨gm,0,none⟩) g.shown.length em) 30
    rw[World.size_setCell]at h
    exact h
   have hlS:(L.set k (aS.mk rr (.slice va rr.length vc) w1.drew.heap.size w2.heap.size)).length=L.length:=by simp
   have HLS:Hid ((L.set k (aS.mk rr (.slice va rr.length vc) w1.drew.heap.size w2.heap.size)).map (·.l)=g.wins.set ((k:Nat):Int).toNat rr):=by
    unfold Hid
    rw[List.map_set,HLL.out,Int.toNat_natCast]
   replace tR:=tR.keep hbS
   replace y0:=ae hbS (by omega) y0
   replace y1:=ae hbS (by omega) y1
   replace fy0:=(hbS.frozen (p:=⟨w.heap.size+1+1+1,0,none⟩) (by simp only;omega)).trans fy0
   replace fy1:=(hbS.frozen (p:=⟨w.heap.size+1+1+1,1,none⟩) (by simp only;omega)).trans fy1
   clear x0 x1 x2 fx0 fx1 fx2
   obtain⟨x0,x1,x2,fx0,fx1,fx2⟩:=id tR
   clear p0 p1 p2 f0 f1 f2
   obtain⟨p0,p1,p2,_,_,_⟩:=id tP
   obtain⟨f0,f1,f2,_,_,_⟩:=id tF
   have hfzT:=hfz k
   rw[pv]at q3
   clear hsw hbS bS bV
   generalize hL':L.set k (aS.mk rr (.slice va rr.length vc) w1.drew.heap.size w2.heap.size)=L' at *
   clear hL'
   have hn:=HG.out.nice
   have hst:∀l∈L'.map (·.l),gu l:=by rw[HLS.out];exact qy hn.items (qm HP.out)
   have hl6:(L'.map (·.l)).length<=6:=by rw[HLS.out,List.length_set];exact hn.wins
   have hfW:=nV hl6 hst
   have hll:(L'.map (·.l)).length=L.length:=by rw[List.length_map];exact hlS
   have HC:=EE (some ⟨t,0,none⟩) e1 (L'.map (·.l)) ((w3.setCell ⟨t,k,none⟩ (.slice va rr.length vc)).alloc (.cells #[.slice (some ⟨b,0,none⟩) g.ins.length e0,.slice (some ⟨t,0,none⟩) L.length e1,.slice (some ⟨gm,0,none⟩) g.shown.length em] 30)) hfW hfS.wins.row
   rw[hll]at HC
   have HLLS:Hid ((L'.map (·.l)).length=L.length):=hll
   have HL'L:Hid (L'.length=L.length):=hlS
   clear hll
   go_wp2_with fail
   generalize ((w3.setCell ⟨t,k,none⟩ (.slice va rr.length vc)).alloc (.cells #[.slice (some ⟨b,0,none⟩) g.ins.length e0,.slice (some ⟨t,0,none⟩) L.length e1,.slice (some ⟨gm,0,none⟩) g.shown.length em] 30))=WS at *
   refine HC.mono ?_
   rintro e w4 ⟨hE,b4⟩
   clear HC p0 p1 p2 f0 f1 f2 q3 hfzT tP tF
   have z4:=b4.size
   have B4:Below w.heap.size w w4:=BS.trans (b4.mono BS.size)
   have hf4:=hfS.below b4
   have tO4:=tO.keep b4
   replace tR:=tR.keep b4
   replace y0:=ae b4 (by omega) y0
   replace y1:=ae b4 (by omega) y1
   replace fy0:=(b4.frozen (p:=⟨w.heap.size+1+1+1,0,none⟩) (by simp only;omega)).trans fy0
   replace fy1:=(b4.frozen (p:=⟨w.heap.size+1+1+1,1,none⟩) (by simp only;omega)).trans fy1
   clear x0 x1 x2 fx0 fx1 fx2
   obtain⟨x0,x1,x2,fx0,fx1,fx2⟩:=id tR
   obtain⟨u0,u1,u2,ug0,ug1,ug2⟩:=id tO4
   rcases hE with⟨gp,cp,out,rfl,hbest,hgp,hnb⟩|⟨rfl,hbest⟩
   rotate_left
   ·have HCO:Hid (jJ (L'.map (·.l)) g.shown g.shown [] [] 0):=⟨[],false,hbest,.inl ⟨rfl,rfl,rfl,rfl,rfl⟩⟩
    clear hbest
    go_wp2_with fail
    obtain⟨w9,h9⟩:∃w9,(((((w4.setCell ⟨w.heap.size+1+1,0,none⟩ (.slice (some ⟨b,0,none⟩) g.ins.length e0)).setCell ⟨w.heap.size+1+1,1,none⟩ (.slice (some ⟨t,0,none⟩) L.length e1)).setCell ⟨w.heap.size+1+1,2,none⟩ (.slice (some ⟨gm,0,none⟩) g.shown.length em)).setCell ⟨w.heap.size+1+1+1,0,none⟩ (.slice none 0 0)).setCell ⟨w.heap.size+1+1+1,1,none⟩ (.slice none 0 0))=w9:=⟨_,rfl⟩
    have sp:aJ (w.heap.size+2) (w.heap.size+4) w4 w9:=by rw[<- h9];exact(((((aJ.refl _ _ _).setCell (by omega) (by omega) _ _).setCell (by omega) (by omega) _ _).setCell (by omega) (by omega) _ _).setCell (by omega) (by omega) _ _).setCell (by omega) (by omega) _ _
    have B9:Below w.heap.size w w9:=by rw[<- h9];exact((((B4.setCell (by simp only;omega) _).setCell (by simp only;omega) _).setCell (by simp only;omega) _).setCell (by simp only;omega) _).setCell (by simp only;omega) _
    have n0:w9.cell? ⟨w.heap.size+1+1,0,none⟩=some (.slice (some ⟨b,0,none⟩) g.ins.length e0):=by rw[<- h9];simp[go_sem,x0]
    have n1:w9.cell? ⟨w.heap.size+1+1,1,none⟩=some (.slice (some ⟨t,0,none⟩) L.length e1):=by rw[<- h9];simp[go_sem,x1]
    have n2:w9.cell? ⟨w.heap.size+1+1,2,none⟩=some (.slice (some ⟨gm,0,none⟩) g.shown.length em):=by rw[<- h9];simp[go_sem,x2]
    have n3:w9.cell? ⟨w.heap.size+1+1+1,0,none⟩=some (.slice none 0 0):=by rw[<- h9];simp[go_sem,y0]
    have n4:w9.cell? ⟨w.heap.size+1+1+1,1,none⟩=some (.slice none 0 0):=by rw[<- h9];simp[go_sem,y1]
    have z9:=sp.size
    rw[h9]
    clear h9
    have hf9:=((hf4).span sp (.inr (Nat.le_refl _))).widen (show w.heap.size<=w.heap.size+4 by omega) (show w3.heap.size<=w9.heap.size by omega)
    exact bodyPost_ret (v:=.tuple #[.agg #[.slice (some ⟨b,0,none⟩) g.ins.length e0,.slice (some ⟨t,0,none⟩) L.length e1,.slice (some ⟨gm,0,none⟩) g.shown.length em],.agg #[.slice none 0 0,.slice none 0 0],.int .i64 0]) (by simp[results,Tryz.results68,go_sem,n0,n1,n2,n3,n4]) rfl ⟨⟨⟨g.ins,g.wins.set ((k:Nat):Int).toNat rr,g.shown⟩,L',[],[],0,_,_,_,none,none,_,_,_,0,0,(by rw[hlS];rfl),.inr ⟨HIN.out,rr,0,HP.out,.inr (.inr ⟨rfl,g.shown,by rw[<- HLS.out];exact HCO.out,rfl⟩)⟩,HLS.out,.inr ⟨b,t,rfl,rfl,hf9.togz⟩,.inl rfl,.inl rfl,HCAP.out,hf9.room⟩,B9⟩
   ·have HB:Hid (fC (L'.map (·.l)) out true):=hbest
    have HCH:Hid (oQ (L'.map (·.l)) out):=Af hbest
    clear hbest
    have hol:out.length<=6:=by have:=HCH.out.2.1;omega
    have HC:=EU (some ⟨t,0,none⟩) (some ⟨gp,0,none⟩) e1 cp (L'.map (·.l)) out w4 hfW hf4.wins.row (by unfold maxLen;omega) hnb.row
    rw[HLLS.out]at HC
    go_wp2_with fail
    refine HC.mono ?_
    rintro e w5 ⟨⟨v5,j,okj,rfl,hg5,hj⟩,b5⟩
    obtain⟨ja,cj,rfl,hsj⟩:=hg5.safe
    have HJ:Hid (qf (L'.map (·.l)) out j okj):=hj
    have hjs:=hj.stamp
    have hjf:=dH hjs
    have hfs:=dH hn.shown
    clear hj HC
    have z5:=b5.size
    have B5:Below w.heap.size w w5:=B4.trans (b5.mono B4.size)
    have hf5:=hf4.below b5
    have tO5:=tO4.keep b5
    have hnb5:=hnb.below b5
    replace tR:=tR.keep b5
    replace y0:=ae b5 (by omega) y0
    replace y1:=ae b5 (by omega) y1
    replace fy0:=(b5.frozen (p:=⟨w.heap.size+1+1+1,0,none⟩) (by simp only;omega)).trans fy0
    replace fy1:=(b5.frozen (p:=⟨w.heap.size+1+1+1,1,none⟩) (by simp only;omega)).trans fy1
    clear x0 x1 x2 fx0 fx1 fx2
    obtain⟨x0,x1,x2,fx0,fx1,fx2⟩:=id tR
    clear u0 u1 u2 ug0 ug1 ug2
    obtain⟨u0,u1,u2,ug0,ug1,ug2⟩:=id tO5
    cases okj with
    |false=>
     have HCO:Hid (jJ (L'.map (·.l)) g.shown g.shown [] [] 4):=⟨out,true,HB.out,.inr ⟨rfl,j,false,HJ.out,.inl ⟨rfl,rfl,rfl,rfl,rfl⟩⟩⟩
     go_wp2_with fail
     obtain⟨w9,h9⟩:∃w9,(((((w5.setCell ⟨w.heap.size+1+1,0,none⟩ (.slice (some ⟨b,0,none⟩) g.ins.length e0)).setCell ⟨w.heap.size+1+1,1,none⟩ (.slice (some ⟨t,0,none⟩) L.length e1)).setCell ⟨w.heap.size+1+1,2,none⟩ (.slice (some ⟨gm,0,none⟩) g.shown.length em)).setCell ⟨w.heap.size+1+1+1,0,none⟩ (.slice none 0 0)).setCell ⟨w.heap.size+1+1+1,1,none⟩ (.slice none 0 0))=w9:=⟨_,rfl⟩
     have sp:aJ (w.heap.size+2) (w.heap.size+4) w5 w9:=by rw[<- h9];exact(((((aJ.refl _ _ _).setCell (by omega) (by omega) _ _).setCell (by omega) (by omega) _ _).setCell (by omega) (by omega) _ _).setCell (by omega) (by omega) _ _).setCell (by omega) (by omega) _ _
     have B9:Below w.heap.size w w9:=by rw[<- h9];exact((((B5.setCell (by simp only;omega) _).setCell (by simp only;omega) _).setCell (by simp only;omega) _).setCell (by simp only;omega) _).setCell (by simp only;omega) _
     have n0:w9.cell? ⟨w.heap.size+1+1,0,none⟩=some (.slice (some ⟨b,0,none⟩) g.ins.length e0):=by rw[<- h9];simp[go_sem,x0]
     have n1:w9.cell? ⟨w.heap.size+1+1,1,none⟩=some (.slice (some ⟨t,0,none⟩) L.length e1):=by rw[<- h9];simp[go_sem,x1]
     have n2:w9.cell? ⟨w.heap.size+1+1,2,none⟩=some (.slice (some ⟨gm,0,none⟩) g.shown.length em):=by rw[<- h9];simp[go_sem,x2]
     have n3:w9.cell? ⟨w.heap.size+1+1+1,0,none⟩=some (.slice none 0 0):=by rw[<- h9];simp[go_sem,y0]
     have n4:w9.cell? ⟨w.heap.size+1+1+1,1,none⟩=some (.slice none 0 0):=by rw[<- h9];simp[go_sem,y1]
     have z9:=sp.size
     rw[h9]
     clear h9
     have hf9:=((hf5).span sp (.inr (Nat.le_refl _))).widen (show w.heap.size<=w.heap.size+4 by omega) (show w3.heap.size<=w9.heap.size by omega)
     exact bodyPost_ret (v:=.tuple #[.agg #[.slice (some ⟨b,0,none⟩) g.ins.length e0,.slice (some ⟨t,0,none⟩) L.length e1,.slice (some ⟨gm,0,none⟩) g.shown.length em],.agg #[.slice none 0 0,.slice none 0 0],.int .i64 4]) (by simp[results,Tryz.results68,go_sem,n0,n1,n2,n3,n4]) rfl ⟨⟨⟨g.ins,g.wins.set ((k:Nat):Int).toNat rr,g.shown⟩,L',[],[],4,_,_,_,none,none,_,_,_,0,0,(by rw[hlS];rfl),.inr ⟨HIN.out,rr,0,HP.out,.inr (.inr ⟨rfl,g.shown,by rw[<- HLS.out];exact HCO.out,rfl⟩)⟩,HLS.out,.inr ⟨b,t,rfl,rfl,hf9.togz⟩,.inl rfl,.inl rfl,HCAP.out,hf9.room⟩,B9⟩
    |true=>
     go_wp2_with fail
     refine(pG (some ⟨gm,0,none⟩) ja em cj g.shown j _ hfs.1 hjf.1 hf5.stamp.row hsj.row hfs.2 hjf.2).mono ?_
     rintro e w6 ⟨⟨o,rfl,ho⟩,b6⟩
     have HO:Hid (kC g.shown j o):=ho
     clear ho
     have z6:=b6.size
     have B6:Below w.heap.size w w6:=B5.trans (b6.mono B5.size)
     have hf6:=hf5.below b6
     have tO6:=tO5.keep b6
     have hnb6:=hnb5.below b6
     have hsj6:=hsj.below b6
     replace tR:=tR.keep b6
     replace y0:=ae b6 (by omega) y0
     replace y1:=ae b6 (by omega) y1
     replace fy0:=(b6.frozen (p:=⟨w.heap.size+1+1+1,0,none⟩) (by simp only;omega)).trans fy0
     replace fy1:=(b6.frozen (p:=⟨w.heap.size+1+1+1,1,none⟩) (by simp only;omega)).trans fy1
     clear x0 x1 x2 fx0 fx1 fx2
     obtain⟨x0,x1,x2,fx0,fx1,fx2⟩:=id tR
     clear u0 u1 u2 ug0 ug1 ug2
     obtain⟨u0,u1,u2,ug0,ug1,ug2⟩:=id tO6
     by_cases ho1:o=1
     ·subst ho1
      go_wp2_with fail
      refine(eQ ja cj j _ hsj6.row (by have:=hjs.1;omega)).mono ?_
      rintro e w7 ⟨⟨g7,c7,rfl,hg7,hc7,ho7⟩,b7⟩
      have z7:=b7.size
      have B7:Below w.heap.size w w7:=B6.trans (b7.mono B6.size)
      have bX:Below w7.heap.size w7 (w7.alloc (.cells #[.slice none 0 0,.slice (some ⟨g7,0,none⟩) j.length c7] 73)):=(Below.refl _ _).alloc (Nat.le_refl _) _
      have b7X:=b7.trans (bX.mono b7.size)
      have hf7:=hf6.below b7X
      have tO7:=tO6.keep b7X
      have hnb7:=hnb6.below b7X
      have hsj7:=hsj6.below b7X
      have hg7l:g7<w7.heap.size:=ho7.lt
      replace ho7:=ho7.below bX
      have h0:(w7.alloc (.cells #[.slice none 0 0,.slice (some ⟨g7,0,none⟩) j.length c7] 73)).cell? ⟨w7.heap.size,0,none⟩=some (.slice none 0 0):=by simp[go_sem]
      have h1:(w7.alloc (.cells #[.slice none 0 0,.slice (some ⟨g7,0,none⟩) j.length c7] 73)).cell? ⟨w7.heap.size,1,none⟩=some (.slice (some ⟨g7,0,none⟩) j.length c7):=by simp[go_sem]
      have h0f:(w7.alloc (.cells #[.slice none 0 0,.slice (some ⟨g7,0,none⟩) j.length c7] 73)).frozen? ⟨w7.heap.size,0,none⟩=false:=by simp[go_sem]
      have BX:Below w.heap.size w _:=B7.trans (bX.mono B7.size)
      have zX:(w7.alloc (.cells #[.slice none 0 0,.slice (some ⟨g7,0,none⟩) j.length c7] 73)).heap.size=w7.heap.size+1:=by simp
      replace tR:=tR.keep b7X
      replace y0:=ae b7X (by omega) y0
      replace y1:=ae b7X (by omega) y1
      replace fy0:=(b7X.frozen (p:=⟨w.heap.size+1+1+1,0,none⟩) (by simp only;omega)).trans fy0
      replace fy1:=(b7X.frozen (p:=⟨w.heap.size+1+1+1,1,none⟩) (by simp only;omega)).trans fy1
      clear x0 x1 x2 fx0 fx1 fx2 u0 u1 u2 ug0 ug1 ug2 bX b7X
      go_wp2_with fail
      generalize w7.alloc (.cells #[.slice none 0 0,.slice (some ⟨g7,0,none⟩) j.length c7] 73)=WX at *
      have hws:∃ws,ws=L'.map (·.l):=⟨_,rfl⟩
      obtain⟨ws,HWS'⟩:=hws
      have HWS:Hid (ws=L'.map (·.l)):=HWS'
      rw[<- HWS']at HB HJ HCH
      clear HWS'
      have hgp3:w3.heap.size<gp:=by omega
      have hgp7:gp<w7.heap.size:=by have:=hnb6.lt;omega
      have hgnum:gp≠w7.heap.size:=by omega
      have HZX:Hid (WX.heap.size=w7.heap.size+1):=zX
      clear zX
      go_loopw [15] (fun i wr=>∃(k2:Nat) (v:Value),k2<=out.length/\i=.int .i64 k2/\wr.cell? ⟨w7.heap.size,0,none⟩=some v/\wr.frozen? ⟨w7.heap.size,0,none⟩=false/\wr.cell? ⟨w7.heap.size,1,none⟩=some (.slice (some ⟨g7,0,none⟩) j.length c7)/\dZ wr WX.heap.size v ((bZ ws out).take k2)/\aJ w7.heap.size (w7.heap.size+1) WX wr) (fun i _=>out.length-(intOf i).toNat)
      case atStart=>exact⟨0,_,Nat.zero_le _,rfl,h0,h0f,h1,(show dZ WX WX.heap.size (.slice none 0 0) ((bZ ws out).take 0)from by rw[List.take_zero];exact World.ownsRow_nil _ _ _ _),aJ.refl _ _ _⟩
      case round=>
       obtain⟨k2,v,hk2,rfl,h0r,h0fr,h1r,hgn,hsp⟩:=hrel
       have zX:=HZX.out
       have zr:=hsp.size
       by_cases hlt2:k2<out.length
       ·have hkL':k2<L'.length:=by have:=HCH.out.2.1;rw[HWS.out,List.length_map]at this;omega
        have hpk:=HCH.out.2.2.1.2 k2 hlt2
        rw[HWS.out,ig _ _ (by rw[List.length_map];exact hkL'),List.getElem_map]at hpk
        obtain⟨q,hq⟩:∃q:Nat,out[k2]=(q:Int):=⟨out[k2].toNat,by omega⟩
        have hqL:q<L'[k2].l.length:=by omega
        have hfr:=hf7.span hsp (.inl (by omega))
        have ct:=hfr.wins.cell k2 hkL'
        obtain⟨pa2,pc2,pv2,_,hsi⟩:=hfr.wins.at_ _ (List.getElem_mem hkL')
        obtain⟨bi,oi,rfl,hbi,ci,_⟩:=hsi.row q hqL
        rw[pv2]at ct
        have cg:wr.cell? ⟨gp,k2,none⟩=some (.int .i64 q):=by
         rw[World.cell?_of_block (hsp.block gp hnb7.lt (by omega)),hnb7.cell hlt2,hq]
        have co:wr.cell? ⟨w3.heap.size,1,none⟩=some (.slice (some ⟨t,0,none⟩) L.length e1):=by
         rw[World.cell?_of_block (hsp.block w3.heap.size (by omega) (by omega))];exact tO7.c1
        have HV:Hid (MM ws out k2=L'[k2].l[q].1):=by
         unfold Hid MM
         have e1:(L'.map (·.l)).getD k2 []=L'[k2].l:=by rw[ig _ _ (by rw[List.length_map];exact hkL'),List.getElem_map]
         have e2:out.getD k2 0=(q:Int):=by rw[ig _ _ hlt2,hq]
         rw[HWS.out,e1,e2,Int.toNat_natCast,ig _ _ hqL]
        have HT:Hid ((bZ ws out).take (k2+1)=(bZ ws out).take k2++[L'[k2].l[q].1]):=by unfold Hid;rw[xP hlt2,HV.out]
        have htl2:((bZ ws out).take k2).length=k2:=by rw[List.length_take,gX];omega
        have n0:(0:Int)<=(k2:Int):=by omega
        have n1:(k2:Int)<(out.length:Int):=by omega
        have n2:(k2:Int)<(L.length:Int):=by have:=HL'L.out;omega
        have n3:(0:Int)<=(q:Int):=by omega
        have n4:(q:Int)<(L'[k2].l.length:Int):=by omega
        have htl3:=hfr.wins.lt
        have ht3:t<w3.heap.size:=hfr.tin.2
        have hbi3:bi<w3.heap.size:=by
         have hin:=hfr.wins.in_ _ (List.getElem_mem hkL')
         rcases hsi with e|⟨g',e,_,h2,_⟩
         ·rw[e]at hqL;simp at hqL
         ·have:bi=g':=congrArg Addr.block (Option.some.inj e)
          omega
        have hl8:((bZ ws out).take (k2+1)).length=k2+1:=by rw[List.length_take,gX];omega
        clear hq hpk pv2 hsi hfr
        generalize L'[k2].l[q].1=vv at *
        go_wp2_with fail
        have hbd7:Below wr.heap.size wr wr.drew:=(Below.refl _ _).drew
        have hgpr:gp<wr.heap.size:=by omega
        have HSB:Hid (∀u:World,Below wr.heap.size wr u->u.cell? ⟨w3.heap.size,1,none⟩=some (.slice (some ⟨t,0,none⟩) L.length e1)/\u.cell? ⟨t,k2,none⟩=some (.slice (some ⟨bi,oi,none⟩) L'[k2].l.length pc2)/\u.cell? ⟨gp,k2,none⟩=some (.int .i64 q)/\u.cell? ⟨bi,oi+q*2,none⟩=some (.int .i64 vv)):=fun u hu=>⟨ae hu (by omega) co,ae hu htl3 ct,ae hu hgpr cg,ae hu hbi ci⟩
        have SW:=HSB.out _ hbd7
        have h0d:wr.drew.cell? ⟨w7.heap.size,0,none⟩=some v:=h0r
        refine wp_region_held_drew (S:=fun u=>u.cell? ⟨w3.heap.size,1,none⟩=some (.slice (some ⟨t,0,none⟩) L.length e1)/\u.cell? ⟨t,k2,none⟩=some (.slice (some ⟨bi,oi,none⟩) L'[k2].l.length pc2)/\u.cell? ⟨gp,k2,none⟩=some (.int .i64 q)/\u.cell? ⟨bi,oi+q*2,none⟩=some (.int .i64 vv)) (by kernel_rfl) SW (fun _=>?_)
        generalize wr.drew=WD at *
        refine wpAnyH_take (i:=0) (v:=.pointer (some ⟨w7.heap.size,0,none⟩)) rfl (by kernel_rfl) (by kernel_rfl) (by kernel_rfl) (fun _ _ _ h=>h) (Or.inl ⟨by rfl, ?_⟩) SW ?_
        ·rintro u ⟨p1,p2,p3,p4⟩
         go_simp
        simp only[Act.put,List.setIfInBounds_toArray]
        refine wpAnyH_take (i:=2) (v:=.pointer (some ⟨w3.heap.size,1,none⟩)) rfl (by kernel_rfl) (by kernel_rfl) (by kernel_rfl) (fun _ _ _ h=>h) (Or.inl ⟨by rfl, ?_⟩) SW ?_
        ·rintro u ⟨p1,p2,p3,p4⟩
         go_simp
        simp only[Act.put]
        refine wpAnyH_take (i:=3) (v:=.slice (some ⟨t,0,none⟩) L.length e1) rfl (by kernel_rfl) (by kernel_rfl) (by kernel_rfl) (fun _ _ _ h=>h) (Or.inl ⟨by rfl, ?_⟩) SW ?_
        ·rintro u ⟨p1,p2,p3,p4⟩
         go_simp
        simp only[Act.put]
        refine wpAnyH_take (i:=4) (v:=.int .i64 k2) rfl (by kernel_rfl) (by kernel_rfl) (by kernel_rfl) (fun _ _ _ h=>h) (Or.inl ⟨by rfl, ?_⟩) SW ?_
        ·rintro u ⟨p1,p2,p3,p4⟩
         go_simp
        simp only[Act.put]
        refine wpAnyH_take (i:=5) (v:=.pointer (some ⟨t,k2,none⟩)) rfl (by kernel_rfl) (by kernel_rfl) (by kernel_rfl) (fun _ _ _ h=>h) (Or.inl ⟨by rfl, ?_⟩) SW ?_
        ·rintro u ⟨p1,p2,p3,p4⟩
         go_simp
        simp only[Act.put]
        refine wpAnyH_take (i:=6) (v:=.slice (some ⟨bi,oi,none⟩) L'[k2].l.length pc2) rfl (by kernel_rfl) (by kernel_rfl) (by kernel_rfl) (fun _ _ _ h=>h) (Or.inl ⟨by rfl, ?_⟩) SW ?_
        ·rintro u ⟨p1,p2,p3,p4⟩
         go_simp
        simp only[Act.put]
        refine wpAnyH_take (i:=7) (v:=.slice (some ⟨gp,0,none⟩) out.length cp) rfl (by kernel_rfl) (by kernel_rfl) (by kernel_rfl) (fun _ _ _ h=>h) (Or.inl ⟨by rfl, ?_⟩) SW ?_
        ·rintro u ⟨p1,p2,p3,p4⟩
         go_simp
        simp only[Act.put]
        refine wpAnyH_take (i:=8) (v:=.int .i64 k2) rfl (by kernel_rfl) (by kernel_rfl) (by kernel_rfl) (fun _ _ _ h=>h) (Or.inl ⟨by rfl, ?_⟩) SW ?_
        ·rintro u ⟨p1,p2,p3,p4⟩
         go_simp
        simp only[Act.put]
        refine wpAnyH_take (i:=9) (v:=.pointer (some ⟨gp,k2,none⟩)) rfl (by kernel_rfl) (by kernel_rfl) (by kernel_rfl) (fun _ _ _ h=>h) (Or.inl ⟨by rfl, ?_⟩) SW ?_
        ·rintro u ⟨p1,p2,p3,p4⟩
         go_simp
        simp only[Act.put]
        refine wpAnyH_take (i:=10) (v:=.int .i64 q) rfl (by kernel_rfl) (by kernel_rfl) (by kernel_rfl) (fun _ _ _ h=>h) (Or.inl ⟨by rfl, ?_⟩) SW ?_
        ·rintro u ⟨p1,p2,p3,p4⟩
         go_simp
        simp only[Act.put]
        refine wpAnyH_take (i:=11) (v:=.pointer (some ⟨bi,oi+q*2,none⟩)) rfl (by kernel_rfl) (by kernel_rfl) (by kernel_rfl) (fun _ _ _ h=>h) (Or.inl ⟨by rfl, ?_⟩) SW ?_
        ·rintro u ⟨p1,p2,p3,p4⟩
         go_simp
        simp only[Act.put]
        refine wpAnyH_take (i:=12) (v:=.pointer (some ⟨bi,oi+q*2,none⟩)) rfl (by kernel_rfl) (by kernel_rfl) (by kernel_rfl) (fun _ _ _ h=>h) (Or.inl ⟨by rfl, ?_⟩) SW ?_
        ·rintro u ⟨p1,p2,p3,p4⟩
         go_simp
        simp only[Act.put]
        refine wpAnyH_take (i:=13) (v:=.int .i64 vv) rfl (by kernel_rfl) (by kernel_rfl) (by kernel_rfl) (fun _ _ _ h=>h) (Or.inl ⟨by rfl, ?_⟩) SW ?_
        ·rintro u ⟨p1,p2,p3,p4⟩
         go_simp
        simp only[Act.put]
        have bA:Below wr.heap.size wr (WD.alloc (.cells #[.int .i64 vv] 3)):=hbd7.alloc hbd7.size _
        have SA:=HSB.out _ bA
        have h0A:=ae bA (by omega) h0r
        refine wpAnyH_ready (rs:=[1,14]) (by kernel_rfl) (by simp) ?_
        refine AllReadyH.cons rfl (fun K hK=>?_) (AllReadyH.cons rfl (fun K hK=>?_) AllReadyH.nil)
        rw[if_pos (by rfl)]
        go_simp
        refine hK.out _ _ SW (fun _=>?_)
        clear hK K
        refine wpAnyH_ready (rs:=[14]) (by kernel_rfl) (by simp) ?_
        refine AllReadyH.cons rfl (fun K hK=>?_) AllReadyH.nil
        rw[if_pos (by rfl)]
        go_simp
        refine hK.out _ _ SA (fun _=>?_)
        clear hK K
        rotate_left
        rw[if_pos (by rfl)]
        go_simp
        refine hK.out _ _ SA (fun _=>?_)
        clear hK K
        refine wpAnyH_ready (rs:=[1]) (by kernel_rfl) (by simp) ?_
        refine AllReadyH.cons rfl (fun K hK=>?_) AllReadyH.nil
        rw[if_pos (by rfl)]
        go_simp
        refine hK.out _ _ SA (fun _=>?_)
        clear hK K
        all_goals
         refine wpAnyH_ready (rs:=[15]) (by kernel_rfl) (by simp) ?_
         refine AllReadyH.cons rfl (fun K hK=>?_) AllReadyH.nil
         rw[if_pos (by rfl)]
         refine yE _ _ rfl WX.heap.size v ((bZ ws out).take k2) rfl (dh (show World.ownsRow _ _ _ _ _ _ _ from hgn) bA) (by have:=bA.size;omega) WD.heap.size vv rfl (by simp[go_sem]) (by omega) ?_
         intro v' w8 hgn8 hgr8
         rw[<- HT.out]at hgn8
         have hne8:∀b',b'<WX.heap.size->some b'≠v.ownBlock:=fun b' hb' e=>by have:=aT (show World.ownsRow _ _ _ _ _ _ _ from hgn) b' e.symm;omega
         have hk8:∀b' o' v',b'<WX.heap.size->wr.cell? ⟨b',o',none⟩=some v'->w8.cell? ⟨b',o',none⟩=some v':=fun b' o' v' hb' hv'=>dn hgr8 (hne8 b' hb') (ae bA (block_lt_of_cell hv') hv')
         have S8:(fun u:World=>u.cell? ⟨w3.heap.size,1,none⟩=some (.slice (some ⟨t,0,none⟩) L.length e1)/\u.cell? ⟨t,k2,none⟩=some (.slice (some ⟨bi,oi,none⟩) L'[k2].l.length pc2)/\u.cell? ⟨gp,k2,none⟩=some (.int .i64 q)/\u.cell? ⟨bi,oi+q*2,none⟩=some (.int .i64 vv)) w8:=⟨hk8 _ _ _ (by omega) co,hk8 _ _ _ (by omega) ct,hk8 _ _ _ (by omega) cg,hk8 _ _ _ (by omega) ci⟩
         have c08:=hk8 _ _ _ (by omega) h0r
         have c18:=hk8 _ _ _ (by omega) h1r
         have f08:w8.frozen? ⟨w7.heap.size,0,none⟩=false:=(hgr8.frozen_far ⟨w7.heap.size,0,none⟩ (by have:=bA.size;simp only;omega) (hne8 w7.heap.size (by omega))).trans ((bA.frozen (p:=⟨w7.heap.size,0,none⟩) (by simp only;omega)).trans h0fr)
         have z8:=hgr8.size
         have zA:=bA.size
         obtain⟨va',vc',rfl⟩:∃a c,v'=.slice a (k2+1) c:=by
          rcases(show World.ownsRow _ _ _ _ _ _ _ from hgn8).2 with⟨_,e⟩|⟨g',cap',cur',e,_⟩
          ·omega
          ·exact⟨_,_,by rw[e,hl8]⟩
         have hsp8:aJ w7.heap.size (w7.heap.size+1) WX w8:=⟨hgr8.os.trans (bA.os.trans hsp.os),hgr8.tape.trans (bA.tape.trans hsp.tape),hgr8.output.trans (bA.output.trans hsp.output),by omega,fun b' hb' hn=>(hgr8.block b' (by omega) (hne8 b' hb')).trans ((bA.block b' (by omega)).trans (hsp.block b' hb' hn))⟩
         refine hK.out _ _ S8 (fun _=>?_)
         clear hK K
         refine wpAnyH_ready (rs:=[16]) (by kernel_rfl) (by simp) ?_
         refine AllReadyH.cons rfl (fun K hK=>?_) AllReadyH.nil
         rw[if_pos (by rfl)]
         go_simp
         refine hK.out _ _ S8 (fun _=>?_)
         clear hK K
         have S9:(fun u:World=>u.cell? ⟨w3.heap.size,1,none⟩=some (.slice (some ⟨t,0,none⟩) L.length e1)/\u.cell? ⟨t,k2,none⟩=some (.slice (some ⟨bi,oi,none⟩) L'[k2].l.length pc2)/\u.cell? ⟨gp,k2,none⟩=some (.int .i64 q)/\u.cell? ⟨bi,oi+q*2,none⟩=some (.int .i64 vv)) (w8.setCell ⟨w7.heap.size,0,none⟩ (.slice va' (k2+1) vc')):=⟨(aV _ _ _ _ (by omega)).trans S8.1,(aV _ _ _ _ (by omega)).trans S8.2.1,(aV _ _ _ _ (by omega)).trans S8.2.2.1,(aV _ _ _ _ (by omega)).trans S8.2.2.2⟩
         refine wpAnyH_ready (rs:=[17]) (by kernel_rfl) (by simp) ?_
         refine AllReadyH.cons rfl (fun K hK=>?_) AllReadyH.nil
         rw[if_pos (by rfl)]
         go_simp
         refine hK.out _ _ S9 (fun _=>?_)
         clear hK K
         refine wpAnyH_done (by kernel_rfl) ?_ _
         go_wp2_with fail
         refine⟨⟨k2+1,_,by omega,by go_num,World.cell?_setCell_same' _ _ _ (by rw[c08];rfl),(World.frozen?_setCell _ _ _ _).trans f08, ?_,own_ne (show World.ownsRow _ _ _ _ _ _ _ from hgn8) (fun e=>by have:=aT (show World.ownsRow _ _ _ _ _ _ _ from hgn8) _ e;omega) _ _,hsp8.setCell (Nat.le_refl _) (Nat.lt_succ_self _) _ _⟩,by simp[intOf];omega⟩
         simp[go_sem,c18]
       ·obtain rfl:k2=out.length:=by omega
        have hve:(bZ ws out).take out.length=bZ ws out:=List.take_of_length_le (by rw[gX];exact Nat.le_refl _)
        rw[hve]at hgn
        have hfr:=hf7.span hsp (.inl (by omega))
        have hsjr:=hsj7.span hsp (.inl (by omega))
        have hor:Own wr g7 j:=by obtain⟨mm,f,h7',hf'⟩:=id ho7;exact⟨mm,f,h7'.of_block (hsp.block g7 (by omega) (by omega)),hf'⟩
        have tOr:=tO7.span hsp (.inl (by omega))
        have tRr:=tR.span hsp (.inl (by omega))
        have y0r:wr.cell? ⟨w.heap.size+1+1+1,0,none⟩=some (.slice none 0 0):=by rw[World.cell?_of_block (hsp.block (w.heap.size+1+1+1) (by omega) (by omega))];exact y0
        have y1r:wr.cell? ⟨w.heap.size+1+1+1,1,none⟩=some (.slice none 0 0):=by rw[World.cell?_of_block (hsp.block (w.heap.size+1+1+1) (by omega) (by omega))];exact y1
        have fy0r:wr.frozen? ⟨w.heap.size+1+1+1,0,none⟩=false:=by rw[World.frozen?_of_block (hsp.block (w.heap.size+1+1+1) (by omega) (by omega))];exact fy0
        have fy1r:wr.frozen? ⟨w.heap.size+1+1+1,1,none⟩=false:=by rw[World.frozen?_of_block (hsp.block (w.heap.size+1+1+1) (by omega) (by omega))];exact fy1
        have Br:Below w.heap.size w wr:=BX.trans (hsp.below (by omega) (by have:=BX.size;omega))
        obtain⟨u0,u1,u2,ug0,ug1,ug2⟩:=id tOr
        clear hve
        have hvl:(bZ ws out).length=out.length:=gX ws out
        have hop:0<out.length:=by have:=HCH.out.2.1;have:=HCH.out.1.1;omega
        obtain⟨gv,cv,rfl,hgv,hnv⟩:∃gv cv,v=.slice (some ⟨gv,0,none⟩) out.length cv/\WX.heap.size<=gv/\gZ wr gv (bZ ws out):=by
         rcases(show World.ownsRow _ _ _ _ _ _ _ from hgn).2 with⟨_,e⟩|⟨g',cap',cur',e,_⟩
         ·omega
         ·rw[hvl]at e
          subst e
          exact⟨g',cap',rfl,hgn.block.1,hgn.block.2⟩
        have HVL:Hid ((bZ ws out).length=out.length):=hvl
        clear hvl
        go_wp2_with fail
        refine(eQ ja cj j _ hsjr.row (by have:=hjs.1;omega)).mono ?_
        rintro e w8 ⟨⟨g8,c8,rfl,hg8,hc8,ho8⟩,b8⟩
        have z8:=b8.size
        have z7r:w7.heap.size<wr.heap.size:=by omega
        have e0':=ae b8 z7r h0r
        have e1':=ae b8 z7r h1r
        have tO8:=tOr.keep b8
        have tR8:=tRr.keep b8
        have y08:=ae b8 (by omega) y0r
        have y18:=ae b8 (by omega) y1r
        have fy08:=(b8.frozen (p:=⟨w.heap.size+1+1+1,0,none⟩) (by simp only;omega)).trans fy0r
        have fy18:=(b8.frozen (p:=⟨w.heap.size+1+1+1,1,none⟩) (by simp only;omega)).trans fy1r
        have hf8:=hfr.below b8
        have hn8:=hnv.below b8
        have ho78:=hor.below b8
        have B8:Below w.heap.size w w8:=Br.trans (b8.mono Br.size)
        have ne37:w7.heap.size≠w3.heap.size:=by omega
        clear u0 u1 u2 ug0 ug1 ug2
        obtain⟨u0,u1,u2,ug0,ug1,ug2⟩:=id tO8
        have spX:aJ w3.heap.size (w3.heap.size+1) w8 (w8.setCell ⟨w3.heap.size,2,none⟩ (.slice (some ⟨g8,0,none⟩) j.length c8)):=(aJ.refl _ _ _).setCell (Nat.le_refl _) (Nat.lt_succ_self _) _ _
        have BX8:Below w.heap.size w (w8.setCell ⟨w3.heap.size,2,none⟩ (.slice (some ⟨g8,0,none⟩) j.length c8)):=B8.setCell (p:=⟨w3.heap.size,2,none⟩) (by simp only;omega) _
        have tRX:=tR8.span spX (.inl (by omega))
        have y0X:(w8.setCell ⟨w3.heap.size,2,none⟩ (.slice (some ⟨g8,0,none⟩) j.length c8)).cell? ⟨w.heap.size+1+1+1,0,none⟩=some (.slice none 0 0):=by rw[World.cell?_of_block (spX.block (w.heap.size+1+1+1) (by omega) (by omega))];exact y08
        have y1X:(w8.setCell ⟨w3.heap.size,2,none⟩ (.slice (some ⟨g8,0,none⟩) j.length c8)).cell? ⟨w.heap.size+1+1+1,1,none⟩=some (.slice none 0 0):=by rw[World.cell?_of_block (spX.block (w.heap.size+1+1+1) (by omega) (by omega))];exact y18
        have fy0X:(w8.setCell ⟨w3.heap.size,2,none⟩ (.slice (some ⟨g8,0,none⟩) j.length c8)).frozen? ⟨w.heap.size+1+1+1,0,none⟩=false:=by rw[World.frozen?_of_block (spX.block (w.heap.size+1+1+1) (by omega) (by omega))];exact fy08
        have fy1X:(w8.setCell ⟨w3.heap.size,2,none⟩ (.slice (some ⟨g8,0,none⟩) j.length c8)).frozen? ⟨w.heap.size+1+1+1,1,none⟩=false:=by rw[World.frozen?_of_block (spX.block (w.heap.size+1+1+1) (by omega) (by omega))];exact fy18
        have tOX:=tO8.set2c (.slice (some ⟨g8,0,none⟩) j.length c8)
        have e0X:(w8.setCell ⟨w3.heap.size,2,none⟩ (.slice (some ⟨g8,0,none⟩) j.length c8)).cell? ⟨w7.heap.size,0,none⟩=some (.slice (some ⟨gv,0,none⟩) out.length cv):=by rw[World.cell?_of_block (spX.block w7.heap.size (by omega) (by omega))];exact e0'
        have e1X:(w8.setCell ⟨w3.heap.size,2,none⟩ (.slice (some ⟨g8,0,none⟩) j.length c8)).cell? ⟨w7.heap.size,1,none⟩=some (.slice (some ⟨g7,0,none⟩) j.length c7):=by rw[World.cell?_of_block (spX.block w7.heap.size (by omega) (by omega))];exact e1'
        have hfX:=hf8.span spX (.inl (Nat.le_refl _))
        have hnX:gZ (w8.setCell ⟨w3.heap.size,2,none⟩ (.slice (some ⟨g8,0,none⟩) j.length c8)) gv (bZ ws out):=by obtain⟨mm,f,h7',hf'⟩:=id hn8;exact⟨mm,f,h7'.of_block (spX.block gv hn8.lt (by omega)),hf'⟩
        have h7X:Own (w8.setCell ⟨w3.heap.size,2,none⟩ (.slice (some ⟨g8,0,none⟩) j.length c8)) g7 j:=by obtain⟨mm,f,h7',hf'⟩:=id ho78;exact⟨mm,f,h7'.of_block (spX.block g7 ho78.lt (by omega)),hf'⟩
        have h8X:Own (w8.setCell ⟨w3.heap.size,2,none⟩ (.slice (some ⟨g8,0,none⟩) j.length c8)) g8 j:=by obtain⟨mm,f,h7',hf'⟩:=id ho8;exact⟨mm,f,h7'.of_block (spX.block g8 ho8.lt (by omega)),hf'⟩
        have zXX:(w8.setCell ⟨w3.heap.size,2,none⟩ (.slice (some ⟨g8,0,none⟩) j.length c8)).heap.size=w8.heap.size:=by simp
        have hg8l:=ho8.lt
        have hgvl:=hn8.lt
        obtain⟨uu0,uu1,uu2,_,_,_⟩:=id tOX
        obtain⟨x0,x1,x2,fx0,fx1,fx2⟩:=id tRX
        clear y0 y1
        have y0:=y0X
        have y1:=y1X
        go_wp2_with fail
        generalize hXX:(w8.setCell ⟨w3.heap.size,2,none⟩ (.slice (some ⟨g8,0,none⟩) j.length c8))=XX at *
        clear hXX
        have hbd9:Below XX.heap.size XX XX.drew:=(Below.refl _ _).drew
        have l3:w3.heap.size<XX.heap.size:=block_lt_of_cell uu0
        have l7:w7.heap.size<XX.heap.size:=block_lt_of_cell e0X
        have HSB:Hid (∀u:World,u.heap[w3.heap.size]?=XX.heap[w3.heap.size]?->u.heap[w7.heap.size]?=XX.heap[w7.heap.size]?->u.cell? ⟨w3.heap.size,0,none⟩=some (.slice (some ⟨b,0,none⟩) g.ins.length e0)/\u.cell? ⟨w3.heap.size,1,none⟩=some (.slice (some ⟨t,0,none⟩) L.length e1)/\u.cell? ⟨w3.heap.size,2,none⟩=some (.slice (some ⟨g8,0,none⟩) j.length c8)/\u.cell? ⟨w7.heap.size,0,none⟩=some (.slice (some ⟨gv,0,none⟩) out.length cv)/\u.cell? ⟨w7.heap.size,1,none⟩=some (.slice (some ⟨g7,0,none⟩) j.length c7)):=fun u h3 h7=>⟨(World.cell?_of_block h3).trans uu0,(World.cell?_of_block h3).trans uu1,(World.cell?_of_block h3).trans uu2,(World.cell?_of_block h7).trans e0X,(World.cell?_of_block h7).trans e1X⟩
        have SW:(fun u:World=>u.cell? ⟨w3.heap.size,0,none⟩=some (.slice (some ⟨b,0,none⟩) g.ins.length e0)/\u.cell? ⟨w3.heap.size,1,none⟩=some (.slice (some ⟨t,0,none⟩) L.length e1)/\u.cell? ⟨w3.heap.size,2,none⟩=some (.slice (some ⟨g8,0,none⟩) j.length c8)/\u.cell? ⟨w7.heap.size,0,none⟩=some (.slice (some ⟨gv,0,none⟩) out.length cv)/\u.cell? ⟨w7.heap.size,1,none⟩=some (.slice (some ⟨g7,0,none⟩) j.length c7)) XX.drew:=HSB.out _ (hbd9.block _ l3) (hbd9.block _ l7)
        refine wp_region_held_drew (S:=fun u=>u.cell? ⟨w3.heap.size,0,none⟩=some (.slice (some ⟨b,0,none⟩) g.ins.length e0)/\u.cell? ⟨w3.heap.size,1,none⟩=some (.slice (some ⟨t,0,none⟩) L.length e1)/\u.cell? ⟨w3.heap.size,2,none⟩=some (.slice (some ⟨g8,0,none⟩) j.length c8)/\u.cell? ⟨w7.heap.size,0,none⟩=some (.slice (some ⟨gv,0,none⟩) out.length cv)/\u.cell? ⟨w7.heap.size,1,none⟩=some (.slice (some ⟨g7,0,none⟩) j.length c7)) (by kernel_rfl) SW (fun _=>?_)
        have x0d:XX.drew.cell? ⟨w.heap.size+1+1,0,none⟩=some (.slice none 0 0):=x0
        have x1d:XX.drew.cell? ⟨w.heap.size+1+1,1,none⟩=some (.slice none 0 0):=x1
        have x2d:XX.drew.cell? ⟨w.heap.size+1+1,2,none⟩=some (.slice none 0 0):=x2
        have y0d:XX.drew.cell? ⟨w.heap.size+1+1+1,0,none⟩=some (.slice none 0 0):=y0
        have y1d:XX.drew.cell? ⟨w.heap.size+1+1+1,1,none⟩=some (.slice none 0 0):=y1
        have fx0d:XX.drew.frozen? ⟨w.heap.size+1+1,0,none⟩=false:=fx0
        have fx1d:XX.drew.frozen? ⟨w.heap.size+1+1,1,none⟩=false:=fx1
        have fx2d:XX.drew.frozen? ⟨w.heap.size+1+1,2,none⟩=false:=fx2
        have fy0d:XX.drew.frozen? ⟨w.heap.size+1+1+1,0,none⟩=false:=fy0X
        have fy1d:XX.drew.frozen? ⟨w.heap.size+1+1+1,1,none⟩=false:=fy1X
        generalize XX.drew=D9 at *
        refine wpAnyH_take (i:=0) (v:=.agg #[.slice (some ⟨b,0,none⟩) g.ins.length e0,.slice (some ⟨t,0,none⟩) L.length e1,.slice (some ⟨g8,0,none⟩) j.length c8]) rfl (by kernel_rfl) (by kernel_rfl) (by kernel_rfl) (fun _ _ _ h=>h) (Or.inl ⟨by rfl, ?_⟩) SW ?_
        ·rintro u ⟨p1,p2,p3,p4,p5⟩
         go_simp
        simp only[Act.put,List.setIfInBounds_toArray]
        refine wpAnyH_take (i:=1) (v:=.agg #[.slice (some ⟨gv,0,none⟩) out.length cv,.slice (some ⟨g7,0,none⟩) j.length c7]) rfl (by kernel_rfl) (by kernel_rfl) (by kernel_rfl) (fun _ _ _ h=>h) (Or.inl ⟨by rfl, ?_⟩) SW ?_
        ·rintro u ⟨p1,p2,p3,p4,p5⟩
         go_simp
        simp only[Act.put]
        refine wpAnyH_ready (rs:=[2]) (by kernel_rfl) (by simp) ?_
        refine AllReadyH.cons rfl (fun K hK=>?_) AllReadyH.nil
        rw[if_pos (by rfl)]
        go_simp
        obtain⟨w91,h91⟩:∃w91,((D9.setCell ⟨w.heap.size+1+1,0,none⟩ (.slice (some ⟨b,0,none⟩) g.ins.length e0)).setCell ⟨w.heap.size+1+1,1,none⟩ (.slice (some ⟨t,0,none⟩) L.length e1)).setCell ⟨w.heap.size+1+1,2,none⟩ (.slice (some ⟨g8,0,none⟩) j.length c8)=w91:=⟨_,rfl⟩
        have sp1:aJ (w.heap.size+2) (w.heap.size+4) D9 w91:=by rw[<- h91];exact(((aJ.refl _ _ _).setCell (by omega) (by omega) _ _).setCell (by omega) (by omega) _ _).setCell (by omega) (by omega) _ _
        have m0':w91.cell? ⟨w.heap.size+1+1,0,none⟩=some (.slice (some ⟨b,0,none⟩) g.ins.length e0):=by rw[<- h91];simp[go_sem,x0d]
        have m1':w91.cell? ⟨w.heap.size+1+1,1,none⟩=some (.slice (some ⟨t,0,none⟩) L.length e1):=by rw[<- h91];simp[go_sem,x1d]
        have m2':w91.cell? ⟨w.heap.size+1+1,2,none⟩=some (.slice (some ⟨g8,0,none⟩) j.length c8):=by rw[<- h91];simp[go_sem,x2d]
        have m3':w91.cell? ⟨w.heap.size+1+1+1,0,none⟩=some (.slice none 0 0):=by rw[<- h91];simp[go_sem,y0d]
        have m4':w91.cell? ⟨w.heap.size+1+1+1,1,none⟩=some (.slice none 0 0):=by rw[<- h91];simp[go_sem,y1d]
        have k3':w91.frozen? ⟨w.heap.size+1+1+1,0,none⟩=false:=by rw[<- h91];simp[go_sem,fy0d]
        have k4':w91.frozen? ⟨w.heap.size+1+1+1,1,none⟩=false:=by rw[<- h91];simp[go_sem,fy1d]
        have zd9:=hbd9.size
        have S91:(fun u:World=>u.cell? ⟨w3.heap.size,0,none⟩=some (.slice (some ⟨b,0,none⟩) g.ins.length e0)/\u.cell? ⟨w3.heap.size,1,none⟩=some (.slice (some ⟨t,0,none⟩) L.length e1)/\u.cell? ⟨w3.heap.size,2,none⟩=some (.slice (some ⟨g8,0,none⟩) j.length c8)/\u.cell? ⟨w7.heap.size,0,none⟩=some (.slice (some ⟨gv,0,none⟩) out.length cv)/\u.cell? ⟨w7.heap.size,1,none⟩=some (.slice (some ⟨g7,0,none⟩) j.length c7)) w91:=HSB.out _ ((sp1.block _ (by omega) (by omega)).trans (hbd9.block _ l3)) ((sp1.block _ (by omega) (by omega)).trans (hbd9.block _ l7))
        rw[h91]
        clear h91
        refine hK.out _ _ S91 (fun _=>?_)
        clear hK K SW
        refine wpAnyH_ready (rs:=[3]) (by kernel_rfl) (by simp) ?_
        refine AllReadyH.cons rfl (fun K hK=>?_) AllReadyH.nil
        rw[if_pos (by rfl)]
        go_simp
        obtain⟨w9,h9⟩:∃w9,(w91.setCell ⟨w.heap.size+1+1+1,0,none⟩ (.slice (some ⟨gv,0,none⟩) out.length cv)).setCell ⟨w.heap.size+1+1+1,1,none⟩ (.slice (some ⟨g7,0,none⟩) j.length c7)=w9:=⟨_,rfl⟩
        have sp9:aJ (w.heap.size+2) (w.heap.size+4) D9 w9:=by rw[<- h9];exact(sp1.setCell (by omega) (by omega) _ _).setCell (by omega) (by omega) _ _
        have n0:w9.cell? ⟨w.heap.size+1+1,0,none⟩=some (.slice (some ⟨b,0,none⟩) g.ins.length e0):=by rw[<- h9];simp[go_sem,m0']
        have n1:w9.cell? ⟨w.heap.size+1+1,1,none⟩=some (.slice (some ⟨t,0,none⟩) L.length e1):=by rw[<- h9];simp[go_sem,m1']
        have n2:w9.cell? ⟨w.heap.size+1+1,2,none⟩=some (.slice (some ⟨g8,0,none⟩) j.length c8):=by rw[<- h9];simp[go_sem,m2']
        have n3:w9.cell? ⟨w.heap.size+1+1+1,0,none⟩=some (.slice (some ⟨gv,0,none⟩) out.length cv):=by rw[<- h9];simp[go_sem,m3']
        have n4:w9.cell? ⟨w.heap.size+1+1+1,1,none⟩=some (.slice (some ⟨g7,0,none⟩) j.length c7):=by rw[<- h9];simp[go_sem,m4']
        have sp:aJ (w.heap.size+2) (w.heap.size+4) XX w9:=⟨sp9.os.trans hbd9.os,sp9.tape.trans hbd9.tape,sp9.output.trans hbd9.output,Nat.le_trans hbd9.size sp9.size,fun k hk hn=>(sp9.block k (Nat.lt_of_lt_of_le hk hbd9.size) hn).trans (hbd9.block k hk)⟩
        have S92:(fun u:World=>u.cell? ⟨w3.heap.size,0,none⟩=some (.slice (some ⟨b,0,none⟩) g.ins.length e0)/\u.cell? ⟨w3.heap.size,1,none⟩=some (.slice (some ⟨t,0,none⟩) L.length e1)/\u.cell? ⟨w3.heap.size,2,none⟩=some (.slice (some ⟨g8,0,none⟩) j.length c8)/\u.cell? ⟨w7.heap.size,0,none⟩=some (.slice (some ⟨gv,0,none⟩) out.length cv)/\u.cell? ⟨w7.heap.size,1,none⟩=some (.slice (some ⟨g7,0,none⟩) j.length c7)) w9:=HSB.out _ (sp.block _ l3 (by omega)) (sp.block _ l7 (by omega))
        rw[h9]
        clear h9 m0' m1' m2' m3' m4' k3' k4' sp1
        refine hK.out _ _ S92 (fun _=>?_)
        clear hK K S91
        refine wpAnyH_ready (rs:=[4]) (by kernel_rfl) (by simp) ?_
        refine AllReadyH.cons rfl (fun K hK=>?_) AllReadyH.nil
        rw[if_pos (by rfl)]
        go_simp
        refine hK.out _ _ S92 (fun _=>?_)
        clear hK K
        refine wpAnyH_done (by kernel_rfl) ?_ _
        have B9:Below w.heap.size w w9:=BX8.trans (sp.below (by omega) BX8.size)
        have z9:=sp.size
        clear S92 HSB
        have hfull9:=(hfX.span sp (.inr (by omega))).widen (show w.heap.size<=w.heap.size+4 by omega) (show w3.heap.size<=w9.heap.size by omega)
        have h89:Own w9 g8 j:=by obtain⟨mm,f,h7',hf'⟩:=id h8X;exact⟨mm,f,h7'.of_block (sp.block g8 h8X.lt (by omega)),hf'⟩
        have h79:Own w9 g7 j:=by obtain⟨mm,f,h7',hf'⟩:=id h7X;exact⟨mm,f,h7'.of_block (sp.block g7 h7X.lt (by omega)),hf'⟩
        have hn9:gZ w9 gv (bZ ws out):=by obtain⟨mm,f,h7',hf'⟩:=id hnX;exact⟨mm,f,h7'.of_block (sp.block gv hnX.lt (by omega)),hf'⟩
        have hnew:gz w9 w.heap.size w9.heap.size b t (some ⟨g8,0,none⟩) g.ins L' j:=by
         have hbin:=hfX.bin
         have htin:=hfX.tin
         exact⟨hfull9.names,hfull9.wins,hfull9.bt,hfull9.bin,hfull9.tin,hfull9.bfar,.inr ⟨g8,rfl,by omega,h89.lt,by omega,by omega,h89,fun p hp=>.inr (by have:=(hfX.wins.in_ p hp).2.2;omega)⟩⟩
        have HCO:Hid (jJ (L'.map (·.l)) g.shown j (bZ ws out) j 1):=by rw[<- HWS.out];exact⟨out,true,HB.out,.inr ⟨rfl,j,true,HJ.out,.inr ⟨rfl,1,HO.out,.inr ⟨rfl,rfl,rfl,rfl,rfl⟩⟩⟩⟩
        go_wp2_with fail
        exact bodyPost_ret (v:=.tuple #[.agg #[.slice (some ⟨b,0,none⟩) g.ins.length e0,.slice (some ⟨t,0,none⟩) L.length e1,.slice (some ⟨g8,0,none⟩) j.length c8],.agg #[.slice (some ⟨gv,0,none⟩) out.length cv,.slice (some ⟨g7,0,none⟩) j.length c7],.int .i64 1]) (by simp[results,Tryz.results68,go_sem,n0,n1,n2,n3,n4]) rfl ⟨⟨⟨g.ins,g.wins.set ((k:Nat):Int).toNat rr,j⟩,L',bZ ws out,j,1,_,_,_,_,_,_,_,_,_,_,(by rw[HVL.out,HL'L.out]),.inr ⟨HIN.out,rr,0,HP.out,.inr (.inr ⟨rfl,j,by rw[<- HLS.out];exact HCO.out,rfl⟩)⟩,HLS.out,.inr ⟨b,t,rfl,rfl,hnew⟩,.inr ⟨gv,rfl,by omega,hn9.lt,hn9⟩,.inr ⟨g7,rfl,by omega,h79.lt,h79⟩,HCAP.out,hfull9.room⟩,B9⟩
     ·have HCO:Hid (jJ (L'.map (·.l)) g.shown g.shown [] [] 0):=⟨out,true,HB.out,.inr ⟨rfl,j,true,HJ.out,.inr ⟨rfl,o,HO.out,.inl ⟨ho1,rfl,rfl,rfl,rfl⟩⟩⟩⟩
      go_wp2_with fail
      obtain⟨w9,h9⟩:∃w9,(((((w6.setCell ⟨w.heap.size+1+1,0,none⟩ (.slice (some ⟨b,0,none⟩) g.ins.length e0)).setCell ⟨w.heap.size+1+1,1,none⟩ (.slice (some ⟨t,0,none⟩) L.length e1)).setCell ⟨w.heap.size+1+1,2,none⟩ (.slice (some ⟨gm,0,none⟩) g.shown.length em)).setCell ⟨w.heap.size+1+1+1,0,none⟩ (.slice none 0 0)).setCell ⟨w.heap.size+1+1+1,1,none⟩ (.slice none 0 0))=w9:=⟨_,rfl⟩
      have sp:aJ (w.heap.size+2) (w.heap.size+4) w6 w9:=by rw[<- h9];exact(((((aJ.refl _ _ _).setCell (by omega) (by omega) _ _).setCell (by omega) (by omega) _ _).setCell (by omega) (by omega) _ _).setCell (by omega) (by omega) _ _).setCell (by omega) (by omega) _ _
      have B9:Below w.heap.size w w9:=by rw[<- h9];exact((((B6.setCell (by simp only;omega) _).setCell (by simp only;omega) _).setCell (by simp only;omega) _).setCell (by simp only;omega) _).setCell (by simp only;omega) _
      have n0:w9.cell? ⟨w.heap.size+1+1,0,none⟩=some (.slice (some ⟨b,0,none⟩) g.ins.length e0):=by rw[<- h9];simp[go_sem,x0]
      have n1:w9.cell? ⟨w.heap.size+1+1,1,none⟩=some (.slice (some ⟨t,0,none⟩) L.length e1):=by rw[<- h9];simp[go_sem,x1]
      have n2:w9.cell? ⟨w.heap.size+1+1,2,none⟩=some (.slice (some ⟨gm,0,none⟩) g.shown.length em):=by rw[<- h9];simp[go_sem,x2]
      have n3:w9.cell? ⟨w.heap.size+1+1+1,0,none⟩=some (.slice none 0 0):=by rw[<- h9];simp[go_sem,y0]
      have n4:w9.cell? ⟨w.heap.size+1+1+1,1,none⟩=some (.slice none 0 0):=by rw[<- h9];simp[go_sem,y1]
      have z9:=sp.size
      rw[h9]
      clear h9
      have hf9:=((hf6).span sp (.inr (Nat.le_refl _))).widen (show w.heap.size<=w.heap.size+4 by omega) (show w3.heap.size<=w9.heap.size by omega)
      exact bodyPost_ret (v:=.tuple #[.agg #[.slice (some ⟨b,0,none⟩) g.ins.length e0,.slice (some ⟨t,0,none⟩) L.length e1,.slice (some ⟨gm,0,none⟩) g.shown.length em],.agg #[.slice none 0 0,.slice none 0 0],.int .i64 0]) (by simp[results,Tryz.results68,go_sem,n0,n1,n2,n3,n4]) rfl ⟨⟨⟨g.ins,g.wins.set ((k:Nat):Int).toNat rr,g.shown⟩,L',[],[],0,_,_,_,none,none,_,_,_,0,0,(by rw[hlS];rfl),.inr ⟨HIN.out,rr,0,HP.out,.inr (.inr ⟨rfl,g.shown,by rw[<- HLS.out];exact HCO.out,rfl⟩)⟩,HLS.out,.inr ⟨b,t,rfl,rfl,hf9.togz⟩,.inl rfl,.inl rfl,HCAP.out,hf9.room⟩,B9⟩
 ·have HNI:Hid (¬DR g i):=fun h=>hin ⟨HR.out.2 h.1,h.2⟩
  obtain⟨p0,p1,p2,_,_,_⟩:=id tP
  obtain⟨f0,f1,f2,_,_,_⟩:=id tF
  cases r with
  |false=>
   go_wp2_with fail
   exact bodyPost_ret (v:=.tuple #[.agg #[.slice none 0 0,.slice none 0 0,.slice none 0 0],.agg #[.slice none 0 0,.slice none 0 0],.int .i64 2]) (by simp[results,Tryz.results68,go_sem,x0,x1,x2,y0,y1]) rfl (HBAD.out _ B1 (.inl HNI.out))
  |true=>
   by_cases hi0:i<0
   ·go_wp2_with fail
    exact bodyPost_ret (v:=.tuple #[.agg #[.slice none 0 0,.slice none 0 0,.slice none 0 0],.agg #[.slice none 0 0,.slice none 0 0],.int .i64 2]) (by simp[results,Tryz.results68,go_sem,x0,x1,x2,y0,y1]) rfl (HBAD.out _ B1 (.inl HNI.out))
   ·have hi1:¬i<(g.ins.length:Int):=fun h=>hin ⟨rfl,by omega,h⟩
    go_wp2_with fail
    exact bodyPost_ret (v:=.tuple #[.agg #[.slice none 0 0,.slice none 0 0,.slice none 0 0],.agg #[.slice none 0 0,.slice none 0 0],.int .i64 2]) (by simp[results,Tryz.results68,go_sem,x0,x1,x2,y0,y1]) rfl (HBAD.out _ B1 (.inl HNI.out))
end Go.Proofs.YtpfhegengmlkmabGreatDoor
