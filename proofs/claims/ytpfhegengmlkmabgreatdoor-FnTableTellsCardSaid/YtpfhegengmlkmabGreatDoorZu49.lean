/- Texts of this claim. -/
import Derived.Test.YtpfhegengmlkmabGreatDoorZu39
namespace Go.Proofs.YtpfhegengmlkmabGreatDoor
open Go.RowKit Go.BigFrame
set_option maxRecDepth 100000
theorem Tryz.infoSh:(Tryz.prog.info? 73).map (fun i=>(i.zero,i.size,i.bytes))=some (some (.agg #[.slice none 0 0,.slice none 0 0]),2,48):=by kernel_rfl
set_option maxHeartbeats 12800000 in
theorem Aj (a0 am:Option Addr)(c0 cm:Nat)(ins:List ByteArray)(fs:List fQ)(w:World)(hl:ins.length<=1048576)(hc:ins.length<=c0)(hc2:c0<=maxLen)(hr:dQ w a0 ins)(hs:∀j,(h:j<ins.length)->ins[j].size<=maxLen)(hff:Nk fs)(hrf:IX w am fs)(het:AB w) :
  Calls Tryz.prog 10 #[.slice a0 ins.length c0,.slice am fs.length cm] w fun e w'=>NG true w w' ins fs e/\Below w.heap.size w w':=by
 have hfl:=hff.1
 unfold maxLen at hfl
 obtain⟨iz,hiz,hy0,hy1,hy2⟩:=info_parts Tryz.infoZ
 obtain⟨ih,hih,hh0,hh1,hh2⟩:=info_parts Tryz.infoSh
 go_enter Tryz.func10,Tryz.ntmps10
 go_wp2_with fail
 refine(xU a0 c0 ins _ hl hc hc2 hr hs).mono ?_
 rintro e w1 ⟨hE,b1⟩
 have z1:=b1.size
 rcases hE.start with⟨s0,e0,s1,e1,s2,e2,Lw,rfl,hN,hmap,hsg,hcap⟩|⟨rfl,hN⟩
 ·have HN:Hid (MV ins ins true):=hN
  clear hE hN
  have bA:Below w1.heap.size w1 (w1.alloc (.cells #[.slice s0 ins.length e0,.slice s1 Lw.length e1,.slice s2 0 e2] 30)):=(Below.refl _ _).alloc (Nat.le_refl _) _
  have tA:=aQ w1 (.slice s0 ins.length e0) (.slice s1 Lw.length e1) (.slice s2 0 e2) 30
  have zA:(w1.alloc (.cells #[.slice s0 ins.length e0,.slice s1 Lw.length e1,.slice s2 0 e2] 30)).heap.size=w1.heap.size+1:=by simp
  have BA:Below w.heap.size w (w1.alloc (.cells #[.slice s0 ins.length e0,.slice s1 Lw.length e1,.slice s2 0 e2] 30)):=b1.trans (bA.mono z1)
  by_cases h60:60<fs.length
  ·go_wp2_with fail
   exact bodyPost_ret (v:=.tuple #[.slice none 0 0,.slice none 0 0]) (by simp[results,Tryz.results10,go_sem]) rfl ⟨⟨[],[],none,none,0,0,rfl,⟨ins,true,HN.out,.inr ⟨.inr h60,rfl,rfl⟩⟩,⟨.inl rfl,.inl rfl⟩,fun _ p hp=>by simp at hp,Nat.le_refl _,Nat.le_refl _⟩,BA⟩
  ·have hW0:mZ (w1.heap.size+1) (w1.alloc (.cells #[.slice s0 ins.length e0,.slice s1 Lw.length e1,.slice s2 0 e2] 30)) w1.heap.size w.heap.size w1.heap.size (bJ ins) Lw s0 s1 s2 e0 e1 e2 (.slice none 0 0) (.slice none 0 0) [] []:=
    { tG:=tA,map:=hmap,nice:=yN HN.out,sg:=hsg.below bA,glt:=by omega,gbox:=.inr (Nat.le_refl _),bB:=Nat.lt_succ_self _,BU:=by omega,osh:=World.ownsRow_nil _ _ _ _,oco:=World.ownsRow_nil _ _ _ _,at_:=(fun p hp=>by simp at hp),dis:=List.Pairwise.nil,sfar:=(fun p hp=>by simp at hp),cfar:=(fun p hp=>by simp at hp),sgf:=(fun k e=>by cases e),cgf:=(fun k e=>by cases e) }
   have hB1:w.heap.size<=w1.heap.size+1:=by omega
   clear tA hsg bA zA hmap
   go_wp2_with fail
   generalize w1.alloc (.cells #[.slice s0 ins.length e0,.slice s1 Lw.length e1,.slice s2 0 e2] 30)=WA at *
   generalize w1.heap.size=bG at *
   go_loopw [8,9,29] (fun vs vc i wr=>∃(k glo ghi:Nat) (g:aB) (Lw:List aS) (a0 a1 a2:Option Addr) (d0 d1 d2:Nat) (L:List jO) (cs:List Int),k<=fs.length/\i=.int .i64 k/\mZ (bG+1) wr bG glo ghi g Lw a0 a1 a2 d0 d1 d2 vs vc L cs/\(g.ins.length<=d0/\d0<=maxLen)/\Hid (gJ (bJ ins) (fs.take k) g (L.map (·.sv)) cs)/\(∀p∈L,p.mid<=p.mi2)/\Below w.heap.size w wr) (fun _ _ i _=>fs.length-(intOf i).toNat)
   case atStart=>exact⟨0,w.heap.size,bG,bJ ins,Lw,s0,s1,s2,e0,e1,e2,[],[],Nat.zero_le _,rfl,hW0,hcap,gJ.nil,fun p hp=>by simp at hp,BA⟩
   case round=>
    clear hW0 BA hcap
    obtain⟨k,glo,ghi,g,Lw',p0,p1,p2,d0,d1,d2,L,cs,hk,rfl,hW,hcap,HP,hmid,hb⟩:=hrel
    by_cases hlt:k<fs.length
    ·obtain⟨bf,of,rfl,hbf,q0,q1,vq,q2,⟨fa,fc,rfl,hfc,hrow⟩⟩:=(hrf.below hb) k hlt
     have k0:(0:Int)<=(k:Int):=by omega
     have k1:(k:Int)<(fs.length:Int):=by omega
     have hfk:=hff.2 k hlt
     have bF:Below wr.heap.size wr (wr.alloc (.cells #[.int .i64 fs[k].1,.int .i64 fs[k].2.1,.slice fa fs[k].2.2.length fc] 36)):=(Below.refl _ _).alloc (Nat.le_refl _) _
     have hWf:=hW.keep bF
     obtain⟨t0,t1,t2,_,_,_⟩:=id hWf.tG
     have hbl:bG<wr.heap.size:=block_lt_of_cell hW.tG.c0
     obtain⟨hLl,r0,r1,r2⟩:=hWf.rows
     have hcall:=wo p0 p1 p2 fa d0 d1 d2 fc g fs[k].1 fs[k].2.1 fs[k].2.2 _ hW.nice.fit (by have:=hW.nice.ins;omega) hcap.1 hcap.2 r0 r1 r2 hfk hfc (hrow.below bF) (het.below (hb.trans (bF.mono hb.size)))
     rw[<- hLl]at hcall
     have HCALL:Hid _:=hcall
     have hbF:=hb.trans (bF.mono hb.size)
     have zF:=bF.size
     clear hcall r0 r1 r2 hLl bF hrow hW
     have HCS:Hid (cs.length=k/\L.length<=k):=by
      unfold Hid
      have h:=HP.out.nice (yN HN.out)
      have e:(fs.take k).length=k:=by rw[List.length_take];omega
      have h3:=h.2.2.1
      have h4:=h.2.2.2
      rw[List.length_map]at h4
      omega
     go_wp2_with fail
     refine Calls.mono HCALL.out ?_
     rintro e w2 ⟨hG,b2⟩
     obtain⟨R,rfl,et1,et2,hI⟩:=hG.cal
     generalize wr.alloc (.cells #[.int .i64 fs[k].1,.int .i64 fs[k].2.1,.slice fa fs[k].2.2.length fc] 36)=wf at *
     have hW2:=hWf.keep b2
     have z2:=b2.size
     have B2:Below w.heap.size w w2:=hbF.trans (b2.mono hbF.size)
     have hcb:∀j,u9.ownBlock=some j->j<R.tl:=fun j e=>by rw[et1];exact((show World.ownsRow _ _ _ _ _ _ _ from hWf.oco).lt j e).2
     have hsb:∀j,u8.ownBlock=some j->j<R.tl:=fun j e=>by rw[et1];exact(hWf.osh.lt j e).2
     have hLt:∀p∈L,p.hi<=R.tl:=fun p hp=>by rw[et1];exact(hWf.at_ p hp).1.o3
     have hBt:bG+1<=R.tl:=by rw[et1];exact hWf.BU
     have bX:Below w2.heap.size w2 ((w2.alloc (.cells #[.slice R.s0 R.g.ins.length R.d0,.slice R.s1 R.L.length R.d1,.slice R.s2 R.g.shown.length R.d2] 30)).alloc (.cells #[.slice R.s3 R.sv.length R.d3,.slice R.s4 R.ss.length R.d4] 73)):=((Below.refl _ _).alloc (Nat.le_refl _) _).alloc (by simp) _
     have tT:iy ((w2.alloc (.cells #[.slice R.s0 R.g.ins.length R.d0,.slice R.s1 R.L.length R.d1,.slice R.s2 R.g.shown.length R.d2] 30)).alloc (.cells #[.slice R.s3 R.sv.length R.d3,.slice R.s4 R.ss.length R.d4] 73)) w2.heap.size (.slice R.s0 R.g.ins.length R.d0) (.slice R.s1 R.L.length R.d1) (.slice R.s2 R.g.shown.length R.d2):=by constructor <;> simp[go_sem]
     have dS:Duo ((w2.alloc (.cells #[.slice R.s0 R.g.ins.length R.d0,.slice R.s1 R.L.length R.d1,.slice R.s2 R.g.shown.length R.d2] 30)).alloc (.cells #[.slice R.s3 R.sv.length R.d3,.slice R.s4 R.ss.length R.d4] 73)) (w2.heap.size+1) (.slice R.s3 R.sv.length R.d3) (.slice R.s4 R.ss.length R.d4):=by constructor <;> simp[go_sem]
     have zX:((w2.alloc (.cells #[.slice R.s0 R.g.ins.length R.d0,.slice R.s1 R.L.length R.d1,.slice R.s2 R.g.shown.length R.d2] 30)).alloc (.cells #[.slice R.s3 R.sv.length R.d3,.slice R.s4 R.ss.length R.d4] 73)).heap.size=w2.heap.size+1+1:=by simp
     have hWX:=hW2.keep bX
     have hIX:=hI.below bX
     have BX:=B2.trans (bX.mono B2.size)
     have HPUT:Hid (mi g fs[k].1 fs[k].2.1 fs[k].2.2 R.g R.sv R.ss R.code):=hI.put
     clear hW2 hI bX hG hWf t0 t1 t2 HCALL
     go_wp2_with (at_builtin;refine gG ?_)
     generalize (w2.alloc (.cells #[.slice R.s0 R.g.ins.length R.d0,.slice R.s1 R.L.length R.d1,.slice R.s2 R.g.shown.length R.d2] 30)).alloc (.cells #[.slice R.s3 R.sv.length R.d3,.slice R.s4 R.ss.length R.d4] 73)=WX at *
     have bN:Below WX.heap.size WX (WX.alloc (.cells #[.int .i64 R.code] 3)):=(Below.refl _ _).alloc (Nat.le_refl _) _
     have hWN:=hWX.keep bN
     have hIN:=hIX.below bN
     have tTN:=tT.keep bN
     have dSN:=dS.keep bN
     have BN:=BX.trans (bN.mono BX.size)
     have zN:(WX.alloc (.cells #[.int .i64 R.code] 3)).heap.size=WX.heap.size+1:=by simp
     have hnew:=fA WX (.int .i64 R.code) 3
     rw[zX]at hnew
     clear hWX hIX tT dS BX bN
     unfold Hid
     generalize WX.alloc (.cells #[.int .i64 R.code] 3)=WN at *
     refine wpList_append_lies _ rfl _ _ 41 rfl (bG+1) 3 iz (.int .i64 0) 1 8 Tryz.underlying41 hiz hy0 hy1 hy2 rfl (by decide) _ _ _ rfl hWN.oco ⟨w2.heap.size+1+1,0,none⟩ 1 1 [.int .i64 R.code] rfl rfl hnew (by simp[Value.oneCell']) (by decide) (by have:=HCS.out;unfold maxLen;omega) (by have:=HCS.out;omega) hWN.BU _ rfl ?_
     intro g5 cap5 w5 hown5 hgr5 hloc5 _
     have hW5:=hWN.code hown5 hgr5 hloc5
     have hth:R.th<=WN.heap.size:=by omega
     have hI5:=hIN.grown hgr5 (fun j e=>.inl (hcb j e))
     have tT5:=tTN.grownO hgr5 (fun j e=>by have:=hcb j e;have:=hIN.o1;have:=hIN.o2;have:=hIN.o3;omega)
     have dS5:=dSN.grown hgr5 (fun j e=>by have:=hcb j e;have:=hIN.o1;have:=hIN.o2;have:=hIN.o3;omega)
     have B5:Below w.heap.size w w5:=zI BN BN.size hgr5 (fun j e=>by have:=aT (show World.ownsRow _ _ _ _ _ _ _ from hWN.oco) j e;omega)
     have z5:=hgr5.size
     have hc5:∀j,(Value.slice (some ⟨g5,0,none⟩) (cs.length+1) cap5).ownBlock=some j->j<R.tl∨R.th<=j:=fun j e=>by
      obtain rfl:g5=j:=by simpa[Value.ownBlock]using e
      rcases hloc5 with e|e
      ·exact .inl (hcb _ e)
      ·exact .inr (by omega)
     clear hWN hIN tTN dSN BN hgr5 hnew hown5 hloc5
     have hnice:=HPUT.out.nice.1
     have htake:fs.take (k+1)=fs.take k++[fs[k]]:=List.take_succ_eq_append_getElem hlt
     have hsnoc:=gJ.snoc (f:=fs[k]) HP.out HPUT.out
     rw[<- htake]at hsnoc
     have o1:=hI5.o1
     have o2:=hI5.o2
     have o3:=hI5.o3
     have o4:=hI5.o4
     by_cases h2:R.code=2
     ·rw[if_pos h2,if_neg (by omega)]at hsnoc
      have HA:Hid (gJ (bJ ins) (fs.take (k+1)) g (L.map (·.sv)) (cs++[R.code])):=hsnoc
      clear hsnoc htake tT5 dS5 hI5 o1 o2 o3 o4
      go_wp2_with fail
      exact⟨⟨k+1,glo,ghi,g,Lw',p0,p1,p2,d0,d1,d2,L,cs++[R.code],by omega,by go_num,hW5,hcap,HA,hmid,B5⟩,by simp[intOf];omega⟩
     ·have hW6:=hW5.put (d0':=R.d0) (d1':=R.d1) (d2':=R.d2) hI5.map hnice hI5.sg (by omega) (.inl (by omega)) (fun j e=>.inl (hsb j e)) (fun j e=>by have:=hc5 j e;omega)
      have sp6:aJ bG (bG+1) w5 (((w5.setCell ⟨bG,0,none⟩ (.slice R.s0 R.g.ins.length R.d0)).setCell ⟨bG,1,none⟩ (.slice R.s1 R.L.length R.d1)).setCell ⟨bG,2,none⟩ (.slice R.s2 R.g.shown.length R.d2)):=(((aJ.refl _ _ _).setCell (Nat.le_refl _) (Nat.lt_succ_self _) _ _).setCell (Nat.le_refl _) (Nat.lt_succ_self _) _ _).setCell (Nat.le_refl _) (Nat.lt_succ_self _) _ _
      have hI6:=hI5.span sp6 (by omega)
      have dS6:=dS5.span sp6 (by omega)
      have z6:(((w5.setCell ⟨bG,0,none⟩ (.slice R.s0 R.g.ins.length R.d0)).setCell ⟨bG,1,none⟩ (.slice R.s1 R.L.length R.d1)).setCell ⟨bG,2,none⟩ (.slice R.s2 R.g.shown.length R.d2)).heap.size=w5.heap.size:=by simp
      have B6:=B5.trans (sp6.below (show w.heap.size<=bG by omega) B5.size)
      obtain⟨y0,y1,y2,y3,y4,y5⟩:=id hW5.tG
      obtain⟨t0,t1,t2,_,_,_⟩:=id tT5
      obtain⟨v0,v1,_,_⟩:=id dS6
      have hcap6:=hI5.cap
      by_cases h1:R.code=1
      ·rw[if_neg h2,if_pos h1]at hsnoc
       have HB:Hid (gJ (bJ ins) (fs.take (k+1)) R.g (L.map (·.sv)++[(R.sv,R.ss)]) (cs++[R.code])):=hsnoc
       clear hsnoc htake hI5 dS5 hW5 B5
       go_wp2_with (at_builtin;refine gG ?_)
       generalize ((w5.setCell ⟨bG,0,none⟩ (.slice R.s0 R.g.ins.length R.d0)).setCell ⟨bG,1,none⟩ (.slice R.s1 R.L.length R.d1)).setCell ⟨bG,2,none⟩ (.slice R.s2 R.g.shown.length R.d2)=W6 at *
       have bM:Below W6.heap.size W6 (W6.alloc (.cells #[.slice R.s3 R.sv.length R.d3,.slice R.s4 R.ss.length R.d4] 73)):=(Below.refl _ _).alloc (Nat.le_refl _) _
       have hWM:=hW6.keep bM
       have hIM:=hI6.below bM
       have BM:=B6.trans (bM.mono B6.size)
       have zM:(W6.alloc (.cells #[.slice R.s3 R.sv.length R.d3,.slice R.s4 R.ss.length R.d4] 73)).heap.size=W6.heap.size+1:=by simp
       have hnew:=jy W6 (.slice R.s3 R.sv.length R.d3) (.slice R.s4 R.ss.length R.d4) 73
       rw[z6]at hnew
       clear hW6 hI6 dS6 B6 bM v0 v1 y0 y1 y2 y3 y4 y5 t0 t1 t2 tT5 sp6
       unfold Hid
       generalize W6.alloc (.cells #[.slice R.s3 R.sv.length R.d3,.slice R.s4 R.ss.length R.d4] 73)=WM at *
       refine wpList_append_lies _ rfl _ _ 40 rfl (bG+1) 73 ih (.agg #[.slice none 0 0,.slice none 0 0]) 2 48 Tryz.underlying40 hih hh0 hh1 hh2 rfl (by decide) _ _ _ rfl hWM.osh ⟨w5.heap.size,0,none⟩ 1 1 [.slice R.s3 R.sv.length R.d3,.slice R.s4 R.ss.length R.d4] rfl rfl hnew (by simp[Value.oneCell']) (by decide) (by have:=HCS.out;unfold maxLen;omega) (by have:=HCS.out;omega) hWM.BU _ rfl ?_
       intro g8 cap8 w8 hown8 hgr8 hloc8 _
       have hW8:=hWM.show_ (p:=⟨R.sv,R.ss,R.s3,R.d3,R.s4,R.d4,R.h1,R.h2,R.h2,R.th⟩) ⟨hIM.sz,hIM.ss,o2,o3,hIM.o4,o2,o3⟩ (show bG+1<=R.h1 by omega) (fun q hq=>show q.hi<=R.h1 by have:=hLt q hq;omega) (fun j e=>.inl (show j<R.h1 by have:=hsb j e;omega)) (fun j e=>show j<R.h1∨R.th<=j by have:=hc5 j e;omega) hown8 hgr8 hloc8
       have B8:Below w.heap.size w w8:=zI BM BM.size hgr8 (fun j e=>by have:=aT hWM.osh j e;omega)
       have hmid8:∀p∈L++[(⟨R.sv,R.ss,R.s3,R.d3,R.s4,R.d4,R.h1,R.h2,R.h2,R.th⟩:jO)],p.mid<=p.mi2:=fun p hp=>by
        rcases List.mem_append.1 hp with hp|hp
        ·exact hmid p hp
        ·obtain rfl:p=_:=by simpa using hp
         exact Nat.le_refl _
       have HB8:Hid (gJ (bJ ins) (fs.take (k+1)) R.g ((L++[(⟨R.sv,R.ss,R.s3,R.d3,R.s4,R.d4,R.h1,R.h2,R.h2,R.th⟩:jO)]).map (·.sv)) (cs++[R.code])):=by
        unfold Hid
        rw[List.map_append]
        exact HB.out
       clear hWM hIM BM hgr8 hnew hown8 hloc8
       go_wp2_with fail
       exact⟨⟨k+1,R.tl,R.h1,R.g,R.L,R.s0,R.s1,R.s2,R.d0,R.d1,R.d2,_,cs++[R.code],by omega,by go_num,hW8,hcap6,HB8,hmid8,B8⟩,by simp[intOf];omega⟩
      ·rw[if_neg h2,if_neg h1]at hsnoc
       have HB:Hid (gJ (bJ ins) (fs.take (k+1)) R.g (L.map (·.sv)) (cs++[R.code])):=hsnoc
       clear hsnoc htake hI5 dS5 hW5 B5
       go_wp2_with fail
       exact⟨⟨k+1,R.tl,R.h1,R.g,R.L,R.s0,R.s1,R.s2,R.d0,R.d1,R.d2,L,cs++[R.code],by omega,by go_num,hW6,hcap6,HB,hmid,B6⟩,by simp[intOf];omega⟩
    ·obtain rfl:k=fs.length:=by omega
     obtain⟨sa,sc,ca,cc,rfl,rfl,hA,hcA⟩:=hW.ans (lo:=w.heap.size) hB1
     have HCA:Hid (L.length<=sc/\cs.length<=cc):=hcA
     clear hcA
     have HF:Hid (gJ (bJ ins) fs g (L.map (·.sv)) cs):=by
      have h:=HP.out
      rw[List.take_of_length_le (Nat.le_refl _)]at h
      exact h
     go_wp2_with fail
     exact bodyPost_ret (v:=.tuple #[.slice sa L.length sc,.slice ca cs.length cc]) (by simp[results,Tryz.results10,go_sem]) rfl ⟨⟨L,cs,sa,ca,sc,cc,rfl,⟨ins,true,HN.out,.inl ⟨rfl,by omega,g,HF.out⟩⟩,hA,fun _=>hmid,HCA.out⟩,hb⟩
 ·clear hE
  have bA:Below w1.heap.size w1 (w1.alloc (.cells #[.slice none 0 0,.slice none 0 0,.slice none 0 0] 30)):=(Below.refl _ _).alloc (Nat.le_refl _) _
  go_wp2_with fail
  exact bodyPost_ret (v:=.tuple #[.slice none 0 0,.slice none 0 0]) (by simp[results,Tryz.results10,go_sem]) rfl ⟨⟨[],[],none,none,0,0,rfl,⟨[],false,hN,.inr ⟨.inl rfl,rfl,rfl⟩⟩,⟨.inl rfl,.inl rfl⟩,fun _ p hp=>by simp at hp,Nat.le_refl _,Nat.le_refl _⟩,b1.trans (bA.mono z1)⟩
end Go.Proofs.YtpfhegengmlkmabGreatDoor
