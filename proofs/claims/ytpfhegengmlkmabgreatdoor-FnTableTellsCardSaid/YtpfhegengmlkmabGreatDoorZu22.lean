/- Texts of this claim. -/
import Derived.Test.YtpfhegengmlkmabGreatDoorZu20
namespace Go.Proofs.YtpfhegengmlkmabGreatDoor
open Go.RowKit Go.BigFrame
set_option maxHeartbeats 800000 in
theorem zl (a:Option Addr)(cap:Nat)(l:List ByteArray)(w:World)(hl:l.length<=1048576)(hr:dQ w a l)(hs:∀j,(h:j<l.length)->l[j].size<=maxLen) :
  Calls Tryz.prog 16 #[.slice a l.length cap] w fun e w'=>rU (fG l) e/\Below w.heap.size w w':=by
 by_cases h1:l.length<1
 ·go_enter Tryz.func16,Tryz.ntmps16
  go_wp2_with fail
  go_ret
  exact⟨ai (fun h=>by have:=h.1;omega),Below.refl _ _⟩
 by_cases h6:6<l.length
 ·go_enter Tryz.func16,Tryz.ntmps16
  go_wp2_with fail
  go_ret
  exact⟨ai (fun h=>by have:=h.2.1;omega),Below.refl _ _⟩
 go_enter Tryz.func16,Tryz.ntmps16
 go_wp2_with fail
 go_loopw [3] (fun i wr=>∃k:Nat,k<=l.length/\i=.int .i64 k/\Hid (yL l k)/\Below w.heap.size w wr) (fun i _=>l.length-(intOf i).toNat)
 case atStart=>exact⟨0,Nat.zero_le _,rfl,fun _ _ h=>absurd h (Nat.not_lt_zero _),Below.refl _ _⟩
 case round=>
  obtain⟨k,hk,rfl,HI,hbl⟩:=hrel
  by_cases hlt:k<l.length
  ·obtain⟨b,o,rfl,hblt,c0⟩:=hr.below hbl k hlt
   have k0:(0:Int)<=(k:Int):=by omega
   have k1:(k:Int)<(l.length:Int):=by omega
   have HS:=hs k hlt
   go_wp2_with fail
   refine(pY l[k] _ HS).mono ?_
   rintro e w1 ⟨⟨r,rfl,hr1⟩,rfl⟩
   have HR:Hid (r=true↔kV l[k]):=hr1
   clear hr1
   cases r with
   |false=>
    have HN:Hid (¬fG l):=fun h=>by have h3:=(h.2.2 k hlt).1;have:=HR.out.2 h3;simp at this
    go_wp2_with fail
    go_ret
    exact⟨ai HN.out,hbl⟩
   |true=>
    have HP:Hid (kV l[k]):=HR.out.1 rfl
    clear HR
    go_wp2_with fail
    go_loopw [4] (fun i2 wr2=>∃j:Nat,j<=k/\i2=.int .i64 j/\Hid (∀q,(hq:q<j)->(hl:q<l.length)->l[q]≠l[k])/\Below w.heap.size w wr2) (fun i2 _=>k-(intOf i2).toNat)
    case atStart=>exact⟨0,Nat.zero_le _,rfl,fun _ h=>absurd h (Nat.not_lt_zero _),hbl⟩
    case round=>
     obtain⟨j,hj,rfl,HJ,hbl2⟩:=hrel
     by_cases hjlt:j<k
     ·have hjl:j<l.length:=by omega
      obtain⟨b1,o1,e1,hb1,c1⟩:=hr.below hbl2 j hjl
      obtain⟨b2,o2,e2,hb2,c2⟩:=hr.below hbl2 k hlt
      cases e1
      cases e2
      have j0:(0:Int)<=(j:Int):=by omega
      have j1:(j:Int)<(l.length:Int):=by omega
      by_cases he:l[j]=l[k]
      ·have hb':(l[j].toList==l[k].toList)=true:=fM.2 he
       have HN:Hid (¬fG l):=fun h=>(h.2.2 k hlt).2 j hjlt he
       go_wp2_with fail
       go_quiet (fail)
       go_wp2_with fail
       go_ret
       exact⟨ai HN.out,below_drewN hbl2 _⟩
      ·have hb':(l[j].toList==l[k].toList)=false:=bg.2 he
       have HJ2:Hid (∀q,(hq:q<j+1)->(hl:q<l.length)->l[q]≠l[k]):=fun q hq hl=>by
        by_cases e:q=j
        ·subst e;exact he
        ·exact HJ.out q (by omega) hl
       go_wp2_with fail
       go_quiet (fail)
       go_wp2_with fail
       exact⟨⟨j+1,by omega,by go_num,HJ2,below_drewN hbl2 _⟩,by simp[intOf];omega⟩
     ·have HST:Hid (yL l (k+1)):=xX HI.out hlt HP.out (fun q hq=>HJ.out q (by omega) (by omega))
      go_wp2_with fail
      exact⟨⟨k+1,by omega,by go_num,HST,hbl2⟩,by simp[intOf];omega⟩
  ·have HF:Hid (fG l):=⟨by omega,by omega,fun i hi=>HI.out i hi (by omega)⟩
   go_wp2_with fail
   go_ret
   exact⟨dE HF.out,hbl⟩
end Go.Proofs.YtpfhegengmlkmabGreatDoor
namespace Go.Proofs.YtpfhegengmlkmabGreatDoor
open Go.RowKit Go.BigFrame
set_option maxRecDepth 100000
set_option maxHeartbeats 800000 in
theorem yu (a:Option Addr)(cap:Nat)(l:List af)(w:World)(hf:Be l)(hr:pg w a l) :
  Calls Tryz.prog 124 #[.slice a l.length cap] w fun e w'=>rU (aX l) e/\Below w.heap.size w w':=by
 go_enter Tryz.func124,Tryz.ntmps124
 go_wp2_with fail
 refine(og a cap l _ hf hr).mono ?_
 rintro e w1 ⟨hE,b1⟩
 rcases hE with⟨v,rfl,hp,hv⟩|⟨v,rfl,hp,hv⟩
 ·have HP:Hid (aX l):=hp
  clear hp
  obtain⟨x0,x1,x2,x3,a0,a1,a2,a3,n0,n1,n2,n3,c0,c1,c2,c3,rfl,_⟩:=hv.laid
  go_wp2_with fail
  go_ret
  exact⟨dE HP.out,b1.alloc b1.size _⟩
 ·have HP:Hid (¬aX l):=hp
  clear hp
  obtain⟨x0,x1,x2,x3,a0,a1,a2,a3,n0,n1,n2,n3,c0,c1,c2,c3,rfl,_⟩:=hv.laid
  go_wp2_with fail
  go_ret
  exact⟨ai HP.out,b1.alloc b1.size _⟩
end Go.Proofs.YtpfhegengmlkmabGreatDoor
namespace Go.Proofs.YtpfhegengmlkmabGreatDoor
open Go.RowKit Go.BigFrame
structure lS (g:aB):Prop where
 ins:fG g.ins
 len:g.wins.length=g.ins.length
 wins:OkW g.wins
 shown:ah g.shown
set_option maxHeartbeats 800000 in
theorem Cj (a0 a1 a2:Option Addr)(c0 c1 c2:Nat)(g:aB)(w:World)(hf:Ey g)(hi:g.ins.length<=1048576)(r0:dQ w a0 g.ins)(r1:iF w a1 g.wins)(r2:Row w a2 g.shown) :
  Calls Tryz.prog 110 #[.agg #[.slice a0 g.ins.length c0,.slice a1 g.wins.length c1,.slice a2 g.shown.length c2]] w fun e w'=>rU (lS g) e/\Below w.heap.size w w':=by
 have hl:=hf.wins.1
 unfold maxLen at hl
 have hb0:Below w.heap.size w (w.alloc (.cells #[.slice a0 g.ins.length c0,.slice a1 g.wins.length c1,.slice a2 g.shown.length c2] 30)):=(Below.refl _ _).alloc (Nat.le_refl _) _
 have hlt:=bP w (.cells #[.slice a0 g.ins.length c0,.slice a1 g.wins.length c1,.slice a2 g.shown.length c2] 30)
 have d0:(w.alloc (.cells #[.slice a0 g.ins.length c0,.slice a1 g.wins.length c1,.slice a2 g.shown.length c2] 30)).cell? ⟨w.heap.size,0,none⟩=some (.slice a0 g.ins.length c0):=by simp[go_sem]
 have d1:(w.alloc (.cells #[.slice a0 g.ins.length c0,.slice a1 g.wins.length c1,.slice a2 g.shown.length c2] 30)).cell? ⟨w.heap.size,1,none⟩=some (.slice a1 g.wins.length c1):=by simp[go_sem]
 have d2:(w.alloc (.cells #[.slice a0 g.ins.length c0,.slice a1 g.wins.length c1,.slice a2 g.shown.length c2] 30)).cell? ⟨w.heap.size,2,none⟩=some (.slice a2 g.shown.length c2):=by simp[go_sem]
 go_enter Tryz.func110,Tryz.ntmps110
 go_wp2_with fail
 generalize w.alloc (.cells #[.slice a0 g.ins.length c0,.slice a1 g.wins.length c1,.slice a2 g.shown.length c2] 30)=W0 at *
 refine(zl a0 c0 g.ins _ hi (r0.below hb0) hf.ins.2).mono ?_
 rintro e w1 ⟨⟨r,rfl,hr⟩,b1⟩
 have HR:Hid (r=true↔fG g.ins):=hr
 clear hr
 have B1:Below w.heap.size w w1:=hb0.trans (b1.mono hb0.size)
 replace d0:=ae b1 (by omega) d0
 replace d1:=ae b1 (by omega) d1
 replace d2:=ae b1 (by omega) d2
 have z1:=b1.size
 clear b1
 cases r with
 |false=>
  have HN:Hid (¬lS g):=fun h=>by have:=HR.out.2 h.ins;simp at this
  go_wp2_with fail
  go_ret
  exact⟨ai HN.out,B1⟩
 |true=>
  have HP:Hid (fG g.ins):=HR.out.1 rfl
  clear HR
  by_cases hlen:g.wins.length=g.ins.length
  ·have HL:Hid (g.wins.length=g.ins.length):=hlen
   have hlen':((g.wins.length:Int)==(g.ins.length:Int))=true:=by rw[beq_iff_eq];omega
   clear hlen
   go_wp2_with fail
   refine(xM a1 c1 g.wins _ hf.wins (r1.below B1)).mono ?_
   rintro e w2 ⟨⟨r,rfl,hr⟩,b2⟩
   have HR:Hid (r=true↔OkW g.wins):=hr
   clear hr
   have B2:Below w.heap.size w w2:=B1.trans (b2.mono B1.size)
   replace d2:=ae b2 (by omega) d2
   have z2:=b2.size
   clear b2
   cases r with
   |false=>
    have HN:Hid (¬lS g):=fun h=>by have:=HR.out.2 h.wins;simp at this
    go_wp2_with fail
    go_ret
    exact⟨ai HN.out,B2⟩
   |true=>
    have HW:Hid (OkW g.wins):=HR.out.1 rfl
    clear HR
    go_wp2_with fail
    refine(mP a2 c2 g.shown _ hf.shown.1 (r2.below B2) hf.shown.2).mono ?_
    rintro e w3 ⟨⟨r,rfl,hr⟩,n,rfl⟩
    have HR:Hid (r=true↔lS g):=hr.trans ⟨fun h=>⟨HP.out,HL.out,HW.out,h⟩,fun h=>h.shown⟩
    clear hr
    go_wp2_with fail
    go_ret
    exact⟨⟨r,rfl,HR.out⟩,below_drewN B2 _⟩
  ·have hlen':((g.wins.length:Int)==(g.ins.length:Int))=false:=by rw[beq_eq_false_iff_ne];omega
   have HN:Hid (¬lS g):=fun h=>hlen h.len
   go_wp2_with fail
   go_ret
   exact⟨ai HN.out,B1⟩
set_option maxHeartbeats 800000 in
theorem CE (a0 a1 a2:Option Addr)(c0 c1 c2:Nat)(g:aB)(w:World)(hf:Ey g)(hi:g.ins.length<=1048576)(hc:g.ins.length<=c0)(hc2:c0<=maxLen)(r0:dQ w a0 g.ins)(r1:iF w a1 g.wins)(r2:Row w a2 g.shown) :
  Calls Tryz.prog 81 #[.agg #[.slice a0 g.ins.length c0,.slice a1 g.wins.length c1,.slice a2 g.shown.length c2]] w fun e w'=>rU (lS g) e/\Below w.heap.size w w':=by
 have hl:=hf.wins.1
 unfold maxLen at hl
 have hb0:Below w.heap.size w (w.alloc (.cells #[.slice a0 g.ins.length c0,.slice a1 g.wins.length c1,.slice a2 g.shown.length c2] 30)):=(Below.refl _ _).alloc (Nat.le_refl _) _
 have hlt:=bP w (.cells #[.slice a0 g.ins.length c0,.slice a1 g.wins.length c1,.slice a2 g.shown.length c2] 30)
 have d0:(w.alloc (.cells #[.slice a0 g.ins.length c0,.slice a1 g.wins.length c1,.slice a2 g.shown.length c2] 30)).cell? ⟨w.heap.size,0,none⟩=some (.slice a0 g.ins.length c0):=by simp[go_sem]
 have d1:(w.alloc (.cells #[.slice a0 g.ins.length c0,.slice a1 g.wins.length c1,.slice a2 g.shown.length c2] 30)).cell? ⟨w.heap.size,1,none⟩=some (.slice a1 g.wins.length c1):=by simp[go_sem]
 have d2:(w.alloc (.cells #[.slice a0 g.ins.length c0,.slice a1 g.wins.length c1,.slice a2 g.shown.length c2] 30)).cell? ⟨w.heap.size,2,none⟩=some (.slice a2 g.shown.length c2):=by simp[go_sem]
 go_enter Tryz.func81,Tryz.ntmps81
 go_wp2_with fail
 generalize w.alloc (.cells #[.slice a0 g.ins.length c0,.slice a1 g.wins.length c1,.slice a2 g.shown.length c2] 30)=W0 at *
 refine(zy a0 c0 g.ins _ hi hc hc2 (r0.below hb0) hf.ins.2).mono ?_
 rintro e w1 ⟨⟨r,rfl,hr⟩,rfl⟩
 have HR:Hid (r=true↔fG g.ins):=hr
 clear hr
 cases r with
 |false=>
  have HN:Hid (¬lS g):=fun h=>by have:=HR.out.2 h.ins;simp at this
  go_wp2_with fail
  go_ret
  exact⟨ai HN.out,hb0⟩
 |true=>
  have HP:Hid (fG g.ins):=HR.out.1 rfl
  clear HR
  by_cases hlen:g.wins.length=g.ins.length
  ·have HL:Hid (g.wins.length=g.ins.length):=hlen
   have hlen':((g.wins.length:Int) != (g.ins.length:Int))=false:=by rw[bne_eq_false_iff_eq];omega
   clear hlen
   go_wp2_with fail
   go_loopw [21] (fun i wr=>∃k:Nat,k<=g.wins.length/\i=.int .i64 k/\Hid (∀j,(h:j<g.wins.length)->j<k->aX g.wins[j])/\Below w1.heap.size w1 wr) (fun i _=>g.wins.length-(intOf i).toNat)
   case atStart=>exact⟨0,Nat.zero_le _,rfl,fun _ _ h=>absurd h (Nat.not_lt_zero _),Below.refl _ _⟩
   case round=>
    obtain⟨k,hk,rfl,HI,hbl⟩:=hrel
    have B1:Below w.heap.size w wr:=hb0.trans (hbl.mono hb0.size)
    by_cases hk2:k<g.wins.length
    ·obtain⟨b1,o1,rfl,g1,s1,t1,e1,_,q1⟩:=r1.below B1 k hk2
     have k0:(0:Int)<=(k:Int):=by omega
     have k1:(k:Int)<(g.wins.length:Int):=by omega
     go_wp2_with fail
     refine(yu s1 t1 g.wins[k] _ (hf.wins.2 k hk2) q1).mono ?_
     rintro e w2 ⟨⟨r,rfl,hr⟩,b2⟩
     have HR:Hid (r=true↔aX g.wins[k]):=hr
     clear hr
     cases r with
     |false=>
      have HN:Hid (¬lS g):=fun h=>by have:=HR.out.2 (h.wins.2.2 k hk2);simp at this
      go_wp2_with fail
      go_ret
      exact⟨ai HN.out,B1.trans (b2.mono B1.size)⟩
     |true=>
      have HST:Hid (∀j,(h:j<g.wins.length)->j<k+1->aX g.wins[j]):=wP HI.out hk2 (HR.out.1 rfl)
      go_wp2_with fail
      exact⟨⟨k+1,by omega,by go_num,HST,hbl.trans (b2.mono hbl.size)⟩,by simp[intOf];omega⟩
    ·have HW:Hid (OkW g.wins):=⟨by have:=HP.out.1;have:=HL.out;omega,by have:=HP.out.2.1;have:=HL.out;omega,fun j hj=>HI.out j hj (by omega)⟩
     have e2:=ae hbl hlt d2
     go_wp2_with fail
     refine(bY a2 c2 g.shown _ hf.shown.1 (r2.below B1) hf.shown.2).mono ?_
     rintro e w3 ⟨⟨r,rfl,hr⟩,b3⟩
     have HR:Hid (r=true↔lS g):=hr.trans ⟨fun h=>⟨HP.out,HL.out,HW.out,h⟩,fun h=>h.shown⟩
     clear hr
     go_wp2_with fail
     go_ret
     exact⟨⟨r,rfl,HR.out⟩,B1.trans (b3.mono B1.size)⟩
  ·have hlen':((g.wins.length:Int) != (g.ins.length:Int))=true:=by rw[bne_iff_ne];omega
   have HN:Hid (¬lS g):=fun h=>hlen h.len
   go_wp2_with fail
   go_ret
   exact⟨ai HN.out,hb0⟩
end Go.Proofs.YtpfhegengmlkmabGreatDoor
