/- Texts of this claim. -/
import Derived.Lib.SlicesS
import Derived.Lib.ItoaLen
import Derived.Test.YtpfhegengmlkmacGreatDoorZt19
namespace Go.Proofs.YtpfhegengmlkmacGreatDoor
open Go.RowKit Go.BigFrame
set_option maxRecDepth 100000
def newG (ins:List ByteArray):GatL:=⟨ins,List.replicate ins.length [],[]⟩
def NewE (w w':World) (ins:List ByteArray) (e:Ending):Prop:=(∃ B v0 v1 L v2,w.heap.size<=B∧e=.returned (.tuple #[.agg #[v0,v1,v2],.bool true])∧InsP ins∧GathS w' B v0 ins∧GathY w' B v1 L∧L.map (·.l)=List.replicate ins.length []∧(∃ a c,v2=.slice a 0 c))∨(e=.returned (.tuple #[.agg #[.slice none 0 0,.slice none 0 0,.slice none 0 0],.bool false])∧¬ InsP ins)
set_option maxHeartbeats 1600000 in
theorem implGN_any (a:Option Addr) (cap:Nat) (ins:List ByteArray) (w:World) (hl:ins.length<=1048576) (hc:ins.length<=cap) (hc2:cap<=maxLen) (hr:RowS w a ins) (hs:∀ j,(h:j < ins.length)->ins[j].size<=maxLen) :
  Calls Tryz.prog 65 #[.slice a ins.length cap] w fun e w'=>NewE w w' ins e∧Below w.heap.size w w':=by
 obtain ⟨i0,hi,hz0,hz1,hz2⟩:=info_parts Tryz.infoW
 have hmk:∀ u:World,(Instr.makeSlice 33 (.int .i64 (ins.length:Int)) (.int .i64 (ins.length:Int))).run Tryz.prog u =
   .ok (.slice (some ⟨u.heap.size,0,none⟩) ins.length ins.length) (u.alloc (.cells (madeCells #[.slice none 0 0] ins.length) 78)):=fun u=>by
  have h:=run_make (P:=Tryz.prog) u 33 78 i0 (.slice none 0 0) Tryz.underlying33 hi hz0 .i64 .i64 (ins.length:Int) (ins.length:Int) (by omega) (Int.le_refl _) (by rw [hz2];omega) (by omega)
  simpa [hz1,Value.cells] using h
 have hb0:Below w.heap.size w (w.alloc (.cells #[.slice none 0 0,.slice none 0 0,.slice none 0 0] 36)):=(Below.refl _ _).alloc (Nat.le_refl _) _
 have tR:=tri_new w (.slice none 0 0) (.slice none 0 0) (.slice none 0 0) 36
 go_enter Tryz.func65,Tryz.ntmps65
 go_wp2_with fail
 generalize w.alloc (.cells #[.slice none 0 0,.slice none 0 0,.slice none 0 0] 36)=W0 at *
 refine (insOk_any a cap ins _ hl hc hc2 (hr.below hb0) hs).mono ?_
 rintro e w1 ⟨⟨r,rfl,hr1⟩,rfl⟩
 have HR:Hid (r=true↔InsP ins):=hr1
 clear hr1
 cases r with
 | false=>
  have HN:Hid (¬ InsP ins):=fun h=>by have:=HR.out.2 h;simp at this
  obtain ⟨r0,r1,r2,f0,f1,f2⟩:=id tR
  go_wp2_with fail
  have e0:(((w1.setCell ⟨w.heap.size,0,none⟩ (.slice none 0 0)).setCell ⟨w.heap.size,1,none⟩ (.slice none 0 0)).setCell ⟨w.heap.size,2,none⟩ (.slice none 0 0)).cell? ⟨w.heap.size,0,none⟩=some (.slice none 0 0):=by simp [go_sem,r0]
  have e1:(((w1.setCell ⟨w.heap.size,0,none⟩ (.slice none 0 0)).setCell ⟨w.heap.size,1,none⟩ (.slice none 0 0)).setCell ⟨w.heap.size,2,none⟩ (.slice none 0 0)).cell? ⟨w.heap.size,1,none⟩=some (.slice none 0 0):=by simp [go_sem,r1]
  have e2:(((w1.setCell ⟨w.heap.size,0,none⟩ (.slice none 0 0)).setCell ⟨w.heap.size,1,none⟩ (.slice none 0 0)).setCell ⟨w.heap.size,2,none⟩ (.slice none 0 0)).cell? ⟨w.heap.size,2,none⟩=some (.slice none 0 0):=by simp [go_sem,r2]
  exact bodyPost_ret (v:=.tuple #[.agg #[.slice none 0 0,.slice none 0 0,.slice none 0 0],.bool false]) (by simp [results,Tryz.results65,go_sem,e0,e1,e2]) rfl ⟨.inr ⟨rfl,HN.out⟩,((hb0.setCell (Nat.le_refl _) _).setCell (Nat.le_refl _) _).setCell (Nat.le_refl _) _⟩
 | true=>
  have HP:Hid (InsP ins):=HR.out.1 rfl
  clear HR
  obtain ⟨r0,r1,r2,f0,f1,f2⟩:=id tR
  have bM:Below w1.heap.size w1 (w1.alloc (.cells (madeCells #[.slice none 0 0] ins.length) 78)):=(Below.refl _ _).alloc (Nat.le_refl _) _
  have bG0:Below (w1.alloc (.cells (madeCells #[.slice none 0 0] ins.length) 78)).heap.size (w1.alloc (.cells (madeCells #[.slice none 0 0] ins.length) 78)) ((w1.alloc (.cells (madeCells #[.slice none 0 0] ins.length) 78)).alloc (.cells #[.slice a ins.length cap,.slice (some ⟨w1.heap.size,0,none⟩) ins.length ins.length,.slice none 0 0] 36)):=(Below.refl _ _).alloc (Nat.le_refl _) _
  have bG:Below w1.heap.size w1 ((w1.alloc (.cells (madeCells #[.slice none 0 0] ins.length) 78)).alloc (.cells #[.slice a ins.length cap,.slice (some ⟨w1.heap.size,0,none⟩) ins.length ins.length,.slice none 0 0] 36)):=bM.trans (bG0.mono bM.size)
  have hrw:RowW (w1.alloc (.cells (madeCells #[.slice none 0 0] ins.length) 78)) (some ⟨w1.heap.size,0,none⟩) (newG ins).wins:=fun k hk=>by
   have hk':k < ins.length:=by simpa [newG] using hk
   refine ⟨w1.heap.size,0,rfl,box_lt _ _,none,0, ?_,by simp [newG],fun j hj=>by simp [newG] at hj⟩
   rw [Nat.zero_add,World.cell?_alloc_new]
   simp [newG,madeCells,hk',Nat.mod_one]
  have h6:=HP.out.2.1
  have BG:Below w.heap.size w ((w1.alloc (.cells (madeCells #[.slice none 0 0] ins.length) 78)).alloc (.cells #[.slice a ins.length cap,.slice (some ⟨w1.heap.size,0,none⟩) ins.length ins.length,.slice none 0 0] 36)):=hb0.trans (bG.mono hb0.size)
  have hfr:=freshG_any a (some ⟨w1.heap.size,0,none⟩) none cap ins.length 0 (newG ins) ((w1.alloc (.cells (madeCells #[.slice none 0 0] ins.length) 78)).alloc (.cells #[.slice a ins.length cap,.slice (some ⟨w1.heap.size,0,none⟩) ins.length ins.length,.slice none 0 0] 36)) h6 (by simp [newG]) (hr.below BG) (hrw.below bG0) (fun k hk=>absurd hk (Nat.not_lt_zero k)) (fun j hj=>(HP.out.2.2 j hj).1.2.1) (fun j hj=>by
   have e:(newG ins).wins[j]=[]:=by simp [newG]
   rw [e]
   exact ⟨by simp,fun i hi=>by simp at hi,fun i hi=>by simp at hi⟩) ⟨by simp [newG],fun j hj=>by simp [newG] at hj,fun j hj=>by simp [newG] at hj⟩
  simp only [newG,List.length_replicate,List.length_nil] at hfr
  go_wp2_with fail
  refine hfr.mono ?_
  rintro e w2 ⟨⟨B,v0,v1,L,gm,cm,hB,rfl,hg0,hg1,hLL,hfar,hgm,hgB,_,hom⟩,b2⟩
  have hLL':L.map (·.l)=List.replicate ins.length []:=hLL
  obtain ⟨sia,sic,rfl,_⟩:=hg0.shape
  obtain ⟨swa,swc,rfl,_,_⟩:=hg1.row
  have tR2:=(tR.keep bG).keep b2
  have zB:w.heap.size < B:=by have h1:w.heap.size < w1.heap.size:=block_lt_of_cell r0;have:=bG.size;omega
  have B2:Below w.heap.size w w2:=BG.trans (b2.mono BG.size)
  have HLL:Hid (L.map (·.l)=List.replicate ins.length []):=hLL'
  clear r0 r1 r2 f0 f1 f2 hLL hLL' hfr
  obtain ⟨r0,r1,r2,f0,f1,f2⟩:=id tR2
  go_wp2_with fail
  have e0:(((w2.setCell ⟨w.heap.size,0,none⟩ (.slice sia ins.length sic)).setCell ⟨w.heap.size,1,none⟩ (.slice swa L.length swc)).setCell ⟨w.heap.size,2,none⟩ (.slice (some ⟨gm,0,none⟩) 0 cm)).cell? ⟨w.heap.size,0,none⟩=some (.slice sia ins.length sic):=by simp [go_sem,r0]
  have e1:(((w2.setCell ⟨w.heap.size,0,none⟩ (.slice sia ins.length sic)).setCell ⟨w.heap.size,1,none⟩ (.slice swa L.length swc)).setCell ⟨w.heap.size,2,none⟩ (.slice (some ⟨gm,0,none⟩) 0 cm)).cell? ⟨w.heap.size,1,none⟩=some (.slice swa L.length swc):=by simp [go_sem,r1]
  have e2:(((w2.setCell ⟨w.heap.size,0,none⟩ (.slice sia ins.length sic)).setCell ⟨w.heap.size,1,none⟩ (.slice swa L.length swc)).setCell ⟨w.heap.size,2,none⟩ (.slice (some ⟨gm,0,none⟩) 0 cm)).cell? ⟨w.heap.size,2,none⟩=some (.slice (some ⟨gm,0,none⟩) 0 cm):=by simp [go_sem,r2]
  have g1:GathS (((w2.setCell ⟨w.heap.size,0,none⟩ (.slice sia ins.length sic)).setCell ⟨w.heap.size,1,none⟩ (.slice swa L.length swc)).setCell ⟨w.heap.size,2,none⟩ (.slice (some ⟨gm,0,none⟩) 0 cm)) B (.slice sia ins.length sic) ins:=own_farY (own_farY (own_farY (show World.ownsRow _ _ _ _ _ _ _ from hg0) zB 0 _) zB 1 _) zB 2 _
  have g2:=((hg1.set zB 0 (.slice sia ins.length sic)).set zB 1 (.slice swa L.length swc)).set zB 2 (.slice (some ⟨gm,0,none⟩) 0 cm)
  exact bodyPost_ret (v:=.tuple #[.agg #[.slice sia ins.length sic,.slice swa L.length swc,.slice (some ⟨gm,0,none⟩) 0 cm],.bool true]) (by simp [results,Tryz.results65,go_sem,e0,e1,e2]) rfl ⟨.inl ⟨B,_,_,L,_,by omega,rfl,HP.out,g1,g2,HLL.out,⟨_,_,rfl⟩⟩,((B2.setCell (Nat.le_refl _) _).setCell (Nat.le_refl _) _).setCell (Nat.le_refl _) _⟩
end Go.Proofs.YtpfhegengmlkmacGreatDoor
namespace Go.Proofs.YtpfhegengmlkmacGreatDoor
open Go.RowKit Go.BigFrame
def bl (s:ByteArray):List UInt8:=s.data.toList
theorem bl_length (s:ByteArray):(bl s).length=s.size:=Array.length_toList
theorem bl_at (s:ByteArray) (k:Nat) (h:k < s.size):(bl s)[k]?=some s[k]:=by
 unfold bl
 rw [Array.getElem?_toList]
 exact Array.getElem?_eq_getElem h
theorem bl_extract (s:ByteArray) (a i:Nat):bl (s.extract a i)=((bl s).take i).drop a:=by
 unfold bl
 rw [ByteArray.data_extract,Array.toList_extract,List.extract_eq_take_drop,List.drop_take]
theorem drop_mid {L:List UInt8} {a i:Nat} (ha:a<=i) (hi:i<=L.length):L.drop a=(L.take i).drop a ++ L.drop i:=by
 have h:=congrArg (List.drop a) (List.take_append_drop i L)
 rw [List.drop_append,List.length_take,Nat.min_eq_left hi] at h
 rw [<- h,show a - i=0 by omega,List.drop_zero]
theorem drop_cons {L:List UInt8} {i:Nat} {x:UInt8} (h:L[i]?=some x):L.drop i=x :: L.drop (i + 1):=by
 obtain ⟨hi,rfl⟩:=List.getElem?_eq_some_iff.1 h
 exact List.drop_eq_getElem_cons hi
theorem split_mid {L:List UInt8} {a i:Nat} {c:UInt8} (ha:a<=i) (h:L[i]?=some c) (hc:c∉(L.take i).drop a):splitL c (L.drop a)=(L.take i).drop a :: splitL c (L.drop (i + 1)):=by
 have hi:i < L.length:=(List.getElem?_eq_some_iff.1 h).1
 rw [drop_mid ha (by omega),drop_cons h,splitL_cut hc]
theorem take_step {L:List UInt8} {a i:Nat} {x c:UInt8} (ha:a<=i) (h:L[i]?=some x) (hx:x≠c) (hc:c∉(L.take i).drop a):c∉(L.take (i + 1)).drop a:=by
 obtain ⟨hi,rfl⟩:=List.getElem?_eq_some_iff.1 h
 rw [List.take_succ_eq_append_getElem hi,List.drop_append,List.length_take,Nat.min_eq_left (by omega),show a - i=0 by omega,List.drop_zero,List.mem_append,not_or]
 exact ⟨hc,by simp [Ne.symm hx]⟩
set_option maxHeartbeats 1600000 in
theorem l1Split_any (t:ByteArray) (c:UInt8) (w:World) (ht:t.size<=1000000) :
  Calls Tryz.prog 67 #[.string t,.int .u8 (c.toNat:Int)] w fun e w'=>(∃ v us,e=.returned v∧GathS w' w.heap.size v us∧us.map bl=splitL c (bl t))∧Below w.heap.size w w':=by
 obtain ⟨i0,hi,hz0,hz1,hz2⟩:=info_parts Tryz.infoS
 go_enter Tryz.func67,Tryz.ntmps67
 go_wp2_with fail
 go_loopw [5,6,7] (fun out av iv wr=>∃ a i:Nat,a<=i∧i<=t.size∧av=.int .i64 a∧iv=.int .i64 i∧∃ o,GathS wr w.heap.size out o∧o.length<=i∧o.map bl ++ splitL c ((bl t).drop a)=splitL c (bl t)∧c∉((bl t).take i).drop a∧Below w.heap.size w wr) (fun _ _ iv _=>t.size - (intOf iv).toNat)
 case atStart=>exact ⟨0,0,Nat.le_refl _,Nat.zero_le _,rfl,rfl,[],gathS_none _ _,by simp,by simp,by simp,Below.refl _ _⟩
 case round=>
  obtain ⟨a,i,hai,hit,rfl,rfl,o,hg,hol,hsp,hno,hbl⟩:=hrel
  have hzr:=hbl.size
  by_cases hlt:i < t.size
  ·have hat:=bl_at t i hlt
   by_cases hc:t[i]=c
   ·have hc':((t[i].toNat:Int) == (c.toNat:Int))=true:=by rw [hc];simp
    have HS:Hid (splitL c ((bl t).drop a)=((bl t).take i).drop a :: splitL c ((bl t).drop (i + 1))):=split_mid hai (by rw [hat,hc]) hno
    have HSP:Hid (o.map bl ++ splitL c ((bl t).drop a)=splitL c (bl t)):=hsp
    have hg4:wr.ownsRow w.heap.size 9 1 _ o.length (o.map .string):=hg
    clear hsp hno hat
    go_wp2_with (at_builtin;refine wpList_append_lies _ rfl _ _ 22 rfl w.heap.size 9 i0 (.string .empty) 1 16 Tryz.underlying22 hi hz0 hz1 hz2 rfl (by decide) _ _ _ rfl (hg4.alloc _) ⟨wr.heap.size,0,none⟩ 1 1 [.string (t.extract a i)] rfl rfl (one_new wr _ _) (by simp [Value.oneCell']) (by decide) (by unfold maxLen;omega) (by omega) (by simp;omega) _ rfl ?_;intro g' cap' w5 hown' hgrow _ _)
    have hob:=ownsRow_block hg4
    refine ⟨⟨i + 1,i + 1,Nat.le_refl _,by omega,by go_num,by go_num,o ++ [t.extract a i],GathS.snoc hown',by simp;omega, ?_,by simp,(hbl.alloc hzr _).grown hgrow (by simp;omega) hob⟩,by simp [intOf];omega⟩
    rw [<- HSP.out,HS.out,List.map_append,List.append_assoc,List.map_singleton,bl_extract]
    rfl
   ·have hc':((t[i].toNat:Int) == (c.toNat:Int))=false:=by
     rw [beq_eq_false_iff_ne]
     exact fun e=>hc (UInt8.toNat_inj.1 (by omega))
    have HN:Hid (c∉((bl t).take (i + 1)).drop a):=take_step hai hat hc hno
    have HSP:Hid (o.map bl ++ splitL c ((bl t).drop a)=splitL c (bl t)):=hsp
    clear hsp hno hat
    go_wp2_with fail
    exact ⟨⟨a,i + 1,by omega,by omega,rfl,by go_num,o,hg,by omega,HSP.out,HN.out,hbl⟩,by simp [intOf];omega⟩
  ·have HS:Hid (splitL c ((bl t).drop a)=[(bl t).drop a]):=splitL_no (by rw [List.take_of_length_le (by rw [bl_length];omega)] at hno;exact hno)
   have HSP:Hid (o.map bl ++ splitL c ((bl t).drop a)=splitL c (bl t)):=hsp
   have hg4:wr.ownsRow w.heap.size 9 1 _ o.length (o.map .string):=hg
   clear hsp hno
   go_wp2_with (at_builtin;refine wpList_append_lies _ rfl _ _ 22 rfl w.heap.size 9 i0 (.string .empty) 1 16 Tryz.underlying22 hi hz0 hz1 hz2 rfl (by decide) _ _ _ rfl (hg4.alloc _) ⟨wr.heap.size,0,none⟩ 1 1 [.string (t.extract a t.size)] rfl rfl (one_new wr _ _) (by simp [Value.oneCell']) (by decide) (by unfold maxLen;omega) (by omega) (by simp;omega) _ rfl ?_;intro g' cap' w5 hown' hgrow _ _)
   have hob:=ownsRow_block hg4
   go_ret
   refine ⟨⟨_,o ++ [t.extract a t.size],rfl,GathS.snoc hown', ?_⟩,(hbl.alloc hzr _).grown hgrow (by simp;omega) hob⟩
   rw [<- HSP.out,HS.out,List.map_append,List.map_singleton,bl_extract,List.take_of_length_le (by rw [bl_length];omega)]
end Go.Proofs.YtpfhegengmlkmacGreatDoor
namespace Go.Proofs.YtpfhegengmlkmacGreatDoor
set_option maxRecDepth 100000
def tQ:List UInt8:=[63]
def tNo:List UInt8:=[110,111]
def tNone:List UInt8:=[110,111,110,101]
def tOk:List UInt8:=[111,107]
def tBad:List UInt8:=[98,97,100]
def tOld:List UInt8:=[111,108,100]
def tFull:List UInt8:=[102,117,108,108]
def tKept:List UInt8:=[107,101,112,116]
def tShows:List UInt8:=[115,104,111,119,115,32]
def tAt:List UInt8:=[32,64,32]
def cIns:List UInt8:=[105,110,115]
def cPut:List UInt8:=[112,117,116]
def cOrder:List UInt8:=[111,114,100,101,114]
def cJoin:List UInt8:=[106,111,105,110]
def cLast:List UInt8:=[108,97,115,116]
def cCount:List UInt8:=[99,111,117,110,116]
def cBest:List UInt8:=[98,101,115,116]
def slash:ByteArray:=⟨#[47]⟩
theorem map_bl_inj:∀ {us vs:List ByteArray},us.map bl=vs.map bl->us=vs
 | [],[],_=>rfl
 | [],_ :: _,h=>by simp at h
 | _ :: _,[],h=>by simp at h
 | u :: us,v :: vs,h=>by
  simp only [List.map_cons,List.cons.injEq] at h
  rw [data_eq h.1,map_bl_inj h.2]
def cutW (c:UInt8) (t:ByteArray):List ByteArray:=(splitL c (bl t)).map fun l=>⟨l.toArray⟩
theorem cutW_map (c:UInt8) (t:ByteArray):(cutW c t).map bl=splitL c (bl t):=by
 unfold cutW
 rw [List.map_map]
 conv=>rhs;rw [<- List.map_id (splitL c (bl t))]
 apply List.map_congr_left
 intro a _
 simp [bl]
theorem cut_eq {c:UInt8} {t:ByteArray} {us:List ByteArray} (h:us.map bl=splitL c (bl t)):us=cutW c t:=map_bl_inj (h.trans (cutW_map c t).symm)
theorem splitL_ne (c:UInt8):∀ l:List UInt8,splitL c l≠[]
 | []=>by simp [splitL]
 | x :: r=>by
  unfold splitL
  by_cases h:x=c
  ·rw [if_pos h];simp
  ·rw [if_neg h];split <;> simp
theorem cutW_ne (c:UInt8) (t:ByteArray):cutW c t≠[]:=fun h=>splitL_ne c (bl t) (by rw [<- cutW_map,h];rfl)
theorem cutW_free {c:UInt8} {t:ByteArray} {u:ByteArray} (h:u∈cutW c t):c∉bl u:=by
 have:bl u∈splitL c (bl t):=by rw [<- cutW_map];exact List.mem_map_of_mem h
 exact splitL_free _ _ (Nat.le_refl _) _ this
def AccW (ws:List ByteArray) (m:List (ByteArray×Int)):Prop:=ws≠[]∧((ws.map bl=[[45]]∧m=[])∨(Words (ws.map bl) m∧StampP m))
theorem words_dash {m:List (ByteArray×Int)} (h:Words [[45]] m):False:=dash_no (m:=m) (by
 have e:splitL 32 [45]=[[45]]:=by decide
 rw [e];exact h)
theorem AccW.one {ws:List ByteArray} {m m':List (ByteArray×Int)} (h:AccW ws m) (k:AccW ws m'):m=m':=by
 rcases h.2 with ⟨h1,rfl⟩ | ⟨h1,_⟩ <;> rcases k.2 with ⟨h2,rfl⟩ | ⟨h2,_⟩
 ·rfl
 ·rw [h1] at h2;exact (words_dash h2).elim
 ·rw [h2] at h1;exact (words_dash h1).elim
 ·exact h1.one h2
theorem AccW.stamp {ws:List ByteArray} {m:List (ByteArray×Int)} (h:AccW ws m):StampP m:=by
 rcases h.2 with ⟨_,rfl⟩ | ⟨_,h⟩
 ·exact stampP_nil
 ·exact h
theorem acc_words {ws:List ByteArray} {t:ByteArray} (hf:∀ u∈ws,(32:UInt8)∉bl u) (ht:bl t=Lib.join (ws.map bl) [32]) (m:List (ByteArray×Int)):Acc t m↔AccW ws m:=by
 by_cases h0:ws=[]
 ·subst h0
  have e:bl t=[]:=ht
  constructor
  ·intro h
   rcases h.2 with ⟨h1,_⟩ | ⟨h1,_⟩
   ·have h1':bl t=[45]:=h1
    rw [e] at h1';cases h1'
   ·have h1':Words (splitL 32 (bl t)) m:=h1
    rw [e] at h1'
    match m,h1' with
    | [],h=>exact h.elim
    | x :: r,h=>
     obtain ⟨d,e,_,_⟩:=h.1
     simp at e
  ·intro h;exact absurd rfl h.1
 ·have hs:splitL 32 (bl t)=ws.map bl:=by
   rw [ht]
   refine split_join _ (by simpa using h0) fun w hw=>?_
   obtain ⟨u,hu,rfl⟩:=List.mem_map.1 hw
   exact hf u hu
  constructor
  ·intro h
   refine ⟨h0, ?_⟩
   rcases h.2 with ⟨h1,h2⟩ | ⟨h1,h2⟩
   ·refine .inl ⟨?_,h2⟩
    have h1':bl t=[45]:=h1
    rw [<- hs,h1'];decide
   ·exact .inr ⟨by rw [<- hs];exact h1,h2⟩
  ·intro h
   rcases h.2 with ⟨h1,h2⟩ | ⟨h1,h2⟩
   ·have e:bl t=[45]:=by rw [ht,h1];rfl
    refine ⟨?_,.inl ⟨e,h2⟩⟩
    have:=bl_length t
    rw [e] at this
    simp at this
    omega
   ·refine ⟨?_,.inr ⟨by show Words (splitL 32 (bl t)) m;rw [hs];exact h1,h2⟩⟩
    have e:bl t=textB m:=by rw [ht,of_words h1];rfl
    have hm:=textB_short (l:=m) h2.2.1 m.length (Nat.le_refl _)
    rw [List.take_length] at hm
    have:=bl_length t
    rw [e] at this
    have:=h2.1
    omega
def NumT (l:List UInt8) (n:Int):Prop:=l=Lib.itoa n∧-1000000000000000000 < n∧n < 1000000000000000000
theorem dec_one {u v:Nat} (h:Lib.decDigits u=Lib.decDigits v):u=v:=by
 have z:Lib.decDigits 0=[48]:=by rw [decDigits_small (by omega)];rfl
 rcases Nat.eq_zero_or_pos u with rfl | hu <;> rcases Nat.eq_zero_or_pos v with rfl | hv
 ·rfl
 ·have:=(dec_digs v v (Nat.le_refl _) hv).2.1
  rw [<- h,z] at this
  simp at this
 ·have:=(dec_digs u u (Nat.le_refl _) hu).2.1
  rw [h,z] at this
  simp at this
 ·rw [<- (dec_digs u u (Nat.le_refl _) hu).2.2.2,h,(dec_digs v v (Nat.le_refl _) hv).2.2.2]
theorem dec_dash (u:Nat):(Lib.decDigits u).head?≠some 45:=by
 rcases Nat.eq_zero_or_pos u with rfl | hu
 ·rw [decDigits_small (by omega)];decide
 ·obtain ⟨h1,_,h3,_⟩:=dec_digs u u (Nat.le_refl _) hu
  intro e
  cases hd:Lib.decDigits u with
  | nil=>exact h1 hd
  | cons x r=>
   rw [hd] at e
   have hx:x=45:=by simpa using e
   have:=h3 x (by rw [hd];exact List.mem_cons_self ..)
   rw [hx] at this
   revert this
   unfold DG
   decide
theorem itoa_one {n m:Int} (h:Lib.itoa n=Lib.itoa m):n=m:=by
 unfold Lib.itoa at h
 by_cases hn:n < 0 <;> by_cases hm:m < 0
 ·rw [if_pos hn,if_pos hm] at h
  have:=dec_one (List.cons.inj h).2
  omega
 ·rw [if_pos hn,if_neg hm] at h
  exact absurd (by rw [<- h];rfl) (dec_dash m.toNat)
 ·rw [if_neg hn,if_pos hm] at h
  exact absurd (by rw [h];rfl) (dec_dash n.toNat)
 ·rw [if_neg hn,if_neg hm] at h
  have:=dec_one h
  omega
theorem NumT.one {l:List UInt8} {n m:Int} (h:NumT l n) (k:NumT l m):n=m:=itoa_one (h.1.symm.trans k.1)
def numsB (l:List Int):List UInt8:=Lib.join (l.map Lib.itoa) [32]
def GoodPut (r:List ByteArray) (a:ByteArray) (n:Int) (m:List (ByteArray×Int)):Prop:=∃ b q,r=a :: b :: q∧NumT (bl b) n∧AccW q m
theorem GoodPut.one {r:List ByteArray} {a a':ByteArray} {n n':Int} {m m':List (ByteArray×Int)} (h:GoodPut r a n m) (k:GoodPut r a' n' m'):a=a'∧n=n'∧m=m':=by
 obtain ⟨b,q,rfl,h1,h2⟩:=h
 obtain ⟨b',q',e,k1,k2⟩:=k
 simp only [List.cons.injEq] at e
 obtain ⟨rfl,rfl,rfl⟩:=e
 exact ⟨rfl,h1.one k1,h2.one k2⟩
def codeB (c:Int):List UInt8:=if c=0 then tKept else if c=3 then tOld else tFull
def ordB (c:Int):List UInt8:=if c=0 then [115,97,109,101] else if c=1 then [108,101,115,115] else if c=2 then [109,111,114,101] else [97,112,97,114,116]
def PutT3 (g g1:GatL) (sv:List Int) (ss:List (ByteArray×Int)) (c:Int) (g':GatL) (t:List UInt8):Prop:=
 (c=2∧g'=g∧t=tBad)∨(c=1∧g'=g1∧∃ s,IsTx ss s∧t=tShows ++ (numsB sv ++ (tAt ++ bl s)))∨(c≠2∧c≠1∧g'=g1∧t=codeB c)
def PutT2 (g:GatL) (a:ByteArray) (n:Int) (m:List (ByteArray×Int)) (g':GatL) (t:List UInt8):Prop:=
 (Lib.idxOfS g.ins a < 0∧g'=g∧t=tNo)∨(0<=Lib.idxOfS g.ins a∧∃ g1 sv ss c,PutG g (Lib.idxOfS g.ins a) n m g1 sv ss c∧PutT3 g g1 sv ss c g' t)
def PutT (g:GatL) (r:List ByteArray) (g':GatL) (t:List UInt8):Prop:=
 (∃ a n m,GoodPut r a n m∧PutT2 g a n m g' t)∨((∀ a n m,¬ GoodPut r a n m)∧g'=g∧t=tQ)
def InsT (g:GatL) (r:List ByteArray) (g':GatL) (t:List UInt8):Prop:=
 (r=[]∧g'=g∧t=tQ)∨(r≠[]∧InsP r∧g'=newG r∧t=tOk)∨(r≠[]∧¬ InsP r∧g'=g∧t=tNo)
def TwoP (r:List ByteArray) (a b:List (ByteArray×Int)):Prop:=∃ k:Nat,Lib.idxOfS r slash=(k:Int)∧AccW (r.take k) a∧AccW (r.drop (k + 1)) b
theorem TwoP.one {r:List ByteArray} {a b a' b':List (ByteArray×Int)} (h:TwoP r a b) (k:TwoP r a' b'):a=a'∧b=b':=by
 obtain ⟨i,h0,h1,h2⟩:=h
 obtain ⟨j,k0,k1,k2⟩:=k
 obtain rfl:i=j:=by omega
 exact ⟨h1.one k1,h2.one k2⟩
def OrdT (r:List ByteArray) (t:List UInt8):Prop:=(∃ a b,TwoP r a b∧∃ v,IsOrd a b v∧t=ordB v)∨((∀ a b,¬ TwoP r a b)∧t=tQ)
def JoiT (r:List ByteArray) (t:List UInt8):Prop:=
 (∃ a b,TwoP r a b∧∃ j ok,IsJ a b j ok∧((ok=false∧t=tNo)∨(ok=true∧∃ s,IsTx j s∧t=bl s)))∨((∀ a b,¬ TwoP r a b)∧t=tQ)
def LasT (g:GatL) (r:List ByteArray) (t:List UInt8):Prop:=
 (∃ a,r=[a]∧((Lib.idxOfS g.ins a < 0∧t=tNo)∨(0<=Lib.idxOfS g.ins a∧∃ x m ok,IsL (g.wins.getD (Lib.idxOfS g.ins a).toNat []) x m ok ∧
  ((ok=false∧t=tNone)∨(ok=true∧∃ s,IsTx m s∧t=Lib.itoa x ++ (tAt ++ bl s))))))∨(r.length≠1∧t=tQ)
def CouT (g:GatL) (r:List ByteArray) (t:List UInt8):Prop:=(r=[]∧∃ n:Nat,CntP g.wins n∧t=Lib.itoa (n:Int))∨(r≠[]∧t=tQ)
def BesT (g:GatL) (r:List ByteArray) (t:List UInt8):Prop:=(r=[]∧∃ out ok,BestP g.wins out ok∧((ok=false∧t=tNone)∨(ok=true∧t=numsB out)))∨(r≠[]∧t=tQ)
def TellT (g:GatL) (c:List UInt8) (r:List ByteArray) (g':GatL) (t:List UInt8):Prop:=
 if c=cIns then InsT g r g' t else if c=cPut then PutT g r g' t else if c=cOrder then g'=g∧OrdT r t else if c=cJoin then g'=g∧JoiT r t
 else if c=cLast then g'=g∧LasT g r t else if c=cCount then g'=g∧CouT g r t else if c=cBest then g'=g∧BesT g r t else g'=g∧t=tQ
def TellsTo (g:GatL) (ws:List ByteArray) (g':GatL) (t:List UInt8):Prop:=∃ u r,ws=u :: r∧TellT g (bl u) r g' t
theorem PutT3.one {g g1 a b:GatL} {sv:List Int} {ss:List (ByteArray×Int)} {c:Int} {s t:List UInt8} (h:PutT3 g g1 sv ss c a s) (k:PutT3 g g1 sv ss c b t):a=b∧s=t:=by
 rcases h with ⟨h1,rfl,rfl⟩ | ⟨h1,rfl,x,hx,rfl⟩ | ⟨h1,h2,rfl,rfl⟩
 ·rcases k with ⟨_,rfl,rfl⟩ | ⟨k1,_⟩ | ⟨k1,_⟩
  ·exact ⟨rfl,rfl⟩
  ·omega
  ·exact absurd h1 k1
 ·rcases k with ⟨k1,_⟩ | ⟨_,rfl,y,hy,rfl⟩ | ⟨_,k1,_⟩
  ·omega
  ·rw [hx.one hy];exact ⟨rfl,rfl⟩
  ·exact absurd h1 k1
 ·rcases k with ⟨k1,_⟩ | ⟨k1,_⟩ | ⟨_,_,rfl,rfl⟩
  ·exact absurd k1 h1
  ·exact absurd k1 h2
  ·exact ⟨rfl,rfl⟩
theorem PutT2.one {g a b:GatL} {x:ByteArray} {n:Int} {m:List (ByteArray×Int)} {s t:List UInt8} (h:PutT2 g x n m a s) (k:PutT2 g x n m b t):a=b∧s=t:=by
 rcases h with ⟨h1,rfl,rfl⟩ | ⟨h1,g1,sv,ss,c,h2,h3⟩
 ·rcases k with ⟨_,rfl,rfl⟩ | ⟨k1,_⟩
  ·exact ⟨rfl,rfl⟩
  ·omega
 ·rcases k with ⟨k1,_⟩ | ⟨_,g2,sv2,ss2,c2,k2,k3⟩
  ·omega
  ·obtain ⟨rfl,rfl,rfl,rfl⟩:=h2.one k2
   exact h3.one k3
theorem PutT.one {g a b:GatL} {r:List ByteArray} {s t:List UInt8} (h:PutT g r a s) (k:PutT g r b t):a=b∧s=t:=by
 rcases h with ⟨x,n,m,h1,h2⟩ | ⟨h1,rfl,rfl⟩
 ·rcases k with ⟨y,n',m',k1,k2⟩ | ⟨k1,_⟩
  ·obtain ⟨rfl,rfl,rfl⟩:=h1.one k1
   exact h2.one k2
  ·exact absurd h1 (k1 _ _ _)
 ·rcases k with ⟨y,n',m',k1,k2⟩ | ⟨_,rfl,rfl⟩
  ·exact absurd k1 (h1 _ _ _)
  ·exact ⟨rfl,rfl⟩
theorem InsT.one {g a b:GatL} {r:List ByteArray} {s t:List UInt8} (h:InsT g r a s) (k:InsT g r b t):a=b∧s=t:=by
 rcases h with ⟨h1,rfl,rfl⟩ | ⟨h1,h2,rfl,rfl⟩ | ⟨h1,h2,rfl,rfl⟩ <;> rcases k with ⟨k1,rfl,rfl⟩ | ⟨k1,k2,rfl,rfl⟩ | ⟨k1,k2,rfl,rfl⟩ <;>
  first | exact ⟨rfl,rfl⟩ | exact absurd h1 k1 | exact absurd k1 h1 | exact absurd h2 k2 | exact absurd k2 h2
theorem OrdT.one {r:List ByteArray} {s t:List UInt8} (h:OrdT r s) (k:OrdT r t):s=t:=by
 rcases h with ⟨a,b,h1,v,h2,rfl⟩ | ⟨h1,rfl⟩ <;> rcases k with ⟨a',b',k1,v',k2,rfl⟩ | ⟨k1,rfl⟩
 ·obtain ⟨rfl,rfl⟩:=h1.one k1
  rw [h2.one k2]
 ·exact absurd h1 (k1 _ _)
 ·exact absurd k1 (h1 _ _)
 ·rfl
theorem JoiT.one {r:List ByteArray} {s t:List UInt8} (h:JoiT r s) (k:JoiT r t):s=t:=by
 rcases h with ⟨a,b,h1,j,ok,h2,h3⟩ | ⟨h1,rfl⟩ <;> rcases k with ⟨a',b',k1,j',ok',k2,k3⟩ | ⟨k1,rfl⟩
 ·obtain ⟨rfl,rfl⟩:=h1.one k1
  obtain ⟨rfl,rfl⟩:=h2.one k2
  rcases h3 with ⟨h3,rfl⟩ | ⟨h3,x,hx,rfl⟩ <;> rcases k3 with ⟨k3,rfl⟩ | ⟨k3,y,hy,rfl⟩
  ·rfl
  ·rw [h3] at k3;cases k3
  ·rw [h3] at k3;cases k3
  ·rw [hx.one hy]
 ·exact absurd h1 (k1 _ _)
 ·exact absurd k1 (h1 _ _)
 ·rfl
theorem LasT.one {g:GatL} {r:List ByteArray} {s t:List UInt8} (h:LasT g r s) (k:LasT g r t):s=t:=by
 rcases h with ⟨a,rfl,h⟩ | ⟨h1,rfl⟩ <;> rcases k with ⟨a',e,k⟩ | ⟨k1,rfl⟩
 ·obtain rfl:a=a':=by simpa using e
  rcases h with ⟨h1,rfl⟩ | ⟨h1,x,m,ok,h2,h3⟩ <;> rcases k with ⟨k1,rfl⟩ | ⟨k1,x',m',ok',k2,k3⟩
  ·rfl
  ·omega
  ·omega
  ·obtain ⟨rfl,rfl,rfl⟩:=h2.one k2
   rcases h3 with ⟨h3,rfl⟩ | ⟨h3,x,hx,rfl⟩ <;> rcases k3 with ⟨k3,rfl⟩ | ⟨k3,y,hy,rfl⟩
   ·rfl
   ·rw [h3] at k3;cases k3
   ·rw [h3] at k3;cases k3
   ·rw [hx.one hy]
 ·simp at k1
 ·rw [e] at h1;simp at h1
 ·rfl
theorem CouT.one {g:GatL} {r:List ByteArray} {s t:List UInt8} (h:CouT g r s) (k:CouT g r t):s=t:=by
 rcases h with ⟨h1,n,h2,rfl⟩ | ⟨h1,rfl⟩ <;> rcases k with ⟨k1,n',k2,rfl⟩ | ⟨k1,rfl⟩
 ·rw [h2.one k2]
 ·exact absurd h1 k1
 ·exact absurd k1 h1
 ·rfl
theorem BesT.one {g:GatL} {r:List ByteArray} {s t:List UInt8} (h:BesT g r s) (k:BesT g r t):s=t:=by
 rcases h with ⟨h1,n,ok,h2,h3⟩ | ⟨h1,rfl⟩ <;> rcases k with ⟨k1,n',ok',k2,k3⟩ | ⟨k1,rfl⟩
 ·obtain ⟨rfl,rfl⟩:=h2.one k2
  rcases h3 with ⟨h3,rfl⟩ | ⟨h3,rfl⟩ <;> rcases k3 with ⟨k3,rfl⟩ | ⟨k3,rfl⟩
  ·rfl
  ·rw [h3] at k3;cases k3
  ·rw [h3] at k3;cases k3
  ·rfl
 ·exact absurd h1 k1
 ·exact absurd k1 h1
 ·rfl
theorem TellT.one {g a b:GatL} {c:List UInt8} {r:List ByteArray} {s t:List UInt8} (h:TellT g c r a s) (k:TellT g c r b t):a=b∧s=t:=by
 unfold TellT at h k
 split at h
 ·rename_i e;rw [if_pos e] at k;exact h.one k
 ·rename_i e;rw [if_neg e] at k
  split at h
  ·rename_i e;rw [if_pos e] at k;exact h.one k
  ·rename_i e;rw [if_neg e] at k
   split at h
   ·rename_i e;rw [if_pos e] at k;exact ⟨h.1.trans k.1.symm,h.2.one k.2⟩
   ·rename_i e;rw [if_neg e] at k
    split at h
    ·rename_i e;rw [if_pos e] at k;exact ⟨h.1.trans k.1.symm,h.2.one k.2⟩
    ·rename_i e;rw [if_neg e] at k
     split at h
     ·rename_i e;rw [if_pos e] at k;exact ⟨h.1.trans k.1.symm,h.2.one k.2⟩
     ·rename_i e;rw [if_neg e] at k
      split at h
      ·rename_i e;rw [if_pos e] at k;exact ⟨h.1.trans k.1.symm,h.2.one k.2⟩
      ·rename_i e;rw [if_neg e] at k
       split at h
       ·rename_i e;rw [if_pos e] at k;exact ⟨h.1.trans k.1.symm,h.2.one k.2⟩
       ·rename_i e;rw [if_neg e] at k;exact ⟨h.1.trans k.1.symm,h.2.trans k.2.symm⟩
theorem TellsTo.one {g a b:GatL} {ws:List ByteArray} {s t:List UInt8} (h:TellsTo g ws a s) (k:TellsTo g ws b t):a=b∧s=t:=by
 obtain ⟨u,r,rfl,h⟩:=h
 obtain ⟨u',r',e,k⟩:=k
 simp only [List.cons.injEq] at e
 obtain ⟨rfl,rfl⟩:=e
 exact h.one k
inductive RunTo:List ByteArray->GatL->List UInt8->Prop
 | nil:RunTo [] emptyG []
 | skip {ls:List ByteArray} {g:GatL} {o:List UInt8} {l:ByteArray} (h:RunTo ls g o) (hl:bl l=[]):RunTo (ls ++ [l]) g o
 | line {ls:List ByteArray} {g g':GatL} {o t:List UInt8} {l:ByteArray} (h:RunTo ls g o) (hl:bl l≠[]) (ht:TellsTo g (cutW 32 l) g' t):RunTo (ls ++ [l]) g' (o ++ (t ++ [10]))
theorem RunTo.inv {l:List ByteArray} {g:GatL} {o:List UInt8} (h:RunTo l g o) :
  (l=[]∧g=emptyG∧o=[])∨∃ ls x gp op,l=ls ++ [x]∧RunTo ls gp op∧((bl x=[]∧g=gp∧o=op)∨(bl x≠[]∧∃ t,TellsTo gp (cutW 32 x) g t∧o=op ++ (t ++ [10]))):=by
 cases h with
 | nil=>exact .inl ⟨rfl,rfl,rfl⟩
 | skip h hl=>exact .inr ⟨_,_,_,_,rfl,h,.inl ⟨hl,rfl,rfl⟩⟩
 | line h hl ht=>exact .inr ⟨_,_,_,_,rfl,h,.inr ⟨hl,_,ht,rfl⟩⟩
theorem RunTo.one {l:List ByteArray} {g:GatL} {o:List UInt8} (h:RunTo l g o):∀ {g':GatL} {o':List UInt8},RunTo l g' o'->g=g'∧o=o':=by
 induction h with
 | nil=>
  intro g' o' k
  rcases k.inv with ⟨_,rfl,rfl⟩ | ⟨ls,x,_,_,e,_⟩
  ·exact ⟨rfl,rfl⟩
  ·simp at e
 | skip h hl ih=>
  intro g' o' k
  rcases k.inv with ⟨e,_⟩ | ⟨ls,x,gp,op,e,hr,hx⟩
  ·simp at e
  ·obtain ⟨rfl,e2⟩:=List.append_inj' e rfl
   obtain rfl:_=x:=by simpa using e2
   obtain ⟨rfl,rfl⟩:=ih hr
   rcases hx with ⟨_,rfl,rfl⟩ | ⟨hx,_⟩
   ·exact ⟨rfl,rfl⟩
   ·exact absurd hl hx
 | line h hl ht ih=>
  intro g' o' k
  rcases k.inv with ⟨e,_⟩ | ⟨ls,x,gp,op,e,hr,hx⟩
  ·simp at e
  ·obtain ⟨rfl,e2⟩:=List.append_inj' e rfl
   obtain rfl:_=x:=by simpa using e2
   obtain ⟨rfl,rfl⟩:=ih hr
   rcases hx with ⟨hx,_⟩ | ⟨_,t',ht',rfl⟩
   ·exact absurd hx hl
   ·obtain ⟨rfl,rfl⟩:=ht.one ht'
    exact ⟨rfl,rfl⟩
def LongP (t:ByteArray):Prop:=3000 < t.size∨80 < (cutW 10 t).length
def TableP (t s:ByteArray):Prop:=(LongP t∧bl s=[108,111,110,103,10])∨(¬ LongP t∧∃ g,RunTo (cutW 10 t) g (bl s))
theorem TableP.one {t s s':ByteArray} (h:TableP t s) (k:TableP t s'):s=s':=by
 rcases h with ⟨h1,h2⟩ | ⟨h1,g,h2⟩ <;> rcases k with ⟨k1,k2⟩ | ⟨k1,g',k2⟩
 ·exact data_eq (h2.trans k2.symm)
 ·exact absurd h1 k1
 ·exact absurd k1 h1
 ·exact data_eq (h2.one k2).2
end Go.Proofs.YtpfhegengmlkmacGreatDoor
