/- Texts of this claim. -/
import Derived.Sort.KeysCollected
import Derived.Test.YtpfhegengmlkmacGreatDoorIter
import Derived.Test.YtpfhegengmlkmacGreatDoorZt11
import Derived.Test.YtpfhegengmlkmacGreatDoorZt18
namespace Go.Proofs.YtpfhegengmlkmacGreatDoor
open Go.RowKit Go.BigFrame
def textsL (ss:List (List UInt8)):List ByteArray:=ss.map fun l=>⟨l.toArray⟩
theorem textsL_cells (ss:List (List UInt8)):ss.map encStr=(textsL ss).map .string:=by simp [textsL,Function.comp_def]
theorem GrpS.listed {w:World} {B b n:Nat} {D:DataW Value} {V:ByteArray->Value} {S:ByteArray->List Spot} (h:GrpS w B b n D V S) {ss:List (List UInt8)} (hp:ss.Perm (strKeys D)) {s:ByteArray} (hs:S s≠[]):s∈textsL (ss.mergeSort (fun x y=>decide (x<=y))):=by
 have h1:=(h.has s).2 hs
 obtain ⟨es,rfl,_⟩:=World.ownsMap.keysOf h.own
 rw [Maps.has_eq,List.any_eq_true] at h1
 obtain ⟨p,hm,hk⟩:=h1
 have e:p.1=litS s:=by
  by_cases e:p.1=litS s
  ·exact e
  ·rw [Maps.sameKey_ne e] at hk
   cases hk
 have h2:s.data.toList∈strKeys (DataW.map es):=List.mem_map.2 ⟨p,hm,by rw [e];rfl⟩
 have h3:=(List.mergeSort_perm ss (fun x y=>decide (x<=y))).mem_iff.2 (hp.mem_iff.2 h2)
 exact List.mem_map.2 ⟨_,h3,by simp⟩
def GathG (w:World) (B:Nat) (v:Value) (L:List (List Spot×Value)):Prop:=w.ownsRow B 242 1 v L.length (L.map (·.2))∧∀ p∈L,GathP w B p.2 p.1
theorem gathG_none (w:World) (B:Nat):GathG w B (.slice none 0 0) []:=⟨World.ownsRow_nil _ _ _ _,by simp⟩
theorem GathG.keep {w w':World} {B:Nat} {v:Value} {L:List (List Spot×Value)} (h:GathG w B v L) (hb:Below w.heap.size w w'):GathG w' B v L:=⟨own_keep h.1 hb,fun p hp=>own_keep (h.2 p hp) hb⟩
theorem GathG.snoc {w w':World} {B:Nat} {v v' y:Value} {L:List (List Spot×Value)} {l:List Spot} (h:GathG w B v L) (hl:GathP w B y l) (hne:245≠242)
  (h':w'.ownsRow B 242 1 v' (L.length + 1) ((L.map (·.2)) ++ [y])) (hg:w.grownBy w' v.ownBlock):GathG w' B v' (L ++ [(l,y)]):=by
 refine ⟨?_,fun p hp=>?_⟩
 ·rw [List.length_append,List.map_append]
  exact h'
 ·rcases List.mem_append.1 hp with hp | hp
  ·exact World.ownsRow.kept (h.2 p hp) hg (own_types (h.2 p hp) h.1 hne)
  ·obtain rfl:p=(l,y):=by simpa using hp
   exact World.ownsRow.kept hl hg (own_types hl h.1 hne)
theorem GrpS.kept {w w':World} {B b n k:Nat} {D:DataW Value} {V:ByteArray->Value} {S:ByteArray->List Spot} {v:Value} {xs:List Value} (h:GrpS w B b n D V S) (hv:w.ownsRow B 242 1 v k xs) (hg:w.grownBy w' v.ownBlock) (hne:245≠242):GrpS w' B b n D V S:=
 ⟨h.own.kept hg (fun e=>by have:=own_from hv _ e.symm;have:=h.lt;omega),h.lt,h.eq,h.has,fun s=>World.ownsRow.kept (h.row s) hg (own_types (h.row s) hv hne),h.far⟩
theorem GathG.row {w:World} {B:Nat} {v:Value} {L:List (List Spot×Value)} (h:GathG w B v L):∃ a cap,v=.slice a L.length cap∧L.length<=cap∧RowG w a (L.map (·.1)):=by
 rcases h.1.2 with ⟨rfl,h0⟩ | ⟨g,cap,cur,rfl,hB,hh,hn,_⟩
 ·exact ⟨none,0,by rw [h0],by omega,fun k hk=>by rw [List.length_map] at hk;omega⟩
 ·have hlt:g < w.heap.size:=(Array.getElem?_eq_some_iff.1 hh).1
  refine ⟨_,cap,rfl,hn,fun k hk=>⟨g,0,rfl,hlt, ?_⟩⟩
  rw [List.length_map] at hk
  obtain ⟨a,c,e,hc,hr⟩:=(h.2 L[k] (List.getElem_mem hk)).row
  refine ⟨a,c, ?_,by simpa using hc,by simpa using hr⟩
  rw [Nat.zero_add,World.ownsRow.cellAt h.1 _ (by omega)]
  simp [hk,e]
theorem Tryz.infoQ:(Tryz.prog.info? 242).map (fun i=>(i.zero,i.size,i.bytes))=some (some (.slice none 0 0),1,24):=by kernel_rfl
theorem spot_unlike:245≠242:=by decide
theorem text_unlike:9≠242:=by decide
theorem GathP.keep {w w':World} {B:Nat} {v:Value} {l:List Spot} (h:GathP w B v l) (hb:Below w.heap.size w w'):GathP w' B v l:=own_keep h hb
theorem GathS.beside {w w':World} {B k:Nat} {v y:Value} {l:List ByteArray} {xs:List Value} (h:GathS w B v l) (hv:w.ownsRow B 242 1 y k xs) (hg:w.grownBy w' y.ownBlock):GathS w' B v l:=World.ownsRow.kept h hg (own_types h hv text_unlike)
def SharedTo (S:ByteArray->List Spot) (names:List ByteArray) (i:Nat) (L:List (List Spot×Value)):Prop:=
 (∀ p∈L,∃ s,p.1=S s∧1 < (S s).length)∧∀ q,(hq:q < names.length)->q < i->1 < (S names[q]).length->∃ p∈L,p.1=S names[q]
theorem SharedTo.skip {S:ByteArray->List Spot} {names:List ByteArray} {i:Nat} {L:List (List Spot×Value)} (h:SharedTo S names i L) (hi:i < names.length) (hn:¬ 1 < (S names[i]).length):SharedTo S names (i + 1) L:=⟨h.1,fun q hq hlt h1=>by
 by_cases e:q=i
 ·subst e;exact absurd h1 hn
 ·exact h.2 q hq (by omega) h1⟩
theorem SharedTo.take {S:ByteArray->List Spot} {names:List ByteArray} {i:Nat} {L:List (List Spot×Value)} (h:SharedTo S names i L) (hi:i < names.length) (hn:1 < (S names[i]).length) (y:Value):SharedTo S names (i + 1) (L ++ [(S names[i],y)]):=by
 refine ⟨fun p hp=>?_,fun q hq hlt h1=>?_⟩
 ·rcases List.mem_append.1 hp with hp | hp
  ·exact h.1 p hp
  ·obtain rfl:p=(S names[i],y):=by simpa using hp
   exact ⟨names[i],rfl,hn⟩
 ·by_cases e:q=i
  ·subst e
   exact ⟨(S names[q],y),by simp,rfl⟩
  ·obtain ⟨p,hp,he⟩:=h.2 q hq (by omega) h1
   exact ⟨p,List.mem_append_left _ hp,he⟩
theorem SharedTo.shared {ws:List (List ItemL)} {S:ByteArray->List Spot} {names:List ByteArray} {L:List (List Spot×Value)} (h:SharedTo S names names.length L) (hS:SpotsTo ws ws.length 0 S) (hn:∀ s,S s≠[]->s∈names) (h72:∀ s,(S s).length<=1000) (hL:L.length<=1000):ShW ws (L.map (·.1)):=by
 refine ⟨⟨fun src hs=>?_,fun s i k j l hik h1 h2=>?_⟩,fun src hs=>?_,by rw [List.length_map];exact hL⟩
 ·obtain ⟨p,hp,rfl⟩:=List.mem_map.1 hs
  obtain ⟨s,e,_⟩:=h.1 p hp
  exact ⟨s,fun q hq=>hS.1 s q (by rw [<- e];exact hq)⟩
 ·have m1:=hS.2 s _ h1 (.inl h1.1)
  have m2:=hS.2 s _ h2 (.inl h2.1)
  have hlen:1 < (S s).length:=by
   match hS':S s,m1,m2 with
   | [],m1,_=>simp at m1
   | [x],m1,m2=>
    have e1:(i,j)=x:=by simpa using m1
    have e2:(k,l)=x:=by simpa using m2
    rw [<- e1] at e2
    exact absurd (Prod.mk.inj e2).1.symm hik
   | _ :: _ :: _,_,_=>simp
  obtain ⟨q,hq,e⟩:=List.mem_iff_getElem.1 (hn s (fun e=>by rw [e] at hlen;simp at hlen))
  obtain ⟨p,hp,he⟩:=h.2 q hq hq (by rw [e];exact hlen)
  rw [e] at he
  exact ⟨p.1,List.mem_map.2 ⟨p,hp,rfl⟩,by rw [he];exact m1,by rw [he];exact m2⟩
 ·obtain ⟨p,hp,rfl⟩:=List.mem_map.1 hs
  obtain ⟨s,e,h1⟩:=h.1 p hp
  rw [e]
  exact ⟨h1,h72 s⟩
end Go.Proofs.YtpfhegengmlkmacGreatDoor
namespace Go.Proofs.YtpfhegengmlkmacGreatDoor
open Go.RowKit Go.BigFrame
set_option maxRecDepth 100000
open Classical in
set_option maxHeartbeats 1600000 in
theorem sharedSpots_any (W0 w:World) (a:Option Addr) (c:Nat) (ws:List (List ItemL)) (hr:RowV W0 w a ws) (hW:Below W0.heap.size W0 w) (hok:OkW ws) :
  Calls Tryz.prog 173 #[.slice a ws.length c] w fun e w'=>(∃ v L,e=.returned v∧GathG w' (w.heap.size + 1) v L∧ShW ws (L.map (·.1)))∧Below w.heap.size w w':=by
 have h6:=hok.2.1
 have hmm:=@run_makeMap Tryz.prog
 go_enter Tryz.func173,Tryz.ntmps173
 go_wp2_with fail
 have HOK:Hid (OkW ws):=hok
 have hz0:=hW.size
 clear hok hmm
 go_loopw [13] (fun i wr=>∃ (k n:Nat) (D:DataW Value) (V:ByteArray->Value) (S:ByteArray->List Spot),k<=ws.length∧i=.int .i64 k∧n<=k * 12∧GrpS wr (w.heap.size + 1) w.heap.size n D V S∧Hid (SpotsTo ws k 0 S)∧Hid (∀ s,(S s).length<=n)∧Below w.heap.size w wr) (fun i _=>ws.length - (intOf i).toNat)
 case atStart=>exact ⟨0,0,_,_,_,Nat.zero_le _,rfl,by omega,grpS_made w,spotsTo_start ws,fun s=>Nat.le_refl _,(Below.refl _ _).alloc (Nat.le_refl _) _⟩
 case round=>
  obtain ⟨k,n,D,V,S,hk,rfl,hn,hg,HS,HL,hbl⟩:=hrel
  by_cases hlt:k < ws.length
  ·obtain ⟨g,o,rfl,hwo⟩:=hr.below hbl k hlt
   have k0:(0:Int)<=(k:Int):=by omega
   have k1:(k:Int) < (ws.length:Int):=by omega
   go_wp2_with fail
   refine (size_off W0 _ g (o + k * 10) ws[k] hwo).mono ?_
   rintro e w2 ⟨rfl,rfl⟩
   by_cases h0:ws[k].length=0
   ·have HST:Hid (SpotsTo ws (k + 1) 0 S):=HS.out.empty hlt h0
    have h0':((ws[k].length:Int) == 0)=true:=by rw [beq_iff_eq];omega
    go_wp2_with fail
    exact ⟨⟨k + 1,n,D,V,S,by omega,by go_num,by omega,hg,HST,HL,hbl⟩,by simp [intOf];omega⟩
   ·have h0':((ws[k].length:Int) == 0)=false:=by rw [beq_eq_false_iff_ne];omega
    go_wp2_with fail
    refine (last_off W0 _ g (o + k * 10) ws[k] hwo (by omega)).mono ?_
    rintro e w3 ⟨⟨v,rfl,hv⟩,b3⟩
    obtain ⟨sa,sc,rfl,hcap,hrow⟩:=hv
    have B3:Below w.heap.size w w3:=hbl.trans (b3.mono hbl.size)
    replace hg:=hg.keep b3
    have hst:=(HOK.out.2.2 k hlt).2.1 (ws[k].length - 1) (by omega)
    have HST:Hid (StampP (ws[k][ws[k].length - 1]).2):=hst.1
    have h12:=hst.1.1
    clear hst
    have hfd:=field_stamp (ws[k][ws[k].length - 1]).1 sa (ws[k][ws[k].length - 1]).2.length sc
    go_wp2_with fail
    go_loopw [29] (fun i2 wr2=>∃ (j n:Nat) (D:DataW Value) (V:ByteArray->Value) (S:ByteArray->List Spot),j<=(ws[k][ws[k].length - 1]).2.length∧i2=.int .i64 j∧n<=k * 12 + j∧GrpS wr2 (w.heap.size + 1) w.heap.size n D V S∧Hid (SpotsTo ws k j S)∧Hid (∀ s,(S s).length<=n)∧Below w.heap.size w wr2) (fun i2 _=>(ws[k][ws[k].length - 1]).2.length - (intOf i2).toNat)
    case atStart=>exact ⟨0,n,D,V,S,Nat.zero_le _,rfl,by omega,hg,HS,HL,B3⟩
    case round=>
     clear hg HS HL hn
     obtain ⟨j,n,D,V,S,hj,rfl,hn,hg,HS,HL,B4⟩:=hrel
     by_cases hjlt:j < (ws[k][ws[k].length - 1]).2.length
     ·obtain ⟨bm,om,rfl,hbm,m0,m1⟩:=hrow j hjlt
      have j0:(0:Int)<=(j:Int):=by omega
      have j1:(j:Int) < ((ws[k][ws[k].length - 1]).2.length:Int):=by omega
      have hbm':bm < w.heap.size:=by omega
      replace m0:=cell_on B4 hbm' (cell_on hW hbm m0)
      replace m1:=cell_on B4 hbm' (cell_on hW hbm m1)
      have hname:=(HST.out.2.1 j hjlt).1
      have hss:((ws[k][ws[k].length - 1]).2[j]).1.size<=maxLen:=by have:=hname.2.1;unfold maxLen;omega
      clear hname
      obtain ⟨s,hsn⟩:∃ s,((ws[k][ws[k].length - 1]).2[j]).1=s:=⟨_,rfl⟩
      obtain ⟨x,hxn⟩:∃ x,((ws[k][ws[k].length - 1]).2[j]).2=x:=⟨_,rfl⟩
      rw [hsn] at m0 hss
      rw [hxn] at m1
      have HSN:Hid (((ws[k][ws[k].length - 1]).2[j]).1=s):=hsn
      clear hsn hxn
      go_wp2_with fail
      have hb0:Below wr.heap.size wr (wr.alloc (.cells #[.string s,.int .i64 x] 144)):=(Below.refl _ _).alloc (Nat.le_refl _) _
      have hlt0:=box_lt wr (.cells #[.string s,.int .i64 x] 144)
      have d0:=box0 wr (.string s) (.int .i64 x) 144
      generalize wr.alloc (.cells #[.string s,.int .i64 x] 144)=W at *
      have hgd:GrpS W.drew (w.heap.size + 1) w.heap.size n D V S:=(hg.keep hb0).keep (Below.refl _ _).drew
      have hl1:=lookup_spot hgd s hss
      have hb1:Below W.heap.size W ((W.alloc (.cells #[.int .i64 (k:Int),.int .i64 (j:Int)] 245)).drew):=((Below.refl _ _).alloc (Nat.le_refl _) _).drew
      have hga:=(hg.keep hb0).keep hb1
      have hl2:=lookup_spot hga s hss
      have SW:(W.drew).cell? ⟨wr.heap.size,0,none⟩=some (.string s):=d0
      have S2:((W.alloc (.cells #[.int .i64 (k:Int),.int .i64 (j:Int)] 245)).drew).cell? ⟨wr.heap.size,0,none⟩=some (.string s):=cell_on hb1 hlt0 d0
      have z4:=B4.size
      have zm:=hg.own.lt
      have zx:=hb0.size
      have BX:Below w.heap.size w ((W.alloc (.cells #[.int .i64 (k:Int),.int .i64 (j:Int)] 245)).drew):=(B4.trans (hb0.mono z4)).trans (hb1.mono (Nat.le_trans z4 zx))
      have hXs:=BX.size
      have hfar:some wr.heap.size≠(V s).ownBlock:=fun e=>by have:=(World.ownsRow.lt (hg.row s) _ e.symm).2;omega
      have hown:some w.heap.size≠(V s).ownBlock:=fun e=>by have:=own_from (hg.row s) _ e.symm;omega
      have HST2:Hid (SpotsTo ws k (j + 1) (fun t=>if t=s then S s ++ [(k,j)] else S t)):=HS.out.step hlt (by omega) hjlt HSN.out
      have HL2:Hid (∀ t,(if t=s then S s ++ [(k,j)] else S t).length<=n + 1):=fun t=>by
       by_cases e:t=s
       ·rw [if_pos e,List.length_append]
        have:=HL.out s
        simp only [List.length_singleton]
        omega
       ·rw [if_neg e]
        have:=HL.out t
        omega
      refine wp_region_held_drew (S:=fun u=>u.cell? ⟨wr.heap.size,0,none⟩=some (.string s)) (by kernel_rfl) SW (fun _=>?_)
      refine wpAnyH_take (i:=0) (v:=.map (some w.heap.size)) rfl (by kernel_rfl) (by kernel_rfl) (by kernel_rfl) (fun _ _ _ h=>h) (Or.inl ⟨by rfl, ?_⟩) SW ?_
      ·rintro u q1
       go_simp
      simp only [Act.put,List.setIfInBounds_toArray]
      refine wpAnyH_take (i:=1) (v:=.pointer (some ⟨wr.heap.size,0,none⟩)) rfl (by kernel_rfl) (by kernel_rfl) (by kernel_rfl) (fun _ _ _ h=>h) (Or.inl ⟨by rfl, ?_⟩) SW ?_
      ·rintro u q1
       go_simp
      simp only [Act.put]
      refine wpAnyH_take (i:=2) (v:=.string s) rfl (by kernel_rfl) (by kernel_rfl) (by kernel_rfl) (fun _ _ _ h=>h) (Or.inl ⟨by rfl, ?_⟩) SW ?_
      ·rintro u q1
       go_simp
      simp only [Act.put]
      refine wpAnyH_take (i:=3) (v:=.map (some w.heap.size)) rfl (by kernel_rfl) (by kernel_rfl) (by kernel_rfl) (fun _ _ _ h=>h) (Or.inl ⟨by rfl, ?_⟩) SW ?_
      ·rintro u q1
       go_simp
      simp only [Act.put]
      refine wpAnyH_take (i:=4) (v:=.pointer (some ⟨wr.heap.size,0,none⟩)) rfl (by kernel_rfl) (by kernel_rfl) (by kernel_rfl) (fun _ _ _ h=>h) (Or.inl ⟨by rfl, ?_⟩) SW ?_
      ·rintro u q1
       go_simp
      simp only [Act.put]
      refine wpAnyH_take (i:=5) (v:=.string s) rfl (by kernel_rfl) (by kernel_rfl) (by kernel_rfl) (fun _ _ _ h=>h) (Or.inl ⟨by rfl, ?_⟩) SW ?_
      ·rintro u q1
       go_simp
      simp only [Act.put]
      refine wpAnyH_take (i:=7) (v:=.int .i64 k) rfl (by kernel_rfl) (by kernel_rfl) (by kernel_rfl) (fun _ _ _ h=>h) (Or.inl ⟨by rfl, ?_⟩) SW ?_
      ·rintro u q1
       go_simp
      simp only [Act.put]
      refine wpAnyH_take (i:=8) (v:=.int .i64 j) rfl (by kernel_rfl) (by kernel_rfl) (by kernel_rfl) (fun _ _ _ h=>h) (Or.inl ⟨by rfl, ?_⟩) SW ?_
      ·rintro u q1
       go_simp
      simp only [Act.put]
      refine wpAnyH_take (i:=9) (v:=.agg #[.int .i64 k,.int .i64 j]) rfl (by kernel_rfl) (by kernel_rfl) (by kernel_rfl) (fun _ _ _ h=>h) (Or.inl ⟨by rfl, ?_⟩) SW ?_
      ·rintro u q1
       go_simp
      simp only [Act.put]
      refine wpAnyH_ready (rs:=[6,10]) (by kernel_rfl) (by simp) ?_
      refine AllReadyH.cons rfl (fun K hK=>?_) (AllReadyH.cons rfl (fun K hK=>?_) AllReadyH.nil)
      ·rw [if_pos (by rfl)]
       go_simp
       refine hK.out _ _ SW (fun _=>?_)
       clear hK K
       refine wpAnyH_ready (rs:=[10]) (by kernel_rfl) (by simp) ?_
       refine AllReadyH.cons rfl (fun K hK=>?_) AllReadyH.nil
       rw [if_pos (by rfl)]
       go_simp
       refine hK.out _ _ S2 (fun _=>?_)
       clear hK K
       refine wpAnyH_ready (rs:=[11]) (by kernel_rfl) (by simp) ?_
       refine AllReadyH.cons rfl (fun K hK=>?_) AllReadyH.nil
       rw [if_pos (by rfl)]
       refine wp_append_spot _ _ rfl (w.heap.size + 1) (V s) (S s) rfl (hga.row s) (by have:=hb1.size;omega) W.heap.size (k,j) rfl (by simp [go_sem]) (by simp [go_sem]) (by have:=HL.out s;omega) ?_
       intro v' w4 ho hgb hloc
       have S4:w4.cell? ⟨wr.heap.size,0,none⟩=some (.string s):=grown_cell hgb hfar S2
       refine hK.out _ _ S4 (fun _=>?_)
       clear hK K
       refine wpAnyH_ready (rs:=[12]) (by kernel_rfl) (by simp) ?_
       refine AllReadyH.cons rfl (fun K hK=>?_) AllReadyH.nil
       rw [if_pos (by rfl)]
       refine wp_update_spot _ _ _ rfl w.heap.size n D rfl (hga.own.kept hgb hown) (by unfold maxLen;omega) s hss v' rfl rfl ?_
       intro w5 h2 hg2
       have S5:w5.cell? ⟨wr.heap.size,0,none⟩=some (.string s):=grown_cell hg2 (fun q=>by have:=Option.some.inj q;omega) S4
       refine hK.out _ _ S5 (fun _=>?_)
       clear hK K
       refine wpAnyH_done (by kernel_rfl) ?_ _
       go_wp2_with fail
       exact ⟨⟨j + 1,n + 1,_,_,_,by omega,by go_num,by omega,hga.put s (k,j) hgb ho (hloc.imp_right fun e=>⟨_,e,Nat.le_refl _⟩) h2 hg2,HST2,HL2,(BX.grown hgb hXs (fun q hq=>by have:=own_from (hga.row s) q hq;omega)).grown hg2 (Nat.le_trans hXs hgb.size) (fun q hq=>by cases hq;exact Nat.le_refl _)⟩,by simp [intOf];omega⟩
      ·rw [if_pos (by rfl)]
       go_simp
       refine hK.out _ _ S2 (fun _=>?_)
       clear hK K
       refine wpAnyH_ready (rs:=[6]) (by kernel_rfl) (by simp) ?_
       refine AllReadyH.cons rfl (fun K hK=>?_) AllReadyH.nil
       rw [if_pos (by rfl)]
       go_simp
       refine hK.out _ _ S2 (fun _=>?_)
       clear hK K
       refine wpAnyH_ready (rs:=[11]) (by kernel_rfl) (by simp) ?_
       refine AllReadyH.cons rfl (fun K hK=>?_) AllReadyH.nil
       rw [if_pos (by rfl)]
       refine wp_append_spot _ _ rfl (w.heap.size + 1) (V s) (S s) rfl (hga.row s) (by have:=hb1.size;omega) W.heap.size (k,j) rfl (by simp [go_sem]) (by simp [go_sem]) (by have:=HL.out s;omega) ?_
       intro v' w4 ho hgb hloc
       have S4:w4.cell? ⟨wr.heap.size,0,none⟩=some (.string s):=grown_cell hgb hfar S2
       refine hK.out _ _ S4 (fun _=>?_)
       clear hK K
       refine wpAnyH_ready (rs:=[12]) (by kernel_rfl) (by simp) ?_
       refine AllReadyH.cons rfl (fun K hK=>?_) AllReadyH.nil
       rw [if_pos (by rfl)]
       refine wp_update_spot _ _ _ rfl w.heap.size n D rfl (hga.own.kept hgb hown) (by unfold maxLen;omega) s hss v' rfl rfl ?_
       intro w5 h2 hg2
       have S5:w5.cell? ⟨wr.heap.size,0,none⟩=some (.string s):=grown_cell hg2 (fun q=>by have:=Option.some.inj q;omega) S4
       refine hK.out _ _ S5 (fun _=>?_)
       clear hK K
       refine wpAnyH_done (by kernel_rfl) ?_ _
       go_wp2_with fail
       exact ⟨⟨j + 1,n + 1,_,_,_,by omega,by go_num,by omega,hga.put s (k,j) hgb ho (hloc.imp_right fun e=>⟨_,e,Nat.le_refl _⟩) h2 hg2,HST2,HL2,(BX.grown hgb hXs (fun q hq=>by have:=own_from (hga.row s) q hq;omega)).grown hg2 (Nat.le_trans hXs hgb.size) (fun q hq=>by cases hq;exact Nat.le_refl _)⟩,by simp [intOf];omega⟩
     ·have HX:Hid (SpotsTo ws (k + 1) 0 S):=SpotsTo.whole hlt (by omega) (by
       have e:j=(ws[k][ws[k].length - 1]).2.length:=by omega
       rw [<- e];exact HS.out)
      go_wp2_with fail
      exact ⟨⟨k + 1,n,D,V,S,by omega,by go_num,by omega,hg,HX,HL,B4⟩,by simp [intOf];omega⟩
  ·clear hr
   have HOW:Hid (∃ n0,n0<=72∧GrpS wr (w.heap.size + 1) w.heap.size n0 D V S∧∀ s,(S s).length<=n0):=⟨n,by omega,hg,HL.out⟩
   go_wp2_with fail
   refine (callsIn_wide.1 (Tryz.maps_Keys_199 (some w.heap.size) _)).mono ?_
   rintro e w1 ⟨rfl,rfl⟩
   go_wp2_with fail
   have hsz:=hg.own.size_le
   refine (callsIn_wide.1 (Tryz.slices_Sorted_keys_198_199 w.heap.size n D heldE _ hg.own (by unfold maxLen;omega) (by omega))).mono ?_
   rintro e w2 ⟨v,ss,rfl,hperm,hsown,_,b2⟩
   obtain ⟨names,hnm⟩:∃ l,l=textsL (ss.mergeSort (fun x y=>decide (x<=y))):=⟨_,rfl⟩
   have hnl:names.length=ss.length:=by rw [hnm];simp [textsL]
   have hgs:GathS w2 (wr.alloc (.cells #[.map (some w.heap.size)] 261)).heap.size v names:=by
    unfold GathS
    rw [hnl,hnm,<- textsL_cells]
    exact hsown
   obtain ⟨sa,sc,rfl,hnrow⟩:=hgs.shape
   have HN:Hid (∀ s,S s≠[]->s∈names):=fun s hs=>by rw [hnm];exact hg.listed hperm hs
   have hn72:names.length<=72:=by
    rw [hnl,hperm.length_eq]
    have e:(strKeys D).length=Maps.size D:=by
     obtain ⟨es,rfl,_⟩:=World.ownsMap.keysOf hg.own
     simp [strKeys,Maps.size]
    omega
   have HSZ:Hid (∀ q,(h:q < names.length)->names[q].size<=maxLen):=fun q hq=>by
    subst hnm
    have hm:=(List.mergeSort_perm ss (fun x y=>decide (x<=y))).mem_iff.1 (List.getElem_mem (by simpa [textsL] using hq:q < (ss.mergeSort (fun x y=>decide (x<=y))).length))
    have:=strKeys_le hg.own Tryz.underlying9 _ (hperm.mem_iff.1 hm)
    simpa [textsL,ByteArray.size] using this
   have hb2:Below wr.heap.size wr w2:=((Below.refl _ _).alloc (Nat.le_refl _) _).trans (b2.mono (by simp))
   have B2:Below w.heap.size w w2:=hbl.trans (hb2.mono hbl.size)
   have hg2:=hg.keep hb2
   have hgn:GathS w2 (w.heap.size + 1) (.slice sa names.length sc) names:=hgs.lower (by have:=hg.own.lt;simp;omega)
   have hmlt:=hg2.own.lt
   clear hg hsown hgs hperm hnm hnl b2 hsz HOW hnrow
   obtain ⟨i0,hi,hy0,hy1,hy2⟩:=info_parts Tryz.infoQ
   go_wp2_with fail
   go_loopw [7,52] (fun vs i wr3=>∃ (q:Nat) (L:List (List Spot×Value)),q<=names.length∧i=.int .i64 q∧L.length<=q∧GathG wr3 (w.heap.size + 1) vs L∧Hid (SharedTo S names q L)∧GrpS wr3 (w.heap.size + 1) w.heap.size n D V S∧GathS wr3 (w.heap.size + 1) (.slice sa names.length sc) names∧Below w.heap.size w wr3) (fun _ i _=>names.length - (intOf i).toNat)
   case atStart=>exact ⟨0,[],Nat.zero_le _,rfl,Nat.le_refl _,gathG_none _ _,⟨fun p hp=>by simp at hp,fun q _ h=>by omega⟩,hg2,hgn,B2⟩
   case round=>
    clear hg2 hgn B2 hb2
    obtain ⟨q,L,hq,rfl,hLq,hL,HSH,hg,hgn,B3⟩:=hrel
    have hmlt:=hg.own.lt
    by_cases hqlt:q < names.length
    ·have hnrow:RowS wr sa names:=by
      obtain ⟨a9,c9,e9,h9⟩:=hgn.shape
      cases e9
      exact h9
     obtain ⟨bn,on,rfl,hbn,n0⟩:=hnrow q hqlt
     have q0:(0:Int)<=(q:Int):=by omega
     have q1:(q:Int) < (names.length:Int):=by omega
     have hlk:=lookup_spot hg names[q] (HSZ.out q hqlt)
     have hgp:=hg.row names[q]
     obtain ⟨va,vc,ev,hvc,_⟩:=GathP.row hgp
     rw [ev] at hlk hgp
     by_cases h1:1 < (S names[q]).length
     ·have HX:Hid (SharedTo S names (q + 1) (L ++ [(S names[q],.slice va (S names[q]).length vc)])):=HSH.out.take hqlt h1 _
      have h1':decide (1 < ((S names[q]).length:Int))=true:=decide_eq_true (by omega)
      go_wp2_with (first | (at_builtin;refine wpList_append_own_at _ rfl _ _ 211 rfl (w.heap.size + 1) 242 i0 (.slice none 0 0) 1 24 Tryz.underlying211 hi hy0 hy1 hy2 rfl (by decide) _ L.length (L.map (·.2)) rfl (own_keep hL.1 ((Below.refl _ _).alloc (Nat.le_refl _) _)) ⟨wr.heap.size,0,none⟩ 1 1 [.slice va (S names[q]).length vc] rfl rfl (one_new _ _ _) (by simp [Value.oneCell']) (by unfold maxLen;omega) (by omega) (by simp;omega) ?_;intro v' w5 hown' hgrow _ hloc))
      have hbx:Below wr.heap.size wr (wr.alloc (.cells #[.slice va (S names[q]).length vc] 242)):=(Below.refl _ _).alloc (Nat.le_refl _) _
      have hkL:=hL.keep hbx
      exact ⟨⟨q + 1,L ++ [(S names[q],.slice va (S names[q]).length vc)],by omega,by go_num,by simp;omega,hkL.snoc (hgp.keep hbx) spot_unlike hown' hgrow,HX,(hg.keep hbx).kept hkL.1 hgrow spot_unlike,(hgn.keep hbx).beside hkL.1 hgrow,((B3.trans (hbx.mono B3.size)).grown hgrow (by simp;omega) (fun k hk=>by have:=own_from hkL.1 k hk;omega))⟩,by simp [intOf];omega⟩
     ·have HX:Hid (SharedTo S names (q + 1) L):=HSH.out.skip hqlt h1
      have h1':decide (1 < ((S names[q]).length:Int))=false:=decide_eq_false (by omega)
      go_wp2_with fail
      exact ⟨⟨q + 1,L,by omega,by go_num,by omega,hL,HX,hg,hgn,B3⟩,by simp [intOf];omega⟩
    ·have HF:Hid (ShW ws (L.map (·.1))):=by
      have e:q=names.length:=by omega
      have e2:ws.length=k:=by omega
      exact SharedTo.shared (by rw [<- e];exact HSH.out) (by rw [e2];exact HS.out) HN.out (fun s=>by have:=HL.out s;omega) (by omega)
     obtain ⟨fa,fc,rfl,_,_⟩:=hL.row
     go_wp2_with fail
     go_ret
     exact ⟨⟨_,L,rfl,hL,HF.out⟩,B3⟩
set_option maxHeartbeats 3200000 in
theorem readWindow_from (W0:World) (a:Option Addr) (cap:Nat) (l:List ItemL) (w:World) (hf:FitI l) (hr:RowI W0 a l) (h0:Below W0.heap.size W0 w) :
  Calls Tryz.prog 127 #[.slice a l.length cap] w fun e w'=>ReadE W0 l e∧Below w.heap.size w w':=by
 have hl:=hf.1
 unfold maxLen at hl
 by_cases h4:4 < l.length
 ·have HN:Hid (¬ WinP l):=fun h=>by have:=h.1;omega
  go_enter Tryz.func127,Tryz.ntmps127
  go_wp2_with fail
  exact bodyPost_ret (v:=.tuple #[.agg zero10,.bool false]) (by simp [results,Tryz.results127,go_sem]) rfl ⟨.inr ⟨_,rfl,HN.out,winV_zero _⟩,((Below.refl _ _).alloc (Nat.le_refl _) _).alloc (by simp) _⟩
 go_enter Tryz.func127,Tryz.ntmps127
 go_wp2_with fail
 have hA1:Below w.heap.size w (w.alloc (.cells zero10 190)):=(Below.refl _ _).alloc (Nat.le_refl _) _
 have hA2:Below w.heap.size w ((w.alloc (.cells zero10 190)).alloc (.cells zero10 190)):=hA1.alloc hA1.size _
 have hZ:ZeroB ((w.alloc (.cells zero10 190)).alloc (.cells zero10 190)) w.heap.size:=(zeroB_new w).below ((Below.refl _ _).alloc (Nat.le_refl _) _)
 have hWn:WinB W0 ((w.alloc (.cells zero10 190)).alloc (.cells zero10 190)) (w.heap.size + 1) 0 []:=by
  have h:=winB_new W0 (w.alloc (.cells zero10 190)) (Nat.le_trans h0.size hA1.size)
  rw [World.size_alloc] at h
  exact h
 go_loopw [13] (fun i wr=>∃ k:Nat,k<=l.length∧i=.int .i64 k∧WinB W0 wr (w.heap.size + 1) 0 (l.take k)∧Hid (WinTo l k)∧ZeroB wr w.heap.size∧Below w.heap.size w wr) (fun i _=>l.length - (intOf i).toNat)
 case atStart=>exact ⟨0,Nat.zero_le _,rfl,hWn,winTo_zero l,hZ,hA2⟩
 case round=>
  obtain ⟨k,hk,rfl,hW,HTO,hz,hb⟩:=hrel
  clear hA1 hA2 hZ hWn
  by_cases hlt:k < l.length
  ·obtain ⟨b1,o1,rfl,g1,e0,v1,e1,⟨s1,t1,rfl,hc1,r1⟩⟩:=hr k hlt
   have k0:(0:Int)<=(k:Int):=by omega
   have k1:(k:Int) < (l.length:Int):=by omega
   have x0:=cell_on (h0.trans (hb.mono h0.size)) g1 e0
   have x1:=cell_on (h0.trans (hb.mono h0.size)) g1 e1
   have fk:=hf.2 k hlt
   clear e0 e1
   go_wp2_with fail
   have hb0:Below wr.heap.size wr (wr.alloc (.cells #[.int .i64 l[k].1,.slice s1 l[k].2.length t1] 44)):=(Below.refl _ _).alloc (Nat.le_refl _) _
   have d0:=box0 wr (.int .i64 l[k].1) (.slice s1 l[k].2.length t1) 44
   have d1:=box1 wr (.int .i64 l[k].1) (.slice s1 l[k].2.length t1) 44
   have hlt0:=box_lt wr (.cells #[.int .i64 l[k].1,.slice s1 l[k].2.length t1] 44)
   replace hW:=hW.below hb0
   replace hz:=hz.below hb0
   have B1:Below w.heap.size w (wr.alloc (.cells #[.int .i64 l[k].1,.slice s1 l[k].2.length t1] 44)):=hb.trans (hb0.mono hb.size)
   generalize hq:wr.heap.size=q at *
   generalize wr.alloc (.cells #[.int .i64 l[k].1,.slice s1 l[k].2.length t1] 44)=W1 at *
   clear hb0 x0 x1 hq hb
   refine (itemOk_any l[k].1 s1 t1 l[k].2 W1 (r1.below (h0.trans (B1.mono h0.size))) fk).mono ?_
   rintro e w2 ⟨⟨r,rfl,hr2⟩,b2⟩
   replace hW:=hW.below b2
   replace hz:=hz.below b2
   replace d0:=cell_on b2 hlt0 d0
   replace d1:=cell_on b2 hlt0 d1
   have B2:Below w.heap.size w w2:=B1.trans (b2.mono B1.size)
   have hlt2:q < w2.heap.size:=Nat.lt_of_lt_of_le hlt0 b2.size
   have HR2:Hid (r=true↔StampP l[k].2∧l[k].2≠[]):=hr2
   clear hr2 b2 B1 hlt0
   cases r
   ·have HN:Hid (¬ WinP l):=fun h=>by simpa using HR2.out.2 (h.2.1 k hlt)
    obtain ⟨z0,z1,z2,z3,z4,z5,z6,z7,z8,z9⟩:=hz.cells
    obtain ⟨y0,y1,y2,y3,y4,y5,y6,y7,y8,y9⟩:=hz.free
    have HY:Hid _:=put10_cells hz (.int .i64 0) (.slice none 0 0) (.int .i64 0) (.slice none 0 0) (.int .i64 0) (.slice none 0 0) (.int .i64 0) (.slice none 0 0) (.int .i64 0) (.int .i64 0)
    clear HR2 hz hW
    go_wp2_with fail
    obtain ⟨Y0,Y1,Y2,Y3,Y4,Y5,Y6,Y7,Y8,Y9⟩:=HY.out
    unfold put10 at Y0 Y1 Y2 Y3 Y4 Y5 Y6 Y7 Y8 Y9
    exact bodyPost_ret (v:=.tuple #[.agg zero10,.bool false]) (by simp [results,Tryz.results127,go_sem,Y0,Y1,Y2,Y3,Y4,Y5,Y6,Y7,Y8,Y9]) rfl ⟨.inr ⟨_,rfl,HN.out,winV_zero _⟩,put10_below B2 (Nat.le_refl _) _ _ _ _ _ _ _ _ _ _⟩
   ·go_wp2_with fail
    refine (takes_any W0 w2 _ 0 (l.take k) l[k].1 _ l[k].2 hW (h0.trans (B2.mono h0.size)) (stamps_take HTO.out) ⟨s1,t1,rfl,hc1,r1⟩ (HR2.out.1 (by trivial)).1).mono ?_
    rintro e w3 ⟨⟨r,rfl,hr3⟩,b3⟩
    replace hW:=hW.below b3
    replace hz:=hz.below b3
    replace d0:=cell_on b3 hlt2 d0
    replace d1:=cell_on b3 hlt2 d1
    have B3:Below w.heap.size w w3:=B2.trans (b3.mono B2.size)
    have HR3:Hid (r=true↔∀ h:0 < (l.take k).length,AboveP ((l.take k)[(l.take k).length - 1]'(by omega)).2 l[k].2):=hr3
    clear hr3 b3 B2 hlt2
    cases r
    ·have HN:Hid (¬ WinP l):=fun h=>by
      have h3:=HR3.out.2 (take_above h hlt)
      simp at h3
     obtain ⟨z0,z1,z2,z3,z4,z5,z6,z7,z8,z9⟩:=hz.cells
     obtain ⟨y0,y1,y2,y3,y4,y5,y6,y7,y8,y9⟩:=hz.free
     have HY:Hid _:=put10_cells hz (.int .i64 0) (.slice none 0 0) (.int .i64 0) (.slice none 0 0) (.int .i64 0) (.slice none 0 0) (.int .i64 0) (.slice none 0 0) (.int .i64 0) (.int .i64 0)
     clear HR2 HR3 hz hW
     go_wp2_with fail
     obtain ⟨Y0,Y1,Y2,Y3,Y4,Y5,Y6,Y7,Y8,Y9⟩:=HY.out
     unfold put10 at Y0 Y1 Y2 Y3 Y4 Y5 Y6 Y7 Y8 Y9
     exact bodyPost_ret (v:=.tuple #[.agg zero10,.bool false]) (by simp [results,Tryz.results127,go_sem,Y0,Y1,Y2,Y3,Y4,Y5,Y6,Y7,Y8,Y9]) rfl ⟨.inr ⟨_,rfl,HN.out,winV_zero _⟩,put10_below B3 (Nat.le_refl _) _ _ _ _ _ _ _ _ _ _⟩
    ·have HST:Hid (WinTo l (k + 1)):=winTo_step HTO.out hlt (HR2.out.1 (by trivial)) (fun h=>above_take hlt h (HR3.out.1 (by trivial)))
     have HT:Hid (l.take (k + 1)=l.take k ++ [(l[k].1,l[k].2)]):=List.take_succ_eq_append_getElem hlt
     clear HR2 HR3 HTO
     go_wp2_with fail
     refine (push_room W0 w3 _ 0 (l.take k) l[k].1 _ l[k].2 hW ⟨s1,t1,rfl,hc1,r1⟩ (by rw [List.length_take];omega)).mono ?_
     rintro e w4 ⟨rfl,hW4,b4⟩
     have hz4:=hz.but b4 (by omega)
     have B4:Below w.heap.size w w4:=B3.trans (b4.below (by omega) B3.size)
     clear hW hz d0 d1 b4
     go_wp2_with fail
     exact ⟨⟨k + 1,by omega,by go_num,by rw [HT.out];exact hW4,HST,hz4,B4⟩,by simp [intOf];omega⟩
  ·have HF:Hid (WinP l):=winP_of HTO.out hlt (by omega)
   rw [List.take_of_length_le (by omega)] at hW
   obtain ⟨z0,z1,z2,z3,z4,z5,z6,z7,z8,z9⟩:=hz.cells
   obtain ⟨y0,y1,y2,y3,y4,y5,y6,y7,y8,y9⟩:=hz.free
   obtain ⟨_,_,_,f,⟨hrow,hsh⟩,e8,e9,hf'⟩:=hW
   obtain ⟨x0,a0,n0,c0,p0,p1⟩:=hsh 0 (by omega)
   obtain ⟨x1,a1,n1,c1,p2,p3⟩:=hsh 1 (by omega)
   obtain ⟨x2,a2,n2,c2,p4,p5⟩:=hsh 2 (by omega)
   obtain ⟨x3,a3,n3,c3,p6,p7⟩:=hsh 3 (by omega)
   have HV:Hid (WinV W0 (.agg #[.int .i64 x0,.slice a0 n0 c0,.int .i64 x1,.slice a1 n1 c1,.int .i64 x2,.slice a2 n2 c2,.int .i64 x3,.slice a3 n3 c3,.int .i64 0,.int .i64 l.length]) l):=winV_of (by omega) p0 p1 p2 p3 p4 p5 p6 p7 hf'
   have r0:wr.cell? ⟨w.heap.size + 1,0,none⟩=some (.int .i64 x0):=by rw [hrow.cell (by omega),<- p0]
   have r1:wr.cell? ⟨w.heap.size + 1,1,none⟩=some (.slice a0 n0 c0):=by rw [hrow.cell (by omega),<- p1]
   have r2:wr.cell? ⟨w.heap.size + 1,2,none⟩=some (.int .i64 x1):=by rw [hrow.cell (by omega),<- p2]
   have r3:wr.cell? ⟨w.heap.size + 1,3,none⟩=some (.slice a1 n1 c1):=by rw [hrow.cell (by omega),<- p3]
   have r4:wr.cell? ⟨w.heap.size + 1,4,none⟩=some (.int .i64 x2):=by rw [hrow.cell (by omega),<- p4]
   have r5:wr.cell? ⟨w.heap.size + 1,5,none⟩=some (.slice a2 n2 c2):=by rw [hrow.cell (by omega),<- p5]
   have r6:wr.cell? ⟨w.heap.size + 1,6,none⟩=some (.int .i64 x3):=by rw [hrow.cell (by omega),<- p6]
   have r7:wr.cell? ⟨w.heap.size + 1,7,none⟩=some (.slice a3 n3 c3):=by rw [hrow.cell (by omega),<- p7]
   have r8:wr.cell? ⟨w.heap.size + 1,8,none⟩=some (.int .i64 0):=by rw [hrow.cell (by omega),e8];rfl
   have r9:wr.cell? ⟨w.heap.size + 1,9,none⟩=some (.int .i64 l.length):=by rw [hrow.cell (by omega),e9]
   have HY:Hid _:=put10_cells hz (.int .i64 x0) (.slice a0 n0 c0) (.int .i64 x1) (.slice a1 n1 c1) (.int .i64 x2) (.slice a2 n2 c2) (.int .i64 x3) (.slice a3 n3 c3) (.int .i64 0) (.int .i64 l.length)
   clear HTO hz hrow hsh e8 e9 hf' p0 p1 p2 p3 p4 p5 p6 p7 f
   go_wp2_with fail
   obtain ⟨Y0,Y1,Y2,Y3,Y4,Y5,Y6,Y7,Y8,Y9⟩:=HY.out
   unfold put10 at Y0 Y1 Y2 Y3 Y4 Y5 Y6 Y7 Y8 Y9
   exact bodyPost_ret (v:=.tuple #[.agg #[.int .i64 x0,.slice a0 n0 c0,.int .i64 x1,.slice a1 n1 c1,.int .i64 x2,.slice a2 n2 c2,.int .i64 x3,.slice a3 n3 c3,.int .i64 0,.int .i64 l.length],.bool true]) (by simp [results,Tryz.results127,go_sem,Y0,Y1,Y2,Y3,Y4,Y5,Y6,Y7,Y8,Y9]) rfl ⟨.inl ⟨_,rfl,HF.out,HV.out⟩,put10_below hb (Nat.le_refl _) _ _ _ _ _ _ _ _ _ _⟩
end Go.Proofs.YtpfhegengmlkmacGreatDoor
