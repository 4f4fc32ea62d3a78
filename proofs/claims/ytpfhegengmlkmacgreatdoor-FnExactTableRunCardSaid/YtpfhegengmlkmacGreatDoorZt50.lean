/- Texts of this claim. -/
import Derived.OpenVars
import Derived.Lay
import Derived.ChangeVars
import Derived.LaidLaws
import Derived.LaidHandle
import Derived.LaidMore
import Derived.Stop.LaidErr
import Derived.Stop.Joined
import Derived.SevenTiedAt
import Derived.Test.YtpfhegengmlkmacGreatDoorZt49
namespace Go.Proofs.YtpfhegengmlkmacGreatDoor
open Go.ChangeShapes Go.WideShapes Go.ChangeAt Go.RowKit
set_option maxRecDepth 100000
theorem cells_of_texts {H:Type} {enc:TypeId×Value->H} {P:Program} {w:World} {base:Nat} {sp:Nat->Bool} {held:Bool} {fuel:Nat} {t e:TypeId} {n:Nat} {cs:List Value} {zs:List (List UInt8)} {p:List MemPlace}
  (ht:P.underlying t=some (.array n e)) (he:P.underlying e=some .string) (hce:P.cellsOf e=1) (hct:P.cellsOf t=n)
  (h:DataW.trod enc P w base sp held fuel t cs=some (.agg (zs.map fun z=>.lit (.string z)),p)):cs=zs.map fun z=>Value.string ⟨z.toArray⟩:=by
 cases fuel with
 | zero=>simp [DataW.trod] at h
 | succ fuel=>
  simp only [DataW.trod,ht,hce,hct,Nat.mul_one] at h
  split at h
  ·rename_i hl
   obtain ⟨xs,hm,hx⟩:=Option.map_eq_some_iff.1 h
   have hxs:xs.map (·.1)=zs.map fun z=>(DataW.lit (.string z):DataW H):=by
    have:=congrArg Prod.fst hx
    simpa using this
   have hxl:xs.length=n:=by simpa using Lib.mapM_length hm
   have hzl:zs.length=n:=by
    have:=congrArg List.length hxs
    simp at this
    omega
   apply List.ext_getElem?
   intro i
   by_cases hi:i < n
   ·obtain ⟨b,hb,hf⟩:=Lib.mapM_at hm i i (by simp [hi])
    obtain ⟨z,hc,rfl,_⟩:=DataW.trod_string he hf
    have h1:cs[i]?=some (.string z):=by
     have:=congrArg (·[0]?) hc
     simpa [List.getElem?_take,List.getElem?_drop] using this
    have h2:(xs.map (·.1))[i]?=some (DataW.lit (.string z.data.toList):DataW H):=by simp [hb]
    rw [hxs] at h2
    simp only [List.getElem?_map,Option.map_eq_some_iff,DataW.lit.injEq,Lit.string.injEq] at h2
    obtain ⟨z',hz',rfl⟩:=h2
    simp [h1,hz']
   ·rw [List.getElem?_eq_none (by omega),List.getElem?_eq_none (by simp;omega)]
  ·cases h
theorem texts_of_head {P:Program} {W:World} {name:String} {zs:List (List UInt8)} {rest:List (String×DataW Unit)} {g:Nat} {t e:TypeId} {n:Nat}
  (hg:P.globalNamed name=some g) (hty:(P.globals[g]?).map (·.type)=some t) (ht:P.underlying t=some (.array n e)) (he:P.underlying e=some .string) (hce:P.cellsOf e=1) (hct:P.cellsOf t=n)
  (h:laidMet P ((name,.agg (zs.map fun z=>.lit (.string z))) :: rest) W):W.var? P name=some (zs.map fun z=>Value.string ⟨z.toArray⟩).toArray:=by
 obtain ⟨ps,⟨g',t',cs,fuel,p,q,hg',ht',hvar,hd,_,_⟩,_⟩:=h
 obtain rfl:=Option.some.inj (hg.symm.trans hg')
 obtain rfl:=Option.some.inj (hty.symm.trans ht')
 rw [hvar,<- cells_of_texts ht he hce hct hd]
theorem laidMet_layAll {P:Program} {w0:World} {laid:List (String×DataW Unit)} (args:Array Value) (hf:w0.layFits P laid []=true) (hi:w0.layIfaces P laid (w0.layVars P laid)=true) :
  laidMet P laid ((w0.layVars P laid).forCall (fun _ _=>0) ⟨#[],args,[]⟩).memory:=by
 have e1:(laid.filter fun x=>(laid.map (·.1)).contains x.1)=laid:=List.filter_eq_self.2 fun x hx=>List.contains_iff_mem.2 (List.mem_map.2 ⟨x,hx,rfl⟩)
 have e2:(laid.filter fun x=>!(laid.map (·.1)).contains x.1)=[]:=List.filter_eq_nil_iff.2 fun x hx=>by rw [List.contains_iff_mem.2 (List.mem_map.2 ⟨x,hx,rfl⟩)];simp
 have h:laidMet P laid (w0.layVars P laid):=laidMet_layVars (w0:=w0) (laid.map (·.1)) [] (by rw [e1]) (by rw [e1];exact hf) (by rw [e1];exact hi) (by rw [e2];exact LaidIn.none)
 exact h.of_heap (by simp [World.memory,World.forCall,Input.heap])
theorem Tryz.star : "*" ++ "errors.errorString" = "*errors.errorString":=by decide
theorem Tryz.rowErr (u:TypeId) (h:Tryz.prog.typeName? 3 u=some "*errors.errorString"):u=331:=
 typeName_ptr_named (nm := "errors.errorString") (by rw [Tryz.star];kernel_rfl) (by kernel_rfl) (by decide) u (by rw [Tryz.star];exact h)
end Go.Proofs.YtpfhegengmlkmacGreatDoor
namespace Go.Proofs.YtpfhegengmlkmacGreatDoor.fnExactTableRun
open Go.ChangeShapes Go.WideShapes Go.ChangeAt Go.RowKit
open Go.ChangeMaps (open_string shut_string)
set_option maxRecDepth 100000
def laid9:List (String×DataW Unit):=[("math/bits.deBruijn32tab",Rows.laid_math_bits_deBruijn32tab),("math/bits.deBruijn64tab",Rows.laid_math_bits_deBruijn64tab),("internal/strconv.uint64pow10",Rows.laid_internal_strconv_uint64pow10),("unicode/utf8.acceptRanges",Rows.laid_unicode_utf8_acceptRanges),("strconv.ErrRange",Rows.laid_strconv_ErrRange),("strconv.ErrSyntax",Rows.laid_strconv_ErrSyntax),("loop.example/bedstone/impl.errNoLine",Rows.laid_loop_example_bedstone_impl_errNoLine),("loop.example/bedstone/impl.orderWords",Rows.laid_loop_example_bedstone_impl_orderWords),("unicode/utf8.first",Rows.laid_unicode_utf8_first)]
def laid10:List (String×DataW Unit):=[("math/bits.deBruijn32tab",Rows.laid_math_bits_deBruijn32tab),("math/bits.deBruijn64tab",Rows.laid_math_bits_deBruijn64tab),("internal/strconv.uint64pow10",Rows.laid_internal_strconv_uint64pow10),("unicode/utf8.acceptRanges",Rows.laid_unicode_utf8_acceptRanges),("errors.errorType",Rows.laid_errors_errorType),("strconv.ErrRange",Rows.laid_strconv_ErrRange),("strconv.ErrSyntax",Rows.laid_strconv_ErrSyntax),("loop.example/bedstone/impl.errNoLine",Rows.laid_loop_example_bedstone_impl_errNoLine),("loop.example/bedstone/impl.orderWords",Rows.laid_loop_example_bedstone_impl_orderWords),("unicode/utf8.first",Rows.laid_unicode_utf8_first)]
theorem rt:(Tryz.prog.cutTypes.find? (·.1 == "internal/reflectlite.rtype")).map (·.2)=some 197:=by kernel_rfl
theorem oneRow:((List.range (466 - 100)).filter fun t=>Tryz.prog.rowNamed t [101,114,114,111,114])=[92]:=by kernel_rfl
theorem size:Tryz.prog.types.size=466 - 100:=by kernel_rfl
theorem parts:(laid10.filter fun x=>x.2.handleName?.isNone)=laid9∧(laid10.filter fun x=>x.2.handleName?.isSome)=[("errors.errorType",Rows.laid_errors_errorType)]:=⟨rfl,rfl⟩
theorem of_laidH {W:World} (h:laidMetH Tryz.prog laid10 W):laidMet Tryz.prog laid9 W∧handlesMet Tryz.prog [("errors.errorType",Rows.laid_errors_errorType)] W:=by
 unfold laidMetH at h
 rw [parts.2,parts.1] at h
 exact h
theorem err_of {W:World} (h:handlesMet Tryz.prog [("errors.errorType",Rows.laid_errors_errorType)] W):ErrT W:=by
 obtain ⟨name,u,ty,e1,e2,e3,e4,e5⟩:=h _ (List.mem_singleton.2 rfl)
 have en:name=[101,114,114,111,114]:=(Option.some.inj e1).symm
 subst en
 obtain rfl:=Option.some.inj (rt.symm.trans e2)
 have hm:ty∈(List.range (466 - 100)).filter fun t=>Tryz.prog.rowNamed t [101,114,114,111,114]:=List.mem_filter.2 ⟨List.mem_range.2 (by rw [<- size];exact e3),e4⟩
 rw [oneRow] at hm
 obtain rfl:=List.mem_singleton.1 hm
 have hh:typeHandle Tryz.prog 92=.pointer (some ⟨11,92,none⟩):=by kernel_rfl
 rw [hh] at e5
 unfold ErrT
 have et:Tryz.prog.globalNamed "errors.errorType" = some 0:=by kernel_rfl
 simpa using World.var?_cell et e5 0
theorem sentinel {W:World} {n:String} {g:Nat} {text:List UInt8} {r:List (String×DataW Unit)} (h:laidMet Tryz.prog ((n,.iface "*errors.errorString" (.ptr (.agg [.lit (.string text)]))) :: r) W)
  (hg:Tryz.prog.globalNamed n=some g) (ht:(Tryz.prog.globals[g]?).map (·.type)=some 92):∃ t p,W.cell? ⟨g,0,none⟩=some (.iface t p):=by
 obtain ⟨a,s,hv,_,_,_⟩:=laid_sentinel h hg ht Tryz.underlying92 Tryz.rowErr Tryz.underlying331 Tryz.underlying333 rfl rfl Tryz.underlying9 (by kernel_rfl) (by kernel_rfl)
 exact ⟨331,.pointer (some a),by simpa using World.var?_cell hg hv 0⟩
theorem of_laid {W:World} (h:laidMetH Tryz.prog laid10 W):∃ u pv,AllW W u pv:=by
 obtain ⟨h0,hh⟩:=of_laidH h
 have h3:laidMet Tryz.prog (("internal/strconv.uint64pow10",Lib.tabData .u64 Lib.pow10Tab) :: _) W:=laidMet.tail (laidMet.tail h0)
 have h5:=laidMet.tail (laidMet.tail h3)
 have h6:=laidMet.tail h5
 have h7:=laidMet.tail h6
 have h8:=laidMet.tail h7
 have tab:Tab W:=Lib.tabIs_of_head (g:=8) (t:=321) (e:=300) (n:=20) (by kernel_rfl) (by kernel_rfl) (by kernel_rfl) (by kernel_rfl) (by kernel_rfl) (by kernel_rfl) h3
 have ran:=sentinel (g:=7) h5 (by kernel_rfl) (by kernel_rfl)
 have syn:=sentinel (g:=6) h6 (by kernel_rfl) (by kernel_rfl)
 obtain ⟨u,pv,giv⟩:=sentinel (g:=2) h7 (by kernel_rfl) (by kernel_rfl)
 have g8:Tryz.prog.globalNamed "loop.example/bedstone/impl.orderWords" = some 3:=by kernel_rfl
 have hw:=texts_of_head (zs:=[[115,97,109,101],[108,101,115,115],[109,111,114,101],[97,112,97,114,116]]) (t:=260) (e:=9) (n:=4) g8 (by kernel_rfl) (by kernel_rfl) (by kernel_rfl) (by kernel_rfl) (by kernel_rfl) h8
 refine ⟨u,pv,⟨tab,syn,ran,giv⟩,err_of hh, ?_⟩
 constructor
 ·simpa using World.var?_cell g8 hw 0
 ·simpa using World.var?_cell g8 hw 1
 ·simpa using World.var?_cell g8 hw 2
 ·simpa using World.var?_cell g8 hw 3
noncomputable def baseWorld (os:Os):World:=
 let w0:=World.holding Tryz.prog os ⟨#[],#[],[]⟩
 { w0 with heap:=w0.heap.modify 0 fun
   | .cells _ t frozen=>.cells #[.iface 197 (.agg #[.pointer (some ⟨11,92,none⟩)])] t frozen
   | o=>o }
noncomputable def laidWorld (os:Os):World:=(baseWorld os).layVars Tryz.prog laid9
theorem laidWorld_met (os:Os) (args:Array Value):laidMetH Tryz.prog laid10 ((laidWorld os).forCall (fun _ _=>0) ⟨#[],args,[]⟩).memory:=
 laidMetH_of_parts (by rw [parts.1];exact laidMet_layAll args (by kernel_rfl) (by kernel_rfl)) (by rw [parts.2];kernel_rfl)
set_option maxHeartbeats 1000000 in
theorem lifted (os:Os) (started:os.Started) (H:Type) (enc:TypeId×Value->H) :
  ReturnsInHanded {} Tryz.checked os 5 .any (fun w args=>(Rows.fnExactTableRunSpec.pre enc Tryz.prog Tryz.f5 [] false w args∧laidMetH Tryz.prog laid10 w)∧sizedMet enc Tryz.prog Tryz.f5 (OpenSpec.ofChange Rows.fnExactTableRunSpec) false w args)
   (Rows.fnExactTableRunSpec.post enc Tryz.prog Tryz.f5 false true false false):=by
 refine returnsInHanded_of_change_and (C:=Tryz.checked) (X:=fun w _=>laidMetH Tryz.prog laid10 w) (fun _ _ _ hh h=>h.of_heap hh) Tryz.own started (by kernel_rfl) Tryz.func5
  (ChangeSpec.witness_shaped (enc:=enc) (C:=Tryz.checked) (os:=os) (X:=fun w _=>laidMetH Tryz.prog laid10 w) false (laidWorld os) #[.string .empty] 8 (World.layVars_os _ _ _) (World.shaped_of_ZipB (by kernel_rfl) (by kernel_rfl)) (by kernel_rfl) (by kernel_rfl) (by kernel_rfl) (laidWorld_met os _)) ?_
 intro W base args ds gs before hval0 hW _ _ hL _
 have hval:∀ (j:Nat) t v,Tryz.f5.params[j]?=some t->args[j]?=some v->Value.okWide Tryz.prog W .any base t v:=hval0
 have hW':=hW
 obtain ⟨p,q,hA0,hV,rfl,hfz,hnd⟩:=hW
 have hA:DataW.TrodAll enc Tryz.prog W 0 (fun _=>true) true Tryz.f5.params.toList args.toList ds p:=hA0
 rw [Tryz.params5] at hA hval
 obtain ⟨v0,vs0,d0,ds0,p0,q0,hargs,rfl,rfl,h0,r0⟩:=trodAll_cons hA
 obtain ⟨rfl,rfl,rfl⟩:=trodAll_nil r0
 obtain rfl:args=#[v0]:=by cases args;simp_all
 obtain ⟨s,rfl,rfl,rfl,hss⟩:=open_string Tryz.underlying9 (hval 0 9 v0 rfl rfl) h0
 obtain ⟨u,pv,hall⟩:=of_laid hL
 clear hA0 hval0
 refine (lawTR_any s W u pv hall).mono fun e W' ⟨he,bel⟩=>?_
 subst he
 have hV':=Below.trodVars Tryz.laidOut bel (by kernel_rfl) hV
 obtain ⟨_,_,_,_,e0,_,_,_,_,_,e1,_,rfl,_⟩:=trodVars_two hV
 exact ⟨_,rfl,_,_,_,[],_,_,hW',trodAll_mk1 (shut_bool Tryz.underlying4 _),(trodAll_cons_mk (shut_string Tryz.underlying9 hss) trodAll_mk0),hV',bel.frame _,fun h=>by cases h⟩
end Go.Proofs.YtpfhegengmlkmacGreatDoor.fnExactTableRun
