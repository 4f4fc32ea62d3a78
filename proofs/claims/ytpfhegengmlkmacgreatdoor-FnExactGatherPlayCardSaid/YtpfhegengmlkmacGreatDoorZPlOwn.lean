/- FnExactGatherPlay, as a tied card: for every slice of names and every slice of feeds that can be read, where the library's one variable starts as the program's text lays it, the law returns true, and both read afterwards as they did before. -/
import Derived.Test.YtpfhegengmlkmacGreatDoorOpenG
import Derived.Test.YtpfhegengmlkmacGreatDoorCards
import Derived.Test.YtpfhegengmlkmacGreatDoorTie
import Derived.ChangeVars
import Derived.RowKitTokens
import Derived.LaidLaws
import Derived.LaidHandle
import Derived.Stop.Joined
import Derived.SevenTiedAt
import Derived.Test.YtpfhegengmlkmacGreatDoorZPlOwn9
namespace Go.Proofs.YtpfhegengmlkmacGreatDoor
open Go.ChangeShapes Go.WideShapes Go.ChangeAt Go.RowKit Go.Deep
set_option maxRecDepth 100000

theorem Tryz.cells30 : Tryz.prog.cellsOf 30 = 3 := by kernel_rfl

theorem open_feed3 {H : Type} {enc : TypeId × Value → H} {W : World} {fuel : Nat} {c0 c1 c2 : Value} {y : DataW H × List MemPlace}
    (hf : DataW.trod enc Tryz.prog W 0 (fun _ => true) true fuel 30 [c0, c1, c2] = some y) :
    ∃ (i x : Int) (a : Option Addr) (l : List (ByteArray × Int)) (c : Nat), c0 = .int .i64 i ∧ c1 = .int .i64 x ∧ c2 = .slice a l.length c ∧ l.length ≤ c ∧ Row W a l ∧ FitM l := by
  obtain ⟨y0, y1, n, _, _, h0, h1⟩ := trod_struct2 Tryz.underlying30 hf
  have k1 : Tryz.prog.cellsOf 3 = 1 := by kernel_rfl
  have k2 : Tryz.prog.cellsOf 28 = 2 := by kernel_rfl
  have k3 : Tryz.prog.cellsOf 24 = 1 := by kernel_rfl
  have t0 : DataW.trod enc Tryz.prog W 0 (fun _ => true) true n 3 [c0] = some y0 := by simpa [k1] using h0
  have h1' : DataW.trod enc Tryz.prog W 0 (fun _ => true) true n 28 [c1, c2] = some y1 := by simpa [k2] using h1
  obtain ⟨z0, z1, n', _, _, h2, h3⟩ := trod_struct2 Tryz.underlying28 h1'
  have t1 : DataW.trod enc Tryz.prog W 0 (fun _ => true) true n' 3 [c1] = some z0 := by simpa [k1] using h2
  have t2 : DataW.trod enc Tryz.prog W 0 (fun _ => true) true n' 24 [c2] = some z1 := by simpa [k3] using h3
  obtain ⟨i, f0, _, _⟩ := DataW.trod_int Tryz.underlying3 t0
  obtain ⟨x, f1, _, _⟩ := DataW.trod_int Tryz.underlying3 t1
  obtain ⟨a, l, c, f2, hc, hcame⟩ := open_marksC t2
  simp only [List.cons.injEq, and_true] at f0 f1 f2
  exact ⟨i, x, a, l, c, f0, f1, f2, hc, hcame.row, hcame.max, hcame.size⟩
/-- A slice of feeds that came in, read. -/
theorem open_feedsC {H : Type} {enc : TypeId × Value → H} {W : World} {fuel : Nat} {cs : List Value} {y : DataW H × List MemPlace}
    (hf : DataW.trod enc Tryz.prog W 0 (fun _ => true) true fuel 55 cs = some y) : ∃ (a : Option Addr) (l : List FeedV) (c : Nat), cs = [.slice a l.length c] ∧ RowF W a l ∧ FitF l := by
  rcases open_slice Tryz.underlying55 hf with ⟨hcs, _⟩ | ⟨x, n, c, m, k, D, Pl, hcs, _, hl, hm, hmm, _, hall⟩
  · exact ⟨none, [], 0, hcs, fun k h => absurd h (Nat.not_lt_zero k), by simp, fun j h => absurd h (Nat.not_lt_zero j)⟩
  · simp only [if_true] at hmm
    subst hmm
    have each : ∀ i, i < n → ∃ q : FeedV, W.cell? (x.add (i * 3)) = some (.int .i64 q.1) ∧ W.cell? (x.add (i * 3 + 1)) = some (.int .i64 q.2.1) ∧ (∃ v, W.cell? (x.add (i * 3 + 2)) = some v ∧ IsSl W v q.2.2) ∧ FitM q.2.2 := by
      intro i hi
      obtain ⟨cs', h1, h2⟩ := hall i (by omega)
      rw [Tryz.cells30] at h1
      obtain ⟨_, hlen, hcell⟩ := World.cells?_some h1
      match cs', hlen with
      | [v0, v1, v2], _ =>
        obtain ⟨i', x', a', l', c', e0, e1, e2, hc, hrow, hfit⟩ := open_feed3 h2
        subst e0 e1 e2
        have g0 := hcell 0 (by omega)
        have g1 := hcell 1 (by omega)
        have g2 := hcell 2 (by omega)
        rw [add_add] at g0 g1 g2
        exact ⟨(i', x', l'), by simpa using g0, by simpa using g1, ⟨_, by simpa using g2, a', c', rfl, hc, hrow⟩, hfit⟩
    obtain ⟨q, hq⟩ := choose_lt each
    have hlen : ((List.range n).map q).length = n := by simp
    refine ⟨some x, (List.range n).map q, m, by rw [hlen]; exact hcs, fun k hk => ?_, ?_, fun j hj => ?_⟩
    · simp only [List.length_map, List.length_range] at hk
      obtain ⟨e0, e1, ⟨v, e2, hv⟩, _⟩ := hq k hk
      obtain ⟨b, o, spot⟩ := x
      have hspot : spot = none := by simpa [Addr.add] using World.cell?_spot (hq 0 (by omega)).1
      subst hspot
      rw [add_plain] at e0 e1 e2
      exact ⟨b, o, rfl, block_lt_of_cell e0, by simpa using e0, by simpa [Nat.add_assoc] using e1, v, by simpa [Nat.add_assoc] using e2, by simpa using hv⟩
    · rw [hlen]; omega
    · simp only [List.length_map, List.length_range] at hj
      simpa using (hq j hj).2.2.2
end Go.Proofs.YtpfhegengmlkmacGreatDoor

namespace Go.Proofs.YtpfhegengmlkmacGreatDoor.fnExactGatherPlay
open Go.ChangeShapes Go.WideShapes Go.ChangeAt Go.RowKit

/-- What the row lists. -/
def laid1 : List (String × DataW Unit) := [("errors.errorType", Rows.laid_errors_errorType)]

theorem et : Tryz.prog.globalNamed "errors.errorType" = some 0 := by kernel_rfl
theorem rt : (Tryz.prog.cutTypes.find? (·.1 == "internal/reflectlite.rtype")).map (·.2) = some 197 := by kernel_rfl
theorem oneRow : ((List.range (466 - 100)).filter fun t => Tryz.prog.rowNamed t [101, 114, 114, 111, 114]) = [92] := by kernel_rfl
theorem size : Tryz.prog.types.size = 466 - 100 := by kernel_rfl

/-- What the condition gives the walks: the variable's one cell. -/
theorem of_laid {W : World} (h : laidMetH Tryz.prog laid1 W) : ErrT W := by
  have h' : laidMet Tryz.prog [] W ∧ handlesMet Tryz.prog laid1 W := h
  obtain ⟨name, u, ty, e1, e2, e3, e4, e5⟩ := h'.2 _ (List.mem_singleton.2 rfl)
  have en : name = [101, 114, 114, 111, 114] := (Option.some.inj e1).symm
  subst en
  obtain rfl := Option.some.inj (rt.symm.trans e2)
  have hm : ty ∈ (List.range (466 - 100)).filter fun t => Tryz.prog.rowNamed t [101, 114, 114, 111, 114] := List.mem_filter.2 ⟨List.mem_range.2 (by rw [← size]; exact e3), e4⟩
  rw [oneRow] at hm
  obtain rfl := List.mem_singleton.1 hm
  have hh : typeHandle Tryz.prog 92 = .pointer (some ⟨11, 92, none⟩) := by kernel_rfl
  rw [hh] at e5
  unfold ErrT
  simpa using World.var?_cell et e5 0

/-- A world that meets the condition: the settled one, the variable's cell laid. -/
noncomputable def laidWorld (os : Os) : World :=
  let w0 := World.holding Tryz.prog os ⟨#[], #[], []⟩
  { w0 with heap := w0.heap.modify 0 fun
      | .cells _ t frozen => .cells #[.iface 197 (.agg #[.pointer (some ⟨11, 92, none⟩)])] t frozen
      | o => o }
set_option maxRecDepth 100000 in
theorem laidWorld_met (os : Os) (args : Array Value) : laidMetH Tryz.prog laid1 ((laidWorld os).forCall (fun _ _ => 0) ⟨#[], args, []⟩).memory :=
  laidMetH_of_parts (laidMet_nil _ _) (by kernel_rfl)

set_option maxRecDepth 100000 in
set_option maxHeartbeats 1000000 in
theorem lifted (os : Os) (started : os.Started) (H : Type) (enc : TypeId × Value → H) :
    ReturnsInHanded {} Tryz.checked os 4 .any (fun w args => (Rows.fnExactGatherPlaySpec.pre enc Tryz.prog Tryz.f4 [] false w args ∧ laidMetH Tryz.prog laid1 w) ∧ sizedMet enc Tryz.prog Tryz.f4 (OpenSpec.ofChange Rows.fnExactGatherPlaySpec) false w args)
      (Rows.fnExactGatherPlaySpec.post enc Tryz.prog Tryz.f4 false true false false) := by
  refine returnsInHanded_of_change_and (C := Tryz.checked) (X := fun w _ => laidMetH Tryz.prog laid1 w) (fun _ _ _ hh h => h.of_heap hh) Tryz.own started (by kernel_rfl) Tryz.func4
    (ChangeSpec.witness_at (enc := enc) (C := Tryz.checked) (os := os) (X := fun w _ => laidMetH Tryz.prog laid1 w) false (laidWorld os) #[.slice none 0 0, .slice none 0 0] 8 rfl (by kernel_rfl) (by kernel_rfl) (by kernel_rfl) (by kernel_rfl) (by kernel_rfl) (laidWorld_met os _)) ?_
  intro W base args ds gs before hval0 hW _ _ hL _
  have hval : ∀ (j : Nat) t v, Tryz.f4.params[j]? = some t → args[j]? = some v → Value.okWide Tryz.prog W .any base t v := hval0
  have hW' := hW
  obtain ⟨p, q, hA0, hV, rfl, hfz, hnd⟩ := hW
  have hA : DataW.TrodAll enc Tryz.prog W 0 (fun _ => true) true Tryz.f4.params.toList args.toList ds p := hA0
  rw [Tryz.params4] at hA hval
  obtain ⟨v0, vs0, d0, ds0, p0, q0, hargs, rfl, rfl, h0, r0⟩ := trodAll_cons hA
  obtain ⟨v1, vs1, d1, ds1, p1, q1, rfl, rfl, rfl, h1, r1⟩ := trodAll_cons r0
  obtain ⟨rfl, rfl, rfl⟩ := trodAll_nil r1
  obtain rfl : args = #[v0, v1] := by cases args; simp_all
  obtain ⟨rfl, rfl⟩ := trodVars_none hV
  have lt0 : ∀ x ∈ p0, x.block < W.heap.size := by obtain ⟨m, hm⟩ := h0; exact DataW.trod_lt m _ _ _ hm
  have lt1 : ∀ x ∈ p1, x.block < W.heap.size := by obtain ⟨m, hm⟩ := h1; exact DataW.trod_lt m _ _ _ hm
  obtain ⟨a0', len0, cap0', rfl⟩ := okWide_slice Tryz.underlying22 (hval 0 22 v0 rfl rfl)
  obtain ⟨a0, ins, c0, hv0, hR0, hF0⟩ : ∃ (a : Option Addr) (l : List ByteArray) (c : Nat), [Value.slice a0' len0 cap0'] = [Value.slice a l.length c] ∧ RowS W a l ∧ FitS l := by
    obtain ⟨m, hm⟩ := h0
    exact open_namesC hm
  obtain ⟨rfl, rfl, rfl⟩ : a0' = a0 ∧ len0 = ins.length ∧ cap0' = c0 := by simpa using hv0
  obtain ⟨a1', len1, cap1', rfl⟩ := okWide_slice Tryz.underlying55 (hval 1 55 v1 rfl rfl)
  obtain ⟨a1, fs, c1, hv1, hR1, hF1⟩ : ∃ (a : Option Addr) (l : List FeedV) (c : Nat), [Value.slice a1' len1 cap1'] = [Value.slice a l.length c] ∧ RowF W a l ∧ FitF l := by
    obtain ⟨m, hm⟩ := h1
    exact open_feedsC hm
  obtain ⟨rfl, rfl, rfl⟩ : a1' = a1 ∧ len1 = fs.length ∧ cap1' = c1 := by simpa using hv1
  have het := of_laid hL
  clear hA0 hval0
  refine (lawPlay_any a0' a1' cap0' cap1' ins fs W hF0 hR0 hF1 hR1 het).mono fun e W' ⟨he, bel⟩ => ?_
  subst he
  exact ⟨_, rfl, _, _, _, [], _, [], hW', trodAll_mk1 (shut_bool Tryz.underlying4 _), (trodAll_cons_mk (Below.trod Tryz.laidOut (by kernel_rfl) (of_decide_eq_true (by kernel_rfl)) h0 bel lt0) (trodAll_cons_mk (Below.trod Tryz.laidOut (by kernel_rfl) (of_decide_eq_true (by kernel_rfl)) h1 bel lt1) trodAll_mk0)), rfl, bel.frame _, fun h => by cases h⟩

theorem over : Rows.FnExactGatherPlaySaid :=
  OpenClaim.holds_of_wide 4 Tryz.f4 rfl rfl rfl rfl rfl rfl rfl ⟨rfl, rfl, rfl, rfl, rfl⟩ rfl rfl rfl rfl rfl (by kernel_rfl) Tryz.func4 (by kernel_rfl)
    (of_decide_eq_true (by kernel_rfl)) (by unfold Func.isWrapper; first | (rw [if_pos (by decide +kernel)]; kernel_rfl) | (rw [if_neg (by decide +kernel)]; exact ⟨rfl, rfl⟩))
    (fun os started H enc _ => lifted os started H enc)

end Go.Proofs.YtpfhegengmlkmacGreatDoor.fnExactGatherPlay

namespace Go.Proofs.YtpfhegengmlkmacGreatDoor
theorem fnExactGatherPlay_card : Rows.FnExactGatherPlayCardSaid :=
  Claim7.holds_tied_plain_at .later [] [.handle] true _ true
    fnExactGatherPlay.over (fun _ h => by cases h) (by kernel_rfl) (fun _ h => by cases h) fnExactGatherPlay_row_tie rfl ⟨rfl, rfl⟩ (by kernel_rfl) rfl
    (fun f fn hf hfn => by
      obtain rfl : f = 4 := Option.some.inj ((show Tryz.prog.funcNamed "loop.example/bedstone/laws.FnExactGatherPlay" = some 4 by kernel_rfl).symm.trans hf) |>.symm
      obtain rfl : fn = Tryz.f4 := (Option.some.inj (Tryz.func4.symm.trans hfn)).symm
      exact ⟨by kernel_rfl, fun j t ht => by
        rw [Tryz.params4] at ht
        have hm : t ∈ [22, 55] := by simpa using Array.mem_of_getElem? ht
        have hall : ([22, 55].all fun u => !Tryz.prog.wantsStandIn u) = true := by kernel_rfl
        exact (show Tryz.prog.wantsStandIn t = false by simpa using List.all_eq_true.1 hall t hm)⟩)
    (by kernel_rfl)
end Go.Proofs.YtpfhegengmlkmacGreatDoor
