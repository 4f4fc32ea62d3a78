/- Texts of this claim, one behind the other. -/
import Derived.OrdersHeld
import Derived.WalkKit
import Derived.LaidEql
import Derived.Stop.Asserts
import Derived.RowKitTokens
import Derived.Test.YtpfhegengmlkmaaGreatDoorZW1
namespace Go.Proofs.YtpfhegengmlkmaaGreatDoor
open Go.RowKit

/-- What operation i waits for. -/
def waits (ops : Array Oper) (i : Nat) : List Nat := match ops[i]? with
  | none => []
  | some o => (o.after.toList.filter (Region.binds .any)).map (·.on)
/-- Each waits for earlier ones alone. -/
def earlier (ops : Array Oper) : Bool := (List.range ops.size).all fun i => (waits ops i).all fun j => decide (j < i)

theorem mem_ready {ops : Array Oper} {listed : Array Bool} {i : Nat} : i ∈ Region.ready .any ops listed ↔ i < ops.size ∧ listed.getD i true = false ∧ ∀ j ∈ waits ops i, listed.getD j false = true := by
  unfold Region.ready waits
  rw [List.mem_filter, List.mem_range]
  refine and_congr_right fun hi => ?_
  rw [Array.getElem?_eq_getElem hi]
  simp only [Option.map_some, Option.getD_some, Bool.and_eq_true, Bool.not_eq_true', List.mem_map, List.mem_filter]
  refine and_congr_right fun _ => ?_
  rw [Array.all_eq_true']
  constructor
  · rintro h j ⟨e, ⟨he, hb⟩, rfl⟩
    have := h e (by simpa using he)
    simpa [hb] using this
  · intro h e he
    by_cases hb : Region.binds .any e = true
    · simpa [hb] using h e.on ⟨e, ⟨by simpa using he, hb⟩, rfl⟩
    · simp [hb]

/-- f, and operation i done. -/
def andDone (f : Nat → Bool) (i : Nat) : Nat → Bool := fun k => if k = i then true else f k
theorem andDone_other (f : Nat → Bool) {i k : Nat} (h : k ≠ i) : andDone f i k = f k := if_neg h
/-- How many are still to come. -/
def toCome (n : Nat) (f : Nat → Bool) : Nat := ((List.range n).filter fun k => !f k).length
theorem toCome_step {n i : Nat} {f : Nat → Bool} (hi : i < n) (h : f i = false) : toCome n (andDone f i) < toCome n f := by
  unfold toCome
  have e : ((List.range n).filter fun k => !andDone f i k) = ((List.range n).filter fun k => !f k).filter fun k => decide (k ≠ i) := by
    rw [List.filter_filter]
    refine List.filter_congr fun k _ => ?_
    by_cases hk : k = i
    · subst hk; simp [andDone]
    · simp [andDone, hk]
  rw [e]
  refine List.length_filter_lt_length_iff_exists.2 ⟨i, ?_, by simp⟩
  simp [List.mem_filter, hi, h]
theorem earlier_spec {ops : Array Oper} (h : earlier ops = true) {i j : Nat} (hi : i < ops.size) (hj : j ∈ waits ops i) : j < i := by
  have h1 := List.all_eq_true.1 h i (List.mem_range.2 hi)
  simpa using List.all_eq_true.1 h1 j hj

/-- One obligation an operation. -/
theorem wpAny_inv {P : Program} {ops : Array Oper} {Q : Exit → Act → World → Prop} (Inv : (Nat → Bool) → Act → World → Prop) (he : earlier ops = true)
    (hstep : ∀ f a w i, Inv f a w → i < ops.size → f i = false → (∀ j ∈ waits ops i, f j = true) → wpOp P ops Q i (Inv (andDone f i)) a w)
    (hend : ∀ f a w, Inv f a w → (∀ i, i < ops.size → f i = true) → Q .normal a w) :
    ∀ (fuel : Nat) (listed : Array Bool) (f : Nat → Bool) (a : Act) (w : World), listed.size = ops.size → (∀ i, (h : i < listed.size) → listed[i] = f i) → toCome ops.size f ≤ fuel → Inv f a w → wpAny P .any ops Q fuel listed a w := by
  have hget : ∀ {listed : Array Bool} {f : Nat → Bool}, listed.size = ops.size → (∀ i, (h : i < listed.size) → listed[i] = f i) → ∀ i d, i < ops.size → listed.getD i d = f i := fun {listed f} hs hl i d hi => by
    rw [Array.getD_eq_getD_getElem?, Array.getElem?_eq_getElem (by omega)]
    exact hl i (by omega)
  have hall : ∀ {listed : Array Bool} {f : Nat → Bool}, listed.size = ops.size → (∀ i, (h : i < listed.size) → listed[i] = f i) → Region.ready .any ops listed = [] → ∀ i, i < ops.size → f i = true := fun {listed f} hs hl hr i => by
    induction i using Nat.strongRecOn with
    | _ i ih =>
      intro hi
      refine Classical.byContradiction fun hn => ?_
      have hm : i ∈ Region.ready .any ops listed := mem_ready.2 ⟨hi, by rw [hget hs hl i true hi]; simpa using hn, fun j hj => by
        have hji := earlier_spec he hi hj
        rw [hget hs hl j false (by omega)]
        exact ih j hji (by omega)⟩
      rw [hr] at hm
      simp at hm
  intro fuel
  induction fuel with
  | zero =>
    intro listed f a w hs hl hc hI
    have hr : Region.ready .any ops listed = [] := by
      refine List.eq_nil_iff_forall_not_mem.2 fun i hi => ?_
      obtain ⟨h1, h2, _⟩ := mem_ready.1 hi
      rw [hget hs hl i true h1] at h2
      have := toCome_step h1 h2
      omega
    exact ⟨hr, hend f a w hI (hall hs hl hr)⟩
  | succ fuel ih =>
    intro listed f a w hs hl hc hI
    refine ⟨fun hr => hend f a w hI (hall hs hl hr), fun i hi => ?_⟩
    obtain ⟨h1, h2, h3⟩ := mem_ready.1 hi
    rw [hget hs hl i true h1] at h2
    have h4 : ∀ j ∈ waits ops i, f j = true := fun j hj => by
      have hji := earlier_spec he h1 hj
      rw [← hget hs hl j false (by omega)]
      exact h3 j hj
    have hlt := toCome_step h1 h2
    have hk : ∀ a' w', Inv (andDone f i) a' w' → wpAny P .any ops Q fuel (listed.setIfInBounds i true) a' w' := fun a' w' h' => ih _ (andDone f i) a' w' (by simpa using hs) (fun k hk' => by
      have hk2 : k < listed.size := by simpa using hk'
      rw [Array.getElem_setIfInBounds (by simpa using hk2)]
      by_cases e : i = k
      · subst e; simp [andDone]
      · rw [if_neg e, andDone_other f (fun h => e h.symm)]
        exact hl k hk2) (by omega) h'
    have hs' := hstep f a w i hI h1 h2 h4
    unfold wpOp at hs' ⊢
    split
    · rename_i ho
      rw [ho] at hs'
      exact hk _ _ hs'
    · rename_i o ho
      rw [ho] at hs'
      simp only at hs'
      split
      · rename_i hw
        rw [if_pos hw] at hs'
        rcases hs' with h | h
        · exact .inl (Oper.wp_mono hk h)
        · exact .inr h
      · rename_i hw
        rw [if_neg hw] at hs'
        exact hk _ _ hs'

theorem wp_region_inv {P : Program} {id : Nat} {ops : Array Oper} {Q : Exit → Act → World → Prop} {a : Act} {w : World} (hm : P.follows .mixedOrders = true) (he : earlier ops = true) (Inv : (Nat → Bool) → Act → World → Prop) (h0 : Inv (fun _ => false) a w.drew)
    (hstep : ∀ f a w i, Inv f a w → i < ops.size → f i = false → (∀ j ∈ waits ops i, f j = true) → wpOp P ops Q i (Inv (andDone f i)) a w)
    (hend : ∀ f a w, Inv f a w → (∀ i, i < ops.size → f i = true) → Q .normal a w) : (Code.region id ops true).wp P Q a w :=
  wp_region_any hm (wpAny_inv Inv he hstep hend ops.size _ (fun _ => false) a _ (by simp) (fun i hi => by simp) (by unfold toCome; exact Nat.le_trans (List.length_filter_le _ _) (by simp)) h0)
/-- An operation without a guard, or whose guard lets it. -/
theorem wpOp_wanted {P : Program} {ops : Array Oper} {Q : Exit → Act → World → Prop} {K : Act → World → Prop} {i : Nat} {a : Act} {w : World} {o : Oper} (ho : ops[i]? = some o) (hw : Region.wanted o (yielded ops a.tmps) = true) (h : o.wp P a w K Q) : wpOp P ops Q i K a w := by
  unfold wpOp
  rw [ho]
  simp only
  rw [if_pos hw]
  exact .inl h

end Go.Proofs.YtpfhegengmlkmaaGreatDoor

namespace Go.Proofs.YtpfhegengmlkmaaGreatDoor
open Go.RowKit Go.Extern.Stop Go.Stop Go.Extern

theorem as_nil (t : Value) (w : World) :
    Calls Tryz.prog 32 #[.nilIface, t] w fun e w' => e = .returned (.bool false) ∧ w' = w := by
  go_enter Tryz.func32, Tryz.ntmps32
  go_wp2
  go_ret
  exact ⟨rfl, rfl⟩

theorem Tryz.valueOfP (t : Addr) (w : World) : (ReflectliteValue.unpack (.iface 74 (.pointer (some t)))).run Tryz.prog w
    = .ok (.agg #[.pointer (some ⟨1, 74, none⟩), .pointer (some ⟨w.heap.size, 0, none⟩), .int .u64 150]) (w.alloc (.cells #[.pointer (some t)] 74)) := by kernel_rfl
theorem Tryz.typeP (a : Addr) (w : World) : (ReflectliteValue.methodAny (ReflectliteValue.valueError "reflectlite.Value.Type" 0) (fun t _ _ _ => ReflectliteType.toType t) #[.agg #[.pointer (some ⟨1, 74, none⟩), .pointer (some a), .int .u64 150]]).run Tryz.prog w
    = .ok (.iface 167 (.agg #[.pointer (some ⟨1, 74, none⟩)])) w := by kernel_rfl
theorem Tryz.methodKind (h : Value) (w : World) : (Go.method 355 167 (.agg #[h]) "Kind").run Tryz.prog w = .ok (161, h) w := by kernel_rfl
theorem Tryz.kindP (w : World) : ((ReflectliteType.abiMethod fun t => (fun a : Nat => Value.int IntKind.u8 (a : Int)) <$> Rtype.kind t) #[.pointer (some ⟨1, 74, none⟩)]).run Tryz.prog w = .ok (.int .u8 22) w := by kernel_rfl
theorem Tryz.kindR (w : World) : ((ReflectliteType.abiMethod fun t => (fun a : Nat => Value.int IntKind.u8 (a : Int)) <$> Rtype.kind t) #[.pointer (some ⟨1, 72, none⟩)]).run Tryz.prog w = .ok (.int .u8 25) w := by kernel_rfl
theorem method_parts (z : Sem Value) (f : TypeId → Addr → Nat → Nat → Sem Value) (v : Value) : ∃ g, ReflectliteValue.method z f #[v] = (ReflectliteValue.parts v >>= g) ∧ ∀ t a fl, g (some (t, a, fl)) = f t a fl (fl % 32) := ⟨_, rfl, fun _ _ _ => rfl⟩
theorem Tryz.partsP (a : Addr) (w : World) : (ReflectliteValue.parts (.agg #[.pointer (some ⟨1, 74, none⟩), .pointer (some a), .int .u64 150])).run Tryz.prog w = .ok (some (74, a, 150)) w := by kernel_rfl
theorem Tryz.isNilP (a p : Addr) (W : World) (ha : W.cell? a = some (.pointer (some p))) :
    (ReflectliteValue.method (ReflectliteValue.valueError "reflectlite.Value.IsNil" 0) ReflectliteValue.isNil #[.agg #[.pointer (some ⟨1, 74, none⟩), .pointer (some a), .int .u64 150]]).run Tryz.prog W = .ok (.bool false) W := by
  obtain ⟨g, e1, e2⟩ := method_parts _ _ _
  rw [e1]
  simp only [Sem.run_bind, Tryz.partsP, Result.andThen, e2]
  simp [ReflectliteValue.isNil, loadVar, isAgg, underlying, Tryz.underlying74, ha, Result.andThen]
theorem Tryz.methodElem (h : Value) (w : World) : (Go.method 355 167 (.agg #[h]) "Elem").run Tryz.prog w = .ok (174, .agg #[h]) w := by kernel_rfl
theorem Tryz.methodImplements (h : Value) (w : World) : (Go.method 355 167 (.agg #[h]) "Implements").run Tryz.prog w = .ok (175, .agg #[h]) w := by kernel_rfl
theorem Tryz.methodAssignableTo (h : Value) (w : World) : (Go.method 355 167 (.agg #[h]) "AssignableTo").run Tryz.prog w = .ok (172, .agg #[h]) w := by kernel_rfl
theorem Tryz.elemP (w : World) : (ReflectliteType.method ReflectliteType.elem #[.agg #[.pointer (some ⟨1, 74, none⟩)]]).run Tryz.prog w = .ok (.iface 167 (.agg #[.pointer (some ⟨1, 72, none⟩)])) w := by kernel_rfl
theorem Tryz.implementsR (w : World) : (ReflectliteType.relation "Implements" ReflectliteType.implements_ #[.agg #[.pointer (some ⟨1, 72, none⟩)], .iface 167 (.agg #[.pointer (some ⟨1, 68, none⟩)])]).run Tryz.prog w = .ok (.bool true) w := by kernel_rfl
theorem Tryz.typeOfR (v : Value) (w : World) : (ReflectliteType.typeOf #[.iface 72 v]).run Tryz.prog w = .ok (.iface 167 (.agg #[.pointer (some ⟨1, 72, none⟩)])) w := by kernel_rfl
theorem Tryz.assignableR (w : World) : (ReflectliteType.relation "AssignableTo" ReflectliteType.assignableTo #[.agg #[.pointer (some ⟨1, 72, none⟩)], .iface 167 (.agg #[.pointer (some ⟨1, 72, none⟩)])]).run Tryz.prog w = .ok (.bool true) w := by kernel_rfl
theorem Tryz.valueOfR (c : Int) (w : World) : (ReflectliteValue.unpack (.iface 72 (.agg #[.int .i64 c]))).run Tryz.prog w
    = .ok (.agg #[.pointer (some ⟨1, 72, none⟩), .pointer (some ⟨w.heap.size, 0, none⟩), .int .u64 153]) (w.alloc (.cells #[.int .i64 c] 72)) := by kernel_rfl
theorem Tryz.elemOfP (w : World) : (Rtype.elem? 74).run Tryz.prog w = .ok (some 72) w := by kernel_rfl
theorem Tryz.mkR (p : Addr) (w : World) : (ReflectliteValue.mk 72 p ReflectliteValue.flagAddr).run Tryz.prog w = .ok (.agg #[.pointer (some ⟨1, 72, none⟩), .pointer (some p), .int .u64 409]) w := by kernel_rfl
theorem Tryz.elemVP (a p : Addr) (W : World) (ha : W.cell? a = some (.pointer (some p))) :
    (ReflectliteValue.method (ReflectliteValue.valueError "reflectlite.Value.Elem" 0) ReflectliteValue.elem #[.agg #[.pointer (some ⟨1, 74, none⟩), .pointer (some a), .int .u64 150]]).run Tryz.prog W
      = .ok (.agg #[.pointer (some ⟨1, 72, none⟩), .pointer (some p), .int .u64 409]) W := by
  obtain ⟨g, e1, e2⟩ := method_parts _ _ _
  rw [e1]
  simp only [Sem.run_bind, Tryz.partsP, Result.andThen, e2]
  simp [ReflectliteValue.elem, loadVar, isAgg, underlying, Tryz.underlying74, ha, Result.andThen, Tryz.elemOfP, Tryz.mkR]
theorem Tryz.setR0 (ta b : Addr) (W : World) : (ReflectliteValue.set #[.agg #[.pointer (some ⟨1, 72, none⟩), .pointer (some ta), .int .u64 409], .agg #[.pointer (some ⟨1, 72, none⟩), .pointer (some b), .int .u64 153]]).run Tryz.prog W
      = (do let v ← loadVar 72 b; storeVar 72 ta v; pure (Value.tuple #[])).run Tryz.prog W := by kernel_rfl
theorem Tryz.setR (ta b : Addr) (c : Int) (old : Value) (W : World) (hb : W.cell? b = some (.int .i64 c)) (ht : W.cell? ta = some old) (hf : W.frozen? ta = false) :
    (ReflectliteValue.set #[.agg #[.pointer (some ⟨1, 72, none⟩), .pointer (some ta), .int .u64 409], .agg #[.pointer (some ⟨1, 72, none⟩), .pointer (some b), .int .u64 153]]).run Tryz.prog W
      = .ok (.tuple #[]) (W.setCell ta (.int .i64 c)) := by
  rw [Tryz.setR0]
  simp [loadVar, storeVar, isAgg, underlying, Tryz.underlying72, loadCells, loadCellsFrom, hb, Result.andThen, Value.cells, storeCells, Addr.add]
  rw [run_store Tryz.prog W ta _ _ (by rfl)]
  simp [ht, hf]

/-- A refusal, asked for as such: it is handed over. -/
def AsTo (c : Int) (t : Addr) (w w' : World) : Prop := ∃ W, Below w.heap.size w W ∧ w' = W.setCell t (.int .i64 c)

set_option maxRecDepth 100000 in
set_option maxHeartbeats 4000000 in
theorem as_hit (c : Int) (t : Addr) (old : Value) (w : World) (hg : w.cell? ⟨0, 0, none⟩ = some (.iface 167 (.agg #[.pointer (some ⟨1, 68, none⟩)]))) (ht0 : w.cell? t = some old) (hf0 : w.frozen? t = false) :
    Calls Tryz.prog 32 #[.iface 72 (.agg #[.int .i64 c]), .iface 74 (.pointer (some t))] w fun ev w' => ev = .returned (.bool true) ∧ AsTo c t w w' := by
  have h1 := @run_callFunc_extern Tryz.prog 63 _ (fun args => ReflectliteValue.unpack (args.getD 0 (.tuple #[]))) Tryz.func63 (by kernel_rfl) (by kernel_rfl) (by kernel_rfl) (by kernel_rfl)
  have h2 := @run_callFunc_extern Tryz.prog 64 _ (ReflectliteValue.methodAny (ReflectliteValue.valueError "reflectlite.Value.Type" 0) (fun t _ _ _ => ReflectliteType.toType t)) Tryz.func64 (by kernel_rfl) (by kernel_rfl) (by kernel_rfl) (by kernel_rfl)
  have h3 := @run_callFunc_extern Tryz.prog 65 _ (ReflectliteValue.method (ReflectliteValue.valueError "reflectlite.Value.IsNil" 0) ReflectliteValue.isNil) Tryz.func65 (by kernel_rfl) (by kernel_rfl) (by kernel_rfl) (by kernel_rfl)
  have h4 := @run_callFunc_extern Tryz.prog 161 _ (ReflectliteType.abiMethod fun t => do pure (.int .u8 (← Rtype.kind t))) Tryz.func161 (by kernel_rfl) (by kernel_rfl) (by kernel_rfl) (by kernel_rfl)
  have h5 := @run_callFunc_extern Tryz.prog 174 _ (ReflectliteType.method ReflectliteType.elem) Tryz.func174 (by kernel_rfl) (by kernel_rfl) (by kernel_rfl) (by kernel_rfl)
  have h6 := @run_callFunc_extern Tryz.prog 175 _ (ReflectliteType.relation "Implements" ReflectliteType.implements_) Tryz.func175 (by kernel_rfl) (by kernel_rfl) (by kernel_rfl) (by kernel_rfl)
  have h7 := @run_callFunc_extern Tryz.prog 103 _ ReflectliteType.typeOf Tryz.func103 (by kernel_rfl) (by kernel_rfl) (by kernel_rfl) (by kernel_rfl)
  have h8 := @run_callFunc_extern Tryz.prog 172 _ (ReflectliteType.relation "AssignableTo" ReflectliteType.assignableTo) Tryz.func172 (by kernel_rfl) (by kernel_rfl) (by kernel_rfl) (by kernel_rfl)
  have h9 := @run_callFunc_extern Tryz.prog 104 _ (ReflectliteValue.method (ReflectliteValue.valueError "reflectlite.Value.Elem" 0) ReflectliteValue.elem) Tryz.func104 (by kernel_rfl) (by kernel_rfl) (by kernel_rfl) (by kernel_rfl)
  have h10 := @run_callFunc_extern Tryz.prog 105 _ ReflectliteValue.set Tryz.func105 (by kernel_rfl) (by kernel_rfl) (by kernel_rfl) (by kernel_rfl)
  have k1 := Tryz.typeOfR
  have k2 := Tryz.methodAssignableTo
  have k3 := Tryz.assignableR
  have k4 := Tryz.valueOfR
  have k5 := Tryz.valueOfP
  have k6 := Tryz.typeP
  have k7 := Tryz.methodKind
  have k8 := Tryz.methodElem
  have k9 := Tryz.methodImplements
  have k10 := Tryz.kindP
  have k11 := Tryz.kindR
  have k12 := Tryz.elemP
  have k13 := Tryz.implementsR
  have hlt : 0 < w.heap.size := block_lt_of_cell hg
  have htl : t.block < w.heap.size := by
    rcases Nat.lt_or_ge t.block w.heap.size with h | h
    · exact h
    · simp [World.cell?, Array.getElem?_eq_none h] at ht0
  obtain ⟨W1, hW1⟩ : ∃ W1, (w.alloc (.cells #[.pointer (some t)] 74)).alloc (.cells #[.pointer (some ⟨1, 74, none⟩), .pointer (some ⟨w.heap.size, 0, none⟩), .int .u64 150] 116) = W1 := ⟨_, rfl⟩
  have b1 : Below w.heap.size w W1 := by rw [← hW1]; exact ((Below.refl _ _).alloc (Nat.le_refl _) _).alloc (by simp) _
  have n1 := Tryz.isNilP ⟨w.heap.size, 0, none⟩ t W1 (by rw [← hW1]; simp)
  have hg1 : W1.cell? ⟨0, 0, none⟩ = some (.iface 167 (.agg #[.pointer (some ⟨1, 68, none⟩)])) := cell_on b1 hlt hg
  rw [← hW1] at n1 hg1 b1
  clear hW1 W1
  have b3 : Below w.heap.size w ((((w.alloc (.cells #[.pointer (some t)] 74)).alloc (.cells #[.pointer (some ⟨1, 74, none⟩), .pointer (some ⟨w.heap.size, 0, none⟩), .int .u64 150] 116)).alloc (.cells #[.pointer (some ⟨1, 74, none⟩), .pointer (some ⟨w.heap.size, 0, none⟩), .int .u64 150] 116)).alloc (.cells #[.int .i64 c] 72)) := (b1.alloc (by simp; omega) _).alloc (by simp; omega) _
  have n2 := Tryz.elemVP ⟨w.heap.size, 0, none⟩ t (((w.alloc (.cells #[.pointer (some t)] 74)).alloc (.cells #[.pointer (some ⟨1, 74, none⟩), .pointer (some ⟨w.heap.size, 0, none⟩), .int .u64 150] 116)).alloc (.cells #[.pointer (some ⟨1, 74, none⟩), .pointer (some ⟨w.heap.size, 0, none⟩), .int .u64 150] 116)) (by rw [World.cell?_alloc_lt _ _ ⟨w.heap.size, 0, none⟩ (by simp; omega)]; simp)
  have n3 := Tryz.setR t ⟨w.heap.size + 1 + 1 + 1, 0, none⟩ c old ((((w.alloc (.cells #[.pointer (some t)] 74)).alloc (.cells #[.pointer (some ⟨1, 74, none⟩), .pointer (some ⟨w.heap.size, 0, none⟩), .int .u64 150] 116)).alloc (.cells #[.pointer (some ⟨1, 74, none⟩), .pointer (some ⟨w.heap.size, 0, none⟩), .int .u64 150] 116)).alloc (.cells #[.int .i64 c] 72)) (by rw [World.cell?_alloc_at _ _ _ _ (by simp)]; rfl) ((b3.cell htl).trans ht0) ((b3.frozen htl).trans hf0)
  go_enter Tryz.func32, Tryz.ntmps32
  go_wp2
  refine wp_loop_rounds 1 ?_
  rw [rounds_succ]
  go_wp2
  go_ret
  exact ⟨rfl, _, b3, rfl⟩

end Go.Proofs.YtpfhegengmlkmaaGreatDoor
