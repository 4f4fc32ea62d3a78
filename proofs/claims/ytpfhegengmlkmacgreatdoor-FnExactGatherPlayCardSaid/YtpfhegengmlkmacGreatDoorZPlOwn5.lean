/- Texts of this claim, one behind the other. -/
import Derived.Test.YtpfhegengmlkmacGreatDoorLat
import Derived.WalkKit
import Derived.LaidEql
import Derived.Stop.Asserts
import Derived.RowKitTokens
import Derived.Test.YtpfhegengmlkmacGreatDoorGath
import Derived.Maps.OwnOps
import Derived.Maps.OwnSet
import Derived.Maps.AppendAt
import Derived.Sort.KeysCollected
import Derived.Test.YtpfhegengmlkmacGreatDoorZPlOwn4
/- errors.As at a refusal: by the library's own text, the entries of reflectlite by closed facts. -/
namespace Go.Proofs.YtpfhegengmlkmacGreatDoor
open Go.RowKit Go.Extern.Stop Go.Stop Go.Extern

theorem as_nil (t : Value) (w : World) :
    Calls Tryz.prog 52 #[.nilIface, t] w fun e w' => e = .returned (.bool false) ∧ w' = w := by
  go_enter Tryz.func52, Tryz.ntmps52
  go_wp2
  go_ret
  exact ⟨rfl, rfl⟩

theorem Tryz.valueOfP (t : Addr) (w : World) : (ReflectliteValue.unpack (.iface 98 (.pointer (some t)))).run Tryz.prog w
    = .ok (.agg #[.pointer (some ⟨11, 98, none⟩), .pointer (some ⟨w.heap.size, 0, none⟩), .int .u64 150]) (w.alloc (.cells #[.pointer (some t)] 98)) := by kernel_rfl
theorem Tryz.typeP (a : Addr) (w : World) : (ReflectliteValue.methodAny (ReflectliteValue.valueError "reflectlite.Value.Type" 0) (fun t _ _ _ => ReflectliteType.toType t) #[.agg #[.pointer (some ⟨11, 98, none⟩), .pointer (some a), .int .u64 150]]).run Tryz.prog w
    = .ok (.iface 197 (.agg #[.pointer (some ⟨11, 98, none⟩)])) w := by kernel_rfl
theorem Tryz.methodKind (h : Value) (w : World) : (Go.method 466 197 (.agg #[h]) "Kind").run Tryz.prog w = .ok (284, h) w := by kernel_rfl
theorem Tryz.kindP (w : World) : ((ReflectliteType.abiMethod fun t => (fun a : Nat => Value.int IntKind.u8 (a : Int)) <$> Rtype.kind t) #[.pointer (some ⟨11, 98, none⟩)]).run Tryz.prog w = .ok (.int .u8 22) w := by kernel_rfl
theorem Tryz.kindR (w : World) : ((ReflectliteType.abiMethod fun t => (fun a : Nat => Value.int IntKind.u8 (a : Int)) <$> Rtype.kind t) #[.pointer (some ⟨11, 96, none⟩)]).run Tryz.prog w = .ok (.int .u8 25) w := by kernel_rfl
theorem method_parts (z : Sem Value) (f : TypeId → Addr → Nat → Nat → Sem Value) (v : Value) : ∃ g, ReflectliteValue.method z f #[v] = (ReflectliteValue.parts v >>= g) ∧ ∀ t a fl, g (some (t, a, fl)) = f t a fl (fl % 32) := ⟨_, rfl, fun _ _ _ => rfl⟩
theorem Tryz.partsP (a : Addr) (w : World) : (ReflectliteValue.parts (.agg #[.pointer (some ⟨11, 98, none⟩), .pointer (some a), .int .u64 150])).run Tryz.prog w = .ok (some (98, a, 150)) w := by kernel_rfl
theorem Tryz.isNilP (a p : Addr) (W : World) (ha : W.cell? a = some (.pointer (some p))) :
    (ReflectliteValue.method (ReflectliteValue.valueError "reflectlite.Value.IsNil" 0) ReflectliteValue.isNil #[.agg #[.pointer (some ⟨11, 98, none⟩), .pointer (some a), .int .u64 150]]).run Tryz.prog W = .ok (.bool false) W := by
  obtain ⟨g, e1, e2⟩ := method_parts _ _ _
  rw [e1]
  simp only [Sem.run_bind, Tryz.partsP, Result.andThen, e2]
  simp [ReflectliteValue.isNil, loadVar, isAgg, underlying, Tryz.underlying98, ha, Result.andThen]
theorem Tryz.methodElem (h : Value) (w : World) : (Go.method 466 197 (.agg #[h]) "Elem").run Tryz.prog w = .ok (298, .agg #[h]) w := by kernel_rfl
theorem Tryz.methodImplements (h : Value) (w : World) : (Go.method 466 197 (.agg #[h]) "Implements").run Tryz.prog w = .ok (299, .agg #[h]) w := by kernel_rfl
theorem Tryz.methodAssignableTo (h : Value) (w : World) : (Go.method 466 197 (.agg #[h]) "AssignableTo").run Tryz.prog w = .ok (296, .agg #[h]) w := by kernel_rfl
theorem Tryz.elemP (w : World) : (ReflectliteType.method ReflectliteType.elem #[.agg #[.pointer (some ⟨11, 98, none⟩)]]).run Tryz.prog w = .ok (.iface 197 (.agg #[.pointer (some ⟨11, 96, none⟩)])) w := by kernel_rfl
theorem Tryz.implementsR (w : World) : (ReflectliteType.relation "Implements" ReflectliteType.implements_ #[.agg #[.pointer (some ⟨11, 96, none⟩)], .iface 197 (.agg #[.pointer (some ⟨11, 92, none⟩)])]).run Tryz.prog w = .ok (.bool true) w := by kernel_rfl
theorem Tryz.typeOfR (v : Value) (w : World) : (ReflectliteType.typeOf #[.iface 96 v]).run Tryz.prog w = .ok (.iface 197 (.agg #[.pointer (some ⟨11, 96, none⟩)])) w := by kernel_rfl
theorem Tryz.assignableR (w : World) : (ReflectliteType.relation "AssignableTo" ReflectliteType.assignableTo #[.agg #[.pointer (some ⟨11, 96, none⟩)], .iface 197 (.agg #[.pointer (some ⟨11, 96, none⟩)])]).run Tryz.prog w = .ok (.bool true) w := by kernel_rfl
theorem Tryz.valueOfR (c : Int) (w : World) : (ReflectliteValue.unpack (.iface 96 (.agg #[.int .i64 c]))).run Tryz.prog w
    = .ok (.agg #[.pointer (some ⟨11, 96, none⟩), .pointer (some ⟨w.heap.size, 0, none⟩), .int .u64 153]) (w.alloc (.cells #[.int .i64 c] 96)) := by kernel_rfl
theorem Tryz.elemOfP (w : World) : (Rtype.elem? 98).run Tryz.prog w = .ok (some 96) w := by kernel_rfl
theorem Tryz.mkR (p : Addr) (w : World) : (ReflectliteValue.mk 96 p ReflectliteValue.flagAddr).run Tryz.prog w = .ok (.agg #[.pointer (some ⟨11, 96, none⟩), .pointer (some p), .int .u64 409]) w := by kernel_rfl
theorem Tryz.elemVP (a p : Addr) (W : World) (ha : W.cell? a = some (.pointer (some p))) :
    (ReflectliteValue.method (ReflectliteValue.valueError "reflectlite.Value.Elem" 0) ReflectliteValue.elem #[.agg #[.pointer (some ⟨11, 98, none⟩), .pointer (some a), .int .u64 150]]).run Tryz.prog W
      = .ok (.agg #[.pointer (some ⟨11, 96, none⟩), .pointer (some p), .int .u64 409]) W := by
  obtain ⟨g, e1, e2⟩ := method_parts _ _ _
  rw [e1]
  simp only [Sem.run_bind, Tryz.partsP, Result.andThen, e2]
  simp [ReflectliteValue.elem, loadVar, isAgg, underlying, Tryz.underlying98, ha, Result.andThen, Tryz.elemOfP, Tryz.mkR]
theorem Tryz.partsRa (a : Addr) (w : World) : (ReflectliteValue.parts (.agg #[.pointer (some ⟨11, 96, none⟩), .pointer (some a), .int .u64 409])).run Tryz.prog w = .ok (some (96, a, 409)) w := by kernel_rfl
theorem Tryz.partsR (a : Addr) (w : World) : (ReflectliteValue.parts (.agg #[.pointer (some ⟨11, 96, none⟩), .pointer (some a), .int .u64 153])).run Tryz.prog w = .ok (some (96, a, 153)) w := by kernel_rfl
theorem Tryz.directR (w : World) : (Rtype.directlyAssignable 96 96).run Tryz.prog w = .ok true w := by kernel_rfl
theorem Tryz.setR0 (ta b : Addr) (W : World) : (ReflectliteValue.set #[.agg #[.pointer (some ⟨11, 96, none⟩), .pointer (some ta), .int .u64 409], .agg #[.pointer (some ⟨11, 96, none⟩), .pointer (some b), .int .u64 153]]).run Tryz.prog W
      = (do let v ← loadVar 96 b; storeVar 96 ta v; pure (Value.tuple #[])).run Tryz.prog W := by kernel_rfl
theorem Tryz.setR (ta b : Addr) (c : Int) (old : Value) (W : World) (hb : W.cell? b = some (.int .i64 c)) (ht : W.cell? ta = some old) (hf : W.frozen? ta = false) :
    (ReflectliteValue.set #[.agg #[.pointer (some ⟨11, 96, none⟩), .pointer (some ta), .int .u64 409], .agg #[.pointer (some ⟨11, 96, none⟩), .pointer (some b), .int .u64 153]]).run Tryz.prog W
      = .ok (.tuple #[]) (W.setCell ta (.int .i64 c)) := by
  rw [Tryz.setR0]
  simp [loadVar, storeVar, isAgg, underlying, Tryz.underlying96, loadCells, loadCellsFrom, hb, Result.andThen, Value.cells, storeCells, Addr.add]
  rw [run_store Tryz.prog W ta _ _ (by rfl)]
  simp [ht, hf]

/-- A refusal, asked for as such: it is handed over. -/
def AsTo (c : Int) (t : Addr) (w w' : World) : Prop := ∃ W, Below w.heap.size w W ∧ w' = W.setCell t (.int .i64 c)

set_option maxRecDepth 100000 in
set_option maxHeartbeats 4000000 in
theorem as_hit (c : Int) (t : Addr) (old : Value) (w : World) (hg : w.cell? ⟨0, 0, none⟩ = some (.iface 197 (.agg #[.pointer (some ⟨11, 92, none⟩)]))) (ht0 : w.cell? t = some old) (hf0 : w.frozen? t = false) :
    Calls Tryz.prog 52 #[.iface 96 (.agg #[.int .i64 c]), .iface 98 (.pointer (some t))] w fun ev w' => ev = .returned (.bool true) ∧ AsTo c t w w' := by
  have h1 := @run_callFunc_extern Tryz.prog 92 _ (fun args => ReflectliteValue.unpack (args.getD 0 (.tuple #[]))) Tryz.func92 (by kernel_rfl) (by kernel_rfl) (by kernel_rfl) (by kernel_rfl)
  have h2 := @run_callFunc_extern Tryz.prog 93 _ (ReflectliteValue.methodAny (ReflectliteValue.valueError "reflectlite.Value.Type" 0) (fun t _ _ _ => ReflectliteType.toType t)) Tryz.func93 (by kernel_rfl) (by kernel_rfl) (by kernel_rfl) (by kernel_rfl)
  have h3 := @run_callFunc_extern Tryz.prog 94 _ (ReflectliteValue.method (ReflectliteValue.valueError "reflectlite.Value.IsNil" 0) ReflectliteValue.isNil) Tryz.func94 (by kernel_rfl) (by kernel_rfl) (by kernel_rfl) (by kernel_rfl)
  have h4 := @run_callFunc_extern Tryz.prog 284 _ (ReflectliteType.abiMethod fun t => do pure (.int .u8 (← Rtype.kind t))) Tryz.func284 (by kernel_rfl) (by kernel_rfl) (by kernel_rfl) (by kernel_rfl)
  have h5 := @run_callFunc_extern Tryz.prog 298 _ (ReflectliteType.method ReflectliteType.elem) Tryz.func298 (by kernel_rfl) (by kernel_rfl) (by kernel_rfl) (by kernel_rfl)
  have h6 := @run_callFunc_extern Tryz.prog 299 _ (ReflectliteType.relation "Implements" ReflectliteType.implements_) Tryz.func299 (by kernel_rfl) (by kernel_rfl) (by kernel_rfl) (by kernel_rfl)
  have h7 := @run_callFunc_extern Tryz.prog 134 _ ReflectliteType.typeOf Tryz.func134 (by kernel_rfl) (by kernel_rfl) (by kernel_rfl) (by kernel_rfl)
  have h8 := @run_callFunc_extern Tryz.prog 296 _ (ReflectliteType.relation "AssignableTo" ReflectliteType.assignableTo) Tryz.func296 (by kernel_rfl) (by kernel_rfl) (by kernel_rfl) (by kernel_rfl)
  have h9 := @run_callFunc_extern Tryz.prog 135 _ (ReflectliteValue.method (ReflectliteValue.valueError "reflectlite.Value.Elem" 0) ReflectliteValue.elem) Tryz.func135 (by kernel_rfl) (by kernel_rfl) (by kernel_rfl) (by kernel_rfl)
  have h10 := @run_callFunc_extern Tryz.prog 136 _ ReflectliteValue.set Tryz.func136 (by kernel_rfl) (by kernel_rfl) (by kernel_rfl) (by kernel_rfl)
  have k1 := Tryz.typeOfR
  have k2 := Tryz.methodAssignableTo
  have k3 := Tryz.assignableR
  have k4 := Tryz.valueOfR
  have k5 := Tryz.valueOfP
  have k6 := Tryz.typeP
  have k7 := Tryz.methodKind
  have k8 := Tryz.methodElem
  have k9 := Tryz.methodImplements
  have k10 := Tryz.kindP
  have k11 := Tryz.kindR
  have k12 := Tryz.elemP
  have k13 := Tryz.implementsR
  have hlt : 0 < w.heap.size := block_lt_of_cell hg
  have htl : t.block < w.heap.size := by
    rcases Nat.lt_or_ge t.block w.heap.size with h | h
    · exact h
    · simp [World.cell?, Array.getElem?_eq_none h] at ht0
  obtain ⟨W1, hW1⟩ : ∃ W1, (w.alloc (.cells #[.pointer (some t)] 98)).alloc (.cells #[.pointer (some ⟨11, 98, none⟩), .pointer (some ⟨w.heap.size, 0, none⟩), .int .u64 150] 150) = W1 := ⟨_, rfl⟩
  have b1 : Below w.heap.size w W1 := by rw [← hW1]; exact ((Below.refl _ _).alloc (Nat.le_refl _) _).alloc (by simp) _
  have n1 := Tryz.isNilP ⟨w.heap.size, 0, none⟩ t W1 (by rw [← hW1]; simp)
  have hg1 : W1.cell? ⟨0, 0, none⟩ = some (.iface 197 (.agg #[.pointer (some ⟨11, 92, none⟩)])) := cell_on b1 hlt hg
  rw [← hW1] at n1 hg1 b1
  clear hW1 W1
  have b3 : Below w.heap.size w ((((w.alloc (.cells #[.pointer (some t)] 98)).alloc (.cells #[.pointer (some ⟨11, 98, none⟩), .pointer (some ⟨w.heap.size, 0, none⟩), .int .u64 150] 150)).alloc (.cells #[.pointer (some ⟨11, 98, none⟩), .pointer (some ⟨w.heap.size, 0, none⟩), .int .u64 150] 150)).alloc (.cells #[.int .i64 c] 96)) := (b1.alloc (by simp; omega) _).alloc (by simp; omega) _
  have n2 := Tryz.elemVP ⟨w.heap.size, 0, none⟩ t (((w.alloc (.cells #[.pointer (some t)] 98)).alloc (.cells #[.pointer (some ⟨11, 98, none⟩), .pointer (some ⟨w.heap.size, 0, none⟩), .int .u64 150] 150)).alloc (.cells #[.pointer (some ⟨11, 98, none⟩), .pointer (some ⟨w.heap.size, 0, none⟩), .int .u64 150] 150)) (by rw [World.cell?_alloc_lt _ _ ⟨w.heap.size, 0, none⟩ (by simp; omega)]; simp)
  have n3 := Tryz.setR t ⟨w.heap.size + 1 + 1 + 1, 0, none⟩ c old ((((w.alloc (.cells #[.pointer (some t)] 98)).alloc (.cells #[.pointer (some ⟨11, 98, none⟩), .pointer (some ⟨w.heap.size, 0, none⟩), .int .u64 150] 150)).alloc (.cells #[.pointer (some ⟨11, 98, none⟩), .pointer (some ⟨w.heap.size, 0, none⟩), .int .u64 150] 150)).alloc (.cells #[.int .i64 c] 96)) (by rw [World.cell?_alloc_at _ _ _ _ (by simp)]; rfl) ((b3.cell htl).trans ht0) ((b3.frozen htl).trans hf0)
  go_enter Tryz.func52, Tryz.ntmps52
  go_wp2
  refine wp_loop_rounds 1 ?_
  rw [rounds_succ]
  go_wp2
  go_ret
  exact ⟨rfl, _, b3, rfl⟩

end Go.Proofs.YtpfhegengmlkmacGreatDoor
/- Walk: taking of gathers. -/
namespace Go.Proofs.YtpfhegengmlkmacGreatDoor
open Go.RowKit Go.BigFrame
set_option maxRecDepth 100000

theorem GathY.blockY {w : World} {B : Nat} {v : Value} {L : List WinY} (h : GathY w B v L) (h0 : 0 < L.length) : ∃ t c, v = .slice (some ⟨t, 0, none⟩) L.length c ∧ L.length ≤ c ∧ B ≤ t ∧ t < w.heap.size ∧ (∀ k, (h : k < L.length) → w.cell? ⟨t, k, none⟩ = some L[k].v) ∧ (∀ k, w.frozen? ⟨t, k, none⟩ = false) ∧ ∀ p ∈ L, t < p.lo ∨ p.hi ≤ t := by
  rcases h.own.2 with ⟨_, e⟩ | ⟨g, cap, cur, rfl, hB, hh, hn, hc, hs, ht⟩
  · omega
  · have hlt : g < w.heap.size := (Array.getElem?_eq_some_iff.1 hh).1
    refine ⟨g, cap, rfl, hn, hB, hlt, fun k hk => ?_, fun k => ?_, fun p hp => h.far p hp g rfl⟩
    · have := World.ownsRow.cellAt h.own k (by omega)
      rw [this]
      simp [hk]
    · simp [World.frozen?, hh]
/-- What fresh answers lies whole. -/
theorem FreG.full {w w' : World} {g : GatL} {e : Ending} (h : FreG w w' g e) (h1 : 1 ≤ g.ins.length) (hlen : g.wins.length = g.ins.length) : ∃ b t c0 c1 gm cm L, e = .returned (.agg #[.slice (some ⟨b, 0, none⟩) g.ins.length c0, .slice (some ⟨t, 0, none⟩) L.length c1, .slice (some ⟨gm, 0, none⟩) g.shown.length cm]) ∧
    FullG w' w.heap.size w'.heap.size b t (some ⟨gm, 0, none⟩) g.ins L g.shown ∧ L.map (·.l) = g.wins ∧ (g.ins.length ≤ c0 ∧ c0 ≤ maxLen) ∧ L.length ≤ c1 ∧ g.shown.length ≤ cm ∧ (∀ k, w'.frozen? ⟨t, k, none⟩ = false) ∧ w.heap.size ≤ gm := by
  obtain ⟨B, v0, v1, L, gm, cm, hB, rfl, hg0, hg1, hLL, hfar, hgm, hgB, hcm, hom⟩ := h
  have hL : L.length = g.ins.length := by have := congrArg List.length hLL; simp only [List.length_map] at this; omega
  obtain ⟨b, c0, rfl, hbB, hsb⟩ := hg0.block (by omega)
  obtain ⟨t, c1, rfl, hc1, htB, htl, hcell, hfz, hft⟩ := hg1.blockY (by omega)
  have hne : b ≠ t := fun e => by
    have hx := own_types (show World.ownsRow _ _ _ _ _ _ _ from hg0) hg1.own str_unlike
    rcases hx with hx | hx
    · simp [Value.ownBlock] at hx
    · exact hx (by rw [e]; rfl)
  have hc0 : g.ins.length ≤ c0 ∧ c0 ≤ maxLen := by
    rcases hg0.2 with ⟨_, e⟩ | ⟨g', cap, cur, e, _, _, hn, hmx, _⟩
    · omega
    · simp only [Value.slice.injEq] at e
      omega
  have hlow : ∀ p ∈ L, gm < p.lo := fun p hp => by have := (hg1.at_ p hp).2.1; omega
  refine ⟨b, t, c0, c1, gm, cm, L, rfl, ⟨hsb, ⟨htl, hcell, fun p hp => (hg1.at_ p hp).1, hft, fun p hp => ?_, hg1.dis.imp fun h => .inl h⟩, hne, ⟨by omega, hsb.lt⟩, ⟨by omega, htl⟩, fun p hp => hfar p hp b rfl, .inr ⟨gm, rfl, hgm, hom.lt, by omega, by omega, hom, fun p hp => .inl (hlow p hp)⟩⟩, hLL, hc0, hc1, hcm, hfz, hgm⟩
  have := (hg1.at_ p hp).2
  omega
theorem FullG.widen {w : World} {lo hi lo' hi' b t : Nat} {a2 : Option Addr} {nm : List ByteArray} {L : List WinY} {m : List (ByteArray × Int)} (h : FullG w lo hi b t a2 nm L m) (h1 : lo' ≤ lo) (h2 : hi ≤ hi') : FullG w lo' hi' b t a2 nm L m :=
  ⟨h.names, ⟨h.wins.lt, h.wins.cell, h.wins.at_, h.wins.far, fun p hp => by have := h.wins.in_ p hp; omega, h.wins.dis⟩, h.bt, by have := h.bin; omega, by have := h.tin; omega, h.bfar, by
    rcases h.stamp with e | ⟨s, e, h3, h4, h5⟩
    · exact .inl e
    · exact .inr ⟨s, e, by omega, by omega, h5⟩⟩
/-- Another window at one place. -/
theorem FullG.setWin {w : World} {lo hi b t : Nat} {a2 : Option Addr} {nm : List ByteArray} {L : List WinY} {m : List (ByteArray × Int)} (h : FullG w lo hi b t a2 nm L m) {k : Nat} (hk : k < L.length) {q : WinY} (hq : ∃ a c, q.v = .slice a q.l.length c ∧ q.l.length ≤ c ∧ SafeI w q.lo q.hi a q.l) (hin : lo ≤ q.lo ∧ q.lo ≤ q.hi ∧ q.hi ≤ hi) (hqb : b < q.lo ∨ q.hi ≤ b) (hqt : t < q.lo ∨ q.hi ≤ t) (hqs : ∀ s, a2 = some ⟨s, 0, none⟩ → s < q.lo ∨ q.hi ≤ s) (hqL : ∀ p ∈ L, p.hi ≤ q.lo ∨ q.hi ≤ p.lo) :
    FullG (w.setCell ⟨t, k, none⟩ q.v) lo hi b t a2 nm (L.set k q) m := by
  have hbut : But t w (w.setCell ⟨t, k, none⟩ q.v) := (But.refl t w).setCell k q.v
  have hsp : Span t (t + 1) w (w.setCell ⟨t, k, none⟩ q.v) := hbut.span (Nat.le_refl _) (Nat.lt_succ_self _)
  have hmem : ∀ p ∈ L.set k q, p ∈ L ∨ p = q := fun p hp => List.mem_or_eq_of_mem_set hp
  refine ⟨h.names.span hsp (by have := h.bt; omega), ⟨by simpa using h.wins.lt, fun j hj => ?_, fun p hp => ?_, fun p hp => ?_, fun p hp => ?_, ?_⟩, h.bt, h.bin, h.tin, fun p hp => ?_, ?_⟩
  · have hj' : j < L.length := by simpa using hj
    rw [List.getElem_set]
    by_cases e : k = j
    · subst e
      rw [if_pos rfl]
      exact World.cell?_setCell_same' _ _ _ (by rw [h.wins.cell k hk]; rfl)
    · rw [if_neg e]
      have := h.wins.cell j hj'
      simp [go_sem, this]
  · rcases hmem p hp with h1 | rfl
    · obtain ⟨a, c, h2, h3, h4⟩ := h.wins.at_ p h1
      exact ⟨a, c, h2, h3, h4.span hsp (by have := h.wins.far p h1; omega)⟩
    · obtain ⟨a, c, h2, h3, h4⟩ := hq
      exact ⟨a, c, h2, h3, h4.span hsp (by omega)⟩
  · rcases hmem p hp with h1 | rfl
    · exact h.wins.far p h1
    · exact hqt
  · rcases hmem p hp with h1 | rfl
    · exact h.wins.in_ p h1
    · exact hin
  · rw [List.pairwise_iff_getElem]
    intro a c ha hc hac
    have ha' : a < L.length := by simpa using ha
    have hc' : c < L.length := by simpa using hc
    have hd := List.pairwise_iff_getElem.1 h.wins.dis a c ha' hc' hac
    rw [List.getElem_set, List.getElem_set]
    split
    · split
      · omega
      · exact (hqL _ (List.getElem_mem hc')).symm
    · split
      · exact hqL _ (List.getElem_mem ha')
      · exact hd
  · rcases hmem p hp with h1 | rfl
    · exact h.bfar p h1
    · exact hqb
  · rcases h.stamp with e | ⟨s, e, h1, h2, h3, h4, h5, h6⟩
    · exact .inl e
    · refine .inr ⟨s, e, h1, h2, h3, h4, hbut.own h5 h4, fun p hp => ?_⟩
      rcases hmem p hp with h1 | rfl
      · exact h6 p h1
      · exact hqs s e

theorem IsP.code {l : List ItemL} {x : Int} {m : List (ByteArray × Int)} {r : List ItemL} {c : Int} (h : IsP l x m r c) : c = 1 ∨ c = 2 ∨ c = 0 := by
  by_cases hw : WinP l ∧ StampP m ∧ m ≠ []
  · by_cases ht : TakeP l m
    · exact .inr (.inr (h.2.2 hw ht).2)
    · exact .inr (.inl (h.2.1 hw ht).2)
  · exact .inl (h.1 hw).2
/-- What taking answers. -/
def TakE (w w' : World) (g : GatL) (i x : Int) (m : List (ByteArray × Int)) (e : Ending) : Prop :=
  (e = .returned (.tuple #[.agg #[.slice none 0 0, .slice none 0 0, .slice none 0 0], .iface 96 (.agg #[.int .i64 2])]) ∧ (¬ InG g i ∨ (InG g i ∧ ∃ r, IsP (g.wins.getD i.toNat []) x m r 1))) ∨
  (InG g i ∧ ∃ r c b t c0 c1 gm cm L err, e = .returned (.tuple #[.agg #[.slice (some ⟨b, 0, none⟩) g.ins.length c0, .slice (some ⟨t, 0, none⟩) L.length c1, .slice (some ⟨gm, 0, none⟩) g.shown.length cm], err]) ∧ IsP (g.wins.getD i.toNat []) x m r c ∧
    FullG w' w.heap.size w'.heap.size b t (some ⟨gm, 0, none⟩) g.ins L g.shown ∧ (g.shown.length ≤ cm ∧ g.ins.length ≤ c0 ∧ c0 ≤ maxLen) ∧ ((c = 2 ∧ L.map (·.l) = g.wins ∧ err = .iface 96 (.agg #[.int .i64 3])) ∨ (c = 0 ∧ L.map (·.l) = g.wins.set i.toNat r ∧ err = .nilIface)))

set_option maxHeartbeats 4000000 in
theorem taking_any (a0 a1 a2 am : Option Addr) (c0 c1 c2 cm : Nat) (g : GatL) (i x : Int) (m : List (ByteArray × Int)) (w : World) (hf : FitG g) (hi : g.ins.length ≤ 1048576) (hc : g.ins.length ≤ c0) (hc2 : c0 ≤ maxLen) (r0 : RowS w a0 g.ins) (r1 : RowW w a1 g.wins) (r2 : Row w a2 g.shown) (hfm : FitM m) (hcm : m.length ≤ cm) (hrm : Row w am m) :
    Calls Tryz.prog 51 #[.agg #[.slice a0 g.ins.length c0, .slice a1 g.wins.length c1, .slice a2 g.shown.length c2], .agg #[.int .i64 i, .int .i64 x, .slice am m.length cm]] w fun e w' => TakE w w' g i x m e ∧ Below w.heap.size w w' := by
  have hb0 : Below w.heap.size w (((w.alloc (.cells #[.slice a0 g.ins.length c0, .slice a1 g.wins.length c1, .slice a2 g.shown.length c2] 36)).alloc (.cells #[.int .i64 i, .int .i64 x, .slice am m.length cm] 46)).alloc (.cells #[.slice none 0 0, .slice none 0 0, .slice none 0 0] 36)) := (((Below.refl _ _).alloc (Nat.le_refl _) _).alloc (by simp) _).alloc (by simp; omega) _
  have tP : Tri (((w.alloc (.cells #[.slice a0 g.ins.length c0, .slice a1 g.wins.length c1, .slice a2 g.shown.length c2] 36)).alloc (.cells #[.int .i64 i, .int .i64 x, .slice am m.length cm] 46)).alloc (.cells #[.slice none 0 0, .slice none 0 0, .slice none 0 0] 36)) w.heap.size (.slice a0 g.ins.length c0) (.slice a1 g.wins.length c1) (.slice a2 g.shown.length c2) := ((tri_new w _ _ _ _).keep ((Below.refl _ _).alloc (Nat.le_refl _) _)).keep ((Below.refl _ _).alloc (Nat.le_refl _) _)
  have tF : Tri (((w.alloc (.cells #[.slice a0 g.ins.length c0, .slice a1 g.wins.length c1, .slice a2 g.shown.length c2] 36)).alloc (.cells #[.int .i64 i, .int .i64 x, .slice am m.length cm] 46)).alloc (.cells #[.slice none 0 0, .slice none 0 0, .slice none 0 0] 36)) (w.heap.size + 1) (.int .i64 i) (.int .i64 x) (.slice am m.length cm) := by
    have h := tri_new (w.alloc (.cells #[.slice a0 g.ins.length c0, .slice a1 g.wins.length c1, .slice a2 g.shown.length c2] 36)) (.int .i64 i) (.int .i64 x) (.slice am m.length cm) 46
    rw [World.size_alloc] at h
    exact h.keep ((Below.refl _ _).alloc (Nat.le_refl _) _)
  have tR : Tri (((w.alloc (.cells #[.slice a0 g.ins.length c0, .slice a1 g.wins.length c1, .slice a2 g.shown.length c2] 36)).alloc (.cells #[.int .i64 i, .int .i64 x, .slice am m.length cm] 46)).alloc (.cells #[.slice none 0 0, .slice none 0 0, .slice none 0 0] 36)) (w.heap.size + 1 + 1) (.slice none 0 0) (.slice none 0 0) (.slice none 0 0) := by
    have h := tri_new ((w.alloc (.cells #[.slice a0 g.ins.length c0, .slice a1 g.wins.length c1, .slice a2 g.shown.length c2] 36)).alloc (.cells #[.int .i64 i, .int .i64 x, .slice am m.length cm] 46)) (.slice none 0 0) (.slice none 0 0) (.slice none 0 0) 36
    rw [World.size_alloc, World.size_alloc] at h
    exact h
  go_enter Tryz.func51, Tryz.ntmps51
  go_wp2_with fail
  generalize ((w.alloc (.cells #[.slice a0 g.ins.length c0, .slice a1 g.wins.length c1, .slice a2 g.shown.length c2] 36)).alloc (.cells #[.int .i64 i, .int .i64 x, .slice am m.length cm] 46)).alloc (.cells #[.slice none 0 0, .slice none 0 0, .slice none 0 0] 36) = W0 at *
  refine (implGOk_any a0 a1 a2 c0 c1 c2 g _ hf hi hc hc2 (r0.below hb0) (r1.below hb0) (r2.below hb0)).mono ?_
  rintro e w1 ⟨⟨r, rfl, hr1⟩, b1⟩
  have HR : Hid (r = true ↔ GatP g) := hr1
  clear hr1
  have B1 : Below w.heap.size w w1 := hb0.trans (b1.mono hb0.size)
  replace tP := tP.keep b1
  replace tF := tF.keep b1
  replace tR := tR.keep b1
  have z0 : w.heap.size + 2 < w1.heap.size := block_lt_of_cell tR.c0
  clear b1 hb0
  have HBAD : Hid (∀ X : World, Below w.heap.size w X → (¬ InG g i ∨ (InG g i ∧ ∃ r, IsP (g.wins.getD i.toNat []) x m r 1)) → TakE w (((X.setCell ⟨w.heap.size + 1 + 1, 0, none⟩ (.slice none 0 0)).setCell ⟨w.heap.size + 1 + 1, 1, none⟩ (.slice none 0 0)).setCell ⟨w.heap.size + 1 + 1, 2, none⟩ (.slice none 0 0)) g i x m (.returned (.tuple #[.agg #[.slice none 0 0, .slice none 0 0, .slice none 0 0], .iface 96 (.agg #[.int .i64 2])])) ∧ Below w.heap.size w (((X.setCell ⟨w.heap.size + 1 + 1, 0, none⟩ (.slice none 0 0)).setCell ⟨w.heap.size + 1 + 1, 1, none⟩ (.slice none 0 0)).setCell ⟨w.heap.size + 1 + 1, 2, none⟩ (.slice none 0 0))) :=
    fun X hX h => ⟨.inl ⟨rfl, h⟩, ((hX.setCell (by simp only; omega) _).setCell (by simp only; omega) _).setCell (by simp only; omega) _⟩
  by_cases hin : r = true ∧ 0 ≤ i ∧ i < (g.ins.length : Int)
  · obtain ⟨rfl, hi0, hi1⟩ := hin
    have HG : Hid (GatP g) := HR.out.1 rfl
    clear HR
    have HLEN : Hid (g.wins.length = g.ins.length) := HG.out.len
    have hiw : i < (g.wins.length : Int) := by have := HLEN.out; omega
    obtain ⟨k, rfl⟩ : ∃ k : Nat, i = (k : Int) := ⟨i.toNat, by omega⟩
    have hkw : k < g.wins.length := by omega
    have HIN : Hid (InG g (k : Int)) := ⟨HG.out, hi0, hi1⟩
    obtain ⟨bw, ow, rfl, hbw, s1, t1, q1, ht1, hri⟩ := r1.below B1 k hkw
    obtain ⟨p0, p1, p2, _, _, _⟩ := id tP
    obtain ⟨f0, f1, f2, _, _, _⟩ := id tF
    have k1 : (k : Int) < (g.wins.length : Int) := by omega
    go_wp2_with fail
    have hbd : Below w1.heap.size w1 w1.drew := (Below.refl _ _).drew
    have HS : Hid (∀ u : World, Below w1.heap.size w1 u → u.cell? ⟨w.heap.size, 1, none⟩ = some (.slice (some ⟨bw, ow, none⟩) g.wins.length c1) ∧ u.cell? ⟨w.heap.size + 1, 0, none⟩ = some (.int .i64 k) ∧ u.cell? ⟨w.heap.size + 1, 1, none⟩ = some (.int .i64 x) ∧ u.cell? ⟨w.heap.size + 1, 2, none⟩ = some (.slice am m.length cm) ∧ u.cell? ⟨bw, ow + k, none⟩ = some (.slice s1 g.wins[k].length t1)) := fun u hu => ⟨cell_on hu (by omega) p1, cell_on hu (by omega) f0, cell_on hu (by omega) f1, cell_on hu (by omega) f2, cell_on hu hbw q1⟩
    have SW := HS.out _ hbd
    refine wp_region_held_drew (S := fun u => u.cell? ⟨w.heap.size, 1, none⟩ = some (.slice (some ⟨bw, ow, none⟩) g.wins.length c1) ∧ u.cell? ⟨w.heap.size + 1, 0, none⟩ = some (.int .i64 k) ∧ u.cell? ⟨w.heap.size + 1, 1, none⟩ = some (.int .i64 x) ∧ u.cell? ⟨w.heap.size + 1, 2, none⟩ = some (.slice am m.length cm) ∧ u.cell? ⟨bw, ow + k, none⟩ = some (.slice s1 g.wins[k].length t1)) (by kernel_rfl) SW (fun _ => ?_)
    refine wpAnyH_take (i := 0) (v := .pointer (some ⟨w.heap.size, 1, none⟩)) rfl (by kernel_rfl) (by kernel_rfl) (by kernel_rfl) (fun _ _ _ h => h) (Or.inl ⟨by rfl, ?_⟩) SW ?_
    · rintro u ⟨x1, x2, x3, x4, x5⟩
      go_simp
    simp only [Act.put, List.setIfInBounds_toArray]
    refine wpAnyH_take (i := 1) (v := .slice (some ⟨bw, ow, none⟩) g.wins.length c1) rfl (by kernel_rfl) (by kernel_rfl) (by kernel_rfl) (fun _ _ _ h => h) (Or.inl ⟨by rfl, ?_⟩) SW ?_
    · rintro u ⟨x1, x2, x3, x4, x5⟩
      go_simp
    simp only [Act.put]
    refine wpAnyH_take (i := 2) (v := .pointer (some ⟨w.heap.size + 1, 0, none⟩)) rfl (by kernel_rfl) (by kernel_rfl) (by kernel_rfl) (fun _ _ _ h => h) (Or.inl ⟨by rfl, ?_⟩) SW ?_
    · rintro u ⟨x1, x2, x3, x4, x5⟩
      go_simp
    simp only [Act.put]
    refine wpAnyH_take (i := 3) (v := .int .i64 k) rfl (by kernel_rfl) (by kernel_rfl) (by kernel_rfl) (fun _ _ _ h => h) (Or.inl ⟨by rfl, ?_⟩) SW ?_
    · rintro u ⟨x1, x2, x3, x4, x5⟩
      go_simp
    simp only [Act.put]
    refine wpAnyH_take (i := 4) (v := .pointer (some ⟨bw, ow + k, none⟩)) rfl (by kernel_rfl) (by kernel_rfl) (by kernel_rfl) (fun _ _ _ h => h) (Or.inl ⟨by rfl, ?_⟩) SW ?_
    · rintro u ⟨x1, x2, x3, x4, x5⟩
      go_simp
    simp only [Act.put]
    refine wpAnyH_take (i := 5) (v := .slice s1 g.wins[k].length t1) rfl (by kernel_rfl) (by kernel_rfl) (by kernel_rfl) (fun _ _ _ h => h) (Or.inl ⟨by rfl, ?_⟩) SW ?_
    · rintro u ⟨x1, x2, x3, x4, x5⟩
      go_simp
    simp only [Act.put]
    refine wpAnyH_take (i := 6) (v := .pointer (some ⟨w.heap.size + 1, 1, none⟩)) rfl (by kernel_rfl) (by kernel_rfl) (by kernel_rfl) (fun _ _ _ h => h) (Or.inl ⟨by rfl, ?_⟩) SW ?_
    · rintro u ⟨x1, x2, x3, x4, x5⟩
      go_simp
    simp only [Act.put]
    refine wpAnyH_take (i := 7) (v := .agg #[.int .i64 x, .slice am m.length cm]) rfl (by kernel_rfl) (by kernel_rfl) (by kernel_rfl) (fun _ _ _ h => h) (Or.inl ⟨by rfl, ?_⟩) SW ?_
    · rintro u ⟨x1, x2, x3, x4, x5⟩
      go_simp
    simp only [Act.put]
    refine wpAnyH_ready (rs := [8]) (by kernel_rfl) (by simp) ?_
    refine AllReadyH.cons rfl (fun K hK => ?_) AllReadyH.nil
    rw [if_pos (by rfl)]
    go_simp
    refine (implPut_any s1 t1 g.wins[k] x am cm m _ (hf.wins.2 k hkw) (hri.below hbd) hfm hcm (hrm.below (B1.trans (hbd.mono B1.size)))).mono ?_
    rintro e w2 ⟨⟨v2, rr, cc, rfl, hP, hg2⟩, b2⟩
    obtain ⟨va, vc, rfl, hvc, hsv⟩ := hg2.safe
    have hb2 : Below w1.heap.size w1 w2 := hbd.trans (b2.mono hbd.size)
    have B2 : Below w.heap.size w w2 := B1.trans (hb2.mono B1.size)
    have HP : Hid (IsP (g.wins.getD ((k : Nat) : Int).toNat []) x m rr cc) := by unfold Hid; rw [Int.toNat_natCast, getD_get _ _ hkw]; exact hP
    clear hP
    have S2 := HS.out _ hb2
    refine hK.out _ _ S2 (fun _ => ?_)
    clear hK K SW
    refine wpAnyH_take (i := 9) (v := .tuple #[.slice va rr.length vc, .int .i64 cc]) rfl (by kernel_rfl) (by kernel_rfl) (by kernel_rfl) (fun _ _ _ h => h) (Or.inl ⟨by rfl, ?_⟩) S2 ?_
    · rintro u ⟨x1, x2, x3, x4, x5⟩
      go_simp
    simp only [Act.put, List.setIfInBounds_toArray]
    refine wpAnyH_take (i := 10) (v := .slice va rr.length vc) rfl (by kernel_rfl) (by kernel_rfl) (by kernel_rfl) (fun _ _ _ h => h) (Or.inl ⟨by rfl, ?_⟩) S2 ?_
    · rintro u ⟨x1, x2, x3, x4, x5⟩
      go_simp
    simp only [Act.put]
    refine wpAnyH_take (i := 11) (v := .int .i64 cc) rfl (by kernel_rfl) (by kernel_rfl) (by kernel_rfl) (fun _ _ _ h => h) (Or.inl ⟨by rfl, ?_⟩) S2 ?_
    · rintro u ⟨x1, x2, x3, x4, x5⟩
      go_simp
    simp only [Act.put]
    refine wpAnyH_ready (rs := [12]) (by kernel_rfl) (by simp) ?_
    refine AllReadyH.cons rfl (fun K hK => ?_) AllReadyH.nil
    rw [if_pos (by rfl)]
    go_simp
    refine hK.out _ _ S2 (fun _ => ?_)
    clear hK K
    refine wpAnyH_ready (rs := [13]) (by kernel_rfl) (by simp) ?_
    refine AllReadyH.cons rfl (fun K hK => ?_) AllReadyH.nil
    rw [if_pos (by rfl)]
    go_simp
    refine hK.out _ _ S2 (fun _ => ?_)
    clear hK K
    refine wpAnyH_done (by kernel_rfl) ?_ _
    clear S2
    have HI1 : Hid (InG g (k : Int)) := HIN.out
    replace tP := tP.keep hb2
    replace tF := tF.keep hb2
    replace tR := tR.keep hb2
    have z2 := hb2.size
    rcases HP.out.code with rfl | rfl | rfl
    · obtain ⟨d0, d1, d2, d3, d4, d5⟩ := id tR
      go_wp2_with fail
      exact bodyPost_ret (v := .tuple #[.agg #[.slice none 0 0, .slice none 0 0, .slice none 0 0], .iface 96 (.agg #[.int .i64 2])]) (by simp [results, Tryz.results51, go_sem, d0, d1, d2]) rfl (HBAD.out _ B2 (.inr ⟨HI1.out, _, HP.out⟩))
    · obtain ⟨p0, p1, p2, _, _, _⟩ := id tP
      obtain ⟨f0, f1, f2, _, _, _⟩ := id tF
      obtain ⟨d0, d1, d2, d3, d4, d5⟩ := id tR
      go_wp2_with fail
      refine (freshG_any a0 (some ⟨bw, ow, none⟩) a2 c0 c1 c2 g _ HG.out.ins.2.1 HLEN.out (r0.below B2) (r1.below B2) (r2.below B2) (fun j hj => (HG.out.ins.2.2 j hj).1.2.1) (fun j hj => HG.out.wins.2.2 j hj) HG.out.shown).mono ?_
      rintro e w3 ⟨hF, b3⟩
      obtain ⟨b, t, e0, e1, gm, em, L, rfl, hfull, hLL, hce0, hce1, hcem, hfz, hgmz⟩ := hF.full HG.out.ins.1 HLEN.out
      have HLL : Hid (L.map (·.l) = g.wins) := hLL
      have HLL2 : Hid (L.length = g.wins.length) := by have := congrArg List.length hLL; unfold Hid; simpa using this
      have B3 : Below w.heap.size w w3 := B2.trans (b3.mono B2.size)
      have bT : Below w3.heap.size w3 (w3.alloc (.cells #[.slice (some ⟨b, 0, none⟩) g.ins.length e0, .slice (some ⟨t, 0, none⟩) L.length e1, .slice (some ⟨gm, 0, none⟩) g.shown.length em] 36)) := (Below.refl _ _).alloc (Nat.le_refl _) _
      have tT := tri_new w3 (.slice (some ⟨b, 0, none⟩) g.ins.length e0) (.slice (some ⟨t, 0, none⟩) L.length e1) (.slice (some ⟨gm, 0, none⟩) g.shown.length em) 36
      have z3 := b3.size
      have hsv3 := (hsv.below b3).below bT
      have hfull3 := hfull.below bT
      have htl := hfull.wins.lt
      have htz := hfull.tin.1
      have hbz := hfull.bin.1
      replace tP := (tP.keep b3).keep bT
      replace tF := (tF.keep b3).keep bT
      replace tR := (tR.keep b3).keep bT
      have BT : Below w.heap.size w (w3.alloc (.cells #[.slice (some ⟨b, 0, none⟩) g.ins.length e0, .slice (some ⟨t, 0, none⟩) L.length e1, .slice (some ⟨gm, 0, none⟩) g.shown.length em] 36)) := B3.trans (bT.mono B3.size)
      clear p0 p1 p2 f0 f1 f2 d0 d1 d2 d3 d4 d5 hLL
      obtain ⟨p0, p1, p2, _, _, _⟩ := id tP
      obtain ⟨f0, f1, f2, _, _, _⟩ := id tF
      obtain ⟨d0, d1, d2, d3, d4, d5⟩ := id tR
      obtain ⟨g0, g1, g2, _, _, _⟩ := id tT
      have hfzT : ∀ j, (w3.alloc (.cells #[.slice (some ⟨b, 0, none⟩) g.ins.length e0, .slice (some ⟨t, 0, none⟩) L.length e1, .slice (some ⟨gm, 0, none⟩) g.shown.length em] 36)).frozen? ⟨t, j, none⟩ = false := fun j => (bT.frozen (p := ⟨t, j, none⟩) htl).trans (hfz j)
      have htT : (w3.alloc (.cells #[.slice (some ⟨b, 0, none⟩) g.ins.length e0, .slice (some ⟨t, 0, none⟩) L.length e1, .slice (some ⟨gm, 0, none⟩) g.shown.length em] 36)).heap.size = w3.heap.size + 1 := by simp
      go_wp2_with fail
      generalize w3.alloc (.cells #[.slice (some ⟨b, 0, none⟩) g.ins.length e0, .slice (some ⟨t, 0, none⟩) L.length e1, .slice (some ⟨gm, 0, none⟩) g.shown.length em] 36) = WT at *
      obtain ⟨W9, h9⟩ : ∃ W9, ((WT.setCell ⟨w.heap.size + 1 + 1, 0, none⟩ (.slice (some ⟨b, 0, none⟩) g.ins.length e0)).setCell ⟨w.heap.size + 1 + 1, 1, none⟩ (.slice (some ⟨t, 0, none⟩) L.length e1)).setCell ⟨w.heap.size + 1 + 1, 2, none⟩ (.slice (some ⟨gm, 0, none⟩) g.shown.length em) = W9 := ⟨_, rfl⟩
      have hsR : Span (w.heap.size + 2) (w.heap.size + 3) WT W9 := by rw [← h9]; exact (((Span.refl _ _ _).setCell (by omega) (by omega) _ _).setCell (by omega) (by omega) _ _).setCell (by omega) (by omega) _ _
      have z9 : W9.heap.size = w3.heap.size + 1 := by rw [← h9]; simpa using htT
      have c9 : W9.cell? ⟨w.heap.size + 1 + 1, 0, none⟩ = some (.slice (some ⟨b, 0, none⟩) g.ins.length e0) ∧ W9.cell? ⟨w.heap.size + 1 + 1, 1, none⟩ = some (.slice (some ⟨t, 0, none⟩) L.length e1) ∧ W9.cell? ⟨w.heap.size + 1 + 1, 2, none⟩ = some (.slice (some ⟨gm, 0, none⟩) g.shown.length em) := by rw [← h9]; refine ⟨?_, ?_, ?_⟩ <;> simp [go_sem, d0, d1, d2]
      have hB9 : Below w.heap.size w W9 := by rw [← h9]; exact ((BT.setCell (by simp only; omega) _).setCell (by simp only; omega) _).setCell (by simp only; omega) _
      have hfu9 := (hfull3.span hsR (.inr (by omega))).widen (show w.heap.size ≤ w2.heap.size by omega) (show w3.heap.size ≤ W9.heap.size by omega)
      rw [h9]
      clear h9
      obtain ⟨y0, y1, y2⟩ := c9
      exact bodyPost_ret (v := .tuple #[.agg #[.slice (some ⟨b, 0, none⟩) g.ins.length e0, .slice (some ⟨t, 0, none⟩) L.length e1, .slice (some ⟨gm, 0, none⟩) g.shown.length em], .iface 96 (.agg #[.int .i64 3])]) (by simp [results, Tryz.results51, go_sem, y0, y1, y2]) rfl ⟨.inr ⟨HI1.out, _, _, b, t, e0, e1, gm, em, L, _, rfl, HP.out, hfu9, ⟨hcem, hce0⟩, .inl ⟨rfl, HLL.out, rfl⟩⟩, hB9⟩
    · obtain ⟨p0, p1, p2, _, _, _⟩ := id tP
      obtain ⟨f0, f1, f2, _, _, _⟩ := id tF
      obtain ⟨d0, d1, d2, d3, d4, d5⟩ := id tR
      go_wp2_with fail
      refine (freshG_any a0 (some ⟨bw, ow, none⟩) a2 c0 c1 c2 g _ HG.out.ins.2.1 HLEN.out (r0.below B2) (r1.below B2) (r2.below B2) (fun j hj => (HG.out.ins.2.2 j hj).1.2.1) (fun j hj => HG.out.wins.2.2 j hj) HG.out.shown).mono ?_
      rintro e w3 ⟨hF, b3⟩
      obtain ⟨b, t, e0, e1, gm, em, L, rfl, hfull, hLL, hce0, hce1, hcem, hfz, hgmz⟩ := hF.full HG.out.ins.1 HLEN.out
      have HLL : Hid (L.map (·.l) = g.wins) := hLL
      have HLL2 : Hid (L.length = g.wins.length) := by have := congrArg List.length hLL; unfold Hid; simpa using this
      have B3 : Below w.heap.size w w3 := B2.trans (b3.mono B2.size)
      have bT : Below w3.heap.size w3 (w3.alloc (.cells #[.slice (some ⟨b, 0, none⟩) g.ins.length e0, .slice (some ⟨t, 0, none⟩) L.length e1, .slice (some ⟨gm, 0, none⟩) g.shown.length em] 36)) := (Below.refl _ _).alloc (Nat.le_refl _) _
      have tT := tri_new w3 (.slice (some ⟨b, 0, none⟩) g.ins.length e0) (.slice (some ⟨t, 0, none⟩) L.length e1) (.slice (some ⟨gm, 0, none⟩) g.shown.length em) 36
      have z3 := b3.size
      have hsv3 := (hsv.below b3).below bT
      have hfull3 := hfull.below bT
      have htl := hfull.wins.lt
      have htz := hfull.tin.1
      have hbz := hfull.bin.1
      have hkL : k < L.length := by rw [HLL2.out]; exact hkw
      have kL1 : (k : Int) < (L.length : Int) := by omega
      have q3 := hfull.wins.cell k hkL
      obtain ⟨pa, pc, pv, _, _⟩ := hfull.wins.at_ _ (List.getElem_mem hkL)
      have hsw := FullG.setWin (hfull.widen (show w.heap.size + 3 ≤ w2.heap.size by omega) (Nat.le_refl _)) hkL (q := WinY.mk rr (.slice va rr.length vc) w1.drew.heap.size w2.heap.size) ⟨va, vc, rfl, hvc, hsv.below b3⟩ ⟨show w.heap.size + 3 ≤ w1.drew.heap.size by have := hbd.size; omega, b2.size, z3⟩ (.inr hbz) (.inr htz) (fun s hs => .inr (show w2.heap.size ≤ s by have h1 : gm = s := congrArg Addr.block (Option.some.inj hs); omega)) (fun p hp => .inr (show w2.heap.size ≤ p.lo from (hfull.wins.in_ p hp).1))
      replace tP := (tP.keep b3).keep bT
      replace tF := (tF.keep b3).keep bT
      have tR3 := tR.keep b3
      have tRS := (tR3.far (q := t) (by omega) k (.slice va rr.length vc)).keep (show Below _ _ ((w3.setCell ⟨t, k, none⟩ (.slice va rr.length vc)).alloc (.cells #[.slice (some ⟨b, 0, none⟩) g.ins.length e0, .slice (some ⟨t, 0, none⟩) L.length e1, .slice (some ⟨gm, 0, none⟩) g.shown.length em] 36)) from (Below.refl _ _).alloc (Nat.le_refl _) _)
      clear p0 p1 p2 f0 f1 f2 d0 d1 d2 d3 d4 d5 hLL
      obtain ⟨p0, p1, p2, _, _, _⟩ := id tP
      obtain ⟨f0, f1, f2, _, _, _⟩ := id tF
      obtain ⟨d0, d1, d2, d3, d4, d5⟩ := id tRS
      have hfzT := hfz k
      rw [pv] at q3
      go_wp2_with fail
      have bS : Below (w3.setCell ⟨t, k, none⟩ (.slice va rr.length vc)).heap.size (w3.setCell ⟨t, k, none⟩ (.slice va rr.length vc)) ((w3.setCell ⟨t, k, none⟩ (.slice va rr.length vc)).alloc (.cells #[.slice (some ⟨b, 0, none⟩) g.ins.length e0, .slice (some ⟨t, 0, none⟩) L.length e1, .slice (some ⟨gm, 0, none⟩) g.shown.length em] 36)) := (Below.refl _ _).alloc (Nat.le_refl _) _
      have hfS := hsw.below bS
      have BS : Below w.heap.size w ((w3.setCell ⟨t, k, none⟩ (.slice va rr.length vc)).alloc (.cells #[.slice (some ⟨b, 0, none⟩) g.ins.length e0, .slice (some ⟨t, 0, none⟩) L.length e1, .slice (some ⟨gm, 0, none⟩) g.shown.length em] 36)) := (B3.setCell (p := ⟨t, k, none⟩) (by simp only; omega) _).alloc (by simp; omega) _
      have hzS : ((w3.setCell ⟨t, k, none⟩ (.slice va rr.length vc)).alloc (.cells #[.slice (some ⟨b, 0, none⟩) g.ins.length e0, .slice (some ⟨t, 0, none⟩) L.length e1, .slice (some ⟨gm, 0, none⟩) g.shown.length em] 36)).heap.size = w3.heap.size + 1 := by simp
      have hlS : (L.set k (WinY.mk rr (.slice va rr.length vc) w1.drew.heap.size w2.heap.size)).length = L.length := by simp
      have HLS : Hid ((L.set k (WinY.mk rr (.slice va rr.length vc) w1.drew.heap.size w2.heap.size)).map (·.l) = g.wins.set ((k : Nat) : Int).toNat rr) := by
        unfold Hid
        rw [List.map_set, HLL.out, Int.toNat_natCast]
      have hdlo : w.heap.size + 3 ≤ w1.drew.heap.size := by have := hbd.size; omega
      generalize L.set k (WinY.mk rr (.slice va rr.length vc) w1.drew.heap.size w2.heap.size) = L' at *
      generalize (w3.setCell ⟨t, k, none⟩ (.slice va rr.length vc)).alloc (.cells #[.slice (some ⟨b, 0, none⟩) g.ins.length e0, .slice (some ⟨t, 0, none⟩) L.length e1, .slice (some ⟨gm, 0, none⟩) g.shown.length em] 36) = WT at *
      obtain ⟨W9, h9⟩ : ∃ W9, ((WT.setCell ⟨w.heap.size + 1 + 1, 0, none⟩ (.slice (some ⟨b, 0, none⟩) g.ins.length e0)).setCell ⟨w.heap.size + 1 + 1, 1, none⟩ (.slice (some ⟨t, 0, none⟩) L.length e1)).setCell ⟨w.heap.size + 1 + 1, 2, none⟩ (.slice (some ⟨gm, 0, none⟩) g.shown.length em) = W9 := ⟨_, rfl⟩
      have hsR : Span (w.heap.size + 2) (w.heap.size + 3) WT W9 := by rw [← h9]; exact (((Span.refl _ _ _).setCell (by omega) (by omega) _ _).setCell (by omega) (by omega) _ _).setCell (by omega) (by omega) _ _
      have z9 : W9.heap.size = w3.heap.size + 1 := by rw [← h9]; simpa using hzS
      have c9 : W9.cell? ⟨w.heap.size + 1 + 1, 0, none⟩ = some (.slice (some ⟨b, 0, none⟩) g.ins.length e0) ∧ W9.cell? ⟨w.heap.size + 1 + 1, 1, none⟩ = some (.slice (some ⟨t, 0, none⟩) L.length e1) ∧ W9.cell? ⟨w.heap.size + 1 + 1, 2, none⟩ = some (.slice (some ⟨gm, 0, none⟩) g.shown.length em) := by rw [← h9]; refine ⟨?_, ?_, ?_⟩ <;> simp [go_sem, d0, d1, d2]
      have hB9 : Below w.heap.size w W9 := by rw [← h9]; exact ((BS.setCell (by simp only; omega) _).setCell (by simp only; omega) _).setCell (by simp only; omega) _
      have hfu9 := hfS.span hsR (.inr (Nat.le_refl _))
      rw [h9]
      clear h9
      obtain ⟨y0, y1, y2⟩ := c9
      exact bodyPost_ret (v := .tuple #[.agg #[.slice (some ⟨b, 0, none⟩) g.ins.length e0, .slice (some ⟨t, 0, none⟩) L.length e1, .slice (some ⟨gm, 0, none⟩) g.shown.length em], .nilIface]) (by simp [results, Tryz.results51, go_sem, y0, y1, y2]) rfl ⟨.inr ⟨HI1.out, _, _, b, t, e0, e1, gm, em, L', _, by rw [hlS], HP.out, hfu9.widen (by omega) (by omega), ⟨hcem, hce0⟩, .inr ⟨rfl, HLS.out, rfl⟩⟩, hB9⟩
  · have HNI : Hid (¬ InG g i) := fun h => hin ⟨HR.out.2 h.1, h.2⟩
    obtain ⟨p0, p1, p2, _, _, _⟩ := id tP
    obtain ⟨f0, f1, f2, _, _, _⟩ := id tF
    obtain ⟨d0, d1, d2, d3, d4, d5⟩ := id tR
    cases r with
    | false =>
      go_wp2_with fail
      exact bodyPost_ret (v := .tuple #[.agg #[.slice none 0 0, .slice none 0 0, .slice none 0 0], .iface 96 (.agg #[.int .i64 2])]) (by simp [results, Tryz.results51, go_sem, d0, d1, d2]) rfl (HBAD.out _ B1 (.inl HNI.out))
    | true =>
      by_cases hi0 : i < 0
      · go_wp2_with fail
        exact bodyPost_ret (v := .tuple #[.agg #[.slice none 0 0, .slice none 0 0, .slice none 0 0], .iface 96 (.agg #[.int .i64 2])]) (by simp [results, Tryz.results51, go_sem, d0, d1, d2]) rfl (HBAD.out _ B1 (.inl HNI.out))
      · have hi1 : ¬ i < (g.ins.length : Int) := fun h => hin ⟨rfl, by omega, h⟩
        go_wp2_with fail
        exact bodyPost_ret (v := .tuple #[.agg #[.slice none 0 0, .slice none 0 0, .slice none 0 0], .iface 96 (.agg #[.int .i64 2])]) (by simp [results, Tryz.results51, go_sem, d0, d1, d2]) rfl (HBAD.out _ B1 (.inl HNI.out))

end Go.Proofs.YtpfhegengmlkmacGreatDoor
/- Walk: l4Copy. -/
namespace Go.Proofs.YtpfhegengmlkmacGreatDoor
open Go.RowKit Go.BigFrame
set_option maxRecDepth 100000

theorem wp_append_all {o : Oper} {a : Act} {w : World} {K : Act → World → Prop} {Q : Exit → Act → World → Prop} (s x : Operand)
    (ho : o.op = .call { callee := .builtin .append, args := #[s, x], argTypes := #[22, 22] }) (base : Nat) (v : Value) (hs : a.eval s = v) (hg : w.ownsRow base 9 1 v 0 []) (hbase : base ≤ w.heap.size)
    (ad : Addr) (l : List ByteArray) (cap : Nat) (hx : a.eval x = .slice (some ad) l.length cap) (hn : ∀ j u, (l.map Value.string)[j]? = some u → w.cell? (ad.add j) = some u) (hl : l.length ≤ 1048576)
    (h : ∀ v' w', GathS w' base v' l → w.grownBy w' v.ownBlock → K (a.put o.dst v') w') : o.wp Tryz.prog a w K Q := by
  obtain ⟨i0, hi, hz0, hz1, hz2⟩ := info_parts Tryz.infoS
  obtain ⟨v', w', hr, h2, h3, _, h5⟩ := run_append_own_at (P := Tryz.prog) w base 22 o.type 9 i0 (.string .empty) 1 16 Tryz.underlying22 hi hz0 hz1 hz2 rfl (by decide) v 0 [] hg ad l.length cap (l.map Value.string) (by simp) hn (by simp [Value.oneCell']) (by unfold maxLen; omega) (by omega) hbase
  unfold Oper.wp execOp
  simp only [ho, resolve, invoke, builtin, Sem.run_bind, Sem.run_pure, Result.andThen_ok, List.map_toArray, List.map_cons, List.map_nil, hs, hx, hr]
  simp only [Nat.zero_add, List.nil_append] at h2
  exact h _ w' h2 h3
theorem Tri.set2c {w : World} {b : Nat} {x y z : Value} (h : Tri w b x y z) (v : Value) : Tri (w.setCell ⟨b, 2, none⟩ v) b x y v :=
  ⟨by simp [go_sem, h.c0], by simp [go_sem, h.c1], by simp [go_sem, h.c2], by simp [go_sem, h.f0], by simp [go_sem, h.f1], by simp [go_sem, h.f2]⟩
theorem tri_row_ne {w : World} {b B c n : Nat} {y z : Value} {l : List ByteArray} (h : Tri w b (.slice none 0 0) y z) (hg : GathS w B (.slice (some ⟨b, 0, none⟩) n c) l) (hl : 0 < l.length) : False := by
  obtain ⟨g, c', e, _, hs⟩ := hg.block hl
  obtain rfl : b = g := by simp only [Value.slice.injEq, Option.some.injEq, Addr.mk.injEq] at e; exact e.1.1
  have h0 := hs.cell hl
  rw [h.c0] at h0
  cases h0

set_option maxHeartbeats 12800000 in
theorem l4Copy_any (a0 a1 a2 : Option Addr) (c0 c1 c2 : Nat) (g : GatL) (w : World) (hg : GatP g) (r0 : RowS w a0 g.ins) (r1 : RowW w a1 g.wins) (r2 : Row w a2 g.shown) :
    Calls Tryz.prog 43 #[.agg #[.slice a0 g.ins.length c0, .slice a1 g.wins.length c1, .slice a2 g.shown.length c2]] w fun e w' => (∃ b t e0 e1 gm cm L, e = .returned (.agg #[.slice (some ⟨b, 0, none⟩) g.ins.length e0, .slice (some ⟨t, 0, none⟩) L.length e1, .slice (some ⟨gm, 0, none⟩) g.shown.length cm]) ∧ FullG w' w.heap.size w'.heap.size b t (some ⟨gm, 0, none⟩) g.ins L g.shown ∧ L.map (·.l) = g.wins ∧ (∀ k, w'.frozen? ⟨t, k, none⟩ = false) ∧ w.heap.size ≤ gm) ∧ Below w.heap.size w w' := by
  have HG : Hid (GatP g) := hg
  have h1i := hg.ins.1
  have h6 := hg.ins.2.1
  clear hg
  obtain ⟨bn, on, rfl, hbn, _⟩ := r0 0 (by omega)
  have BG : Below w.heap.size w ((w.alloc (.cells #[.slice (some ⟨bn, on, none⟩) g.ins.length c0, .slice a1 g.wins.length c1, .slice a2 g.shown.length c2] 36)).alloc (.cells #[.slice none 0 0, .slice none 0 0, .slice none 0 0] 36)) := ((Below.refl _ _).alloc (Nat.le_refl _) _).alloc (by simp) _
  have tP := (tri_new w (.slice (some ⟨bn, on, none⟩) g.ins.length c0) (.slice a1 g.wins.length c1) (.slice a2 g.shown.length c2) 36).keep (show Below _ _ ((w.alloc (.cells #[.slice (some ⟨bn, on, none⟩) g.ins.length c0, .slice a1 g.wins.length c1, .slice a2 g.shown.length c2] 36)).alloc (.cells #[.slice none 0 0, .slice none 0 0, .slice none 0 0] 36)) from (Below.refl _ _).alloc (Nat.le_refl _) _)
  have tR : Tri ((w.alloc (.cells #[.slice (some ⟨bn, on, none⟩) g.ins.length c0, .slice a1 g.wins.length c1, .slice a2 g.shown.length c2] 36)).alloc (.cells #[.slice none 0 0, .slice none 0 0, .slice none 0 0] 36)) (w.heap.size + 1) (.slice none 0 0) (.slice none 0 0) (.slice none 0 0) := by
    have h := tri_new (w.alloc (.cells #[.slice (some ⟨bn, on, none⟩) g.ins.length c0, .slice a1 g.wins.length c1, .slice a2 g.shown.length c2] 36)) (.slice none 0 0) (.slice none 0 0) (.slice none 0 0) 36
    rw [World.size_alloc] at h
    exact h
  have hz : ((w.alloc (.cells #[.slice (some ⟨bn, on, none⟩) g.ins.length c0, .slice a1 g.wins.length c1, .slice a2 g.shown.length c2] 36)).alloc (.cells #[.slice none 0 0, .slice none 0 0, .slice none 0 0] 36)).heap.size = w.heap.size + 2 := by simp
  go_enter Tryz.func43, Tryz.ntmps43
  go_wp2_with fail
  generalize (w.alloc (.cells #[.slice (some ⟨bn, on, none⟩) g.ins.length c0, .slice a1 g.wins.length c1, .slice a2 g.shown.length c2] 36)).alloc (.cells #[.slice none 0 0, .slice none 0 0, .slice none 0 0] 36) = WG at *
  have HN : Hid (∀ u : World, Below WG.heap.size WG u → ∀ j v, (g.ins.map Value.string)[j]? = some v → u.cell? ((⟨bn, on, none⟩ : Addr).add j) = some v) := fun u hu j v hj => by
    have hj' : j < g.ins.length := by
      rcases Nat.lt_or_ge j g.ins.length with h | h
      · exact h
      · rw [List.getElem?_eq_none (by simpa using h)] at hj; cases hj
    obtain ⟨b, o, e, _, hc⟩ := r0.below (BG.trans (hu.mono BG.size)) j hj'
    cases e
    have ea : (⟨bn, on, none⟩ : Addr).add j = ⟨bn, on + j, none⟩ := by unfold Addr.add; split <;> simp_all
    rw [ea, hc]
    simpa [hj'] using hj
  have HS : Hid (∀ u : World, Below WG.heap.size WG u → u.cell? ⟨w.heap.size, 0, none⟩ = some (.slice (some ⟨bn, on, none⟩) g.ins.length c0) ∧ u.cell? ⟨w.heap.size, 2, none⟩ = some (.slice a2 g.shown.length c2)) := fun u hu => ⟨cell_on hu (by omega) tP.c0, cell_on hu (by omega) tP.c2⟩
  refine wp_mono (Q := Exit.then (fun a' u => ∃ (bo g3 c3 gm cm : Nat) (v5 v6 v7 v8 v9 v10 v11 v12 : Value), a' = { tmps := #[.agg #[.slice (some ⟨bn, on, none⟩) g.ins.length c0, .slice a1 g.wins.length c1, .slice a2 g.shown.length c2], .pointer (some ⟨w.heap.size, 0, none⟩), .pointer (some ⟨w.heap.size + 1, 0, none⟩), .pointer (some ⟨bo, 0, none⟩), undef, v5, v6, v7, v8, v9, v10, v11, v12, undef, undef, undef, undef, undef, undef, undef, undef, undef, undef, undef, undef, undef, undef, undef, undef, undef, undef, undef], defers := [] } ∧
      Tri u bo (.slice (some ⟨g3, 0, none⟩) g.ins.length c3) (.slice none 0 0) (.slice (some ⟨gm, 0, none⟩) g.shown.length cm) ∧ GathS u WG.heap.size (.slice (some ⟨g3, 0, none⟩) g.ins.length c3) g.ins ∧ Own u gm g.shown ∧ bo ≠ g3 ∧ bo ≠ gm ∧ g3 ≠ gm ∧ WG.heap.size ≤ bo ∧ WG.heap.size ≤ gm ∧ g.shown.length ≤ cm ∧ Below WG.heap.size WG u) (fun _ _ _ => False)) ?_ ?_
  · rename_i k0
    have bu : Below WG.heap.size WG WG.drew := (Below.refl _ _).drew
    have Sx := HS.out _ bu
    refine wp_region_held_drew (S := fun u => u.cell? ⟨w.heap.size, 0, none⟩ = some (.slice (some ⟨bn, on, none⟩) g.ins.length c0) ∧ u.cell? ⟨w.heap.size, 2, none⟩ = some (.slice a2 g.shown.length c2)) (by kernel_rfl) Sx (fun _ => ?_)
    refine wpAnyH_take (i := 1) (v := .pointer (some ⟨w.heap.size, 0, none⟩)) rfl (by kernel_rfl) (by kernel_rfl) (by kernel_rfl) (fun _ _ _ h => h) (Or.inl ⟨by rfl, ?_⟩) Sx ?_
    · rintro u ⟨p1, p2⟩
      go_simp
    simp only [Act.put, List.setIfInBounds_toArray]
    refine wpAnyH_take (i := 2) (v := .slice (some ⟨bn, on, none⟩) g.ins.length c0) rfl (by kernel_rfl) (by kernel_rfl) (by kernel_rfl) (fun _ _ _ h => h) (Or.inl ⟨by rfl, ?_⟩) Sx ?_
    · rintro u ⟨p1, p2⟩
      go_simp
    simp only [Act.put]
    refine wpAnyH_take (i := 4) (v := .pointer (some ⟨w.heap.size, 2, none⟩)) rfl (by kernel_rfl) (by kernel_rfl) (by kernel_rfl) (fun _ _ _ h => h) (Or.inl ⟨by rfl, ?_⟩) Sx ?_
    · rintro u ⟨p1, p2⟩
      go_simp
    simp only [Act.put]
    refine wpAnyH_take (i := 5) (v := .slice a2 g.shown.length c2) rfl (by kernel_rfl) (by kernel_rfl) (by kernel_rfl) (fun _ _ _ h => h) (Or.inl ⟨by rfl, ?_⟩) Sx ?_
    · rintro u ⟨p1, p2⟩
      go_simp
    simp only [Act.put]
    generalize WG.drew = W1 at *
    clear Sx
    have Sx := HS.out _ bu
    refine wpAnyH_ready (rs := [0, 8]) (by kernel_rfl) (by simp) ?_
    refine AllReadyH.cons rfl (fun K hK => ?_) (AllReadyH.cons rfl (fun K hK => ?_) AllReadyH.nil)
    · rw [if_pos (by rfl)]
      go_simp
      have bx : Below W1.heap.size W1 (W1.alloc (.cells #[] 9)) := (Below.refl _ _).alloc (Nat.le_refl _) _
      have hown : (W1.alloc (.cells #[] 9)).ownsRow WG.heap.size 9 1 (.slice (some ⟨W1.heap.size, 0, none⟩) 0 0) 0 [] := ⟨rfl, .inr ⟨W1.heap.size, 0, #[], rfl, bu.size, heap_alloc_new W1 _, Nat.le_refl _, Nat.zero_le _, rfl, rfl⟩⟩
      replace bu := bu.trans (bx.mono bu.size)
      have hqz : W1.heap.size < (W1.alloc (.cells #[] 9)).heap.size := by simp
      obtain ⟨q0, hq0⟩ : ∃ q0, q0 = W1.heap.size := ⟨_, rfl⟩
      rw [← hq0] at hown hqz ⊢
      clear bx
      generalize W1.alloc (.cells #[] 9) = n1 at *
      clear hq0
      have Sx := HS.out _ bu
      refine hK.out _ _ Sx (fun _ => ?_)
      clear hK K
      refine wpAnyH_ready (rs := [3, 8]) (by kernel_rfl) (by simp) ?_
      refine AllReadyH.cons rfl (fun K hK => ?_) (AllReadyH.cons rfl (fun K hK => ?_) AllReadyH.nil)
      · rw [if_pos (by rfl)]
        refine wp_append_all _ _ rfl WG.heap.size (.slice (some ⟨q0, 0, none⟩) 0 0) rfl hown bu.size ⟨bn, on, none⟩ g.ins c0 rfl (HN.out _ bu) (by omega) ?_
        intro v3 n2 hgs hgr
        obtain ⟨g3, c3, rfl, hg3z, _⟩ := hgs.block (by omega)
        replace bu := bu.grown hgr bu.size (fun q hq => by have := own_from hown q hq; omega)
        have hg3l := (World.ownsRow.lt hgs g3 rfl).2
        clear hown hgr
        have Sx := HS.out _ bu
        refine hK.out _ _ Sx (fun _ => ?_)
        clear hK K
        refine wpAnyH_ready (rs := [6, 8]) (by kernel_rfl) (by simp) ?_
        refine AllReadyH.cons rfl (fun K hK => ?_) (AllReadyH.cons rfl (fun K hK => ?_) AllReadyH.nil)
        · rw [if_pos (by rfl)]
          go_simp
          refine (l2Marks_any a2 c2 g.shown _ (r2.below (BG.trans (bu.mono BG.size))) (by have := HG.out.shown.1; omega)).mono ?_
          rintro e n3 ⟨⟨gm, cm, rfl, hgmz, hcm, hom⟩, bx⟩
          have hgm3 : g3 ≠ gm := by have := hg3l; omega
          replace hgs := hgs.keep bx
          have hgmW : WG.heap.size ≤ gm := Nat.le_trans bu.size hgmz
          replace bu := bu.trans (bx.mono bu.size)
          replace hg3l := (World.ownsRow.lt hgs g3 rfl).2
          clear bx hgmz
          have Sx := HS.out _ bu
          refine hK.out _ _ Sx (fun _ => ?_)
          clear hK K
          refine wpAnyH_take (i := 7) (v := .agg #[.slice (some ⟨g3, 0, none⟩) g.ins.length c3, .slice none 0 0, .slice (some ⟨gm, 0, none⟩) g.shown.length cm]) rfl (by kernel_rfl) (by kernel_rfl) (by kernel_rfl) (fun _ _ _ h => h) (Or.inl ⟨by rfl, ?_⟩) Sx ?_
          · rintro u ⟨p1, p2⟩
            go_simp
          simp only [Act.put, List.setIfInBounds_toArray]
          refine wpAnyH_ready (rs := [8]) (by kernel_rfl) (by simp) ?_
          refine AllReadyH.cons rfl (fun K hK => ?_) AllReadyH.nil
          rw [if_pos (by rfl)]
          go_simp
          have bx : Below n3.heap.size n3 (n3.alloc (.cells #[.slice none 0 0, .slice none 0 0, .slice none 0 0] 36)) := (Below.refl _ _).alloc (Nat.le_refl _) _
          have hT := tri_new n3 (.slice none 0 0) (.slice none 0 0) (.slice none 0 0) 36
          obtain ⟨bo, hbo⟩ : ∃ bo, bo = n3.heap.size := ⟨_, rfl⟩
          have hboz : WG.heap.size ≤ bo := by rw [hbo]; exact bu.size
          replace hgs := hgs.keep bx
          have hbg : bo ≠ g3 := by have := hg3l; omega
          replace hg3l := (World.ownsRow.lt hgs g3 rfl).2
          have hbm : bo ≠ gm := by have := hom.lt; omega
          replace hom := hom.below bx
          rw [← hbo] at hT ⊢
          replace bu := bu.trans (bx.mono bu.size)
          have hTl : bo < (n3.alloc (.cells #[.slice none 0 0, .slice none 0 0, .slice none 0 0] 36)).heap.size := block_lt_of_cell hT.c0
          clear bx
          generalize n3.alloc (.cells #[.slice none 0 0, .slice none 0 0, .slice none 0 0] 36) = n4 at *
          clear hbo
          have Sx := HS.out _ bu
          refine hK.out _ _ Sx (fun _ => ?_)
          clear hK K
          refine wpAnyH_ready (rs := [9]) (by kernel_rfl) (by simp) ?_
          refine AllReadyH.cons rfl (fun K hK => ?_) AllReadyH.nil
          rw [if_pos (by rfl)]
          obtain ⟨i0, i1, i2, j0, j1, j2⟩ := id hT
          go_simp
          have hT9 := ((hT.set0 (.slice (some ⟨g3, 0, none⟩) g.ins.length c3)).set1 (.slice none 0 0)).set2c (.slice (some ⟨gm, 0, none⟩) g.shown.length cm)
          have hb9 : But bo n4 (((n4.setCell ⟨bo, 0, none⟩ (.slice (some ⟨g3, 0, none⟩) g.ins.length c3)).setCell ⟨bo, 1, none⟩ (.slice none 0 0)).setCell ⟨bo, 2, none⟩ (.slice (some ⟨gm, 0, none⟩) g.shown.length cm)) := (((But.refl _ _).setCell _ _).setCell _ _).setCell _ _
          have hg9 : GathS (((n4.setCell ⟨bo, 0, none⟩ (.slice (some ⟨g3, 0, none⟩) g.ins.length c3)).setCell ⟨bo, 1, none⟩ (.slice none 0 0)).setCell ⟨bo, 2, none⟩ (.slice (some ⟨gm, 0, none⟩) g.shown.length cm)) WG.heap.size (.slice (some ⟨g3, 0, none⟩) g.ins.length c3) g.ins := own_ne (own_ne (own_ne hgs (by simp [Value.ownBlock]; omega) _ _) (by simp [Value.ownBlock]; omega) _ _) (by simp [Value.ownBlock]; omega) _ _
          have ho9 := hb9.own hom (Ne.symm hbm)
          have B9 : Below WG.heap.size WG _ := bu.trans (hb9.below hboz bu.size)
          have S9 := HS.out _ B9
          refine hK.out _ _ S9 (fun _ => ?_)
          clear hK K
          refine wpAnyH_done (by kernel_rfl) ?_ _
          exact ⟨bo, g3, c3, gm, cm, _, _, _, _, _, _, _, _, rfl, hT9, hg9, ho9, hbg, hbm, hgm3, hboz, hgmW, hcm, B9⟩
        · rw [if_pos (by rfl)]
          go_simp
          have bx : Below n2.heap.size n2 (n2.alloc (.cells #[.slice none 0 0, .slice none 0 0, .slice none 0 0] 36)) := (Below.refl _ _).alloc (Nat.le_refl _) _
          have hT := tri_new n2 (.slice none 0 0) (.slice none 0 0) (.slice none 0 0) 36
          obtain ⟨bo, hbo⟩ : ∃ bo, bo = n2.heap.size := ⟨_, rfl⟩
          have hboz : WG.heap.size ≤ bo := by rw [hbo]; exact bu.size
          replace hgs := hgs.keep bx
          have hbg : bo ≠ g3 := by have := hg3l; omega
          replace hg3l := (World.ownsRow.lt hgs g3 rfl).2
          rw [← hbo] at hT ⊢
          replace bu := bu.trans (bx.mono bu.size)
          have hTl : bo < (n2.alloc (.cells #[.slice none 0 0, .slice none 0 0, .slice none 0 0] 36)).heap.size := block_lt_of_cell hT.c0
          clear bx
          generalize n2.alloc (.cells #[.slice none 0 0, .slice none 0 0, .slice none 0 0] 36) = n5 at *
          clear hbo
          have Sx := HS.out _ bu
          refine hK.out _ _ Sx (fun _ => ?_)
          clear hK K
          refine wpAnyH_ready (rs := [6]) (by kernel_rfl) (by simp) ?_
          refine AllReadyH.cons rfl (fun K hK => ?_) AllReadyH.nil
          rw [if_pos (by rfl)]
          go_simp
          refine (l2Marks_any a2 c2 g.shown _ (r2.below (BG.trans (bu.mono BG.size))) (by have := HG.out.shown.1; omega)).mono ?_
          rintro e n6 ⟨⟨gm, cm, rfl, hgmz, hcm, hom⟩, bx⟩
          have hgm3 : g3 ≠ gm := by have := hg3l; omega
          have hbm : bo ≠ gm := by have := hTl; omega
          replace hT := hT.keep bx
          replace hTl : bo < n6.heap.size := block_lt_of_cell hT.c0
          replace hgs := hgs.keep bx
          have hgmW : WG.heap.size ≤ gm := Nat.le_trans bu.size hgmz
          replace bu := bu.trans (bx.mono bu.size)
          replace hg3l := (World.ownsRow.lt hgs g3 rfl).2
          clear bx hgmz
          have Sx := HS.out _ bu
          refine hK.out _ _ Sx (fun _ => ?_)
          clear hK K
          refine wpAnyH_take (i := 7) (v := .agg #[.slice (some ⟨g3, 0, none⟩) g.ins.length c3, .slice none 0 0, .slice (some ⟨gm, 0, none⟩) g.shown.length cm]) rfl (by kernel_rfl) (by kernel_rfl) (by kernel_rfl) (fun _ _ _ h => h) (Or.inl ⟨by rfl, ?_⟩) Sx ?_
          · rintro u ⟨p1, p2⟩
            go_simp
          simp only [Act.put, List.setIfInBounds_toArray]
          refine wpAnyH_ready (rs := [9]) (by kernel_rfl) (by simp) ?_
          refine AllReadyH.cons rfl (fun K hK => ?_) AllReadyH.nil
          rw [if_pos (by rfl)]
          obtain ⟨i0, i1, i2, j0, j1, j2⟩ := id hT
          go_simp
          have hT9 := ((hT.set0 (.slice (some ⟨g3, 0, none⟩) g.ins.length c3)).set1 (.slice none 0 0)).set2c (.slice (some ⟨gm, 0, none⟩) g.shown.length cm)
          have hb9 : But bo n6 (((n6.setCell ⟨bo, 0, none⟩ (.slice (some ⟨g3, 0, none⟩) g.ins.length c3)).setCell ⟨bo, 1, none⟩ (.slice none 0 0)).setCell ⟨bo, 2, none⟩ (.slice (some ⟨gm, 0, none⟩) g.shown.length cm)) := (((But.refl _ _).setCell _ _).setCell _ _).setCell _ _
          have hg9 : GathS (((n6.setCell ⟨bo, 0, none⟩ (.slice (some ⟨g3, 0, none⟩) g.ins.length c3)).setCell ⟨bo, 1, none⟩ (.slice none 0 0)).setCell ⟨bo, 2, none⟩ (.slice (some ⟨gm, 0, none⟩) g.shown.length cm)) WG.heap.size (.slice (some ⟨g3, 0, none⟩) g.ins.length c3) g.ins := own_ne (own_ne (own_ne hgs (by simp [Value.ownBlock]; omega) _ _) (by simp [Value.ownBlock]; omega) _ _) (by simp [Value.ownBlock]; omega) _ _
          have ho9 := hb9.own hom (Ne.symm hbm)
          have B9 : Below WG.heap.size WG _ := bu.trans (hb9.below hboz bu.size)
          have S9 := HS.out _ B9
          refine hK.out _ _ S9 (fun _ => ?_)
          clear hK K
          refine wpAnyH_done (by kernel_rfl) ?_ _
          exact ⟨bo, g3, c3, gm, cm, _, _, _, _, _, _, _, _, rfl, hT9, hg9, ho9, hbg, hbm, hgm3, hboz, hgmW, hcm, B9⟩
      · rw [if_pos (by rfl)]
        go_simp
        have bx : Below n1.heap.size n1 (n1.alloc (.cells #[.slice none 0 0, .slice none 0 0, .slice none 0 0] 36)) := (Below.refl _ _).alloc (Nat.le_refl _) _
        have hT := tri_new n1 (.slice none 0 0) (.slice none 0 0) (.slice none 0 0) 36
        obtain ⟨bo, hbo⟩ : ∃ bo, bo = n1.heap.size := ⟨_, rfl⟩
        have hboz : WG.heap.size ≤ bo := by rw [hbo]; exact bu.size
        replace hown := own_keep hown bx
        have hqT : bo ≠ q0 := by omega
        rw [← hbo] at hT ⊢
        replace bu := bu.trans (bx.mono bu.size)
        have hTl : bo < (n1.alloc (.cells #[.slice none 0 0, .slice none 0 0, .slice none 0 0] 36)).heap.size := block_lt_of_cell hT.c0
        clear bx
        generalize n1.alloc (.cells #[.slice none 0 0, .slice none 0 0, .slice none 0 0] 36) = n7 at *
        clear hbo
        have Sx := HS.out _ bu
        refine hK.out _ _ Sx (fun _ => ?_)
        clear hK K
        refine wpAnyH_ready (rs := [3]) (by kernel_rfl) (by simp) ?_
        refine AllReadyH.cons rfl (fun K hK => ?_) AllReadyH.nil
        rw [if_pos (by rfl)]
        refine wp_append_all _ _ rfl WG.heap.size (.slice (some ⟨q0, 0, none⟩) 0 0) rfl hown bu.size ⟨bn, on, none⟩ g.ins c0 rfl (HN.out _ bu) (by omega) ?_
        intro v3 n8 hgs hgr
        obtain ⟨g3, c3, rfl, hg3z, _⟩ := hgs.block (by omega)
        replace hT := hT.grown hgr (by intro e; exact hqT (by simpa [Value.ownBlock] using e))
        have hbg : bo ≠ g3 := fun e => by have hx := hgs; rw [← e] at hx; exact tri_row_ne hT hx (by omega)
        replace bu := bu.grown hgr bu.size (fun q hq => by have := own_from hown q hq; omega)
        have hg3l := (World.ownsRow.lt hgs g3 rfl).2
        clear hown hgr
        replace hTl : bo < n8.heap.size := block_lt_of_cell hT.c0
        have Sx := HS.out _ bu
        refine hK.out _ _ Sx (fun _ => ?_)
        clear hK K
        refine wpAnyH_ready (rs := [6]) (by kernel_rfl) (by simp) ?_
        refine AllReadyH.cons rfl (fun K hK => ?_) AllReadyH.nil
        rw [if_pos (by rfl)]
        go_simp
        refine (l2Marks_any a2 c2 g.shown _ (r2.below (BG.trans (bu.mono BG.size))) (by have := HG.out.shown.1; omega)).mono ?_
        rintro e n9 ⟨⟨gm, cm, rfl, hgmz, hcm, hom⟩, bx⟩
        have hgm3 : g3 ≠ gm := by have := hg3l; omega
        have hbm : bo ≠ gm := by have := hTl; omega
        replace hT := hT.keep bx
        replace hTl : bo < n9.heap.size := block_lt_of_cell hT.c0
        replace hgs := hgs.keep bx
        have hgmW : WG.heap.size ≤ gm := Nat.le_trans bu.size hgmz
        replace bu := bu.trans (bx.mono bu.size)
        replace hg3l := (World.ownsRow.lt hgs g3 rfl).2
        clear bx hgmz
        have Sx := HS.out _ bu
        refine hK.out _ _ Sx (fun _ => ?_)
        clear hK K
        refine wpAnyH_take (i := 7) (v := .agg #[.slice (some ⟨g3, 0, none⟩) g.ins.length c3, .slice none 0 0, .slice (some ⟨gm, 0, none⟩) g.shown.length cm]) rfl (by kernel_rfl) (by kernel_rfl) (by kernel_rfl) (fun _ _ _ h => h) (Or.inl ⟨by rfl, ?_⟩) Sx ?_
        · rintro u ⟨p1, p2⟩
          go_simp
        simp only [Act.put, List.setIfInBounds_toArray]
        refine wpAnyH_ready (rs := [9]) (by kernel_rfl) (by simp) ?_
        refine AllReadyH.cons rfl (fun K hK => ?_) AllReadyH.nil
        rw [if_pos (by rfl)]
        obtain ⟨i0, i1, i2, j0, j1, j2⟩ := id hT
        go_simp
        have hT9 := ((hT.set0 (.slice (some ⟨g3, 0, none⟩) g.ins.length c3)).set1 (.slice none 0 0)).set2c (.slice (some ⟨gm, 0, none⟩) g.shown.length cm)
        have hb9 : But bo n9 (((n9.setCell ⟨bo, 0, none⟩ (.slice (some ⟨g3, 0, none⟩) g.ins.length c3)).setCell ⟨bo, 1, none⟩ (.slice none 0 0)).setCell ⟨bo, 2, none⟩ (.slice (some ⟨gm, 0, none⟩) g.shown.length cm)) := (((But.refl _ _).setCell _ _).setCell _ _).setCell _ _
        have hg9 : GathS (((n9.setCell ⟨bo, 0, none⟩ (.slice (some ⟨g3, 0, none⟩) g.ins.length c3)).setCell ⟨bo, 1, none⟩ (.slice none 0 0)).setCell ⟨bo, 2, none⟩ (.slice (some ⟨gm, 0, none⟩) g.shown.length cm)) WG.heap.size (.slice (some ⟨g3, 0, none⟩) g.ins.length c3) g.ins := own_ne (own_ne (own_ne hgs (by simp [Value.ownBlock]; omega) _ _) (by simp [Value.ownBlock]; omega) _ _) (by simp [Value.ownBlock]; omega) _ _
        have ho9 := hb9.own hom (Ne.symm hbm)
        have B9 : Below WG.heap.size WG _ := bu.trans (hb9.below hboz bu.size)
        have S9 := HS.out _ B9
        refine hK.out _ _ S9 (fun _ => ?_)
        clear hK K
        refine wpAnyH_done (by kernel_rfl) ?_ _
        exact ⟨bo, g3, c3, gm, cm, _, _, _, _, _, _, _, _, rfl, hT9, hg9, ho9, hbg, hbm, hgm3, hboz, hgmW, hcm, B9⟩
    · rw [if_pos (by rfl)]
      go_simp
      have bx : Below W1.heap.size W1 (W1.alloc (.cells #[.slice none 0 0, .slice none 0 0, .slice none 0 0] 36)) := (Below.refl _ _).alloc (Nat.le_refl _) _
      have hT := tri_new W1 (.slice none 0 0) (.slice none 0 0) (.slice none 0 0) 36
      obtain ⟨bo, hbo⟩ : ∃ bo, bo = W1.heap.size := ⟨_, rfl⟩
      have hboz : WG.heap.size ≤ bo := by rw [hbo]; exact bu.size
      rw [← hbo] at hT ⊢
      replace bu := bu.trans (bx.mono bu.size)
      have hTl : bo < (W1.alloc (.cells #[.slice none 0 0, .slice none 0 0, .slice none 0 0] 36)).heap.size := block_lt_of_cell hT.c0
      clear bx
      generalize W1.alloc (.cells #[.slice none 0 0, .slice none 0 0, .slice none 0 0] 36) = n10 at *
      clear hbo
      have Sx := HS.out _ bu
      refine hK.out _ _ Sx (fun _ => ?_)
      clear hK K
      refine wpAnyH_ready (rs := [0]) (by kernel_rfl) (by simp) ?_
      refine AllReadyH.cons rfl (fun K hK => ?_) AllReadyH.nil
      rw [if_pos (by rfl)]
      go_simp
      have bx : Below n10.heap.size n10 (n10.alloc (.cells #[] 9)) := (Below.refl _ _).alloc (Nat.le_refl _) _
      have hown : (n10.alloc (.cells #[] 9)).ownsRow WG.heap.size 9 1 (.slice (some ⟨n10.heap.size, 0, none⟩) 0 0) 0 [] := ⟨rfl, .inr ⟨n10.heap.size, 0, #[], rfl, bu.size, heap_alloc_new n10 _, Nat.le_refl _, Nat.zero_le _, rfl, rfl⟩⟩
      replace hT := hT.keep bx
      replace bu := bu.trans (bx.mono bu.size)
      have hqz : n10.heap.size < (n10.alloc (.cells #[] 9)).heap.size := by simp
      obtain ⟨q0, hq0⟩ : ∃ q0, q0 = n10.heap.size := ⟨_, rfl⟩
      rw [← hq0] at hown hqz ⊢
      have hqT : bo ≠ q0 := by have := hTl; omega
      clear bx
      generalize n10.alloc (.cells #[] 9) = n11 at *
      clear hq0
      have Sx := HS.out _ bu
      refine hK.out _ _ Sx (fun _ => ?_)
      clear hK K
      refine wpAnyH_ready (rs := [3]) (by kernel_rfl) (by simp) ?_
      refine AllReadyH.cons rfl (fun K hK => ?_) AllReadyH.nil
      rw [if_pos (by rfl)]
      refine wp_append_all _ _ rfl WG.heap.size (.slice (some ⟨q0, 0, none⟩) 0 0) rfl hown bu.size ⟨bn, on, none⟩ g.ins c0 rfl (HN.out _ bu) (by omega) ?_
      intro v3 n12 hgs hgr
      obtain ⟨g3, c3, rfl, hg3z, _⟩ := hgs.block (by omega)
      replace hT := hT.grown hgr (by intro e; exact hqT (by simpa [Value.ownBlock] using e))
      have hbg : bo ≠ g3 := fun e => by have hx := hgs; rw [← e] at hx; exact tri_row_ne hT hx (by omega)
      replace bu := bu.grown hgr bu.size (fun q hq => by have := own_from hown q hq; omega)
      have hg3l := (World.ownsRow.lt hgs g3 rfl).2
      clear hown hgr
      replace hTl : bo < n12.heap.size := block_lt_of_cell hT.c0
      have Sx := HS.out _ bu
      refine hK.out _ _ Sx (fun _ => ?_)
      clear hK K
      refine wpAnyH_ready (rs := [6]) (by kernel_rfl) (by simp) ?_
      refine AllReadyH.cons rfl (fun K hK => ?_) AllReadyH.nil
      rw [if_pos (by rfl)]
      go_simp
      refine (l2Marks_any a2 c2 g.shown _ (r2.below (BG.trans (bu.mono BG.size))) (by have := HG.out.shown.1; omega)).mono ?_
      rintro e n13 ⟨⟨gm, cm, rfl, hgmz, hcm, hom⟩, bx⟩
      have hgm3 : g3 ≠ gm := by have := hg3l; omega
      have hbm : bo ≠ gm := by have := hTl; omega
      replace hT := hT.keep bx
      replace hTl : bo < n13.heap.size := block_lt_of_cell hT.c0
      replace hgs := hgs.keep bx
      have hgmW : WG.heap.size ≤ gm := Nat.le_trans bu.size hgmz
      replace bu := bu.trans (bx.mono bu.size)
      replace hg3l := (World.ownsRow.lt hgs g3 rfl).2
      clear bx hgmz
      have Sx := HS.out _ bu
      refine hK.out _ _ Sx (fun _ => ?_)
      clear hK K
      refine wpAnyH_take (i := 7) (v := .agg #[.slice (some ⟨g3, 0, none⟩) g.ins.length c3, .slice none 0 0, .slice (some ⟨gm, 0, none⟩) g.shown.length cm]) rfl (by kernel_rfl) (by kernel_rfl) (by kernel_rfl) (fun _ _ _ h => h) (Or.inl ⟨by rfl, ?_⟩) Sx ?_
      · rintro u ⟨p1, p2⟩
        go_simp
      simp only [Act.put, List.setIfInBounds_toArray]
      refine wpAnyH_ready (rs := [9]) (by kernel_rfl) (by simp) ?_
      refine AllReadyH.cons rfl (fun K hK => ?_) AllReadyH.nil
      rw [if_pos (by rfl)]
      obtain ⟨i0, i1, i2, j0, j1, j2⟩ := id hT
      go_simp
      have hT9 := ((hT.set0 (.slice (some ⟨g3, 0, none⟩) g.ins.length c3)).set1 (.slice none 0 0)).set2c (.slice (some ⟨gm, 0, none⟩) g.shown.length cm)
      have hb9 : But bo n13 (((n13.setCell ⟨bo, 0, none⟩ (.slice (some ⟨g3, 0, none⟩) g.ins.length c3)).setCell ⟨bo, 1, none⟩ (.slice none 0 0)).setCell ⟨bo, 2, none⟩ (.slice (some ⟨gm, 0, none⟩) g.shown.length cm)) := (((But.refl _ _).setCell _ _).setCell _ _).setCell _ _
      have hg9 : GathS (((n13.setCell ⟨bo, 0, none⟩ (.slice (some ⟨g3, 0, none⟩) g.ins.length c3)).setCell ⟨bo, 1, none⟩ (.slice none 0 0)).setCell ⟨bo, 2, none⟩ (.slice (some ⟨gm, 0, none⟩) g.shown.length cm)) WG.heap.size (.slice (some ⟨g3, 0, none⟩) g.ins.length c3) g.ins := own_ne (own_ne (own_ne hgs (by simp [Value.ownBlock]; omega) _ _) (by simp [Value.ownBlock]; omega) _ _) (by simp [Value.ownBlock]; omega) _ _
      have ho9 := hb9.own hom (Ne.symm hbm)
      have B9 : Below WG.heap.size WG _ := bu.trans (hb9.below hboz bu.size)
      have S9 := HS.out _ B9
      refine hK.out _ _ S9 (fun _ => ?_)
      clear hK K
      refine wpAnyH_done (by kernel_rfl) ?_ _
      exact ⟨bo, g3, c3, gm, cm, _, _, _, _, _, _, _, _, rfl, hT9, hg9, ho9, hbg, hbm, hgm3, hboz, hgmW, hcm, B9⟩
  · rintro e a' u h
    cases e <;> first | exact h.elim | skip
    obtain ⟨bo, g3, c3, gm, cm, v5, v6, v7, v8, v9, v10, v11, v12, rfl, hT, hgs, hom, hbg, hbm, hgm3, hboz, hgmz, hcm, bu⟩ := h
    have hTP := tP.keep bu
    have tR' := tR.keep bu
    have hTl : bo < u.heap.size := block_lt_of_cell hT.c0
    obtain ⟨g3', c3', hg3e, hg3z, hsb⟩ := hgs.block (by omega)
    obtain rfl : g3 = g3' := by simp only [Value.slice.injEq, Option.some.injEq, Addr.mk.injEq] at hg3e; exact hg3e.1.1
    have hgl : g3 < u.heap.size := hsb.lt
    have hml := hom.lt
    have BU : Below w.heap.size w u := BG.trans (bu.mono BG.size)
    have HLEN : Hid (g.wins.length = g.ins.length) := HG.out.len
    have hl6 : g.wins.length ≤ 6 := by have := HLEN.out; omega
    have hl0 : 0 < g.wins.length := by have := HLEN.out; omega
    clear HN HS tP tR hgs hg3e
    obtain ⟨Z, hZ⟩ : ∃ Z, Z = u.heap.size := ⟨_, rfl⟩
    rw [← hZ] at hTl hgl hml
    have hZu : Z ≤ u.heap.size := by omega
    have hwZ : w.heap.size + 2 ≤ Z := by have := bu.size; omega
    clear hZ
    go_wp2_with fail
    go_loopw [4] (fun i wr => ∃ (k : Nat) (vw : Value) (L : List WinY), k ≤ g.wins.length ∧ i = .int .i64 k ∧ GathY wr Z vw L ∧ Hid (L.map (·.l) = g.wins.take k) ∧ StrB wr g3 g.ins ∧ Own wr gm g.shown ∧ Tri wr bo (.slice (some ⟨g3, 0, none⟩) g.ins.length c3) vw (.slice (some ⟨gm, 0, none⟩) g.shown.length cm) ∧ Tri wr w.heap.size (.slice (some ⟨bn, on, none⟩) g.ins.length c0) (.slice a1 g.wins.length c1) (.slice a2 g.shown.length c2) ∧ Tri wr (w.heap.size + 1) (.slice none 0 0) (.slice none 0 0) (.slice none 0 0) ∧ Z ≤ wr.heap.size ∧ Below w.heap.size w wr) (fun i _ => g.wins.length - (intOf i).toNat)
    case atStart => exact ⟨0, _, [], Nat.zero_le _, rfl, gathY_none _ _, by simp [Hid], hsb, hom, hT, hTP, tR', hZu, BU⟩
    case round =>
      clear hsb hom hT hTP tR' BU bu
      obtain ⟨k, vw, L, hk, rfl, hgy, HL, hsb, hom, hT, hTP, tR', hZr, hbl⟩ := hrel
      have hpx := hTP.c1
      by_cases hlt : k < g.wins.length
      · obtain ⟨bw, ow, rfl, hbw, sw, tw, m0, htw, hrw⟩ := r1.below hbl k hlt
        have hbw0 : bw < w.heap.size := by
          obtain ⟨b', o', e, hb, _⟩ := r1 k hlt
          cases e
          exact hb
        have k0 : (0 : Int) ≤ (k : Int) := by omega
        have k1 : (k : Int) < (g.wins.length : Int) := by omega
        have hfi : ∀ u, Below wr.heap.size wr u → Calls Tryz.prog 81 #[.slice sw g.wins[k].length tw] u fun e w' => (∃ v, e = .returned v ∧ GathI w' u.heap.size v g.wins[k]) ∧ Below u.heap.size u w' := fun u hu => l2Items_any sw tw g.wins[k] u (winP_stamps (HG.out.wins.2.2 k hlt)).small (hrw.below hu)
        have x1 := hT.c1
        have hbo1 : bo < wr.heap.size := block_lt_of_cell hT.c0
        have hpw : w.heap.size < wr.heap.size := block_lt_of_cell hTP.c0
        go_wp2_with fail
        have hbd6 : Below wr.heap.size wr wr.drew := (Below.refl _ _).drew
        have HSS : Hid (∀ u : World, Below wr.heap.size wr u → u.cell? ⟨w.heap.size, 1, none⟩ = some (.slice (some ⟨bw, ow, none⟩) g.wins.length c1) ∧ u.cell? ⟨bw, ow + k, none⟩ = some (.slice sw g.wins[k].length tw)) := fun u hu => ⟨cell_on hu hpw hTP.c1, cell_on hu hbw m0⟩
        have SW := HSS.out _ hbd6
        have x1d : wr.drew.cell? ⟨bo, 1, none⟩ = some vw := x1
        refine wp_region_held_drew (S := fun u => u.cell? ⟨w.heap.size, 1, none⟩ = some (.slice (some ⟨bw, ow, none⟩) g.wins.length c1) ∧ u.cell? ⟨bw, ow + k, none⟩ = some (.slice sw g.wins[k].length tw)) (by kernel_rfl) SW (fun _ => ?_)
        refine wpAnyH_take (i := 0) (v := .pointer (some ⟨bo, 1, none⟩)) rfl (by kernel_rfl) (by kernel_rfl) (by kernel_rfl) (fun _ _ _ h => h) (Or.inl ⟨by rfl, ?_⟩) SW ?_
        · rintro u ⟨q1, q2⟩
          go_simp
        simp only [Act.put, List.setIfInBounds_toArray]
        refine wpAnyH_take (i := 2) (v := .pointer (some ⟨w.heap.size, 1, none⟩)) rfl (by kernel_rfl) (by kernel_rfl) (by kernel_rfl) (fun _ _ _ h => h) (Or.inl ⟨by rfl, ?_⟩) SW ?_
        · rintro u ⟨q1, q2⟩
          go_simp
        simp only [Act.put]
        refine wpAnyH_take (i := 3) (v := .slice (some ⟨bw, ow, none⟩) g.wins.length c1) rfl (by kernel_rfl) (by kernel_rfl) (by kernel_rfl) (fun _ _ _ h => h) (Or.inl ⟨by rfl, ?_⟩) SW ?_
        · rintro u ⟨q1, q2⟩
          go_simp
        simp only [Act.put]
        refine wpAnyH_take (i := 4) (v := .int .i64 k) rfl (by kernel_rfl) (by kernel_rfl) (by kernel_rfl) (fun _ _ _ h => h) (Or.inl ⟨by rfl, ?_⟩) SW ?_
        · rintro u ⟨q1, q2⟩
          go_simp
        simp only [Act.put]
        refine wpAnyH_take (i := 5) (v := .pointer (some ⟨bw, ow + k, none⟩)) rfl (by kernel_rfl) (by kernel_rfl) (by kernel_rfl) (fun _ _ _ h => h) (Or.inl ⟨by rfl, ?_⟩) SW ?_
        · rintro u ⟨q1, q2⟩
          go_simp
        simp only [Act.put]
        refine wpAnyH_take (i := 6) (v := .slice sw g.wins[k].length tw) rfl (by kernel_rfl) (by kernel_rfl) (by kernel_rfl) (fun _ _ _ h => h) (Or.inl ⟨by rfl, ?_⟩) SW ?_
        · rintro u ⟨q1, q2⟩
          go_simp
        simp only [Act.put]
        refine wpAnyH_ready (rs := [1, 7]) (by kernel_rfl) (by simp) ?_
        refine AllReadyH.cons rfl (fun K hK => ?_) (AllReadyH.cons rfl (fun K hK => ?_) AllReadyH.nil)
        rw [if_pos (by rfl)]
        go_simp
        refine hK.out _ _ SW (fun _ => ?_)
        clear hK K
        refine wpAnyH_ready (rs := [7]) (by kernel_rfl) (by simp) ?_
        refine AllReadyH.cons rfl (fun K hK => ?_) AllReadyH.nil
        rw [if_pos (by rfl)]
        go_simp
        refine (hfi _ hbd6).mono ?_
        rintro e w7 ⟨⟨v7, rfl, hg7⟩, b7⟩
        have b7' : Below wr.heap.size wr w7 := hbd6.trans (b7.mono hbd6.size)
        have S7 := HSS.out _ b7'
        refine hK.out _ _ S7 (fun _ => ?_)
        clear hK K
        obtain ⟨v7a, v7c, rfl, h7c, _⟩ := hg7.safe
        have b8 : Below wr.heap.size wr (w7.alloc (.cells #[.slice v7a g.wins[k].length v7c] 78)) := b7'.alloc b7'.size _
        have S8 := HSS.out _ b8
        refine wpAnyH_ready (rs := [8]) (by kernel_rfl) (by simp) ?_
        refine AllReadyH.cons rfl (fun K hK => ?_) AllReadyH.nil
        rw [if_pos (by rfl)]
        go_simp
        refine hK.out _ _ S8 (fun _ => ?_)
        clear hK K
        rotate_left
        rw [if_pos (by rfl)]
        go_simp
        refine (hfi _ hbd6).mono ?_
        rintro e w7 ⟨⟨v7, rfl, hg7⟩, b7⟩
        have b7' : Below wr.heap.size wr w7 := hbd6.trans (b7.mono hbd6.size)
        have S7 := HSS.out _ b7'
        refine hK.out _ _ S7 (fun _ => ?_)
        clear hK K
        obtain ⟨v7a, v7c, rfl, h7c, _⟩ := hg7.safe
        have b8 : Below wr.heap.size wr (w7.alloc (.cells #[.slice v7a g.wins[k].length v7c] 78)) := b7'.alloc b7'.size _
        have S8 := HSS.out _ b8
        have y7 := (hT.keep b7').c1
        have y8 := (hT.keep b8).c1
        refine wpAnyH_ready (rs := [1, 8]) (by kernel_rfl) (by simp) ?_
        refine AllReadyH.cons rfl (fun K hK => ?_) (AllReadyH.cons rfl (fun K hK => ?_) AllReadyH.nil)
        rw [if_pos (by rfl)]
        go_simp
        refine hK.out _ _ S7 (fun _ => ?_)
        clear hK K
        refine wpAnyH_ready (rs := [8]) (by kernel_rfl) (by simp) ?_
        refine AllReadyH.cons rfl (fun K hK => ?_) AllReadyH.nil
        rw [if_pos (by rfl)]
        go_simp
        refine hK.out _ _ S8 (fun _ => ?_)
        clear hK K y7 y8
        rotate_left
        rw [if_pos (by rfl)]
        go_simp
        refine hK.out _ _ S8 (fun _ => ?_)
        clear hK K
        refine wpAnyH_ready (rs := [1]) (by kernel_rfl) (by simp) ?_
        refine AllReadyH.cons rfl (fun K hK => ?_) AllReadyH.nil
        rw [if_pos (by rfl)]
        go_simp
        refine hK.out _ _ S8 (fun _ => ?_)
        clear hK K y7 y8
        all_goals
          have hzd : wr.drew.heap.size = wr.heap.size := rfl
          have hin0 := hg7.winY b7.size
          have hin : (WinY.mk g.wins[k] (.slice v7a g.wins[k].length v7c) wr.drew.heap.size w7.heap.size).In w7 Z := ⟨hin0.1, by show Z ≤ wr.drew.heap.size; omega, hin0.2.2.1, hin0.2.2.2⟩
          have hbx8 : Below w7.heap.size w7 (w7.alloc (.cells #[.slice v7a g.wins[k].length v7c] 78)) := (Below.refl _ _).alloc (Nat.le_refl _) _
          have hlL : L.length ≤ 1048576 := by have := congrArg List.length HL.out; rw [List.length_map, List.length_take] at this; omega
          refine wpAnyH_ready (rs := [9]) (by kernel_rfl) (by simp) ?_
          refine AllReadyH.cons rfl (fun K hK => ?_) AllReadyH.nil
          rw [if_pos (by rfl)]
          refine wp_append_win _ _ rfl Z vw L rfl (hgy.keep b8) (by have := b8.size; omega) w7.heap.size (WinY.mk g.wins[k] (.slice v7a g.wins[k].length v7c) wr.drew.heap.size w7.heap.size) (fun q hq => by have := (hgy.at_ q hq).2.2.2; exact this) (hin.below hbx8) (fun q hq => .inl (by have := (World.ownsRow.lt hgy.own q hq).2; exact this)) rfl (by simp [go_sem]) hlL ?_
          intro vw' w9 hgy9 hgr9 hloc9
          have hfar9 : ∀ q, q < Z → some q ≠ vw.ownBlock := fun q hq e => by have := own_from hgy.own q e.symm; omega
          have tP9 := (hTP.keep b8).grown hgr9 (hfar9 _ (by omega))
          have tR9 := (tR'.keep b8).grown hgr9 (hfar9 _ (by omega))
          have tT9 := (hT.keep b8).grown hgr9 (hfar9 _ (by omega))
          have hom9 := own_grown (hom.below b8) hgr9 (hfar9 _ (by omega))
          have hsb9 : StrB w9 g3 g.ins := by
            have h8 := hsb.below b8
            obtain ⟨mm, f, h7, hf⟩ := id h8
            exact ⟨mm, f, h7.of_block (hgr9.block g3 h8.lt (hfar9 _ (by omega))), hf⟩
          have z9 := hgr9.size
          have z8 := b8.size
          have B9 : Below w.heap.size w w9 := (hbl.trans (b8.mono hbl.size)).grown hgr9 (by have := hbl.size; omega) (fun q hq => by have := own_from hgy.own q hq; omega)
          have HL9 : Hid ((L ++ [(WinY.mk g.wins[k] (.slice v7a g.wins[k].length v7c) wr.drew.heap.size w7.heap.size)]).map (·.l) = g.wins.take (k + 1)) := by
            unfold Hid
            rw [List.map_append, HL.out, List.take_succ_eq_append_getElem hlt]
            rfl
          have S9 : w9.cell? ⟨w.heap.size, 1, none⟩ = some (.slice (some ⟨bw, ow, none⟩) g.wins.length c1) ∧ w9.cell? ⟨bw, ow + k, none⟩ = some (.slice sw g.wins[k].length tw) := ⟨tP9.c1, grown_cell hgr9 (hfar9 _ (by omega)) S8.2⟩
          obtain ⟨vwa, vwc, rfl, _, _⟩ := hgy9.row
          generalize (L ++ [(WinY.mk g.wins[k] (.slice v7a g.wins[k].length v7c) wr.drew.heap.size w7.heap.size)]) = L9 at *
          generalize L9.length = n9 at hgy9 hloc9 ⊢
          refine hK.out _ _ S9 (fun _ => ?_)
          clear hK K
          have q0 := tT9.c1
          have q1 := tT9.f1
          refine wpAnyH_ready (rs := [10]) (by kernel_rfl) (by simp) ?_
          refine AllReadyH.cons rfl (fun K hK => ?_) AllReadyH.nil
          rw [if_pos (by rfl)]
          go_simp
          refine hK.out _ _ S9 (fun _ => ?_)
          clear hK K
          have tPf := tP9.far (q := bo) (by omega) 1 (.slice vwa n9 vwc)
          have S10 : (w9.setCell ⟨bo, 1, none⟩ (.slice vwa n9 vwc)).cell? ⟨w.heap.size, 1, none⟩ = some (.slice (some ⟨bw, ow, none⟩) g.wins.length c1) ∧ (w9.setCell ⟨bo, 1, none⟩ (.slice vwa n9 vwc)).cell? ⟨bw, ow + k, none⟩ = some (.slice sw g.wins[k].length tw) := ⟨tPf.c1, by rw [set_far _ _ _ _ (by omega)]; exact S9.2⟩
          have hsbf : StrB (w9.setCell ⟨bo, 1, none⟩ (.slice vwa n9 vwc)) g3 g.ins := hsb9.span ((Span.refl bo (bo + 1) w9).setCell (Nat.le_refl _) (Nat.lt_succ_self _) 1 _) (by omega)
          refine wpAnyH_ready (rs := [11]) (by kernel_rfl) (by simp) ?_
          refine AllReadyH.cons rfl (fun K hK => ?_) AllReadyH.nil
          rw [if_pos (by rfl)]
          go_simp
          refine hK.out _ _ S10 (fun _ => ?_)
          clear hK K
          refine wpAnyH_done (by kernel_rfl) ?_ _
          go_wp2_with fail
          exact ⟨⟨k + 1, _, L9, by omega, by go_num, hgy9.set (by omega) 1 _, HL9, hsbf, hom9.setOther (by omega) 1 _, tT9.set1 _, tPf, tR9.far (by omega) 1 _, by simp only [World.size_setCell]; omega, B9.setCell (by simp only; omega) _⟩, by simp [intOf]; omega⟩
      · obtain rfl : k = g.wins.length := by omega
        have HLE : Hid (L.map (·.l) = g.wins) := by
          have := HL.out
          rw [List.take_of_length_le (Nat.le_refl _)] at this
          exact this
        have hLl : L.length = g.wins.length := by have := congrArg List.length HLE.out; simpa using this
        obtain ⟨t, e1, rfl, hc1, htB, htl, hcell, hfz, hft⟩ := hgy.blockY (by omega)
        have HLL : Hid (L.length = g.wins.length) := hLl
        clear hLl
        obtain ⟨j0, j1, j2, _, _, _⟩ := id hT
        obtain ⟨i0, i1, i2, f0, f1, f2⟩ := id tR'
        go_wp2_with fail
        obtain ⟨w9, h9⟩ : ∃ w9, ((wr.setCell ⟨w.heap.size + 1, 0, none⟩ (.slice (some ⟨g3, 0, none⟩) g.ins.length c3)).setCell ⟨w.heap.size + 1, 1, none⟩ (.slice (some ⟨t, 0, none⟩) L.length e1)).setCell ⟨w.heap.size + 1, 2, none⟩ (.slice (some ⟨gm, 0, none⟩) g.shown.length cm) = w9 := ⟨_, rfl⟩
        have sp : Span (w.heap.size + 1) (w.heap.size + 2) wr w9 := by rw [← h9]; exact (((Span.refl _ _ _).setCell (by omega) (by omega) _ _).setCell (by omega) (by omega) _ _).setCell (by omega) (by omega) _ _
        have B9 : Below w.heap.size w w9 := by rw [← h9]; exact ((hbl.setCell (by simp only; omega) _).setCell (by simp only; omega) _).setCell (by simp only; omega) _
        have y0 : w9.cell? ⟨w.heap.size + 1, 0, none⟩ = some (.slice (some ⟨g3, 0, none⟩) g.ins.length c3) := by rw [← h9]; simp [go_sem, i0]
        have y1 : w9.cell? ⟨w.heap.size + 1, 1, none⟩ = some (.slice (some ⟨t, 0, none⟩) L.length e1) := by rw [← h9]; simp [go_sem, i1]
        have y2 : w9.cell? ⟨w.heap.size + 1, 2, none⟩ = some (.slice (some ⟨gm, 0, none⟩) g.shown.length cm) := by rw [← h9]; simp [go_sem, i2]
        have hfull : FullG wr (w.heap.size + 2) wr.heap.size g3 t (some ⟨gm, 0, none⟩) g.ins L g.shown :=
          ⟨hsb, ⟨htl, hcell, fun p hp => (hgy.at_ p hp).1, hft, fun p hp => by have := (hgy.at_ p hp).2; omega, hgy.dis.imp fun h => .inl h⟩, by omega, ⟨by omega, hsb.lt⟩, ⟨by omega, htl⟩, fun p hp => .inl (by have := (hgy.at_ p hp).2; omega), .inr ⟨gm, rfl, by omega, hom.lt, by omega, by omega, hom, fun p hp => .inl (by have := (hgy.at_ p hp).2; omega)⟩⟩
        have hz9 := sp.size
        have hfz9 : ∀ k, w9.frozen? ⟨t, k, none⟩ = false := fun k => by rw [World.frozen?_of_block (sp.block t htl (by omega))]; exact hfz k
        rw [h9]
        clear h9
        exact bodyPost_ret (v := .agg #[.slice (some ⟨g3, 0, none⟩) g.ins.length c3, .slice (some ⟨t, 0, none⟩) L.length e1, .slice (some ⟨gm, 0, none⟩) g.shown.length cm]) (by simp [results, Tryz.results43, go_sem, y0, y1, y2]) rfl ⟨⟨g3, t, c3, e1, gm, cm, L, rfl, (hfull.span sp (.inr (Nat.le_refl _))).widen (by omega) hz9, HLE.out, hfz9, by omega⟩, B9⟩

end Go.Proofs.YtpfhegengmlkmacGreatDoor
/- A window inside a row of windows: walks of slot, size, at, last at whatever place of a block. -/
namespace Go.Proofs.YtpfhegengmlkmacGreatDoor
open Go.RowKit Go.BigFrame

/-- From cell 'o' of block 'b' on lies a ring that begins at slot 0 and holds the items 'l', whose marks lie in W0. -/
def WinO (W0 w : World) (b o : Nat) (l : List ItemL) : Prop :=
  b < w.heap.size ∧ l.length ≤ 4 ∧ w.cell? ⟨b, o + 8, none⟩ = some (.int .i64 0) ∧ w.cell? ⟨b, o + 9, none⟩ = some (.int .i64 l.length) ∧
    ∀ k, (h : k < l.length) → w.cell? ⟨b, o + k * 2, none⟩ = some (.int .i64 l[k].1) ∧ ∃ v, w.cell? ⟨b, o + k * 2 + 1, none⟩ = some v ∧ IsSl W0 v l[k].2
theorem WinO.below {W0 w w' : World} {b o : Nat} {l : List ItemL} (h : WinO W0 w b o l) (hb : Below w.heap.size w w') : WinO W0 w' b o l := by
  obtain ⟨h0, h1, h2, h3, h4⟩ := h
  refine ⟨Nat.lt_of_lt_of_le h0 hb.size, h1, cell_on hb h0 h2, cell_on hb h0 h3, fun k hk => ?_⟩
  obtain ⟨e1, v, e2, e3⟩ := h4 k hk
  exact ⟨cell_on hb h0 e1, v, cell_on hb h0 e2, e3⟩

set_option maxHeartbeats 400000 in
theorem slot_off (w : World) (b o k : Nat) (c8 : w.cell? ⟨b, o + 8, none⟩ = some (.int .i64 0)) (hk : k < 4) :
    Calls Tryz.prog 171 #[.pointer (some ⟨b, o, none⟩), .int .i64 k] w fun e w' => e = .returned (.int .i64 (k : Int)) ∧ w' = w := by
  have HM : Hid ((k : Int) % 4 = (k : Int)) := by unfold Hid; omega
  go_enter Tryz.func171, Tryz.ntmps171
  go_wp2_with fail
  go_ret
  exact ⟨by rw [HM.out]; rfl, rfl⟩

set_option maxHeartbeats 400000 in
theorem size_off (W0 w : World) (b o : Nat) (l : List ItemL) (h : WinO W0 w b o l) :
    Calls Tryz.prog 167 #[.pointer (some ⟨b, o, none⟩)] w fun e w' => e = .returned (.int .i64 (l.length : Int)) ∧ w' = w := by
  have c9 := h.2.2.2.1
  go_enter Tryz.func167, Tryz.ntmps167
  go_wp2_with fail
  go_ret
  exact ⟨rfl, rfl⟩

set_option maxHeartbeats 400000 in
theorem at_val (w : World) (b o k : Nat) (x : Int) (sa : Option Addr) (n sc : Nat) (hwl : b < w.heap.size) (hk : k < 4) (c8 : w.cell? ⟨b, o + 8, none⟩ = some (.int .i64 0)) (c0 : w.cell? ⟨b, o + k * 2, none⟩ = some (.int .i64 x)) (c1 : w.cell? ⟨b, o + k * 2 + 1, none⟩ = some (.slice sa n sc)) :
    Calls Tryz.prog 142 #[.pointer (some ⟨b, o, none⟩), .int .i64 k] w fun e w' => e = .returned (.agg #[.int .i64 x, .slice sa n sc]) ∧ Below w.heap.size w w' := by
  have e8 := cell_on ((Below.refl w.heap.size w).alloc (Nat.le_refl _) (.cells #[.int .i64 0, .slice none 0 0] 44)) hwl c8
  have e0 := cell_on ((Below.refl w.heap.size w).alloc (Nat.le_refl _) (.cells #[.int .i64 0, .slice none 0 0] 44)) hwl c0
  have e1 := cell_on ((Below.refl w.heap.size w).alloc (Nat.le_refl _) (.cells #[.int .i64 0, .slice none 0 0] 44)) hwl c1
  have d0 : (w.alloc (.cells #[.int .i64 0, .slice none 0 0] 44)).cell? ⟨w.heap.size, 0, none⟩ = some (.int .i64 0) := box0 _ _ _ _
  have d1 : (w.alloc (.cells #[.int .i64 0, .slice none 0 0] 44)).cell? ⟨w.heap.size, 1, none⟩ = some (.slice none 0 0) := box1 _ _ _ _
  have f0 : (w.alloc (.cells #[.int .i64 0, .slice none 0 0] 44)).frozen? ⟨w.heap.size, 0, none⟩ = false := by simp [go_sem]
  have f1 : (w.alloc (.cells #[.int .i64 0, .slice none 0 0] 44)).frozen? ⟨w.heap.size, 1, none⟩ = false := by simp [go_sem]
  have hb0 : Below w.heap.size w (w.alloc (.cells #[.int .i64 0, .slice none 0 0] 44)) := (Below.refl w.heap.size w).alloc (Nat.le_refl _) _
  have hWl : b < (w.alloc (.cells #[.int .i64 0, .slice none 0 0] 44)).heap.size := Nat.lt_of_lt_of_le hwl hb0.size
  have hm1 : (0 : Int) ≤ (k : Int) := by omega
  have hm2 : (k : Int) < 4 := by omega
  go_enter Tryz.func142, Tryz.ntmps142
  go_wp2_with fail
  generalize hW : w.alloc (.cells #[.int .i64 0, .slice none 0 0] 44) = W at *
  clear hW
  have HS : ∀ u, Below W.heap.size W u → Calls Tryz.prog 171 #[.pointer (some ⟨b, o, none⟩), .int .i64 k] u fun e w' => e = .returned (.int .i64 (k : Int)) ∧ w' = u := fun u hu => slot_off u b o k (cell_on hu hWl e8) (by omega)
  clear c0 c1 c8 e8
  have hne : b ≠ w.heap.size := by omega
  go_region_held3 (fun w' => w'.cell? ⟨b, o + k * 2, none⟩ = some (.int .i64 x) ∧ w'.cell? ⟨b, o + k * 2 + 1, none⟩ = some (.slice sa n sc)) (first | exact ⟨e0, e1⟩ | (simp only [World.cell?_drew, set_far _ _ _ _ hne, e0, e1, and_self]; done))
    (first | (go_at_call 171; refine (HS _ (by first | exact Below.refl _ _ | exact (Below.refl _ _).drew | exact below_drewN (Below.refl _ _) _)).mono ?_; rintro e w1 ⟨rfl, rfl⟩))
  go_wp2_with fail
  exact bodyPost_ret (v := .agg #[.int .i64 x, .slice sa n sc]) (by simp [results, Tryz.results142, go_sem, d0, d1]) rfl ⟨rfl, ((hb0.setCell (Nat.le_refl _) _).setCell (Nat.le_refl _) _).drew⟩

theorem at_off (W0 w : World) (b o : Nat) (l : List ItemL) (k : Nat) (h : WinO W0 w b o l) (hk : k < l.length) :
    Calls Tryz.prog 142 #[.pointer (some ⟨b, o, none⟩), .int .i64 k] w fun e w' => (∃ v, e = .returned (.agg #[.int .i64 l[k].1, v]) ∧ IsSl W0 v l[k].2) ∧ Below w.heap.size w w' := by
  have h4 := h.2.1
  obtain ⟨c0, v, c1, hv⟩ := h.2.2.2.2 k hk
  obtain ⟨sa, sc, rfl, hcap, hrow⟩ := hv
  exact (at_val w b o k l[k].1 sa l[k].2.length sc h.1 (by omega) h.2.2.1 c0 c1).mono fun e w' ⟨he, hb⟩ => ⟨⟨_, he, sa, sc, rfl, hcap, hrow⟩, hb⟩

set_option maxHeartbeats 400000 in
theorem last_off (W0 w : World) (b o : Nat) (l : List ItemL) (h : WinO W0 w b o l) (h0 : 0 < l.length) :
    Calls Tryz.prog 168 #[.pointer (some ⟨b, o, none⟩)] w fun e w' => (∃ v, e = .returned (.agg #[.int .i64 (l[l.length - 1]'(by omega)).1, v]) ∧ IsSl W0 v (l[l.length - 1]'(by omega)).2) ∧ Below w.heap.size w w' := by
  have h4 := h.2.1
  have c9 := h.2.2.2.1
  have hwl := h.1
  have d0 : (w.alloc (.cells #[.int .i64 0, .slice none 0 0] 44)).cell? ⟨w.heap.size, 0, none⟩ = some (.int .i64 0) := box0 _ _ _ _
  have d1 : (w.alloc (.cells #[.int .i64 0, .slice none 0 0] 44)).cell? ⟨w.heap.size, 1, none⟩ = some (.slice none 0 0) := box1 _ _ _ _
  have f0 : (w.alloc (.cells #[.int .i64 0, .slice none 0 0] 44)).frozen? ⟨w.heap.size, 0, none⟩ = false := by simp [go_sem]
  have f1 : (w.alloc (.cells #[.int .i64 0, .slice none 0 0] 44)).frozen? ⟨w.heap.size, 1, none⟩ = false := by simp [go_sem]
  have hb0 : Below w.heap.size w (w.alloc (.cells #[.int .i64 0, .slice none 0 0] 44)) := (Below.refl w.heap.size w).alloc (Nat.le_refl _) _
  have hWl : w.heap.size < (w.alloc (.cells #[.int .i64 0, .slice none 0 0] 44)).heap.size := box_lt _ _
  have hkm : ((l.length : Int) - 1) = ((l.length - 1 : Nat) : Int) := by omega
  go_enter Tryz.func168, Tryz.ntmps168
  go_wp2_with fail
  generalize hW : w.alloc (.cells #[.int .i64 0, .slice none 0 0] 44) = W at *
  clear hW
  refine (at_off W0 W b o l (l.length - 1) (h.below hb0) (by omega)).mono ?_
  rintro e w1 ⟨⟨v, rfl, hv⟩, b1⟩
  obtain ⟨sa, sc, rfl, hcap, hrow⟩ := hv
  replace d0 := cell_on b1 hWl d0
  replace d1 := cell_on b1 hWl d1
  replace f0 := (b1.frozen (p := ⟨w.heap.size, 0, none⟩) hWl).trans f0
  replace f1 := (b1.frozen (p := ⟨w.heap.size, 1, none⟩) hWl).trans f1
  have B1 : Below w.heap.size w w1 := hb0.trans (b1.mono hb0.size)
  clear b1 hb0 c9
  go_wp2_with fail
  exact bodyPost_ret (v := .agg #[.int .i64 (l[l.length - 1]'(by omega)).1, .slice sa (l[l.length - 1]'(by omega)).2.length sc]) (by simp [results, Tryz.results168, go_sem, d0, d1]) rfl ⟨⟨_, rfl, sa, sc, rfl, hcap, hrow⟩, (B1.setCell (Nat.le_refl _) _).setCell (Nat.le_refl _) _⟩

end Go.Proofs.YtpfhegengmlkmacGreatDoor
/- A map of slices that the call itself makes: at each text its spots, each list in a row of its own. -/
namespace Go.Proofs.YtpfhegengmlkmacGreatDoor
open Go.RowKit Go.BigFrame

/-- An element reads as itself. -/
def heldE (v : Value) : Option (DataW Value × List MemPlace) := some (.held v, [])
/-- A text as a key. -/
def litS (s : ByteArray) : Lit := .string s.data.toList
theorem litS_inj {s t : ByteArray} (h : litS s = litS t) : s = t := by
  unfold litS at h
  have h1 : s.data.toList = t.data.toList := by simpa using h
  cases s
  cases t
  simp only at h1
  congr 1
  exact Array.toList_inj.1 h1
theorem litS_key (s : ByteArray) : WideAt.IsKeyLit (litS s) := by unfold litS WideAt.IsKeyLit; trivial

/-- The cells of spots, two a spot. -/
def scells : List Spot → List Value
  | [] => []
  | p :: r => .int .i64 (p.1 : Int) :: .int .i64 (p.2 : Int) :: scells r
theorem scells_length : ∀ L, (scells L).length = L.length * 2
  | [] => rfl
  | p :: r => by simp [scells, scells_length r]; omega
theorem scells_append : ∀ L r, scells (L ++ r) = scells L ++ scells r
  | [], _ => rfl
  | p :: L, r => by simp [scells, scells_append L r]
theorem scells_at : ∀ (L : List Spot) (k : Nat) (h : k < L.length), (scells L)[k * 2]? = some (.int .i64 (L[k].1 : Int)) ∧ (scells L)[k * 2 + 1]? = some (.int .i64 (L[k].2 : Int))
  | p :: r, 0, _ => by simp [scells]
  | p :: r, k + 1, h => by
    have := scells_at r k (by simpa using h)
    have e0 : (k + 1) * 2 = k * 2 + 1 + 1 := by omega
    rw [e0]
    simp only [scells, List.getElem?_cons_succ, List.getElem_cons_succ]
    exact this

/-- The slice value 'v' holds the spots 'l', in a row of the call's own. -/
def GathP (w : World) (B : Nat) (v : Value) (l : List Spot) : Prop := w.ownsRow B 245 2 v l.length (scells l)

/-- Block 'b' is a map: at each text the spots that S has of it, in the slice that V has of it; no two slices lie in one row. -/
structure GrpS (w : World) (B b n : Nat) (D : DataW Value) (V : ByteArray → Value) (S : ByteArray → List Spot) : Prop where
  own : w.ownsMap Tryz.prog 9 heldE b n D
  lt : b < B
  eq : ∀ s, D.atKey (litS s) (.held (.slice none 0 0)) = .held (V s)
  has : ∀ s, Maps.has D (litS s) = true ↔ S s ≠ []
  row : ∀ s, GathP w B (V s) (S s)
  far : ∀ s t, s ≠ t → (V s).ownBlock = none ∨ (V s).ownBlock ≠ (V t).ownBlock

theorem grpS_made (w : World) : GrpS (w.alloc (.map #[] 0)) (w.heap.size + 1) w.heap.size 0 (.map []) (fun _ => .slice none 0 0) (fun _ => []) where
  own := World.ownsMap_made _ _ _ _
  lt := Nat.lt_succ_self _
  eq := fun s => rfl
  has := fun s => by simp [Maps.has]
  row := fun s => World.ownsRow_nil _ _ _ _
  far := fun s t _ => .inl rfl

theorem GathP.kept {w w' : World} {B : Nat} {v : Value} {l : List Spot} {row : Option Nat} (h : GathP w B v l) (hg : w.grownBy w' row) (hne : v.ownBlock = none ∨ v.ownBlock ≠ row) : GathP w' B v l := World.ownsRow.kept h hg hne

theorem GathP.snoc {w : World} {B : Nat} {v : Value} {l : List Spot} {p : Spot} (h : w.ownsRow B 245 2 v (l.length + 1) (scells l ++ [.int .i64 (p.1 : Int), .int .i64 (p.2 : Int)])) : GathP w B v (l ++ [p]) := by
  unfold GathP
  rw [scells_append, List.length_append]
  exact h

open Classical in
theorem GrpS.put {w w1 w2 : World} {B b n : Nat} {D : DataW Value} {V : ByteArray → Value} {S : ByteArray → List Spot} (h : GrpS w B b n D V S) (s : ByteArray) (p : Spot) {v' : Value} (hg : w.grownBy w1 (V s).ownBlock)
    (ho : w1.ownsRow B 245 2 v' ((S s).length + 1) (scells (S s) ++ [.int .i64 (p.1 : Int), .int .i64 (p.2 : Int)])) (hloc : v'.ownBlock = (V s).ownBlock ∨ ∃ g, v'.ownBlock = some g ∧ w.heap.size ≤ g)
    (h2 : w2.ownsMap Tryz.prog 9 heldE b (n + 1) (D.put (litS s) (.held v'))) (hg2 : w1.grownBy w2 (some b)) :
    GrpS w2 B b (n + 1) (D.put (litS s) (.held v')) (fun t => if t = s then v' else V t) (fun t => if t = s then S s ++ [p] else S t) := by
  have hb : ∀ {u : World} {v : Value} {l : List Spot}, GathP u B v l → v.ownBlock = none ∨ v.ownBlock ≠ some b := fun {u v l} hv => by
    cases hk : v.ownBlock with
    | none => exact .inl rfl
    | some k =>
      have := (World.ownsRow.lt hv k hk).1
      have := h.lt
      exact .inr (fun e => by cases e; omega)
  have hnew : ∀ t, t ≠ s → (V t).ownBlock = none ∨ (V t).ownBlock ≠ v'.ownBlock := fun t ht => by
    rcases hloc with e | ⟨g, e, hle⟩
    · rw [e]; exact h.far t s ht
    · cases hk : (V t).ownBlock with
      | none => exact .inl rfl
      | some k =>
        have := (World.ownsRow.lt (h.row t) k hk).2
        exact .inr (fun e' => by rw [e] at e'; cases e'; omega)
  refine ⟨h2, h.lt, fun t => ?_, fun t => ?_, fun t => ?_, fun t u htu => ?_⟩
  · by_cases e : t = s
    · subst e
      rw [if_pos rfl, Maps.atKey_put_same h.own.isMap (litS_key t)]
    · rw [if_neg e, Maps.atKey_put_other (fun h => e (litS_inj h)), h.eq t]
  · by_cases e : t = s
    · subst e
      rw [if_pos rfl, Maps.has_put_same h.own.isMap (litS_key t)]
      simp
    · rw [if_neg e, Maps.has_put_other (fun h => e (litS_inj h)), h.has t]
  · by_cases e : t = s
    · subst e
      simp only [↓reduceIte]
      have h3 := GathP.snoc (p := p) ho
      exact h3.kept hg2 (hb h3)
    · simp only [if_neg e]
      have h3 := (h.row t).kept hg (h.far t s e)
      exact h3.kept hg2 (hb h3)
  · by_cases e : t = s
    · subst e
      have hu : u ≠ t := fun h => htu h.symm
      simp only [↓reduceIte, if_neg hu]
      rcases hnew u hu with e1 | e1
      · cases hv : v'.ownBlock with
        | none => exact .inl rfl
        | some k => exact .inr (fun e2 => by rw [e1] at e2; cases e2)
      · exact .inr (fun e2 => e1 e2.symm)
    · simp only [if_neg e]
      by_cases e2 : u = s
      · subst e2
        simp only [↓reduceIte]
        exact hnew t e
      · simp only [if_neg e2]
        exact h.far t u htu

/-- The look-up at the operation. -/
theorem wpList_lookup_held {P : Program} (w : World) {ops : Array Oper} {rest : List Oper} {o : Oper} {a : Act} {Q : Exit → Act → World → Prop}
    (hg : o.guard = none) (m x : Operand) (t : TypeId) (hop : o.op = Op.lookup t m x false) (k e : TypeId) (K : Maps.Keyed P k) (ht : P.underlying t = some (.map k e)) (hz : (zeroValue e).run P w = .ok (.slice none 0 0) w) (b n : Nat) (D : DataW Value)
    (hm : a.eval m = .map (some b)) (hown : w.ownsMap P k heldE b n D) (key : Value) (kl : Lit) (hx : a.eval x = key) (hkey : keyOf P k key = some kl)
    (hK : ∀ v, D.atKey kl (.held (.slice none 0 0)) = .held v → wpList P ops Q rest (a.put o.dst v) w) : wpList P ops Q (o :: rest) a w := by
  refine wpList_plain hg fun K' hK' => ?_
  obtain ⟨v, ps, hrun, hv⟩ := hown.lookup K ht hz (zd := .held (.slice none 0 0)) (zp := []) rfl hkey
  have hat : D.atKey kl (.held (.slice none 0 0)) = .held v := by
    unfold heldE at hv
    simp only [Option.some.injEq, Prod.mk.injEq] at hv
    exact hv.1.symm
  unfold Oper.wp
  simp [execOp, hop, hm, hx, hrun, Result.andThen]
  exact hK' _ _ (hK v hat)

end Go.Proofs.YtpfhegengmlkmacGreatDoor
/- Windows that the call itself gathers, ten cells a window; rows of lists of spots. -/
namespace Go.Proofs.YtpfhegengmlkmacGreatDoor
open Go.RowKit Go.BigFrame

/-- The ten cells of a window's value. -/
def WinC (W0 : World) (c : List Value) (l : List ItemL) : Prop := c.length = 10 ∧ l.length ≤ 4 ∧ c[8]? = some (.int .i64 0) ∧ c[9]? = some (.int .i64 l.length) ∧
  ∀ k, (h : k < l.length) → c[k * 2]? = some (.int .i64 l[k].1) ∧ ∃ v, c[k * 2 + 1]? = some v ∧ IsSl W0 v l[k].2

theorem WinV.cells {W0 : World} {v : Value} {l : List ItemL} (h : WinV W0 v l) : ∃ (x0 x1 x2 x3 : Int) (a0 a1 a2 a3 : Option Addr) (n0 n1 n2 n3 c0 c1 c2 c3 : Nat), v = .agg #[.int .i64 x0, .slice a0 n0 c0, .int .i64 x1, .slice a1 n1 c1, .int .i64 x2, .slice a2 n2 c2, .int .i64 x3, .slice a3 n3 c3, .int .i64 0, .int .i64 l.length] ∧
    WinC W0 [.int .i64 x0, .slice a0 n0 c0, .int .i64 x1, .slice a1 n1 c1, .int .i64 x2, .slice a2 n2 c2, .int .i64 x3, .slice a3 n3 c3, .int .i64 0, .int .i64 l.length] l := by
  obtain ⟨x0, x1, x2, x3, a0, a1, a2, a3, n0, n1, n2, n3, c0, c1, c2, c3, rfl, h4, hk⟩ := h
  refine ⟨x0, x1, x2, x3, a0, a1, a2, a3, n0, n1, n2, n3, c0, c1, c2, c3, rfl, rfl, h4, rfl, rfl, fun k h => ?_⟩
  rcases (by omega : k = 0 ∨ k = 1 ∨ k = 2 ∨ k = 3) with rfl | rfl | rfl | rfl
  · obtain ⟨q1, a, n, c, q2, q3⟩ := hk 0 h
    obtain ⟨rfl, rfl, rfl⟩ : a0 = a ∧ n0 = n ∧ c0 = c := by simpa using q2
    have e1 : x0 = l[0].1 := by simpa using q1
    exact ⟨by rw [← e1]; rfl, _, rfl, q3⟩
  · obtain ⟨q1, a, n, c, q2, q3⟩ := hk 1 h
    obtain ⟨rfl, rfl, rfl⟩ : a1 = a ∧ n1 = n ∧ c1 = c := by simpa using q2
    have e1 : x1 = l[1].1 := by simpa using q1
    exact ⟨by rw [← e1]; rfl, _, rfl, q3⟩
  · obtain ⟨q1, a, n, c, q2, q3⟩ := hk 2 h
    obtain ⟨rfl, rfl, rfl⟩ : a2 = a ∧ n2 = n ∧ c2 = c := by simpa using q2
    have e1 : x2 = l[2].1 := by simpa using q1
    exact ⟨by rw [← e1]; rfl, _, rfl, q3⟩
  · obtain ⟨q1, a, n, c, q2, q3⟩ := hk 3 h
    obtain ⟨rfl, rfl, rfl⟩ : a3 = a ∧ n3 = n ∧ c3 = c := by simpa using q2
    have e1 : x3 = l[3].1 := by simpa using q1
    exact ⟨by rw [← e1]; rfl, _, rfl, q3⟩

/-- The cells of gathered windows. -/
def vcells (L : List (List ItemL × List Value)) : List Value := L.flatMap (·.2)
theorem vcells_at : ∀ (L : List (List ItemL × List Value)), (∀ p ∈ L, p.2.length = 10) → ∀ (k : Nat) (h : k < L.length) (j : Nat), j < 10 → (vcells L)[k * 10 + j]? = L[k].2[j]?
  | p :: r, hL, 0, _, j, hj => by
    have h10 := hL p (by simp)
    simp only [vcells, List.flatMap_cons, Nat.zero_mul, Nat.zero_add, List.getElem_cons_zero]
    rw [List.getElem?_append_left (by omega)]
  | p :: r, hL, k + 1, h, j, hj => by
    have h10 := hL p (by simp)
    have := vcells_at r (fun q hq => hL q (by simp [hq])) k (by simpa using h) j hj
    simp only [vcells, List.flatMap_cons, List.getElem_cons_succ] at this ⊢
    rw [List.getElem?_append_right (by omega), ← this]
    congr 1
    omega
theorem vcells_length : ∀ (L : List (List ItemL × List Value)), (∀ p ∈ L, p.2.length = 10) → (vcells L).length = L.length * 10
  | [], _ => rfl
  | p :: r, hL => by
    have h10 := hL p (by simp)
    have := vcells_length r (fun q hq => hL q (by simp [hq]))
    simp only [vcells, List.flatMap_cons, List.length_append, List.length_cons] at this ⊢
    omega
/-- The slice value 'v' holds the windows 'L', in a row of the call's own; their items' marks lie in W0. -/
def GathW (W0 w : World) (B : Nat) (v : Value) (L : List (List ItemL × List Value)) : Prop := w.ownsRow B 190 10 v L.length (vcells L) ∧ ∀ p ∈ L, WinC W0 p.2 p.1
theorem GathW.snoc {W0 w w' : World} {B : Nat} {v v' : Value} {L : List (List ItemL × List Value)} {l : List ItemL} {c : List Value} (h : GathW W0 w B v L) (hc : WinC W0 c l) (h' : w'.ownsRow B 190 10 v' (L.length + 1) (vcells L ++ c)) : GathW W0 w' B v' (L ++ [(l, c)]) := by
  refine ⟨?_, fun p hp => ?_⟩
  · have e : vcells (L ++ [(l, c)]) = vcells L ++ c := by simp [vcells]
    rw [e, List.length_append]
    exact h'
  · rcases List.mem_append.1 hp with hp | hp
    · exact h.2 p hp
    · obtain rfl : p = (l, c) := by simpa using hp
      exact hc
theorem GathW.keep {W0 w w' : World} {B : Nat} {v : Value} {L : List (List ItemL × List Value)} (h : GathW W0 w B v L) (hb : Below w.heap.size w w') : GathW W0 w' B v L := ⟨own_keep h.1 hb, h.2⟩

/-- The slice at address 'a' holds the windows 'ws', ten cells a window, their items' marks in W0. -/
def RowV (W0 w : World) (a : Option Addr) (ws : List (List ItemL)) : Prop := ∀ k, (h : k < ws.length) → ∃ b o, a = some ⟨b, o, none⟩ ∧ WinO W0 w b (o + k * 10) ws[k]
theorem RowV.below {W0 w w' : World} {a : Option Addr} {ws : List (List ItemL)} (h : RowV W0 w a ws) (hb : Below w.heap.size w w') : RowV W0 w' a ws := fun k hk => by
  obtain ⟨b, o, e, h1⟩ := h k hk
  exact ⟨b, o, e, h1.below hb⟩
theorem GathW.row {W0 w : World} {B : Nat} {v : Value} {L : List (List ItemL × List Value)} (h : GathW W0 w B v L) : ∃ a cap, v = .slice a L.length cap ∧ L.length ≤ cap ∧ RowV W0 w a (L.map (·.1)) := by
  rcases h.1.2 with ⟨rfl, h0⟩ | ⟨g, cap, cur, rfl, hB, hh, hn, _⟩
  · exact ⟨none, 0, by rw [h0], by omega, fun k hk => by rw [List.length_map] at hk; omega⟩
  · have hlt : g < w.heap.size := (Array.getElem?_eq_some_iff.1 hh).1
    refine ⟨_, cap, rfl, hn, fun k hk => ⟨g, 0, rfl, ?_⟩⟩
    rw [List.length_map] at hk
    have hc := h.2 L[k] (List.getElem_mem hk)
    have hat : ∀ j, j < 10 → w.cell? ⟨g, 0 + k * 10 + j, none⟩ = L[k].2[j]? := fun j hj => by
      rw [Nat.zero_add, World.ownsRow.cellAt h.1 _ (by omega), vcells_at L (fun p hp => (h.2 p hp).1) k hk j hj]
    simp only [List.getElem_map]
    refine ⟨hlt, hc.2.1, (hat 8 (by omega)).trans hc.2.2.1, (hat 9 (by omega)).trans hc.2.2.2.1, fun j hj => ?_⟩
    obtain ⟨h1, v, h2, h3⟩ := hc.2.2.2.2 j hj
    have := hc.2.1
    exact ⟨(hat (j * 2) (by omega)).trans h1, v, (hat (j * 2 + 1) (by omega)).trans h2, h3⟩

/-- The slice at address 'a' holds the spots 'l'. -/
def RowP (w : World) (a : Option Addr) (l : List Spot) : Prop := ∀ k, (h : k < l.length) → ∃ b o, a = some ⟨b, o, none⟩ ∧ b < w.heap.size ∧ w.cell? ⟨b, o + k * 2, none⟩ = some (.int .i64 (l[k].1 : Int)) ∧ w.cell? ⟨b, o + k * 2 + 1, none⟩ = some (.int .i64 (l[k].2 : Int))
theorem RowP.below {w w' : World} {a : Option Addr} {l : List Spot} (h : RowP w a l) (hb : Below w.heap.size w w') : RowP w' a l := fun k hk => by
  obtain ⟨b, o, e, h1, h2, h3⟩ := h k hk
  exact ⟨b, o, e, Nat.lt_of_lt_of_le h1 hb.size, cell_on hb h1 h2, cell_on hb h1 h3⟩
theorem GathP.row {w : World} {B : Nat} {v : Value} {l : List Spot} (h : GathP w B v l) : ∃ a cap, v = .slice a l.length cap ∧ l.length ≤ cap ∧ RowP w a l := by
  rcases h.2 with ⟨rfl, h0⟩ | ⟨g, cap, cur, rfl, hB, hh, hn, _⟩
  · exact ⟨none, 0, by rw [h0], by omega, fun k hk => by omega⟩
  · have hlt : g < w.heap.size := (Array.getElem?_eq_some_iff.1 hh).1
    refine ⟨_, cap, rfl, hn, fun k hk => ⟨g, 0, rfl, hlt, ?_, ?_⟩⟩
    · rw [Nat.zero_add, World.ownsRow.cellAt h _ (by omega), (scells_at l k hk).1]
    · rw [Nat.zero_add, World.ownsRow.cellAt h _ (by omega), (scells_at l k hk).2]
/-- The slice at address 'a' holds the lists of spots 'sh'. -/
def RowG (w : World) (a : Option Addr) (sh : List (List Spot)) : Prop := ∀ k, (h : k < sh.length) → ∃ b o, a = some ⟨b, o, none⟩ ∧ b < w.heap.size ∧ ∃ s c, w.cell? ⟨b, o + k, none⟩ = some (.slice s sh[k].length c) ∧ sh[k].length ≤ c ∧ RowP w s sh[k]
theorem RowG.below {w w' : World} {a : Option Addr} {sh : List (List Spot)} (h : RowG w a sh) (hb : Below w.heap.size w w') : RowG w' a sh := fun k hk => by
  obtain ⟨b, o, e, h1, s, c, h2, h3, h4⟩ := h k hk
  exact ⟨b, o, e, Nat.lt_of_lt_of_le h1 hb.size, s, c, cell_on hb h1 h2, h3, h4.below hb⟩

/-- Block 'b' holds the windows 'ws' and the spots 'sh'. -/
def ChB (W0 w : World) (b : Nat) (ws : List (List ItemL)) (sh : List (List Spot)) : Prop :=
  b < w.heap.size ∧ ∃ a c a' c', w.cell? ⟨b, 0, none⟩ = some (.slice a ws.length c) ∧ ws.length ≤ c ∧ w.cell? ⟨b, 1, none⟩ = some (.slice a' sh.length c') ∧ sh.length ≤ c' ∧ RowV W0 w a ws ∧ RowG w a' sh
theorem ChB.below {W0 w w' : World} {b : Nat} {ws : List (List ItemL)} {sh : List (List Spot)} (h : ChB W0 w b ws sh) (hb : Below w.heap.size w w') : ChB W0 w' b ws sh := by
  obtain ⟨h0, a, c, a', c', h1, h2, h3, h4, h5, h6⟩ := h
  exact ⟨Nat.lt_of_lt_of_le h0 hb.size, a, c, a', c', cell_on hb h0 h1, h2, cell_on hb h0 h3, h4, h5.below hb, h6.below hb⟩

end Go.Proofs.YtpfhegengmlkmacGreatDoor
/- Walks: has, version, agrees of choices. -/
namespace Go.Proofs.YtpfhegengmlkmacGreatDoor
open Go.RowKit Go.BigFrame
set_option maxRecDepth 100000

set_option maxHeartbeats 1600000 in
theorem has_any (W0 w : World) (b : Nat) (ws : List (List ItemL)) (sh : List (List Spot)) (a' : Option Addr) (cap' : Nat) (ps : List Int) (h : ChB W0 w b ws sh) (h6 : ws.length ≤ 6) (hp : ps.length ≤ maxLen) (hr' : RowZ w a' ps) :
    Calls Tryz.prog 139 #[.pointer (some ⟨b, 0, none⟩), .slice a' ps.length cap'] w fun e w' => IsB (ps.length = ws.length ∧ InW ws ps) e ∧ Below w.heap.size w w' := by
  have hpl : ps.length ≤ 2 ^ 63 - 1 := hp
  clear hp
  obtain ⟨hb, a, c, a2, c2, e0, hc, e1, hc2, hv, hg⟩ := h
  by_cases hlen : ps.length = ws.length
  · have hlen' : ((ps.length : Int) != (ws.length : Int)) = false := by rw [bne_eq_false_iff_eq]; omega
    have HL : Hid (ps.length = ws.length) := hlen
    have hle1 : ps.length ≤ ws.length := by omega
    clear hlen
    go_enter Tryz.func139, Tryz.ntmps139
    go_wp2_with fail
    go_loopw [17] (fun i wr => ∃ k : Nat, k ≤ ps.length ∧ i = .int .i64 k ∧ Hid (∀ j, (h : j < ps.length) → j < k → 0 ≤ ps[j] ∧ ps[j] < ((ws.getD j []).length : Int)) ∧ wr = w) (fun i _ => ps.length - (intOf i).toNat)
    case atStart => exact ⟨0, Nat.zero_le _, rfl, fun _ _ h => absurd h (Nat.not_lt_zero _), rfl⟩
    case round =>
      obtain ⟨k, hk, rfl, HI, rfl⟩ := hrel
      by_cases hlt : k < ps.length
      · have hwk : k < ws.length := by omega
        obtain ⟨g, o, rfl, hwo⟩ := hv k hwk
        obtain ⟨c1, p1, rfl, gc, z1⟩ := hr' k hlt
        have k0 : (0 : Int) ≤ (k : Int) := by omega
        have k1 : (k : Int) < (ps.length : Int) := by omega
        have k2 : (k : Int) < (ws.length : Int) := by omega
        have HG : Hid (ws.getD k [] = ws[k]) := getD_at hwk
        by_cases hn : ps[k] < 0
        · have HN : Hid (¬ (ps.length = ws.length ∧ InW ws ps)) := fun h => by have := (h.2.2 k hlt).1; omega
          clear HG
          go_wp2_with fail
          go_ret
          exact ⟨isB_false HN.out, Below.refl _ _⟩
        have hn' : decide (ps[k] < 0) = false := decide_eq_false hn
        go_wp2_with fail
        refine (size_off W0 _ g (o + k * 10) ws[k] hwo).mono ?_
        rintro e w2 ⟨rfl, rfl⟩
        by_cases hq : ps[k] < (ws[k].length : Int)
        · have HST : Hid (∀ j, (h : j < ps.length) → j < k + 1 → 0 ≤ ps[j] ∧ ps[j] < ((ws.getD j []).length : Int)) := fun j hj hlt' => by
            by_cases e : j = k
            · subst e; rw [HG.out]; exact ⟨by omega, hq⟩
            · exact HI.out j hj (by omega)
          have hq' : decide ((ws[k].length : Int) ≤ ps[k]) = false := decide_eq_false (by omega)
          clear HG
          go_wp2_with fail
          exact ⟨⟨k + 1, by omega, by go_num, HST, by trivial⟩, by simp [intOf]; omega⟩
        · have HN : Hid (¬ (ps.length = ws.length ∧ InW ws ps)) := fun h => by have h3 := (h.2.2 k hlt).2; rw [HG.out] at h3; omega
          have hq' : decide ((ws[k].length : Int) ≤ ps[k]) = true := decide_eq_true (by omega)
          clear HG
          go_wp2_with fail
          go_ret
          exact ⟨isB_false HN.out, Below.refl _ _⟩
      · have HF : Hid (ps.length = ws.length ∧ InW ws ps) := ⟨HL.out, hle1, fun j hj => HI.out j hj (by omega)⟩
        go_wp2_with fail
        go_ret
        exact ⟨isB_true HF.out, Below.refl _ _⟩
  · have hlen' : ((ps.length : Int) != (ws.length : Int)) = true := by rw [bne_iff_ne]; omega
    go_enter Tryz.func139, Tryz.ntmps139
    go_wp2_with fail
    go_ret
    exact ⟨isB_false (fun h => hlen h.1), Below.refl _ _⟩

theorem ver_facts {ws : List (List ItemL)} {ps : List Int} (hok : OkW ws) (hl : ps.length = ws.length) (hin : InW ws ps) {s : ByteArray} {p : Spot} (hs : SpotOf ws s p) : ∃ (hw : p.1 < ws.length) (_ : p.1 < ps.length) (q : Nat) (hq : q < ws[p.1].length) (hm : p.2 < ws[p.1][q].2.length), ps[p.1] = (q : Int) ∧ verM ws ps p = (ws[p.1][q].2[p.2]).2 := by
  have hpw := hs.1
  have hpp : p.1 < ps.length := by omega
  obtain ⟨hmk, _, hver, _, _⟩ := verM_eq hok hl hin hs
  obtain ⟨_, q, hqe, hq, hpk⟩ := in_nat hin hpp
  have hm : p.2 < ws[p.1][q].2.length := by rw [← hpk]; exact hmk
  refine ⟨hpw, hpp, q, hq, hm, hqe, ?_⟩
  rw [hver]
  congr 1
  simp only [hpk]

set_option maxHeartbeats 1600000 in
theorem version_any (W0 w : World) (b : Nat) (ws : List (List ItemL)) (sh : List (List Spot)) (a' : Option Addr) (cap' : Nat) (ps : List Int) (p : Spot) (s : ByteArray) (h : ChB W0 w b ws sh) (hW : Below W0.heap.size W0 w) (hok : OkW ws) (hl : ps.length = ws.length) (hin : InW ws ps) (hr' : RowZ w a' ps) (hs : SpotOf ws s p) :
    Calls Tryz.prog 176 #[.pointer (some ⟨b, 0, none⟩), .slice a' ps.length cap', .agg #[.int .i64 (p.1 : Int), .int .i64 (p.2 : Int)]] w fun e w' => e = .returned (.int .i64 (verM ws ps p)) ∧ Below w.heap.size w w' := by
  obtain ⟨hb, a, c, a2, c2, e0, hc, e1, hc2, hv, hg⟩ := h
  obtain ⟨hpw, hpp, q, hq, hmk2, hqe, hver⟩ := ver_facts hok hl hin hs
  have HV : Hid (verM ws ps p = (ws[p.1][q].2[p.2]).2) := hver
  have h6 := hok.2.1
  obtain ⟨g, o, rfl, hwo⟩ := hv p.1 hpw
  obtain ⟨c1, p1, rfl, gc, z1⟩ := hr' p.1 hpp
  have h4 := hwo.2.1
  obtain ⟨y0, yv, y1, sa, sc, rfl, hcap, hrow⟩ := hwo.2.2.2.2 q hq
  rw [hqe] at z1
  obtain ⟨bm, om, rfl, hbm, _, m1⟩ := hrow p.2 hmk2
  clear hver hqe hv hg hs hin
  have hgl := hwo.1
  have c8 := hwo.2.2.1
  have hz0 := hW.size
  go_enter Tryz.func176, Tryz.ntmps176
  go_wp2_with fail
  have hb0 : Below w.heap.size w (w.alloc (.cells #[.int .i64 (p.1 : Int), .int .i64 (p.2 : Int)] 245)) := (Below.refl _ _).alloc (Nat.le_refl _) _
  have hlt0 := box_lt w (.cells #[.int .i64 (p.1 : Int), .int .i64 (p.2 : Int)] 245)
  have d0 := box0 w (.int .i64 (p.1 : Int)) (.int .i64 (p.2 : Int)) 245
  have d1 := box1 w (.int .i64 (p.1 : Int)) (.int .i64 (p.2 : Int)) 245
  generalize w.alloc (.cells #[.int .i64 (p.1 : Int), .int .i64 (p.2 : Int)] 245) = W at *
  have hne := Lat.some W
  have n0 : ∀ n : Lat W, n.w.cell? ⟨b, 0, none⟩ = some (.slice (some ⟨g, o, none⟩) ws.length c) := fun n => n.cell (Nat.lt_of_lt_of_le hb hb0.size) (cell_on hb0 hb e0)
  have n1 : ∀ n : Lat W, n.w.cell? ⟨w.heap.size, 0, none⟩ = some (.int .i64 (p.1 : Int)) := fun n => n.cell hlt0 d0
  have n2 : ∀ n : Lat W, n.w.cell? ⟨w.heap.size, 1, none⟩ = some (.int .i64 (p.2 : Int)) := fun n => n.cell hlt0 d1
  have n3 : ∀ n : Lat W, n.w.cell? ⟨c1, p1 + p.1, none⟩ = some (.int .i64 (q : Int)) := fun n => n.cell (Nat.lt_of_lt_of_le gc hb0.size) (cell_on hb0 gc z1)
  have hbm' : bm < w.heap.size := Nat.lt_of_lt_of_le hbm hz0
  have n4 : ∀ n : Lat W, n.w.cell? ⟨bm, om + p.2 * 2 + 1, none⟩ = some (.int .i64 ((ws[p.1][q]).2[p.2]).2) := fun n => n.cell (Nat.lt_of_lt_of_le hbm' hb0.size) (cell_on hb0 hbm' (cell_on hW hbm m1))
  have ce : ∀ n : Lat W, Calls Tryz.prog 142 #[.pointer (some ⟨g, o + p.1 * 10, none⟩), .int .i64 q] n.w fun e w'' => e = .returned (.agg #[.int .i64 (ws[p.1][q]).1, .slice (some ⟨bm, om, none⟩) (ws[p.1][q]).2.length sc]) ∧ Below n.w.heap.size n.w w'' := fun n => by
    have hx : ∀ {i : Nat} {v : Value}, w.cell? ⟨g, i, none⟩ = some v → n.w.cell? ⟨g, i, none⟩ = some v := fun h => n.cell (Nat.lt_of_lt_of_le hgl hb0.size) (cell_on hb0 hgl h)
    exact at_val n.w g (o + p.1 * 10) q _ _ _ _ (Nat.lt_of_lt_of_le (Nat.lt_of_lt_of_le hgl hb0.size) n.h.size) (by omega) (hx c8) (hx y0) (hx y1)
  have i0 : (0 : Int) ≤ (p.1 : Int) := by omega
  have i1 : (p.1 : Int) < (ws.length : Int) := by omega
  have i2 : (p.1 : Int) < (ps.length : Int) := by omega
  have i3 : (0 : Int) ≤ (p.2 : Int) := by omega
  have i4 : (p.2 : Int) < ((ws[p.1][q]).2.length : Int) := by omega
  have hfd := field_stamp (ws[p.1][q]).1 (some ⟨bm, om, none⟩) (ws[p.1][q]).2.length sc
  clear e0 e1 z1 m1 y0 y1 d0 d1 hrow hwo c8
  refine wp_region_lat (by kernel_rfl) (by kernel_rfl) ?_
  repeat (go_big_quiet_step ((go_at_call 142; exact Calls.lat_of (ce _))))
  refine wpQuiet_nil ?_
  rintro _ ⟨nq, rfl⟩
  go_wp2_with fail
  go_ret
  exact ⟨by rw [HV.out]; rfl, hb0.trans (nq.h.mono hb0.size)⟩

end Go.Proofs.YtpfhegengmlkmacGreatDoor
/- Walks: agrees, least of choices. -/
namespace Go.Proofs.YtpfhegengmlkmacGreatDoor
open Go.RowKit Go.BigFrame
set_option maxRecDepth 100000

/-- The lists of spots are such as sources have, each of two at least. -/
def ShW (ws : List (List ItemL)) (sh : List (List Spot)) : Prop := SharedP ws sh ∧ (∀ src ∈ sh, 1 < src.length ∧ src.length ≤ 1000) ∧ sh.length ≤ 1000

/-- The first spots of a source have what its first spot has. -/
def SameTo (ws : List (List ItemL)) (ps : List Int) (src : List Spot) (n : Nat) : Prop := ∀ i, (h : i < src.length) → i < n → ∀ h0 : 0 < src.length, verM ws ps src[i] = verM ws ps src[0]
theorem sameTo_step {ws : List (List ItemL)} {ps : List Int} {src : List Spot} {n : Nat} (H : SameTo ws ps src n) (hn : n < src.length) (h0 : 0 < src.length) (h : verM ws ps src[n] = verM ws ps src[0]) : SameTo ws ps src (n + 1) := fun i hi hlt _ => by
  by_cases e : i = n
  · subst e; exact h
  · exact H i hi (by omega) h0
theorem agW_same {ws : List (List ItemL)} {ps : List Int} {sh : List (List Spot)} (hok : OkW ws) (hl : ps.length = ws.length) (hin : InW ws ps) (hsh : SharedP ws sh) (H : ∀ j, (h : j < sh.length) → SameTo ws ps sh[j] sh[j].length) : AgW ws ps := by
  rw [agW_iff hok hl hin hsh]
  intro src hs p hp q hq
  obtain ⟨j, hj, rfl⟩ := List.mem_iff_getElem.1 hs
  obtain ⟨x, hx, rfl⟩ := List.mem_iff_getElem.1 hp
  obtain ⟨y, hy, rfl⟩ := List.mem_iff_getElem.1 hq
  rw [H j hj x hx hx (by omega), H j hj y hy hy (by omega)]
theorem agW_not {ws : List (List ItemL)} {ps : List Int} {sh : List (List Spot)} (hok : OkW ws) (hl : ps.length = ws.length) (hin : InW ws ps) (hsh : SharedP ws sh) {j i : Nat} (hj : j < sh.length) (hi : i < sh[j].length) (h0 : 0 < sh[j].length) (h : verM ws ps sh[j][i] ≠ verM ws ps sh[j][0]) : ¬ AgW ws ps := fun hA =>
  h ((agW_iff hok hl hin hsh).1 hA sh[j] (List.getElem_mem hj) _ (List.getElem_mem hi) _ (List.getElem_mem h0))

/-- What version answers at a spot of the shared ones, at any world behind. -/
theorem version_lat {W0 W : World} {b : Nat} {ws : List (List ItemL)} {sh : List (List Spot)} {a' : Option Addr} {cap' : Nat} {ps : List Int} (h : ChB W0 W b ws sh) (hW : Below W0.heap.size W0 W) (hok : OkW ws) (hl : ps.length = ws.length) (hin : InW ws ps) (hr' : RowZ W a' ps) (hsh : SharedP ws sh) {src : List Spot} (hs : src ∈ sh) {p : Spot} (hp : p ∈ src) (n : Lat W) :
    Calls Tryz.prog 176 #[.pointer (some ⟨b, 0, none⟩), .slice a' ps.length cap', .agg #[.int .i64 (p.1 : Int), .int .i64 (p.2 : Int)]] n.w fun e w' => e = .returned (.int .i64 (verM ws ps p)) ∧ Below n.w.heap.size n.w w' := by
  obtain ⟨s, hall⟩ := hsh.1 src hs
  exact version_any W0 n.w b ws sh a' cap' ps p s (h.below n.h) (hW.trans (n.h.mono hW.size)) hok hl hin (hr'.below n.h) (hall p hp)

set_option maxHeartbeats 1200000 in
theorem agrees_any (W0 w : World) (b : Nat) (ws : List (List ItemL)) (sh : List (List Spot)) (a' : Option Addr) (cap' : Nat) (ps : List Int) (h : ChB W0 w b ws sh) (hW : Below W0.heap.size W0 w) (hok : OkW ws) (hl : ps.length = ws.length) (hin : InW ws ps) (hr' : RowZ w a' ps) (hsh : ShW ws sh) :
    Calls Tryz.prog 140 #[.pointer (some ⟨b, 0, none⟩), .slice a' ps.length cap'] w fun e w' => IsB (AgW ws ps) e ∧ Below w.heap.size w w' := by
  have HIN : Hid (InW ws ps) := hin
  have HOK : Hid (OkW ws) := hok
  have HSH : Hid (ShW ws sh) := hsh
  have HC : Hid (ChB W0 w b ws sh) := h
  have HL : Hid (ps.length = ws.length) := hl
  have HZ : Hid (RowZ w a' ps) := hr'
  have hshl := hsh.2.2
  obtain ⟨hb, a, c, a2, c2, e0, hc, e1, hc2, hv, hg⟩ := h
  clear hin hok hsh hv hc hl hr'
  go_enter Tryz.func140, Tryz.ntmps140
  go_wp2_with fail
  go_loopw [14] (fun i wr => ∃ k : Nat, k ≤ sh.length ∧ i = .int .i64 k ∧ Hid (∀ j, (h : j < sh.length) → j < k → SameTo ws ps sh[j] sh[j].length) ∧ Below w.heap.size w wr) (fun i _ => sh.length - (intOf i).toNat)
  case atStart => exact ⟨0, Nat.zero_le _, rfl, fun _ _ h => absurd h (Nat.not_lt_zero _), Below.refl _ _⟩
  case round =>
    obtain ⟨k, hk, rfl, HI, hbl⟩ := hrel
    by_cases hlt : k < sh.length
    · obtain ⟨b1, o1, rfl, hb1, s1, t1, f1, ht1, hp⟩ := hg.below hbl k hlt
      have k0 : (0 : Int) ≤ (k : Int) := by omega
      have k1 : (k : Int) < (sh.length : Int) := by omega
      have hsrc := HSH.out.2.1 sh[k] (List.getElem_mem hlt)
      have hs1 := hsrc.1
      have hs2 := hsrc.2
      have hmem : sh[k] ∈ sh := List.getElem_mem hlt
      clear hsrc
      go_wp2_with fail
      go_loopw [20] (fun i2 wr2 => ∃ j : Nat, j ≤ sh[k].length ∧ i2 = .int .i64 j ∧ Hid (SameTo ws ps sh[k] j) ∧ Below wr.heap.size wr wr2) (fun i2 _ => sh[k].length - (intOf i2).toNat)
      case atStart => exact ⟨0, Nat.zero_le _, rfl, fun _ _ h => absurd h (Nat.not_lt_zero _), Below.refl _ _⟩
      case round =>
        obtain ⟨j, hj, rfl, HJ, hbl2⟩ := hrel
        have B2 : Below w.heap.size w wr := hbl.trans (hbl2.mono hbl.size)
        by_cases hjlt : j < sh[k].length
        · obtain ⟨b2, o2, rfl, hb2, f2, f3⟩ := hp.below hbl2 j hjlt
          obtain ⟨b3, o3, e3, _, f4, f5⟩ := hp.below hbl2 0 (by omega)
          cases e3
          have j0 : (0 : Int) ≤ (j : Int) := by omega
          have j1 : (j : Int) < (sh[k].length : Int) := by omega
          have j2 : (0 : Int) < (sh[k].length : Int) := by omega
          go_wp2_with fail
          simp only [Nat.zero_mul, Nat.add_zero] at f4 f5
          have hb0 : Below wr.heap.size wr (wr.alloc (.cells #[.int .i64 (sh[k][j].1 : Int), .int .i64 (sh[k][j].2 : Int)] 245)) := (Below.refl _ _).alloc (Nat.le_refl _) _
          have hlt0 := box_lt wr (.cells #[.int .i64 (sh[k][j].1 : Int), .int .i64 (sh[k][j].2 : Int)] 245)
          have d0 := box0 wr (.int .i64 (sh[k][j].1 : Int)) (.int .i64 (sh[k][j].2 : Int)) 245
          have d1 := box1 wr (.int .i64 (sh[k][j].1 : Int)) (.int .i64 (sh[k][j].2 : Int)) 245
          generalize wr.alloc (.cells #[.int .i64 (sh[k][j].1 : Int), .int .i64 (sh[k][j].2 : Int)] 245) = W at *
          have B3 : Below w.heap.size w W := B2.trans (hb0.mono B2.size)
          have hne := Lat.some W
          have n0 : ∀ n : Lat W, n.w.cell? ⟨wr.heap.size, 0, none⟩ = some (.int .i64 (sh[k][j].1 : Int)) := fun n => n.cell hlt0 d0
          have n1 : ∀ n : Lat W, n.w.cell? ⟨wr.heap.size, 1, none⟩ = some (.int .i64 (sh[k][j].2 : Int)) := fun n => n.cell hlt0 d1
          have n2 : ∀ n : Lat W, n.w.cell? ⟨b2, o2, none⟩ = some (.int .i64 (sh[k][0].1 : Int)) := fun n => n.cell (Nat.lt_of_lt_of_le hb2 hb0.size) (cell_on hb0 hb2 f4)
          have n3 : ∀ n : Lat W, n.w.cell? ⟨b2, o2 + 1, none⟩ = some (.int .i64 (sh[k][0].2 : Int)) := fun n => n.cell (Nat.lt_of_lt_of_le hb2 hb0.size) (cell_on hb0 hb2 f5)
          have c1 : ∀ n : Lat W, Calls Tryz.prog 176 #[.pointer (some ⟨b, 0, none⟩), .slice a' ps.length cap', .agg #[.int .i64 (sh[k][j].1 : Int), .int .i64 (sh[k][j].2 : Int)]] n.w fun e w' => e = .returned (.int .i64 (verM ws ps sh[k][j])) ∧ Below n.w.heap.size n.w w' :=
            fun n => version_lat (HC.out.below B3) (hW.trans (B3.mono hW.size)) HOK.out HL.out HIN.out (HZ.out.below B3) HSH.out.1 hmem (List.getElem_mem hjlt) n
          have c3 : ∀ n : Lat W, Calls Tryz.prog 176 #[.pointer (some ⟨b, 0, none⟩), .slice a' ps.length cap', .agg #[.int .i64 (sh[k][0].1 : Int), .int .i64 (sh[k][0].2 : Int)]] n.w fun e w' => e = .returned (.int .i64 (verM ws ps sh[k][0])) ∧ Below n.w.heap.size n.w w' :=
            fun n => version_lat (HC.out.below B3) (hW.trans (B3.mono hW.size)) HOK.out HL.out HIN.out (HZ.out.below B3) HSH.out.1 hmem (List.getElem_mem (by omega)) n
          clear f2 f3 f4 f5 d0 d1
          have HE : Hid (verM ws ps sh[k][j] = verM ws ps sh[k][0] → SameTo ws ps sh[k] (j + 1)) := fun he => sameTo_step HJ.out hjlt (by omega) he
          have HNE : Hid (¬ verM ws ps sh[k][j] = verM ws ps sh[k][0] → ¬ AgW ws ps) := fun he => agW_not HOK.out HL.out HIN.out HSH.out.1 hlt hjlt (by omega) he
          clear HIN HOK HSH HC HL HZ HJ hp f1 hmem hg
          generalize verM ws ps sh[k][j] = va at *
          generalize verM ws ps sh[k][0] = vb at *
          generalize (sh[k][j].1 : Int) = pa at *
          generalize (sh[k][j].2 : Int) = pb at *
          generalize (sh[k][0].1 : Int) = qa at *
          generalize (sh[k][0].2 : Int) = qb at *
          by_cases he : va = vb
          · have HST : Hid (SameTo ws ps sh[k] (j + 1)) := HE.out he
            clear HE HNE
            have he' : (va != vb) = false := by rw [bne_eq_false_iff_eq]; exact he
            refine wp_region_lat (by kernel_rfl) (by kernel_rfl) ?_
            iterate 4 (go_big_quiet_step ((go_at_call 176; exact Calls.lat_of (c1 _))))
            iterate 7 (go_big_quiet_step ((go_at_call 176; exact Calls.lat_of (c3 _))))
            refine wpQuiet_nil ?_
            rintro _ ⟨nq, rfl⟩
            go_wp2_with fail
            exact ⟨⟨j + 1, by omega, by go_num, HST, (hbl2.trans (hb0.mono hbl2.size)).trans (nq.h.mono (Nat.le_trans hbl2.size hb0.size))⟩, by simp [intOf]; omega⟩
          · have HN : Hid (¬ AgW ws ps) := HNE.out he
            clear HE HNE
            have he' : (va != vb) = true := by rw [bne_iff_ne]; exact he
            refine wp_region_lat (by kernel_rfl) (by kernel_rfl) ?_
            iterate 4 (go_big_quiet_step ((go_at_call 176; exact Calls.lat_of (c1 _))))
            iterate 7 (go_big_quiet_step ((go_at_call 176; exact Calls.lat_of (c3 _))))
            refine wpQuiet_nil ?_
            rintro _ ⟨nq, rfl⟩
            go_wp2_with fail
            go_ret
            exact ⟨isB_false HN.out, B3.trans (nq.h.mono B3.size)⟩
        · have HST : Hid (∀ q, (h : q < sh.length) → q < k + 1 → SameTo ws ps sh[q] sh[q].length) := fun q hq hlt' => by
            by_cases e : q = k
            · subst e
              exact fun i hi _ h0 => HJ.out i hi (by omega) h0
            · exact HI.out q hq (by omega)
          go_wp2_with fail
          exact ⟨⟨k + 1, by omega, by go_num, HST, B2⟩, by simp [intOf]; omega⟩
    · have HF : Hid (AgW ws ps) := agW_same HOK.out HL.out HIN.out HSH.out.1 (fun j hj => HI.out j hj (by omega))
      go_wp2_with fail
      go_ret
      exact ⟨isB_true HF.out, hbl⟩

end Go.Proofs.YtpfhegengmlkmacGreatDoor
/- One spot more in the map of spots: the operations of a drawn region. -/
namespace Go.Proofs.YtpfhegengmlkmacGreatDoor
open Go.RowKit Go.BigFrame

theorem GrpS.keep {w w' : World} {B b n : Nat} {D : DataW Value} {V : ByteArray → Value} {S : ByteArray → List Spot} (h : GrpS w B b n D V S) (hb : Below w.heap.size w w') : GrpS w' B b n D V S :=
  ⟨h.own.kept (grown_below hb none) (by simp), h.lt, h.eq, h.has, fun s => own_keep (h.row s) hb, h.far⟩

theorem Tryz.infoP : (Tryz.prog.info? 245).map (fun i => (i.zero, i.size, i.bytes)) = some (some (.agg #[.int .i64 0, .int .i64 0]), 2, 16) := by kernel_rfl

theorem wp_append_spot {o : Oper} {a : Act} {w : World} {K : Act → World → Prop} {Q : Exit → Act → World → Prop} (s x : Operand)
    (ho : o.op = .call { callee := .builtin .append, args := #[s, x], argTypes := #[242, 242] }) (base : Nat) (v : Value) (l : List Spot) (hs : a.eval s = v) (hg : GathP w base v l) (hbase : base ≤ w.heap.size)
    (ad : Nat) (p : Spot) (hx : a.eval x = .slice (some ⟨ad, 0, none⟩) 1 1) (c0 : w.cell? ⟨ad, 0, none⟩ = some (.int .i64 (p.1 : Int))) (c1 : w.cell? ⟨ad, 1, none⟩ = some (.int .i64 (p.2 : Int))) (hl : l.length ≤ 1048576)
    (h : ∀ v' w', w'.ownsRow base 245 2 v' (l.length + 1) (scells l ++ [.int .i64 (p.1 : Int), .int .i64 (p.2 : Int)]) → w.grownBy w' v.ownBlock → (v'.ownBlock = v.ownBlock ∨ v'.ownBlock = some w.heap.size) → K (a.put o.dst v') w') : o.wp Tryz.prog a w K Q := by
  obtain ⟨i0, hi, hz0, hz1, hz2⟩ := info_parts Tryz.infoP
  obtain ⟨v', w', hr, h2, h3, _, h5⟩ := run_append_own_at (P := Tryz.prog) w base 242 o.type 245 i0 (.agg #[.int .i64 0, .int .i64 0]) 2 16 Tryz.underlying242 hi hz0 hz1 hz2 rfl (by decide) v l.length (scells l) hg ⟨ad, 0, none⟩ 1 1 [.int .i64 (p.1 : Int), .int .i64 (p.2 : Int)] rfl (by
      intro j u hj
      match j, hj with
      | 0, hj => simp at hj; subst hj; exact c0
      | 1, hj => simp at hj; subst hj; exact c1) (by simp [Value.oneCell']) (by unfold maxLen; omega) (by omega) hbase
  unfold Oper.wp execOp
  simp only [ho, resolve, invoke, builtin, Sem.run_bind, Sem.run_pure, Result.andThen_ok, List.map_toArray, List.map_cons, List.map_nil, hs, hx, hr]
  exact h _ w' h2 h3 h5

theorem Tryz.keyed : Maps.Keyed Tryz.prog 9 := Maps.string_keyed Tryz.underlying9

theorem key_text (s : ByteArray) (hs : s.size ≤ maxLen) : keyOf Tryz.prog 9 (.string s) = some (litS s) := by
  rw [keyOf_string Tryz.underlying9]
  simp [mapKey, Tryz.underlying9, litS, hs]

theorem Tryz.zeroSp (w : World) : (zeroValue 242).run Tryz.prog w = .ok (.slice none 0 0) w := by kernel_rfl

theorem wp_update_spot {o : Oper} {a : Act} {w : World} {K : Act → World → Prop} {Q : Exit → Act → World → Prop} (m x y : Operand) (hop : o.op = Op.mapUpdate 261 m x y) (b n : Nat) (D : DataW Value) (hm : a.eval m = .map (some b)) (hown : w.ownsMap Tryz.prog 9 heldE b n D) (hn : n < maxLen) (s : ByteArray) (hs : s.size ≤ maxLen) (v : Value) (hx : a.eval x = .string s) (hy : a.eval y = v)
    (h : ∀ w', w'.ownsMap Tryz.prog 9 heldE b (n + 1) (D.put (litS s) (.held v)) → w.grownBy w' (some b) → K (a.put o.dst undef) w') : o.wp Tryz.prog a w K Q := by
  obtain ⟨w', hrun, r1, r2⟩ := hown.update Tryz.keyed Tryz.underlying261 hn (key := .string s) (val := v) (kl := litS s) (d := .held v) (ps := []) (key_text s hs) rfl
  unfold Oper.wp
  simp [execOp, hop, hm, hx, hy, hrun, Result.andThen]
  exact h w' r1 r2

theorem lookup_spot {w : World} {b n : Nat} {D : DataW Value} {V : ByteArray → Value} {S : ByteArray → List Spot} {B : Nat} (h : GrpS w B b n D V S) (s : ByteArray) (hs : s.size ≤ maxLen) : (Instr.lookup 261 (.map (some b)) (.string s) false).run Tryz.prog w = .ok (V s) w := by
  obtain ⟨v, ps, hrun, hv⟩ := h.own.lookup Tryz.keyed Tryz.underlying261 (Tryz.zeroSp w) (zd := .held (.slice none 0 0)) (zp := []) rfl (key_text s hs)
  unfold heldE at hv
  simp only [Option.some.injEq, Prod.mk.injEq] at hv
  rw [h.eq s] at hv
  obtain rfl : v = V s := by simpa using hv.1
  exact hrun

/-- All spots ahead of place (k, j) are in S; and S has no others than spots. -/
def SpotsTo (ws : List (List ItemL)) (k j : Nat) (S : ByteArray → List Spot) : Prop := (∀ s p, p ∈ S s → SpotOf ws s p) ∧ ∀ s p, SpotOf ws s p → (p.1 < k ∨ (p.1 = k ∧ p.2 < j)) → p ∈ S s
theorem spotsTo_start (ws : List (List ItemL)) : SpotsTo ws 0 0 (fun _ => []) := ⟨fun s p h => by simp at h, fun s p _ h => by omega⟩
theorem SpotsTo.empty {ws : List (List ItemL)} {k : Nat} {S : ByteArray → List Spot} (h : SpotsTo ws k 0 S) (hk : k < ws.length) (h0 : ws[k].length = 0) : SpotsTo ws (k + 1) 0 S := ⟨h.1, fun s p hp hlt => by
  rcases Nat.lt_or_ge p.1 k with hl | hl
  · exact h.2 s p hp (.inl hl)
  · obtain ⟨_, h3, _⟩ := hp
    have e : p.1 = k := by omega
    exfalso
    simp only [e] at h3
    omega⟩
theorem SpotsTo.whole {ws : List (List ItemL)} {k : Nat} {S : ByteArray → List Spot} (hk : k < ws.length) (h0 : 0 < ws[k].length) (h : SpotsTo ws k (ws[k][ws[k].length - 1]).2.length S) : SpotsTo ws (k + 1) 0 S := ⟨h.1, fun s p hp hlt => by
  rcases Nat.lt_or_ge p.1 k with hl | hl
  · exact h.2 s p hp (.inl hl)
  · have e : p.1 = k := by omega
    have hp2 := hp
    obtain ⟨_, _, h4, _⟩ := hp2
    refine h.2 s p hp (.inr ⟨e, ?_⟩)
    simp only [e] at h4
    exact h4⟩
open Classical in
theorem SpotsTo.step {ws : List (List ItemL)} {k j : Nat} {S : ByteArray → List Spot} (h : SpotsTo ws k j S) (hk : k < ws.length) (h0 : 0 < ws[k].length) (hj : j < (ws[k][ws[k].length - 1]).2.length) {s : ByteArray} (hs : ((ws[k][ws[k].length - 1]).2[j]).1 = s) : SpotsTo ws k (j + 1) (fun t => if t = s then S s ++ [(k, j)] else S t) := by
  have hnew : SpotOf ws s (k, j) := ⟨hk, h0, hj, hs⟩
  refine ⟨fun t p hp => ?_, fun t p hp hlt => ?_⟩
  · by_cases e : t = s
    · subst e
      simp only [↓reduceIte] at hp
      rcases List.mem_append.1 hp with hp | hp
      · exact h.1 _ p hp
      · obtain rfl : p = (k, j) := by simpa using hp
        exact hnew
    · simp only [if_neg e] at hp
      exact h.1 t p hp
  · by_cases hq : p.1 < k ∨ (p.1 = k ∧ p.2 < j)
    · have hm := h.2 t p hp hq
      by_cases e : t = s
      · subst e
        simp only [↓reduceIte]
        exact List.mem_append_left _ hm
      · simp only [if_neg e]
        exact hm
    · have e1 : p = (k, j) := Prod.ext (by show p.1 = k; omega) (by show p.2 = j; omega)
      subst e1
      obtain ⟨_, _, _, hs'⟩ := hp
      simp only at hs'
      have e : t = s := by rw [← hs', hs]
      simp only [if_pos e]
      exact List.mem_append_right _ (by simp)

end Go.Proofs.YtpfhegengmlkmacGreatDoor
/- The sources that two windows or more have: gathered off the map of spots. -/
namespace Go.Proofs.YtpfhegengmlkmacGreatDoor
open Go.RowKit Go.BigFrame

/-- The texts of some lists of bytes. -/
def textsL (ss : List (List UInt8)) : List ByteArray := ss.map fun l => ⟨l.toArray⟩
theorem textsL_cells (ss : List (List UInt8)) : ss.map encStr = (textsL ss).map .string := by simp [textsL, Function.comp_def]

theorem GrpS.listed {w : World} {B b n : Nat} {D : DataW Value} {V : ByteArray → Value} {S : ByteArray → List Spot} (h : GrpS w B b n D V S) {ss : List (List UInt8)} (hp : ss.Perm (strKeys D)) {s : ByteArray} (hs : S s ≠ []) : s ∈ textsL (ss.mergeSort (fun x y => decide (x ≤ y))) := by
  have h1 := (h.has s).2 hs
  obtain ⟨es, rfl, _⟩ := World.ownsMap.keysOf h.own
  rw [Maps.has_eq, List.any_eq_true] at h1
  obtain ⟨p, hm, hk⟩ := h1
  have e : p.1 = litS s := by
    by_cases e : p.1 = litS s
    · exact e
    · rw [Maps.sameKey_ne e] at hk
      cases hk
  have h2 : s.data.toList ∈ strKeys (DataW.map es) := List.mem_map.2 ⟨p, hm, by rw [e]; rfl⟩
  have h3 := (List.mergeSort_perm ss (fun x y => decide (x ≤ y))).mem_iff.2 (hp.mem_iff.2 h2)
  exact List.mem_map.2 ⟨_, h3, by simp⟩

/-- Lists of spots that the call itself gathers, with the slices that they lie in. -/
def GathG (w : World) (B : Nat) (v : Value) (L : List (List Spot × Value)) : Prop := w.ownsRow B 242 1 v L.length (L.map (·.2)) ∧ ∀ p ∈ L, GathP w B p.2 p.1
theorem gathG_none (w : World) (B : Nat) : GathG w B (.slice none 0 0) [] := ⟨World.ownsRow_nil _ _ _ _, by simp⟩
theorem GathG.keep {w w' : World} {B : Nat} {v : Value} {L : List (List Spot × Value)} (h : GathG w B v L) (hb : Below w.heap.size w w') : GathG w' B v L := ⟨own_keep h.1 hb, fun p hp => own_keep (h.2 p hp) hb⟩
theorem GathG.snoc {w w' : World} {B : Nat} {v v' y : Value} {L : List (List Spot × Value)} {l : List Spot} (h : GathG w B v L) (hl : GathP w B y l) (hne : 245 ≠ 242)
    (h' : w'.ownsRow B 242 1 v' (L.length + 1) ((L.map (·.2)) ++ [y])) (hg : w.grownBy w' v.ownBlock) : GathG w' B v' (L ++ [(l, y)]) := by
  refine ⟨?_, fun p hp => ?_⟩
  · rw [List.length_append, List.map_append]
    exact h'
  · rcases List.mem_append.1 hp with hp | hp
    · exact World.ownsRow.kept (h.2 p hp) hg (own_types (h.2 p hp) h.1 hne)
    · obtain rfl : p = (l, y) := by simpa using hp
      exact World.ownsRow.kept hl hg (own_types hl h.1 hne)
theorem GrpS.kept {w w' : World} {B b n k : Nat} {D : DataW Value} {V : ByteArray → Value} {S : ByteArray → List Spot} {v : Value} {xs : List Value} (h : GrpS w B b n D V S) (hv : w.ownsRow B 242 1 v k xs) (hg : w.grownBy w' v.ownBlock) (hne : 245 ≠ 242) : GrpS w' B b n D V S :=
  ⟨h.own.kept hg (fun e => by have := own_from hv _ e.symm; have := h.lt; omega), h.lt, h.eq, h.has, fun s => World.ownsRow.kept (h.row s) hg (own_types (h.row s) hv hne), h.far⟩
theorem GathG.row {w : World} {B : Nat} {v : Value} {L : List (List Spot × Value)} (h : GathG w B v L) : ∃ a cap, v = .slice a L.length cap ∧ L.length ≤ cap ∧ RowG w a (L.map (·.1)) := by
  rcases h.1.2 with ⟨rfl, h0⟩ | ⟨g, cap, cur, rfl, hB, hh, hn, _⟩
  · exact ⟨none, 0, by rw [h0], by omega, fun k hk => by rw [List.length_map] at hk; omega⟩
  · have hlt : g < w.heap.size := (Array.getElem?_eq_some_iff.1 hh).1
    refine ⟨_, cap, rfl, hn, fun k hk => ⟨g, 0, rfl, hlt, ?_⟩⟩
    rw [List.length_map] at hk
    obtain ⟨a, c, e, hc, hr⟩ := (h.2 L[k] (List.getElem_mem hk)).row
    refine ⟨a, c, ?_, by simpa using hc, by simpa using hr⟩
    rw [Nat.zero_add, World.ownsRow.cellAt h.1 _ (by omega)]
    simp [hk, e]

theorem Tryz.infoQ : (Tryz.prog.info? 242).map (fun i => (i.zero, i.size, i.bytes)) = some (some (.slice none 0 0), 1, 24) := by kernel_rfl
theorem spot_unlike : 245 ≠ 242 := by decide
theorem text_unlike : 9 ≠ 242 := by decide

theorem GathP.keep {w w' : World} {B : Nat} {v : Value} {l : List Spot} (h : GathP w B v l) (hb : Below w.heap.size w w') : GathP w' B v l := own_keep h hb
theorem GathS.beside {w w' : World} {B k : Nat} {v y : Value} {l : List ByteArray} {xs : List Value} (h : GathS w B v l) (hv : w.ownsRow B 242 1 y k xs) (hg : w.grownBy w' y.ownBlock) : GathS w' B v l := World.ownsRow.kept h hg (own_types h hv text_unlike)

/-- Of the first i texts those that have two spots or more are in L, and no others. -/
def SharedTo (S : ByteArray → List Spot) (names : List ByteArray) (i : Nat) (L : List (List Spot × Value)) : Prop :=
  (∀ p ∈ L, ∃ s, p.1 = S s ∧ 1 < (S s).length) ∧ ∀ q, (hq : q < names.length) → q < i → 1 < (S names[q]).length → ∃ p ∈ L, p.1 = S names[q]
theorem SharedTo.skip {S : ByteArray → List Spot} {names : List ByteArray} {i : Nat} {L : List (List Spot × Value)} (h : SharedTo S names i L) (hi : i < names.length) (hn : ¬ 1 < (S names[i]).length) : SharedTo S names (i + 1) L := ⟨h.1, fun q hq hlt h1 => by
  by_cases e : q = i
  · subst e; exact absurd h1 hn
  · exact h.2 q hq (by omega) h1⟩
theorem SharedTo.take {S : ByteArray → List Spot} {names : List ByteArray} {i : Nat} {L : List (List Spot × Value)} (h : SharedTo S names i L) (hi : i < names.length) (hn : 1 < (S names[i]).length) (y : Value) : SharedTo S names (i + 1) (L ++ [(S names[i], y)]) := by
  refine ⟨fun p hp => ?_, fun q hq hlt h1 => ?_⟩
  · rcases List.mem_append.1 hp with hp | hp
    · exact h.1 p hp
    · obtain rfl : p = (S names[i], y) := by simpa using hp
      exact ⟨names[i], rfl, hn⟩
  · by_cases e : q = i
    · subst e
      exact ⟨(S names[q], y), by simp, rfl⟩
    · obtain ⟨p, hp, he⟩ := h.2 q hq (by omega) h1
      exact ⟨p, List.mem_append_left _ hp, he⟩
theorem SharedTo.shared {ws : List (List ItemL)} {S : ByteArray → List Spot} {names : List ByteArray} {L : List (List Spot × Value)} (h : SharedTo S names names.length L) (hS : SpotsTo ws ws.length 0 S) (hn : ∀ s, S s ≠ [] → s ∈ names) (h72 : ∀ s, (S s).length ≤ 1000) (hL : L.length ≤ 1000) : ShW ws (L.map (·.1)) := by
  refine ⟨⟨fun src hs => ?_, fun s i k j l hik h1 h2 => ?_⟩, fun src hs => ?_, by rw [List.length_map]; exact hL⟩
  · obtain ⟨p, hp, rfl⟩ := List.mem_map.1 hs
    obtain ⟨s, e, _⟩ := h.1 p hp
    exact ⟨s, fun q hq => hS.1 s q (by rw [← e]; exact hq)⟩
  · have m1 := hS.2 s _ h1 (.inl h1.1)
    have m2 := hS.2 s _ h2 (.inl h2.1)
    have hlen : 1 < (S s).length := by
      match hS' : S s, m1, m2 with
      | [], m1, _ => simp at m1
      | [x], m1, m2 =>
        have e1 : (i, j) = x := by simpa using m1
        have e2 : (k, l) = x := by simpa using m2
        rw [← e1] at e2
        exact absurd (Prod.mk.inj e2).1.symm hik
      | _ :: _ :: _, _, _ => simp
    obtain ⟨q, hq, e⟩ := List.mem_iff_getElem.1 (hn s (fun e => by rw [e] at hlen; simp at hlen))
    obtain ⟨p, hp, he⟩ := h.2 q hq hq (by rw [e]; exact hlen)
    rw [e] at he
    exact ⟨p.1, List.mem_map.2 ⟨p, hp, rfl⟩, by rw [he]; exact m1, by rw [he]; exact m2⟩
  · obtain ⟨p, hp, rfl⟩ := List.mem_map.1 hs
    obtain ⟨s, e, h1⟩ := h.1 p hp
    rw [e]
    exact ⟨h1, h72 s⟩

end Go.Proofs.YtpfhegengmlkmacGreatDoor
