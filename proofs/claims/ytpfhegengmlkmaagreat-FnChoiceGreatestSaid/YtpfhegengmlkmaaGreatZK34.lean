/- Texts of this claim, one behind the other. -/
import Derived.Test.YtpfhegengmlkmaaGreatZK6
import Derived.Test.YtpfhegengmlkmaaGreatZK33
namespace Go.Proofs.YtpfhegengmlkmaaGreat
open Go.RowKit Go.BigFrame
set_option maxRecDepth 100000

/-- The slice (a, c) holds the marks 'm', in a block of the call's own from number 'B' on; or there are none. -/
def SlB (w : World) (B : Nat) (a : Option Addr) (c : Nat) (m : List (ByteArray × Int)) : Prop := m.length ≤ c ∧ (m = [] ∨ ∃ g, a = some ⟨g, 0, none⟩ ∧ B ≤ g ∧ Own w g m)
theorem SlB.row {w : World} {B c : Nat} {a : Option Addr} {m : List (ByteArray × Int)} (h : SlB w B a c m) : Row w a m := by
  rcases h.2 with rfl | ⟨g, rfl, _, ho⟩
  · exact fun k hk => absurd hk (Nat.not_lt_zero k)
  · exact ho.row
theorem SlB.isSl {w : World} {B c : Nat} {a : Option Addr} {m : List (ByteArray × Int)} (h : SlB w B a c m) : IsSl w (.slice a m.length c) m := ⟨a, c, rfl, h.1, h.row⟩
theorem SlB.keep {w w' : World} {B c : Nat} {a : Option Addr} {m : List (ByteArray × Int)} (h : SlB w B a c m) (hb : Below w.heap.size w w') : SlB w' B a c m := ⟨h.1, h.2.imp id fun ⟨g, e, h1, ho⟩ => ⟨g, e, h1, ho.below hb⟩⟩
theorem SlB.but {w w' : World} {R B c : Nat} {a : Option Addr} {m : List (ByteArray × Int)} (h : SlB w B a c m) (hb : But R w w') (hR : R < B) : SlB w' B a c m := ⟨h.1, h.2.imp id fun ⟨g, e, h1, ho⟩ => ⟨g, e, h1, hb.own ho (by omega)⟩⟩
theorem SlB.lower {w : World} {B B' c : Nat} {a : Option Addr} {m : List (ByteArray × Int)} (h : SlB w B a c m) (hB : B' ≤ B) : SlB w B' a c m := ⟨h.1, h.2.imp id fun ⟨g, e, h1, ho⟩ => ⟨g, e, Nat.le_trans hB h1, ho⟩⟩
theorem own_type {w : World} {B e size n b : Nat} {v : Value} {xs : List Value} {l : List (ByteArray × Int)} (h : w.ownsRow B e size v n xs) (ho : Own w b l) (hne : 72 ≠ e) : some b ≠ v.ownBlock := by
  obtain ⟨m, f, hr, _⟩ := ho
  exact owns_type h hr hne
theorem SlB.grown {w w' : World} {B B2 e size n c : Nat} {v : Value} {xs : List Value} {a : Option Addr} {m : List (ByteArray × Int)} (h : SlB w B a c m) (ho : w.ownsRow B2 e size v n xs) (hne : 72 ≠ e) (hg : w.grownBy w' v.ownBlock) : SlB w' B a c m :=
  ⟨h.1, h.2.imp id fun ⟨g, e', h1, hw⟩ => ⟨g, e', h1, hw.grown hg (own_type ho hw hne)⟩⟩
theorem Gath.slB {w : World} {B : Nat} {v : Value} {m : List (ByteArray × Int)} (h : Gath w B v m) : ∃ a c, v = .slice a m.length c ∧ SlB w B a c m := by
  rcases h.form with ⟨hv, rfl⟩ | ⟨g, cap, rfl, hB, ho⟩
  · exact ⟨_, _, hv, Nat.le_refl _, .inl rfl⟩
  · obtain ⟨h1, h2, h3⟩ := gath_own h
    exact ⟨_, _, rfl, h2, .inr ⟨g, rfl, h1, h3⟩⟩

/-- The cells of items, two an item. -/
def jcells : List (ItemL × Option Addr × Nat) → List Value
  | [] => []
  | p :: r => .int .i64 p.1.1 :: .slice p.2.1 p.1.2.length p.2.2 :: jcells r
theorem jcells_length : ∀ L, (jcells L).length = L.length * 2
  | [] => rfl
  | p :: r => by simp [jcells, jcells_length r]; omega
theorem jcells_append : ∀ L r, jcells (L ++ r) = jcells L ++ jcells r
  | [], _ => rfl
  | p :: L, r => by simp [jcells, jcells_append L r]
theorem jcells_at : ∀ (L : List (ItemL × Option Addr × Nat)) (k : Nat) (h : k < L.length), (jcells L)[k * 2]? = some (.int .i64 L[k].1.1) ∧ (jcells L)[k * 2 + 1]? = some (.slice L[k].2.1 L[k].1.2.length L[k].2.2)
  | p :: r, 0, _ => by simp [jcells]
  | p :: r, k + 1, h => by
    have := jcells_at r k (by simpa using h)
    have e0 : (k + 1) * 2 = k * 2 + 1 + 1 := by omega
    rw [e0]
    simp only [jcells, List.getElem?_cons_succ, List.getElem_cons_succ]
    exact this
theorem jcells_set : ∀ (L : List (ItemL × Option Addr × Nat)) (k : Nat) (p : ItemL × Option Addr × Nat), ((jcells L).set (k * 2) (.int .i64 p.1.1)).set (k * 2 + 1) (.slice p.2.1 p.1.2.length p.2.2) = jcells (L.set k p)
  | [], k, p => by simp [jcells]
  | x :: r, 0, p => by simp [jcells]
  | x :: r, k + 1, p => by
    have ih := jcells_set r k p
    have e0 : (k + 1) * 2 = k * 2 + 1 + 1 := by omega
    rw [e0]
    simp only [jcells, List.set_cons_succ, ih]

/-- The slice value 'v' holds the items of 'L', in a block of the call's own from number 'B' on; or it is nil, and there are none. -/
def GathJ (w : World) (B : Nat) (v : Value) (L : List (ItemL × Option Addr × Nat)) : Prop := w.ownsRow B 40 2 v L.length (jcells L) ∧ ∀ p ∈ L, SlB w B p.2.1 p.2.2 p.1.2
theorem gathJ_none (w : World) (B : Nat) : GathJ w B (.slice none 0 0) [] := ⟨World.ownsRow_nil _ _ _ _, by simp⟩
theorem GathJ.but {w w' : World} {R B : Nat} {v : Value} {L : List (ItemL × Option Addr × Nat)} (h : GathJ w B v L) (hb : But R w w') (hR : R < B) : GathJ w' B v L := ⟨owns_but h.1 hb hR, fun p hp => (h.2 p hp).but hb hR⟩
theorem GathJ.keep {w w' : World} {B : Nat} {v : Value} {L : List (ItemL × Option Addr × Nat)} (h : GathJ w B v L) (hb : Below w.heap.size w w') : GathJ w' B v L := ⟨owns_keep h.1 hb, fun p hp => (h.2 p hp).keep hb⟩
theorem GathJ.lower {w : World} {B B' : Nat} {v : Value} {L : List (ItemL × Option Addr × Nat)} (h : GathJ w B v L) (hB : B' ≤ B) : GathJ w B' v L := ⟨owns_lower h.1 hB, fun p hp => (h.2 p hp).lower hB⟩
theorem GathJ.snoc {w w' : World} {B : Nat} {v v' : Value} {L : List (ItemL × Option Addr × Nat)} {p : ItemL × Option Addr × Nat} (h : GathJ w B v L) (hp : SlB w B p.2.1 p.2.2 p.1.2)
    (h' : w'.ownsRow B 40 2 v' (L.length + 1) (jcells L ++ [.int .i64 p.1.1, .slice p.2.1 p.1.2.length p.2.2])) (hgr : w.grownBy w' v.ownBlock) : GathJ w' B v' (L ++ [p]) := by
  refine ⟨?_, fun q hq => ?_⟩
  · rw [jcells_append, List.length_append]
    exact h'
  · rcases List.mem_append.1 hq with hq | hq
    · exact (h.2 q hq).grown h.1 (by decide) hgr
    · obtain rfl : q = p := by simpa using hq
      exact hp.grown h.1 (by decide) hgr
theorem GathI.toJ {w : World} {B : Nat} {v : Value} {l : List ItemL} (h : GathI w B v l) : ∃ L, GathJ w B v L ∧ L.map (·.1) = l := by
  obtain ⟨L, rfl, ho, hm, _⟩ := h
  have e : ∀ L : List (ItemL × Nat × Nat), jcells (L.map fun p => (p.1, some ⟨p.2.1, 0, none⟩, p.2.2)) = icells L := fun L => by
    induction L with
    | nil => rfl
    | cons p r ih => simp [jcells, icells, ih]
  refine ⟨L.map fun p => (p.1, some ⟨p.2.1, 0, none⟩, p.2.2), ⟨?_, fun q hq => ?_⟩, by simp [Function.comp_def]⟩
  · rw [List.length_map, e]
    exact ho
  · obtain ⟨p, hp, rfl⟩ := List.mem_map.1 hq
    obtain ⟨h1, h2, h3⟩ := hm p hp
    exact ⟨h1, .inr ⟨_, rfl, h3, h2⟩⟩

/-- What a slice of items looks like. -/
theorem GathJ.form {w : World} {B : Nat} {v : Value} {L : List (ItemL × Option Addr × Nat)} (h : GathJ w B v L) : ∃ a cap, v = .slice a L.length cap ∧ L.length ≤ cap ∧ RowI w a (L.map (·.1)) ∧ (L ≠ [] → ∃ g f m, a = some ⟨g, 0, none⟩ ∧ B ≤ g ∧ w.rowIs g 40 m f ∧ L.length * 2 ≤ m) := by
  obtain ⟨⟨hl, h | ⟨g, cap, cur, hv, hgB, hh, hn, hc, hs, ht⟩⟩, hm⟩ := h
  · obtain rfl : L = [] := List.length_eq_zero_iff.1 h.2
    exact ⟨_, _, h.1, Nat.le_refl _, fun k hk => absurd hk (Nat.not_lt_zero k), fun q => absurd rfl q⟩
  · have hr : w.rowIs g 40 (cap * 2) (fun i => (cur[i]?).getD undef) := ⟨cur, hh, hs, fun i hi => by
      have hi' : i < cur.size := by omega
      simp [Array.getElem?_eq_getElem hi']⟩
    refine ⟨_, cap, hv, hn, fun k hk => ?_, fun _ => ⟨g, _, _, rfl, hgB, hr, by omega⟩⟩
    rw [List.length_map] at hk
    have h2 := jcells_at L k hk
    have hlen := jcells_length L
    rw [← ht] at h2
    rw [List.getElem?_take_of_lt (by omega), List.getElem?_take_of_lt (by omega)] at h2
    simp only [Array.getElem?_toList] at h2
    refine ⟨g, 0, rfl, hr.lt, ?_, .slice L[k].2.1 L[k].1.2.length L[k].2.2, ?_, ?_⟩
    · rw [Nat.zero_add, hr.cell (by omega), h2.1]
      simp
    · rw [Nat.zero_add, hr.cell (by omega), h2.2]
      simp
    · rw [List.getElem_map]
      exact (hm _ (List.getElem_mem hk)).isSl

/-- An item of what was gathered is set anew. -/
theorem GathJ.set {w : World} {B g cap k : Nat} {L : List (ItemL × Option Addr × Nat)} (h : GathJ w B (.slice (some ⟨g, 0, none⟩) L.length cap) L) (p : ItemL × Option Addr × Nat) (hp : SlB w B p.2.1 p.2.2 p.1.2) :
    GathJ ((w.setCell ⟨g, k * 2, none⟩ (.int .i64 p.1.1)).setCell ⟨g, k * 2 + 1, none⟩ (.slice p.2.1 p.1.2.length p.2.2)) B (.slice (some ⟨g, 0, none⟩) L.length cap) (L.set k p) := by
  have h2 := (World.ownsRow.stored (World.ownsRow.stored h.1 (k * 2) (.int .i64 p.1.1)).1 (k * 2 + 1) (.slice p.2.1 p.1.2.length p.2.2)).1
  have hset : ∀ q : ItemL × Option Addr × Nat, SlB w B q.2.1 q.2.2 q.1.2 → SlB ((w.setCell ⟨g, k * 2, none⟩ (.int .i64 p.1.1)).setCell ⟨g, k * 2 + 1, none⟩ (.slice p.2.1 p.1.2.length p.2.2)) B q.2.1 q.2.2 q.1.2 := fun q hq =>
    ⟨hq.1, hq.2.imp id fun ⟨b, e, hb, ho⟩ => ⟨b, e, hb, by
      have hne : b ≠ g := fun e' => own_type h.1 ho (by decide) (by rw [e']; rfl)
      exact (ho.setOther hne _ _).setOther hne _ _⟩⟩
  refine ⟨?_, fun q hq => ?_⟩
  · rw [jcells_set] at h2
    rw [List.length_set]
    exact h2
  · rcases List.mem_or_eq_of_mem_set hq with hq | rfl
    · exact hset q (h.2 q hq)
    · exact hset q hp

/-- append of one item onto items that the call gathers. -/
theorem wp_append_itemJ {o : Oper} {a : Act} {w : World} {K : Act → World → Prop} {Q : Exit → Act → World → Prop} (s x : Operand)
    (ho : o.op = .call { callee := .builtin .append, args := #[s, x], argTypes := #[41, 41] }) (base : Nat) (v : Value) (L : List (ItemL × Option Addr × Nat)) (hs : a.eval s = v) (hg : GathJ w base v L) (hbase : base ≤ w.heap.size)
    (ad : Nat) (p : ItemL × Option Addr × Nat) (hx : a.eval x = .slice (some ⟨ad, 0, none⟩) 1 1) (c0 : w.cell? ⟨ad, 0, none⟩ = some (.int .i64 p.1.1)) (c1 : w.cell? ⟨ad, 1, none⟩ = some (.slice p.2.1 p.1.2.length p.2.2))
    (hp : SlB w base p.2.1 p.2.2 p.1.2) (hl : L.length ≤ 1048576)
    (h : ∀ v' w', GathJ w' base v' (L ++ [p]) → w.grownBy w' v.ownBlock → K (a.put o.dst v') w') : o.wp Tryz.prog a w K Q := by
  obtain ⟨i0, hi, hz0, hz1, hz2⟩ := info_parts Tryz.infoI
  obtain ⟨g, cap, w', hr, h2, h3, _, _⟩ := run_append_lies (P := Tryz.prog) w 41 o.type base 40 i0 (.agg #[.int .i64 0, .slice none 0 0]) 2 32 Tryz.underlying41 hi hz0 hz1 hz2 rfl (by decide) _ _ _ hg.1 ⟨ad, 0, none⟩ 1 1 [.int .i64 p.1.1, .slice p.2.1 p.1.2.length p.2.2] rfl (by
      intro j u hj
      match j, hj with
      | 0, hj => simp at hj; subst hj; exact c0
      | 1, hj => simp at hj; subst hj; exact c1) (by simp [Value.oneCell']) (by decide) (by unfold maxLen; omega) (by omega) hbase _ rfl
  unfold Oper.wp execOp
  simp only [ho, resolve, invoke, builtin, Sem.run_bind, Sem.run_pure, Result.andThen_ok, List.map_toArray, List.map_cons, List.map_nil, hs, hx, hr]
  exact h _ w' (hg.snoc hp h2 h3) h3
theorem wpList_append_itemJ {ops : Array Oper} {rest : List Oper} {o : Oper} {a : Act} {w : World} {Q : Exit → Act → World → Prop} (hgd : o.guard = none) (s x : Operand)
    (ho : o.op = .call { callee := .builtin .append, args := #[s, x], argTypes := #[41, 41] }) (base : Nat) (v : Value) (L : List (ItemL × Option Addr × Nat)) (hs : a.eval s = v) (hg : GathJ w base v L) (hbase : base ≤ w.heap.size)
    (ad : Nat) (p : ItemL × Option Addr × Nat) (hx : a.eval x = .slice (some ⟨ad, 0, none⟩) 1 1) (c0 : w.cell? ⟨ad, 0, none⟩ = some (.int .i64 p.1.1)) (c1 : w.cell? ⟨ad, 1, none⟩ = some (.slice p.2.1 p.1.2.length p.2.2))
    (hp : SlB w base p.2.1 p.2.2 p.1.2) (hl : L.length ≤ 1048576)
    (h : ∀ v' w', GathJ w' base v' (L ++ [p]) → w.grownBy w' v.ownBlock → wpList Tryz.prog ops Q rest (a.put o.dst v') w') : wpList Tryz.prog ops Q (o :: rest) a w :=
  wpList_plain hgd fun _ hK => wp_append_itemJ s x ho base v L hs hg hbase ad p hx c0 c1 hp hl fun v' w' h1 h2 => hK _ _ (h v' w' h1 h2)

/-- Few items, with few marks of short names. -/
def FewI (n : Nat) (l : List ItemL) : Prop := l.length ≤ n ∧ ∀ x ∈ l, x.2.length ≤ 40 ∧ ∀ y ∈ x.2, y.1.size ≤ 2000
theorem FewI.fit {n : Nat} {l : List ItemL} (h : FewI n l) (hn : n ≤ 1000) : FitI l := ⟨by have := h.1; unfold maxLen; omega, fun j hj => ⟨by have := (h.2 _ (List.getElem_mem hj)).1; unfold maxLen; omega, fun i hi => by have := (h.2 _ (List.getElem_mem hj)).2 _ (List.getElem_mem hi); unfold maxLen; omega⟩⟩
theorem FewI.mono {n m : Nat} {l : List ItemL} (h : FewI n l) (hm : n ≤ m) : FewI m l := ⟨Nat.le_trans h.1 hm, h.2⟩
theorem FewI.nil (n : Nat) : FewI n [] := ⟨Nat.zero_le _, by simp⟩
theorem FewI.snoc {n : Nat} {l : List ItemL} {x : ItemL} (h : FewI n l) (hx : x.2.length ≤ 40 ∧ ∀ y ∈ x.2, y.1.size ≤ 2000) : FewI (n + 1) (l ++ [x]) := by
  refine ⟨by have := h.1; simp; omega, fun y hy => ?_⟩
  rcases List.mem_append.1 hy with hy | hy
  · exact h.2 y hy
  · obtain rfl : y = x := by simpa using hy
    exact hx
theorem FewI.set {n k : Nat} {l : List ItemL} {x : ItemL} (h : FewI n l) (hx : x.2.length ≤ 40 ∧ ∀ y ∈ x.2, y.1.size ≤ 2000) : FewI n (l.set k x) := by
  refine ⟨by rw [List.length_set]; exact h.1, fun y hy => ?_⟩
  rcases List.mem_or_eq_of_mem_set hy with hy | rfl
  · exact h.2 y hy
  · exact hx

end Go.Proofs.YtpfhegengmlkmaaGreat
