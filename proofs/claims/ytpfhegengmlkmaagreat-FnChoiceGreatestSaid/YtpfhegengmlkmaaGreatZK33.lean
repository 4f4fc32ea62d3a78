/- Texts of this claim, one behind the other. -/
import Derived.Test.YtpfhegengmlkmaaGreatZK2
import Derived.Test.YtpfhegengmlkmaaGreatZK32
namespace Go.Proofs.YtpfhegengmlkmaaGreat
open Go.RowKit Go.BigFrame
set_option maxRecDepth 100000

theorem box_one (w : World) (x : Value) (t : TypeId) : (w.alloc (.cells #[x] t)).cell? ⟨w.heap.size, 0, none⟩ = some x := by simp [go_sem]
theorem owns_but {w w' : World} {R B e size n : Nat} {v : Value} {xs : List Value} (h : w.ownsRow B e size v n xs) (hb : But R w w') (hR : R < B) : w'.ownsRow B e size v n xs := by
  obtain ⟨hl, h | ⟨g, cap, cur, hv, hgB, hh, r⟩⟩ := h
  · exact ⟨hl, .inl h⟩
  · exact ⟨hl, .inr ⟨g, cap, cur, hv, hgB, (hb.block g (Array.getElem?_eq_some_iff.1 hh).1 (by omega)).trans hh, r⟩⟩
theorem owns_keep {w w' : World} {B e size n : Nat} {v : Value} {xs : List Value} (h : w.ownsRow B e size v n xs) (hb : Below w.heap.size w w') : w'.ownsRow B e size v n xs := by
  obtain ⟨hl, h | ⟨g, cap, cur, hv, hgB, hh, r⟩⟩ := h
  · exact ⟨hl, .inl h⟩
  · exact ⟨hl, .inr ⟨g, cap, cur, hv, hgB, (hb.block g (Array.getElem?_eq_some_iff.1 hh).1).trans hh, r⟩⟩
theorem owns_lower {w : World} {B B' e size n : Nat} {v : Value} {xs : List Value} (h : w.ownsRow B e size v n xs) (hB : B' ≤ B) : w.ownsRow B' e size v n xs := by
  obtain ⟨hl, h | ⟨g, cap, cur, hv, hgB, r⟩⟩ := h
  · exact ⟨hl, .inl h⟩
  · exact ⟨hl, .inr ⟨g, cap, cur, hv, Nat.le_trans hB hgB, r⟩⟩
/-- A row of one type is no row of another. -/
theorem owns_type {w : World} {B e t size n m b : Nat} {v : Value} {xs : List Value} {f : Nat → Value} (h : w.ownsRow B e size v n xs) (hr : w.rowIs b t m f) (hne : t ≠ e) : some b ≠ v.ownBlock := by
  intro q
  obtain ⟨cs, h1, _⟩ := hr
  rcases h.2 with ⟨rfl, _⟩ | ⟨g, cap, cur, rfl, _, hh, _⟩
  · simp [Value.ownBlock] at q
  · obtain rfl : b = g := by simpa [Value.ownBlock] using q
    rw [h1] at hh
    simp at hh
    exact hne hh.2
theorem owns_from {w : World} {B e size n : Nat} {v : Value} {xs : List Value} (h : w.ownsRow B e size v n xs) : ∀ k, v.ownBlock = some k → B ≤ k := fun k q => by
  rcases h.2 with ⟨rfl, _⟩ | ⟨g, cap, cur, rfl, hle, _⟩
  · cases q
  · simp [Value.ownBlock] at q; omega
theorem owns1_row {w : World} {B e n g cap : Nat} {xs : List Value} (h : w.ownsRow B e 1 (.slice (some ⟨g, 0, none⟩) n cap) n xs) : B ≤ g ∧ n ≤ cap ∧ ∃ m f, w.rowIs g e m f ∧ n ≤ m ∧ ∀ k u, xs[k]? = some u → f k = u := by
  obtain ⟨hl, h | ⟨g2, cap2, cur, hv, hg, hh, hn, hc, hs, ht⟩⟩ := h
  · simp at h
  · obtain ⟨⟨rfl⟩, rfl⟩ : g = g2 ∧ cap = cap2 := by simpa using hv
    refine ⟨hg, hn, cap * 1, fun i => (cur[i]?).getD undef, ⟨cur, hh, hs, fun i hi => ?_⟩, by omega, fun k u hk => ?_⟩
    · have hi' : i < cur.size := by omega
      simp [Array.getElem?_eq_getElem hi']
    · rw [← ht] at hk
      have hkl := (List.getElem?_eq_some_iff.1 hk).1
      rw [List.length_take] at hkl
      rw [List.getElem?_take_of_lt (by omega), Array.getElem?_toList] at hk
      simp only [hk, Option.getD_some]

theorem But.out {g R B : Nat} {w w' : World} (h : But g w w') (hg : B ≤ g) (hB : B ≤ w.heap.size) : ButU R B w w' := ⟨h.os, h.tape, h.output, h.size, fun k hk _ => h.block k (by omega) (by omega)⟩
theorem But.trans' {g R : Nat} {x y z : World} (h : But R x y) (k : But g y z) (hg : x.heap.size ≤ g) : But R x z :=
  ⟨k.os.trans h.os, k.tape.trans h.tape, k.output.trans h.output, Nat.le_trans h.size k.size, fun i hi hn => (k.block i (Nat.lt_of_lt_of_le hi h.size) (by omega)).trans (h.block i hi hn)⟩
theorem But.setOut {g R : Nat} {x w : World} (h : But R x w) (hg : x.heap.size ≤ g) (i : Nat) (v : Value) : But R x (w.setCell ⟨g, i, none⟩ v) :=
  h.trans' ((But.refl g w).setCell i v) hg
/-- Block 'g' is a row of four numbers at least, the first four no greater than 'b'. -/
def Four (w : World) (g : Nat) (b : Int) : Prop := ∃ m f, w.rowIs g 3 m f ∧ 4 ≤ m ∧ ∀ j, j < 4 → ∃ v : Int, f j = .int .i64 v ∧ 0 ≤ v ∧ v ≤ b
theorem Four.lt {w : World} {g : Nat} {b : Int} (h : Four w g b) : g < w.heap.size := by
  obtain ⟨m, f, h, _⟩ := h
  exact h.lt
theorem Four.of {w w' : World} {g : Nat} {b : Int} (h : Four w g b) (hb : w'.heap[g]? = w.heap[g]?) : Four w' g b := by
  obtain ⟨m, f, h, hf⟩ := h
  exact ⟨m, f, h.of_block hb, hf⟩
theorem Four.below {w w' : World} {g : Nat} {b : Int} (h : Four w g b) (hb : Below w.heap.size w w') : Four w' g b := h.of (hb.block g h.lt)
theorem Four.but {w w' : World} {R g : Nat} {b : Int} (h : Four w g b) (hb : But R w w') (hR : g ≠ R) : Four w' g b := h.of (hb.block g h.lt hR)
theorem Four.mono {w : World} {g : Nat} {b b' : Int} (h : Four w g b) (hb : b ≤ b') : Four w g b' := by
  obtain ⟨m, f, h, hm, hf⟩ := h
  refine ⟨m, f, h, hm, fun j hj => ?_⟩
  obtain ⟨v, e, h0, h1⟩ := hf j hj
  exact ⟨v, e, h0, by omega⟩
theorem Four.cell {w : World} {g : Nat} {b : Int} (h : Four w g b) {j : Nat} (hj : j < 4) : ∃ v : Int, w.cell? ⟨g, j, none⟩ = some (.int .i64 v) ∧ 0 ≤ v ∧ v ≤ b := by
  obtain ⟨m, f, h, hm, hf⟩ := h
  obtain ⟨v, e, h0, h1⟩ := hf j hj
  exact ⟨v, by rw [h.cell (by omega), e], h0, h1⟩
theorem Four.free {w : World} {g : Nat} {b : Int} (h : Four w g b) (j : Nat) : w.frozen? ⟨g, j, none⟩ = false := by
  obtain ⟨m, f, h, _⟩ := h
  exact h.frozen j
theorem Four.set {w : World} {g : Nat} {b : Int} (h : Four w g b) {k : Nat} {u : Int} (h0 : 0 ≤ u) (h1 : u ≤ b) : Four (w.setCell ⟨g, k, none⟩ (.int .i64 u)) g b := by
  obtain ⟨m, f, h, hm, hf⟩ := h
  refine ⟨m, _, h.set _ _, hm, fun j hj => ?_⟩
  by_cases e : j = k
  · exact ⟨u, if_pos e, h0, h1⟩
  · obtain ⟨v, q, q0, q1⟩ := hf j hj
    exact ⟨v, (if_neg e).trans q, q0, q1⟩
theorem Four.grown {w w' : World} {B e size n g : Nat} {b : Int} {v : Value} {xs : List Value} (h : Four w g b) (ho : w.ownsRow B e size v n xs) (hne : 3 ≠ e) (hg : w.grownBy w' v.ownBlock) : Four w' g b := by
  have hlt := h.lt
  have h' := h
  obtain ⟨m, f, hr, _⟩ := h
  exact h'.of (hg.block g hlt (owns_type ho hr hne))

set_option maxHeartbeats 1600000 in
theorem l6Vec_any (g c : Nat) (x b : Int) (w : World) (h : Four w g b) :
    Calls Tryz.prog 63 #[.slice (some ⟨g, 0, none⟩) 4 c, .int .i64 x] w fun e w' => (∃ v l, e = .returned v ∧ Mks w' w.heap.size v l ∧ l.length ≤ 4) ∧ Below w.heap.size w w' := by
  obtain ⟨i0, hi, hz0, hz1, hz2⟩ := info_parts Tryz.infoM
  go_enter Tryz.func63, Tryz.ntmps63
  go_wp2_with fail
  have hb0 : Below w.heap.size w (w.alloc (.cells #[.string ⟨#[119]⟩, .string ⟨#[120]⟩, .string ⟨#[121]⟩, .string ⟨#[122]⟩] 9)) := (Below.refl _ _).alloc (Nat.le_refl _) _
  have hnm : ∀ k, k < 4 → ∃ s : ByteArray, (w.alloc (.cells #[.string ⟨#[119]⟩, .string ⟨#[120]⟩, .string ⟨#[121]⟩, .string ⟨#[122]⟩] 9)).cell? ⟨w.heap.size, k, none⟩ = some (.string s) ∧ s.size ≤ 8 := fun k hk => by
    rcases (by omega : k = 0 ∨ k = 1 ∨ k = 2 ∨ k = 3) with rfl | rfl | rfl | rfl <;> exact ⟨_, by simp [go_sem]; rfl, by decide⟩
  have hzz := box_lt w (.cells #[.string ⟨#[119]⟩, .string ⟨#[120]⟩, .string ⟨#[121]⟩, .string ⟨#[122]⟩] 9)
  generalize (w.alloc (.cells #[.string ⟨#[119]⟩, .string ⟨#[120]⟩, .string ⟨#[121]⟩, .string ⟨#[122]⟩] 9)) = W0 at *
  go_loopw [6, 7] (fun out i wr => ∃ (k : Nat) (o : List (ByteArray × Int)), k ≤ 4 ∧ i = .int .i64 k ∧ Gath wr W0.heap.size out o ∧ o.length ≤ k ∧ (o = [] → out = .slice none 0 0) ∧ (∀ m ∈ o, m.1.size ≤ 2000) ∧ Below W0.heap.size W0 wr) (fun _ i _ => 4 - (intOf i).toNat)
  case atStart => exact ⟨0, [], by omega, rfl, Gath.none _ _, by simp, fun _ => rfl, by simp, Below.refl _ _⟩
  case round =>
    obtain ⟨k, o, hk, rfl, hg, hol, hnil, hsz, hb⟩ := hrel
    by_cases hlt : k < 4
    · obtain ⟨nm, e0, hns⟩ := hnm k hlt
      obtain ⟨v, e1, _, _⟩ := (h.below hb0).cell hlt
      have c0 := cell_on hb hzz e0
      have hgl : g < W0.heap.size := Nat.lt_of_lt_of_le h.lt hb0.size
      have c1 := cell_on hb hgl e1
      have k0 : (0 : Int) ≤ (k : Int) := by omega
      have k1 : (k : Int) < 4 := by omega
      obtain ⟨oa, oc, rfl, _⟩ := hg.shape
      have hzr := hb.size
      go_wp2_with fail
      · have SW : (wr.drew).cell? ⟨w.heap.size, k, none⟩ = some (.string nm) ∧ (wr.drew).cell? ⟨g, k, none⟩ = some (.int .i64 v) := ⟨c0, c1⟩
        have hbd : Below wr.heap.size wr wr.drew := (Below.refl _ _).drew
        refine wp_region_held_drew (S := fun u => u.cell? ⟨w.heap.size, k, none⟩ = some (.string nm) ∧ u.cell? ⟨g, k, none⟩ = some (.int .i64 v)) (by kernel_rfl) SW (fun _ => ?_)
        refine wpAnyH_take (i := 0) (v := .slice oa o.length oc) rfl (by kernel_rfl) (by kernel_rfl) (by kernel_rfl) (fun _ _ _ h => h) (Or.inl ⟨by rfl, ?_⟩) SW ?_
        · rintro u ⟨q1, q2⟩
          go_simp
        simp only [Act.put, List.setIfInBounds_toArray]
        refine wpAnyH_take (i := 1) (v := .slice (some ⟨w.heap.size, 0, none⟩) 4 4) rfl (by kernel_rfl) (by kernel_rfl) (by kernel_rfl) (fun _ _ _ h => h) (Or.inl ⟨by rfl, ?_⟩) SW ?_
        · rintro u ⟨q1, q2⟩
          go_simp
        simp only [Act.put]
        refine wpAnyH_take (i := 2) (v := .int .i64 k) rfl (by kernel_rfl) (by kernel_rfl) (by kernel_rfl) (fun _ _ _ h => h) (Or.inl ⟨by rfl, ?_⟩) SW ?_
        · rintro u ⟨q1, q2⟩
          go_simp
        simp only [Act.put]
        refine wpAnyH_take (i := 3) (v := .pointer (some ⟨w.heap.size, k, none⟩)) rfl (by kernel_rfl) (by kernel_rfl) (by kernel_rfl) (fun _ _ _ h => h) (Or.inl ⟨by rfl, ?_⟩) SW ?_
        · rintro u ⟨q1, q2⟩
          go_simp
        simp only [Act.put]
        refine wpAnyH_take (i := 4) (v := .string nm) rfl (by kernel_rfl) (by kernel_rfl) (by kernel_rfl) (fun _ _ _ h => h) (Or.inl ⟨by rfl, ?_⟩) SW ?_
        · rintro u ⟨q1, q2⟩
          go_simp
        simp only [Act.put]
        refine wpAnyH_take (i := 5) (v := .slice (some ⟨g, 0, none⟩) 4 c) rfl (by kernel_rfl) (by kernel_rfl) (by kernel_rfl) (fun _ _ _ h => h) (Or.inl ⟨by rfl, ?_⟩) SW ?_
        · rintro u ⟨q1, q2⟩
          go_simp
        simp only [Act.put]
        refine wpAnyH_take (i := 6) (v := .int .i64 k) rfl (by kernel_rfl) (by kernel_rfl) (by kernel_rfl) (fun _ _ _ h => h) (Or.inl ⟨by rfl, ?_⟩) SW ?_
        · rintro u ⟨q1, q2⟩
          go_simp
        simp only [Act.put]
        refine wpAnyH_take (i := 7) (v := .pointer (some ⟨g, k, none⟩)) rfl (by kernel_rfl) (by kernel_rfl) (by kernel_rfl) (fun _ _ _ h => h) (Or.inl ⟨by rfl, ?_⟩) SW ?_
        · rintro u ⟨q1, q2⟩
          go_simp
        simp only [Act.put]
        refine wpAnyH_take (i := 8) (v := .int .i64 v) rfl (by kernel_rfl) (by kernel_rfl) (by kernel_rfl) (fun _ _ _ h => h) (Or.inl ⟨by rfl, ?_⟩) SW ?_
        · rintro u ⟨q1, q2⟩
          go_simp
        simp only [Act.put]
        refine wpAnyH_take (i := 9) (v := .agg #[.string nm, .int .i64 v]) rfl (by kernel_rfl) (by kernel_rfl) (by kernel_rfl) (fun _ _ _ h => h) (Or.inl ⟨by rfl, ?_⟩) SW ?_
        · rintro u ⟨q1, q2⟩
          go_simp
        simp only [Act.put]
        refine wpAnyH_ready (rs := [10]) (by kernel_rfl) (by simp) ?_
        refine AllReadyH.cons rfl (fun K hK => ?_) AllReadyH.nil
        rw [if_pos (by rfl)]
        go_simp
        have b2 : Below wr.heap.size wr (wr.drew.alloc (.cells #[.string nm, .int .i64 v] 72)) := hbd.alloc hbd.size _
        have B2 : Below W0.heap.size W0 (wr.drew.alloc (.cells #[.string nm, .int .i64 v] 72)) := hb.trans (b2.mono hzr)
        have S2 : (wr.drew.alloc (.cells #[.string nm, .int .i64 v] 72)).cell? ⟨w.heap.size, k, none⟩ = some (.string nm) ∧ (wr.drew.alloc (.cells #[.string nm, .int .i64 v] 72)).cell? ⟨g, k, none⟩ = some (.int .i64 v) := ⟨cell_on B2 hzz e0, cell_on B2 hgl e1⟩
        refine hK.out _ _ S2 (fun _ => ?_)
        clear hK K SW
        refine wpAnyH_ready (rs := [11]) (by kernel_rfl) (by simp) ?_
        refine AllReadyH.cons rfl (fun K hK => ?_) AllReadyH.nil
        rw [if_pos (by rfl)]
        refine wp_append_mark _ _ rfl W0.heap.size _ o rfl (hg.keep b2) hnil ⟨wr.heap.size, 0, none⟩ (nm, v) rfl (box0 wr.drew _ _ _) (by simp [Addr.add, go_sem]) (by omega) B2.size ?_
        intro v3 w3 hg3 ha3
        have B3 := ha3.below B2 (Nat.le_refl _) B2.size
        have S3 : w3.cell? ⟨w.heap.size, k, none⟩ = some (.string nm) ∧ w3.cell? ⟨g, k, none⟩ = some (.int .i64 v) := ⟨cell_on B3 hzz e0, cell_on B3 hgl e1⟩
        refine hK.out _ _ S3 (fun _ => ?_)
        clear hK K
        refine wpAnyH_ready (rs := [12]) (by kernel_rfl) (by simp) ?_
        refine AllReadyH.cons rfl (fun K hK => ?_) AllReadyH.nil
        rw [if_pos (by rfl)]
        go_simp
        refine hK.out _ _ S3 (fun _ => ?_)
        clear hK K
        refine wpAnyH_done (by kernel_rfl) ?_ _
        go_wp2_with fail
        exact ⟨⟨k + 1, o ++ [(nm, v)], by omega, by go_num, hg3, by simp; omega, by simp, fun m hm => (List.mem_append.1 hm).elim (hsz m) fun e => by simp at e; subst e; simp only; omega, B3⟩, by simp [intOf]; omega⟩
      · exact ⟨⟨k + 1, o, by omega, by go_num, hg, by omega, hnil, hsz, hb⟩, by simp [intOf]; omega⟩
    · have B : Below w.heap.size w wr := hb0.trans (hb.mono hb0.size)
      have hz0 := hb0.size
      go_wp2_with fail
      go_ret
      exact ⟨⟨_, o, rfl, ⟨hg.lower hz0, by omega, hsz⟩, by omega⟩, B⟩

/-- The slice value 'v' holds slices of four numbers, each in a block of its own from number 'B' on. -/
def GathV (w : World) (B : Nat) (v : Value) (L : List (Nat × Nat)) : Prop := w.ownsRow B 25 1 v L.length (L.map fun p => .slice (some ⟨p.1, 0, none⟩) 4 p.2) ∧ ∀ p ∈ L, B ≤ p.1 ∧ Four w p.1 1000 ∧ 4 ≤ p.2
theorem GathV.but {w w' : World} {R B : Nat} {v : Value} {L : List (Nat × Nat)} (h : GathV w B v L) (hb : But R w w') (hR : R < B) : GathV w' B v L :=
  ⟨owns_but h.1 hb hR, fun p hp => ⟨(h.2 p hp).1, (h.2 p hp).2.1.but hb (by have := (h.2 p hp).1; omega), (h.2 p hp).2.2⟩⟩
theorem GathV.keep {w w' : World} {B : Nat} {v : Value} {L : List (Nat × Nat)} (h : GathV w B v L) (hb : Below w.heap.size w w') : GathV w' B v L :=
  ⟨owns_keep h.1 hb, fun p hp => ⟨(h.2 p hp).1, (h.2 p hp).2.1.below hb, (h.2 p hp).2.2⟩⟩
theorem GathV.upto {w w' : World} {R B : Nat} {v : Value} {L : List (Nat × Nat)} (h : GathV w B v L) (hb : ButU R w.heap.size w w') (hR : R < B) : GathV w' B v L := h.but hb.but hR
theorem GathV.snoc {w w' : World} {B g c : Nat} {v v' : Value} {L : List (Nat × Nat)} (h : GathV w B v L) (hB : B ≤ g) (hf : Four w g 1000) (hc : 4 ≤ c) (ho : w'.ownsRow B 25 1 v' (L.length + 1) ((L.map fun p => .slice (some ⟨p.1, 0, none⟩) 4 p.2) ++ [.slice (some ⟨g, 0, none⟩) 4 c])) (hg : w.grownBy w' v.ownBlock) : GathV w' B v' (L ++ [(g, c)]) := by
  refine ⟨?_, fun p hp => ?_⟩
  · rw [List.map_append, List.length_append]
    exact ho
  · rcases List.mem_append.1 hp with hp | hp
    · obtain ⟨h1, h2, h3⟩ := h.2 p hp
      exact ⟨h1, h2.grown h.1 (by decide) hg, h3⟩
    · obtain rfl : p = (g, c) := by simpa using hp
      exact ⟨hB, hf.grown h.1 (by decide) hg, hc⟩
theorem Tryz.infoIS : (Tryz.prog.info? 25).map (fun i => (i.zero, i.size, i.bytes)) = some (some (.slice none 0 0), 1, 24) := by kernel_rfl
theorem Tryz.infoZZ : (Tryz.prog.info? 3).map (fun i => (i.zero, i.size, i.bytes)) = some (some (.int .i64 0), 1, 8) := by kernel_rfl

set_option maxHeartbeats 1600000 in
theorem l6Story_any (R n c p : Nat) (ab : Option Addr) (N : Nat) (w : World) (hr : Rd w R ab n c p) (hp : p ≤ 80000) (hN0 : 1 ≤ N) (hN1 : N ≤ 100) :
    Calls Tryz.prog 62 #[.pointer (some ⟨R, 0, none⟩), .int .i64 N] w fun e w' => (∃ v L p', e = .returned v ∧ GathV w' w.heap.size v L ∧ L.length = N ∧ Rd w' R ab n c p' ∧ p' ≤ p + N) ∧ But R w w' := by
  obtain ⟨i0, hi, hz0, hz1, hz2⟩ := info_parts Tryz.infoIS
  obtain ⟨j0, hj, hy0, hy1, hy2⟩ := info_parts Tryz.infoZZ
  have hR := hr.lt
  go_enter Tryz.func62, Tryz.ntmps62
  go_wp2_with fail
  have hb0 : Below w.heap.size w ((w.alloc (.cells #[.int .i64 1, .int .i64 1, .int .i64 1, .int .i64 1] 3)).alloc (.cells #[.slice (some ⟨w.heap.size, 0, none⟩) 4 4] 25)) := ((Below.refl _ _).alloc (Nat.le_refl _) _).alloc (by simp) _
  have hf0 : Four ((w.alloc (.cells #[.int .i64 1, .int .i64 1, .int .i64 1, .int .i64 1] 3)).alloc (.cells #[.slice (some ⟨w.heap.size, 0, none⟩) 4 4] 25)) w.heap.size 1 := Four.below (w := w.alloc (.cells #[.int .i64 1, .int .i64 1, .int .i64 1, .int .i64 1] 3)) ⟨4, fun _ => .int .i64 1, World.rowIs_alloc w #[.int .i64 1, .int .i64 1, .int .i64 1, .int .i64 1] 3 _ (fun i hi => by
      have hi' : i < 4 := hi
      rcases (by omega : i = 0 ∨ i = 1 ∨ i = 2 ∨ i = 3) with rfl | rfl | rfl | rfl <;> rfl), Nat.le_refl _, fun j _ => ⟨1, rfl, by omega, by omega⟩⟩ ((Below.refl _ _).alloc (Nat.le_refl _) _)
  have hg0 : GathV ((w.alloc (.cells #[.int .i64 1, .int .i64 1, .int .i64 1, .int .i64 1] 3)).alloc (.cells #[.slice (some ⟨w.heap.size, 0, none⟩) 4 4] 25)) w.heap.size (.slice (some ⟨w.heap.size + 1, 0, none⟩) 1 1) [(w.heap.size, 4)] :=
    ⟨⟨rfl, .inr ⟨w.heap.size + 1, 1, #[.slice (some ⟨w.heap.size, 0, none⟩) 4 4], rfl, Nat.le_succ _, by
      have q := heap_alloc_new (w.alloc (.cells #[.int .i64 1, .int .i64 1, .int .i64 1, .int .i64 1] 3)) (.cells #[.slice (some ⟨w.heap.size, 0, none⟩) 4 4] 25)
      simpa using q, Nat.le_refl _, by unfold maxLen; omega, rfl, rfl⟩⟩, fun p hp => by
        obtain rfl : p = (w.heap.size, 4) := by simpa using hp
        exact ⟨Nat.le_refl _, hf0.mono (by omega), Nat.le_refl _⟩⟩
  have hr0 := hr.below hb0
  generalize ((w.alloc (.cells #[.int .i64 1, .int .i64 1, .int .i64 1, .int .i64 1] 3)).alloc (.cells #[.slice (some ⟨w.heap.size, 0, none⟩) 4 4] 25)) = W0 at *
  have hB0 : But R w W0 := But.of_below hb0
  clear hb0 hr
  go_loopw [5, 6, 7] (fun at' out i wr => ∃ (k p' ga ca : Nat) (L : List (Nat × Nat)), 1 ≤ k ∧ k ≤ N ∧ i = .int .i64 k ∧ at' = .slice (some ⟨ga, 0, none⟩) 4 ca ∧ w.heap.size ≤ ga ∧ Four wr ga k ∧ GathV wr w.heap.size out L ∧ L.length = k ∧ Rd wr R ab n c p' ∧ p' + 1 ≤ p + k ∧ But R w wr) (fun _ _ i _ => N - (intOf i).toNat)
  case atStart => exact ⟨1, p, _, 4, _, Nat.le_refl _, hN0, rfl, rfl, Nat.le_refl _, hf0, hg0, rfl, hr0, by omega, hB0⟩
  case round =>
    obtain ⟨k, p', ga, ca, L, hk1, hkN, rfl, rfl, hga, hfa, hg, hLl, hrr, hpp, hb⟩ := hrel
    by_cases hlt : k < N
    · clear hf0 hg0 hr0 hB0
      have hzr := hb.size
      obtain ⟨v0, e0, v00, v01⟩ := hfa.cell (j := 0) (by omega)
      obtain ⟨v1, e1, v10, v11⟩ := hfa.cell (j := 1) (by omega)
      obtain ⟨v2, e2, v20, v21⟩ := hfa.cell (j := 2) (by omega)
      obtain ⟨v3, e3, v30, v31⟩ := hfa.cell (j := 3) (by omega)
      have hbx : Below wr.heap.size wr (wr.alloc (.cells #[] 3)) := (Below.refl _ _).alloc (Nat.le_refl _) _
      have hox : (wr.alloc (.cells #[] 3)).ownsRow wr.heap.size 3 1 (.slice (some ⟨wr.heap.size, 0, none⟩) 0 0) 0 [] := ⟨rfl, .inr ⟨wr.heap.size, 0, #[], rfl, Nat.le_refl _, heap_alloc_new wr _, Nat.le_refl _, Nat.zero_le _, rfl, rfl⟩⟩
      have hlg := hfa.lt
      go_wp2_with (at_builtin; refine wpList_append_lies _ rfl _ _ 25 rfl wr.heap.size 3 j0 (.int .i64 0) 1 8 Tryz.underlying25 hj hy0 hy1 hy2 rfl (by decide) _ _ _ rfl hox ⟨ga, 0, none⟩ 4 ca [.int .i64 v0, .int .i64 v1, .int .i64 v2, .int .i64 v3] rfl rfl (fun j u hu => by
          match j, hu with
          | 0, hu => simp at hu; subst hu; exact cell_on hbx hlg e0
          | 1, hu => simp at hu; subst hu; exact cell_on hbx hlg e1
          | 2, hu => simp at hu; subst hu; exact cell_on hbx hlg e2
          | 3, hu => simp at hu; subst hu; exact cell_on hbx hlg e3) (by simp [Value.oneCell']) (by decide) (by unfold maxLen; omega) (by omega) (by simp) _ rfl ?_; intro gn cn w1 hown hgrow _ _)
      have b1 : Below wr.heap.size wr w1 := hbx.grown hgrow (by simp) (owns_from hox)
      obtain ⟨hgn, hcn, m1, f1, hr1, hm1, hf1⟩ := owns1_row hown
      have hF1 : Four w1 gn k := ⟨m1, f1, hr1, hm1, fun j hj => by
        rcases (by omega : j = 0 ∨ j = 1 ∨ j = 2 ∨ j = 3) with rfl | rfl | rfl | rfl
        · exact ⟨v0, hf1 0 _ rfl, v00, v01⟩
        · exact ⟨v1, hf1 1 _ rfl, v10, v11⟩
        · exact ⟨v2, hf1 2 _ rfl, v20, v21⟩
        · exact ⟨v3, hf1 3 _ rfl, v30, v31⟩⟩
      have yz1 := b1.size
      have hRr : R < wr.heap.size := hrr.lt
      have hb1 : But R w w1 := hb.trans (But.of_below b1)
      have hg1 := hg.keep b1
      have hr1' := hrr.below b1
      have U1 : ButU R wr.heap.size wr w1 := butU_of b1
      clear hown hgrow hr1 hf1 hm1 e0 e1 e2 e3 hox hbx hrr b1 hfa
      refine (pick_any R n c p' ab 4 w1 hr1' (by omega) (by omega) (by omega)).mono ?_
      rintro e w2 ⟨⟨y, rfl, hy0', hy1'⟩, hr2, hb2⟩
      obtain ⟨j, rfl⟩ := Int.eq_ofNat_of_zero_le hy0'
      have hF2 := hF1.but hb2 (by omega)
      have hB2 := hb1.trans hb2
      have U2 : ButU R wr.heap.size wr w2 := U1.trans (hb2.upto yz1)
      have hj4 : j < 4 := by omega
      obtain ⟨u, c2, hu0, hu1⟩ := hF2.cell hj4
      have fr2 := hF2.free j
      have yz2 := U2.size
      have hF3 : Four (w2.setCell ⟨gn, j, none⟩ (.int .i64 (u + 1))) gn ((k + 1 : Nat) : Int) := (hF2.mono (by omega)).set (by omega) (by omega)
      have hB3 : But R w (w2.setCell ⟨gn, j, none⟩ (.int .i64 (u + 1))) := hB2.setOut (by omega) _ _
      have U3 : ButU R wr.heap.size wr (w2.setCell ⟨gn, j, none⟩ (.int .i64 (u + 1))) := U2.trans (((But.refl gn w2).setCell _ _).out hgn yz2)
      have hr3 : Rd (w2.setCell ⟨gn, j, none⟩ (.int .i64 (u + 1))) R ab n c (p' + 1) := hr2.same fun q hq => Below.heap_setCell _ _ _ _ (by simp only; omega)
      have hbz : Below (w2.setCell ⟨gn, j, none⟩ (.int .i64 (u + 1))).heap.size (w2.setCell ⟨gn, j, none⟩ (.int .i64 (u + 1))) ((w2.setCell ⟨gn, j, none⟩ (.int .i64 (u + 1))).alloc (.cells #[.slice (some ⟨gn, 0, none⟩) 4 cn] 25)) := (Below.refl _ _).alloc (Nat.le_refl _) _
      have hF4 := hF3.below hbz
      have hB4 : But R w ((w2.setCell ⟨gn, j, none⟩ (.int .i64 (u + 1))).alloc (.cells #[.slice (some ⟨gn, 0, none⟩) 4 cn] 25)) := hB3.trans (But.of_below hbz)
      have hg4 : GathV ((w2.setCell ⟨gn, j, none⟩ (.int .i64 (u + 1))).alloc (.cells #[.slice (some ⟨gn, 0, none⟩) 4 cn] 25)) w.heap.size u6 L := (hg.upto U3 hR).keep hbz
      have hr4 := hr3.below hbz
      have hsz : (w2.setCell ⟨gn, j, none⟩ (.int .i64 (u + 1))).heap.size = w2.heap.size := by simp [World.setCell]
      have k0 : (0 : Int) ≤ (j : Int) := by omega
      have cz : ((w2.setCell ⟨gn, j, none⟩ (.int .i64 (u + 1))).alloc (.cells #[.slice (some ⟨gn, 0, none⟩) 4 cn] 25)).cell? ⟨w2.heap.size, 0, none⟩ = some (.slice (some ⟨gn, 0, none⟩) 4 cn) := by
        have q := box_one (w2.setCell ⟨gn, j, none⟩ (.int .i64 (u + 1))) (.slice (some ⟨gn, 0, none⟩) 4 cn) 25
        rw [hsz] at q
        exact q
      have HP : Hid _ := And.intro hF4 (And.intro hB4 (And.intro hg4 (And.intro hr4 cz)))
      clear hF1 hF2 hF3 hB2 hB3 U1 U2 U3 hr2 hr3 hg hg1 hb hb1 hb2 hr1' hbz hF4 hB4 hg4 hr4 cz
      go_wp2_with (at_builtin; refine wpList_append_lies _ rfl _ _ 57 rfl w.heap.size 25 i0 (.slice none 0 0) 1 24 Tryz.underlying57 hi hz0 hz1 hz2 rfl (by decide) _ _ _ rfl HP.out.2.2.1.1 ⟨w2.heap.size, 0, none⟩ 1 1 [.slice (some ⟨gn, 0, none⟩) 4 cn] rfl rfl (fun j u hu => by
          match j, hu with
          | 0, hu => simp at hu; subst hu; exact HP.out.2.2.2.2) (by simp [Value.oneCell']) (by decide) (by unfold maxLen; omega) (by omega) (by have := HP.out.2.1.size; omega) _ rfl ?_; intro g5 c5 w5 hown5 hgrow5 _ _)
      obtain ⟨hF4, hB4, hg4, hr4, _⟩ := HP.out
      have hF5 := hF4.grown hg4.1 (by decide) hgrow5
      have hg5 := hg4.snoc (by omega) (hF4.mono (by omega)) hcn hown5 hgrow5
      have hB5 : But R w w5 := hB4.grown hgrow5 (owns_from hg4.1)
      have hr5 := hr4.grown hgrow5 (fun q e => by have := owns_from hg4.1 q e; omega)
      rw [hLl] at hg5
      exact ⟨⟨k + 1, p' + 1, gn, cn, L ++ [(gn, cn)], by omega, by omega, by go_num, rfl, by omega, hF5, hg5, by simp [hLl], hr5, by omega, hB5⟩, by simp [intOf]; omega⟩
    · have hLN : L.length = N := by omega
      go_wp2_with fail
      go_ret
      exact ⟨⟨_, L, p', rfl, hg, hLN, hrr, by omega⟩, hb⟩

end Go.Proofs.YtpfhegengmlkmaaGreat
