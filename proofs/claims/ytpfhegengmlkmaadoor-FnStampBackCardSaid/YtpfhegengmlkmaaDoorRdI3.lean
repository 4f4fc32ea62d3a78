/- Walks: impl's reader of a stamp's text: mark. -/
import Derived.Test.YtpfhegengmlkmaaDoorRdI2
import Derived.Test.YtpfhegengmlkmaaDoorRdS4
namespace Go.Proofs.YtpfhegengmlkmaaDoor
open Go.RowKit Go.BigFrame

/-- What mark() read. -/
def MarkR (r : List UInt8) (m : ByteArray × Int) (ok : Bool) (r' : List UInt8) : Prop :=
  (ok = true → ∃ d, r = bl m.1 ++ 58 :: (d ++ r') ∧ NBs (bl m.1) ∧ Dig d m.2 ∧ NoDig r') ∧ (ok = false → ∀ (m' : ByteArray × Int) d q, r = bl m'.1 ++ 58 :: (d ++ q) → NBs (bl m'.1) → Dig d m'.2 → NoDig q → False)
def MarkE (w : World) (R : Nat) (t : ByteArray) (p : Nat) (e : Ending) : Prop := ∃ m ok p', e = .returned (.tuple #[.agg #[.string m.1, .int .i64 m.2], .bool ok]) ∧ Sr w R t p' ∧ p ≤ p' ∧ MarkR ((bl t).drop p) m ok ((bl t).drop p') ∧ m.1.size ≤ 1000

/-- A name that ends where no name byte stands is all that is ahead of the colon. -/
theorem name_cut {n n' r x : List UInt8} (he : n ++ r = n' ++ 58 :: x) (hn : NBs n) (hn' : NBs n') (hr : ∀ y, r.head? = some y → ¬ NB (y.toNat : Int)) : n = n' ∧ r = 58 :: x :=
  run_one (p := fun y => NB (y.toNat : Int)) he hn hn' hr (fun y hy => by
    simp at hy
    subst hy
    unfold NB
    decide)
theorem markR_no {r n q : List UInt8} {m : ByteArray × Int} (r' : List UInt8) (he : r = n ++ q) (hn : NBs n) (hq : ∀ y, q.head? = some y → ¬ NB (y.toNat : Int)) (h58 : q.head? ≠ some 58) : MarkR r m false r' :=
  ⟨fun e => Bool.noConfusion e, fun _ m' d z he' hn' _ _ => by
    rw [he] at he'
    obtain ⟨_, e2⟩ := name_cut he' hn hn' hq
    exact h58 (by rw [e2]; rfl)⟩
theorem markR_ver {r q r' : List UInt8} {s : ByteArray} {v : Int} {ok : Bool} (he : r = bl s ++ 58 :: q) (hn : NBs (bl s)) (hv : VerR q v ok r') : MarkR r (s, v) ok r' := by
  refine ⟨fun h => ?_, fun h m' d z he' hn' hd hz => ?_⟩
  · obtain ⟨d, h1, h2, h3⟩ := hv.1 h
    exact ⟨d, by rw [he, h1], hn, h2, h3⟩
  · rw [he] at he'
    obtain ⟨_, e2⟩ := cut_one he' (nbs_not hn (.inl rfl)) (nbs_not hn' (.inl rfl))
    exact hv.2 h d z m'.2 e2 hd hz

theorem take_58 (R p : Nat) (t : ByteArray) (w : World) (hr : Sr w R t p) :
    Calls Tryd.prog 33 #[.pointer (some ⟨R, 0, none⟩), .int .u8 58] w fun e w' => TakeE w' R t p 58 e ∧ But R w w' := take_any R p t 58 w hr
theorem take_32 (R p : Nat) (t : ByteArray) (w : World) (hr : Sr w R t p) :
    Calls Tryd.prog 33 #[.pointer (some ⟨R, 0, none⟩), .int .u8 32] w fun e w' => TakeE w' R t p 32 e ∧ But R w w' := take_any R p t 32 w hr
theorem But.frozen {R : Nat} {w w' : World} (h : But R w w') {b : Nat} (o : Nat) (hb : b < w.heap.size) (hne : b ≠ R) : w'.frozen? ⟨b, o, none⟩ = w.frozen? ⟨b, o, none⟩ := World.frozen?_of_block (h.block b hb hne)
theorem But.cell' {R : Nat} {w w' : World} (h : But R w w') {b : Nat} (o : Nat) (hb : b < w.heap.size) (hne : b ≠ R) : w'.cell? ⟨b, o, none⟩ = w.cell? ⟨b, o, none⟩ := World.cell?_of_block (h.block b hb hne)
theorem But.setNew {R B : Nat} {x w : World} (h : But R x w) (hB : x.heap.size ≤ B) (i : Nat) (v : Value) : But R x (w.setCell ⟨B, i, none⟩ v) :=
  ⟨h.os, h.tape, h.output, by simpa using h.size, fun k hk hn => (Below.heap_setCell _ _ _ _ (by simp only; omega)).trans (h.block k hk hn)⟩
theorem Sr.setNew {w : World} {R p B : Nat} {t : ByteArray} (h : Sr w R t p) (hB : B ≠ R) (i : Nat) (v : Value) : Sr (w.setCell ⟨B, i, none⟩ v) R t p := h.same (Below.heap_setCell _ _ _ _ (by simp only; omega))

set_option maxHeartbeats 1600000 in
theorem mark_any (R p : Nat) (t : ByteArray) (w : World) (hr : Sr w R t p) :
    Calls Tryd.prog 32 #[.pointer (some ⟨R, 0, none⟩)] w fun e w' => MarkE w' R t p e ∧ But R w w' := by
  have hR := hr.lt
  go_enter Tryd.func32, Tryd.ntmps32
  go_wp2_with fail
  have bx0 := box0 w (.string ⟨#[]⟩) (.int .i64 0) 37
  have bx1 := box1 w (.string ⟨#[]⟩) (.int .i64 0) 37
  have fx0 : (w.alloc (.cells #[.string ⟨#[]⟩, .int .i64 0] 37)).frozen? ⟨w.heap.size, 0, none⟩ = false := by simp [go_sem]
  have fx1 : (w.alloc (.cells #[.string ⟨#[]⟩, .int .i64 0] 37)).frozen? ⟨w.heap.size, 1, none⟩ = false := by simp [go_sem]
  have hlx := box_lt w (.cells #[.string ⟨#[]⟩, .int .i64 0] 37)
  have hb0 : Below w.heap.size w (w.alloc (.cells #[.string ⟨#[]⟩, .int .i64 0] 37)) := (Below.refl _ _).alloc (Nat.le_refl _) _
  replace hr := hr.below hb0
  have hbu : But R w (w.alloc (.cells #[.string ⟨#[]⟩, .int .i64 0] 37)) := But.of_below hb0
  generalize w.alloc (.cells #[.string ⟨#[]⟩, .int .i64 0] 37) = W0 at *
  clear hb0
  refine (name_any R p t _ hr).mono ?_
  rintro e w1 ⟨⟨s, p1, rfl, hr1, hp1, he1, hn1, hq1, hs1⟩, b1⟩
  replace bx0 := (b1.cell' 0 hlx (by omega)).trans bx0
  replace bx1 := (b1.cell' 1 hlx (by omega)).trans bx1
  replace fx0 := (b1.frozen 0 hlx (by omega)).trans fx0
  replace fx1 := (b1.frozen 1 hlx (by omega)).trans fx1
  replace hlx := Nat.lt_of_lt_of_le hlx b1.size
  replace hbu := hbu.trans b1
  have HE1 : Hid ((bl t).drop p = bl s ++ (bl t).drop p1) := he1
  have HN1 : Hid (NBs (bl s)) := hn1
  have HQ1 : Hid (∀ x, ((bl t).drop p1).head? = some x → ¬ NB (x.toNat : Int)) := hq1
  clear he1 hn1 hq1 b1 hr
  go_wp2_with fail
  refine (take_58 R p1 t _ hr1).mono ?_
  rintro e w2 ⟨hT, b2⟩
  replace bx0 := (b2.cell' 0 hlx (by omega)).trans bx0
  replace bx1 := (b2.cell' 1 hlx (by omega)).trans bx1
  replace fx0 := (b2.frozen 0 hlx (by omega)).trans fx0
  replace fx1 := (b2.frozen 1 hlx (by omega)).trans fx1
  replace hlx := Nat.lt_of_lt_of_le hlx b2.size
  replace hbu := hbu.trans b2
  clear b2 hr1
  rcases hT with ⟨hlt, h58, rfl, hr2⟩ | ⟨hno, rfl, hr2⟩
  · have HE2 : Hid ((bl t).drop p = bl s ++ 58 :: (bl t).drop (p1 + 1)) := by
      unfold Hid
      rw [HE1.out, pk_drop hlt, h58]
    clear h58 HE1 HQ1
    go_wp2_with fail
    refine (version_any R (p1 + 1) t _ hr2).mono ?_
    rintro e w3 ⟨⟨v, ok, p3, rfl, hr3, hp3, hv3⟩, b3⟩
    replace bx0 := (b3.cell' 0 hlx (by omega)).trans bx0
    replace bx1 := (b3.cell' 1 hlx (by omega)).trans bx1
    replace fx0 := (b3.frozen 0 hlx (by omega)).trans fx0
    replace fx1 := (b3.frozen 1 hlx (by omega)).trans fx1
    replace hbu := hbu.trans b3
    have HMR : Hid (MarkR ((bl t).drop p) (s, v) ok ((bl t).drop p3)) := markR_ver HE2.out HN1.out hv3
    clear hv3 b3 hr2 HE2 HN1
    have y0 : ((w3.setCell ⟨w.heap.size, 0, none⟩ (.string s)).setCell ⟨w.heap.size, 1, none⟩ (.int .i64 v)).cell? ⟨w.heap.size, 0, none⟩ = some (.string s) := by simp [go_sem, bx0]
    have y1 : ((w3.setCell ⟨w.heap.size, 0, none⟩ (.string s)).setCell ⟨w.heap.size, 1, none⟩ (.int .i64 v)).cell? ⟨w.heap.size, 1, none⟩ = some (.int .i64 v) := by simp [go_sem, bx1]
    go_wp2_with fail
    exact bodyPost_ret (v := .tuple #[.agg #[.string s, .int .i64 v], .bool ok]) (by simp [results, Tryd.results32, go_sem, y0, y1]) rfl ⟨⟨(s, v), ok, p3, rfl, (hr3.setNew (by omega) _ _).setNew (by omega) _ _, by omega, HMR.out, hs1⟩, (hbu.setNew (Nat.le_refl _) _ _).setNew (Nat.le_refl _) _ _⟩
  · have HMR : Hid (MarkR ((bl t).drop p) (.empty, 0) false ((bl t).drop p1)) := markR_no _ HE1.out HN1.out HQ1.out (fun e => hno (pk_head.1 e))
    clear hno HE1 HN1 HQ1
    have y0 : ((w2.setCell ⟨w.heap.size, 0, none⟩ (.string ⟨#[]⟩)).setCell ⟨w.heap.size, 1, none⟩ (.int .i64 0)).cell? ⟨w.heap.size, 0, none⟩ = some (.string ⟨#[]⟩) := by simp [go_sem, bx0]
    have y1 : ((w2.setCell ⟨w.heap.size, 0, none⟩ (.string ⟨#[]⟩)).setCell ⟨w.heap.size, 1, none⟩ (.int .i64 0)).cell? ⟨w.heap.size, 1, none⟩ = some (.int .i64 0) := by simp [go_sem, bx1]
    go_wp2_with fail
    exact bodyPost_ret (v := .tuple #[.agg #[.string ⟨#[]⟩, .int .i64 0], .bool false]) (by simp [results, Tryd.results32, go_sem, y0, y1]) rfl ⟨⟨(.empty, 0), false, p1, rfl, (hr2.setNew (by omega) _ _).setNew (by omega) _ _, hp1, HMR.out, Nat.zero_le _⟩, (hbu.setNew (Nat.le_refl _) _ _).setNew (Nat.le_refl _) _ _⟩

end Go.Proofs.YtpfhegengmlkmaaDoor
