/- Walks: l1Mark, l1Marks, spec.StampRead. -/
import Derived.Test.YtpfhegengmlkmaaDoorRdS2
import Derived.Test.YtpfhegengmlkmaaDoorWf
namespace Go.Proofs.YtpfhegengmlkmaaDoor
open Go.RowKit Go.BigFrame

def MkR (u : List UInt8) (m : ByteArray × Int) (ok : Bool) : Prop := (ok = true → MarkP m → Word u m) ∧ (∀ m', Word u m' → ok = true ∧ m = m')
/-- A call answered a mark and whether: what l1Mark tells of a word. -/
def MkE (u : List UInt8) (e : Ending) : Prop := ∃ m ok, e = .returned (.tuple #[.agg #[.string m.1, .int .i64 m.2], .bool ok]) ∧ MkR u m ok ∧ m.1.size ≤ u.length

theorem nbs_of {s : ByteArray} (h : ∀ j, (h : j < s.size) → NB (s[j].toNat : Int)) : NBs (bl s) := fun x hx => by
  obtain ⟨j, hj⟩ := List.getElem?_of_mem hx
  have hl : j < s.size := by
    have := (List.getElem?_eq_some_iff.1 hj).1
    rwa [bl_length] at this
  rw [bl_at s j hl] at hj
  have e : s[j] = x := by simpa using hj
  rw [← e]
  exact h j hl
theorem mkR_pair {t a b : ByteArray} {n : Int} {ok : Bool} (hs : splitL 58 (bl t) = [bl a, bl b]) (h : NumR (bl b) n ok) : MkR (bl t) (a, n) ok := by
  obtain ⟨e, h1, h2⟩ := splitL_pair hs
  refine ⟨fun hok hm => ⟨bl b, e, nbs_of hm.1.2.2, h.1 hok hm.2.1 hm.2.2⟩, fun m' hw => ?_⟩
  obtain ⟨d, e', hd⟩ := hw.split
  rw [hs] at e'
  simp only [List.cons.injEq, and_true] at e'
  obtain ⟨e1, e2⟩ := e'
  rw [← e2] at hd
  obtain ⟨k1, k2⟩ := h.2 _ hd
  exact ⟨k1, Prod.ext (data_inj e1) k2⟩

theorem l1Split_58 (t : ByteArray) (w : World) (ht : t.size ≤ 1000000) :
    Calls Tryd.prog 23 #[.string t, .int .u8 58] w fun e w' => (∃ v us, e = .returned v ∧ GathS w' w.heap.size v us ∧ us.map bl = splitL 58 (bl t)) ∧ Below w.heap.size w w' := l1Split_any t 58 w ht
theorem l1Split_32 (t : ByteArray) (w : World) (ht : t.size ≤ 1000000) :
    Calls Tryd.prog 23 #[.string t, .int .u8 32] w fun e w' => (∃ v us, e = .returned v ∧ GathS w' w.heap.size v us ∧ us.map bl = splitL 32 (bl t)) ∧ Below w.heap.size w w' := l1Split_any t 32 w ht

set_option maxHeartbeats 1600000 in
theorem l1Mark_any (t : ByteArray) (w : World) (ht : t.size ≤ 1000000) :
    Calls Tryd.prog 34 #[.string t] w fun e w' => MkE (bl t) e ∧ Below w.heap.size w w' := by
  go_enter Tryd.func34, Tryd.ntmps34
  go_wp2_with fail
  have bx0 := box0 w (.string ⟨#[]⟩) (.int .i64 0) 37
  have bx1 := box1 w (.string ⟨#[]⟩) (.int .i64 0) 37
  have fx0 : (w.alloc (.cells #[.string ⟨#[]⟩, .int .i64 0] 37)).frozen? ⟨w.heap.size, 0, none⟩ = false := by simp [go_sem]
  have fx1 : (w.alloc (.cells #[.string ⟨#[]⟩, .int .i64 0] 37)).frozen? ⟨w.heap.size, 1, none⟩ = false := by simp [go_sem]
  have hlx := box_lt w (.cells #[.string ⟨#[]⟩, .int .i64 0] 37)
  have hb0 : Below w.heap.size w (w.alloc (.cells #[.string ⟨#[]⟩, .int .i64 0] 37)) := (Below.refl _ _).alloc (Nat.le_refl _) _
  generalize w.alloc (.cells #[.string ⟨#[]⟩, .int .i64 0] 37) = W0 at *
  refine (l1Split_58 t _ ht).mono ?_
  rintro e w1 ⟨⟨v, us, rfl, hg1, hus⟩, b1⟩
  have x0 := cell_on b1 hlx bx0
  have x1 := cell_on b1 hlx bx1
  have f0 := (b1.frozen (p := ⟨w.heap.size, 0, none⟩) hlx).trans fx0
  have f1 := (b1.frozen (p := ⟨w.heap.size, 1, none⟩) hlx).trans fx1
  have B1 : Below w.heap.size w w1 := hb0.trans (b1.mono hb0.size)
  clear bx0 bx1 fx0 fx1 hb0
  obtain ⟨ap, cp, rfl, hrow⟩ := hg1.shape
  by_cases h2 : us.length = 2
  · match us, h2 with
    | [a, b], _ =>
      have hs : splitL 58 (bl t) = [bl a, bl b] := hus.symm
      obtain ⟨e0, _, _⟩ := splitL_pair hs
      have hlen := congrArg List.length e0
      rw [List.length_append, List.length_cons, bl_length, bl_length, bl_length] at hlen
      obtain ⟨q, o, rfl, hq, c0⟩ := hrow 0 (by simp)
      obtain ⟨q', o', e2, hq', c1⟩ := hrow 1 (by simp)
      obtain ⟨rfl, rfl⟩ : q = q' ∧ o = o' := by simpa using e2
      have c0 : w1.cell? ⟨q, o, none⟩ = some (.string a) := c0
      have c1 : w1.cell? ⟨q, o + 1, none⟩ = some (.string b) := c1
      have HS : Hid (splitL 58 (bl t) = [bl a, bl b]) := hs
      clear hs hus hg1 hrow e0 e2
      go_wp2_with fail
      refine (l1Num_any b _ (by omega)).mono ?_
      rintro e w2 ⟨⟨n, ok, rfl, hn⟩, rfl⟩
      have H : Hid (MkR (bl t) (a, n) ok) := mkR_pair HS.out hn
      clear hn HS
      have y0 : ((w2.setCell ⟨w.heap.size, 0, none⟩ (.string a)).setCell ⟨w.heap.size, 1, none⟩ (.int .i64 n)).cell? ⟨w.heap.size, 0, none⟩ = some (.string a) := by simp [go_sem, x0]
      have y1 : ((w2.setCell ⟨w.heap.size, 0, none⟩ (.string a)).setCell ⟨w.heap.size, 1, none⟩ (.int .i64 n)).cell? ⟨w.heap.size, 1, none⟩ = some (.int .i64 n) := by simp [go_sem, x1]
      go_wp2_with fail
      exact bodyPost_ret (v := .tuple #[.agg #[.string a, .int .i64 n], .bool ok]) (by simp [results, Tryd.results34, go_sem, y0, y1]) rfl ⟨⟨(a, n), ok, rfl, H.out, by rw [bl_length]; show a.size ≤ t.size; omega⟩, (B1.setCell (Nat.le_refl _) _).setCell (Nat.le_refl _) _⟩
  · have h2' : ((us.length : Int) != 2) = true := by rw [bne_iff_ne]; omega
    have H : Hid (MkR (bl t) (.empty, 0) false) := ⟨fun e => Bool.noConfusion e, fun m' hw => by
      obtain ⟨d, e', _⟩ := hw.split
      rw [← hus] at e'
      have := congrArg List.length e'
      simp at this
      omega⟩
    clear hus hg1 hrow
    have y0 : ((w1.setCell ⟨w.heap.size, 0, none⟩ (.string ⟨#[]⟩)).setCell ⟨w.heap.size, 1, none⟩ (.int .i64 0)).cell? ⟨w.heap.size, 0, none⟩ = some (.string ⟨#[]⟩) := by simp [go_sem, x0]
    have y1 : ((w1.setCell ⟨w.heap.size, 0, none⟩ (.string ⟨#[]⟩)).setCell ⟨w.heap.size, 1, none⟩ (.int .i64 0)).cell? ⟨w.heap.size, 1, none⟩ = some (.int .i64 0) := by simp [go_sem, x1]
    go_wp2_with fail
    exact bodyPost_ret (v := .tuple #[.agg #[.string ⟨#[]⟩, .int .i64 0], .bool false]) (by simp [results, Tryd.results34, go_sem, y0, y1]) rfl ⟨⟨(.empty, 0), false, rfl, H.out, Nat.zero_le _⟩, (B1.setCell (Nat.le_refl _) _).setCell (Nat.le_refl _) _⟩

end Go.Proofs.YtpfhegengmlkmaaDoor
