/- Walks: l1Marks, spec.StampRead. -/
import Derived.Test.YtpfhegengmlkmaaDoorRdS3
namespace Go.Proofs.YtpfhegengmlkmaaDoor
open Go.RowKit Go.BigFrame

theorem Words.at : ∀ {us : List (List UInt8)} {ms : List (ByteArray × Int)} (_ : Words us ms) {k : Nat} {u : List UInt8}, us[k]? = some u → ∃ m, ms[k]? = some m ∧ Word u m
  | u :: us, m :: ms, h, 0, _, e => ⟨m, rfl, by simp at e; rw [← e]; exact h.1⟩
  | u :: us, m :: ms, h, k + 1, _, e => by
    obtain ⟨m', h1, h2⟩ := Words.at h.2 (k := k) (by simpa using e)
    exact ⟨m', by simpa using h1, h2⟩
  | [], [], _, _, _, e => by simp at e
  | [], _ :: _, h, _, _, _ => h.elim
  | _ :: _, [], h, _, _, _ => h.elim
theorem words_of : ∀ {us : List (List UInt8)} {ms : List (ByteArray × Int)}, us.length = ms.length → (∀ (k : Nat) (u : List UInt8) (m : ByteArray × Int), us[k]? = some u → ms[k]? = some m → Word u m) → Words us ms
  | [], [], _, _ => trivial
  | u :: us, m :: ms, hl, h => ⟨h 0 u m rfl rfl, words_of (by simpa using hl) fun k u' m' h1 h2 => h (k + 1) u' m' (by simpa using h1) (by simpa using h2)⟩
  | [], _ :: _, hl, _ => by simp at hl
  | _ :: _, [], hl, _ => by simp at hl
/-- What is read of words. -/
def IsW (us : List (List UInt8)) (m : List (ByteArray × Int)) (ok : Bool) : Prop :=
  (us = [[45]] ∧ m = [] ∧ ok = true) ∨ (us ≠ [[45]] ∧ ((ok = true ∧ Words us m ∧ StampP m ∧ m ≠ []) ∨ (ok = false ∧ m = [] ∧ ∀ m', Words us m' → StampP m' → m' = [])))
def WE (w : World) (B : Nat) (us : List (List UInt8)) (e : Ending) : Prop := ∃ v m ok, e = .returned (.tuple #[v, .bool ok]) ∧ Gath w B v m ∧ IsW us m ok
def RE (w : World) (B : Nat) (t : ByteArray) (e : Ending) : Prop := ∃ v m ok, e = .returned (.tuple #[v, .bool ok]) ∧ Gath w B v m ∧ IsR t m ok

theorem isR_of_words {t : ByteArray} {m : List (ByteArray × Int)} {ok : Bool} (ht : t.size ≤ 400) (h : IsW (splitL 32 (bl t)) m ok) : IsR t m ok := by
  have hdash : splitL 32 (bl t) = [[45]] ↔ bl t = [45] := by
    constructor
    · intro e
      rcases splitL_two (c := 32) (bl t) with h1 | ⟨a, r, h1, h2⟩
      · rw [splitL_no h1] at e; simpa using e
      · rw [h1, splitL_cut h2] at e
        rcases splitL_two (c := 32) r with h3 | ⟨a', r', h3, h4⟩
        · rw [splitL_no h3] at e; simp at e
        · rw [h3, splitL_cut h4] at e; simp at e
    · intro e; rw [e]; decide
  rcases h with ⟨e, rfl, rfl⟩ | ⟨hne, h⟩
  · exact .inl ⟨rfl, ht, .inl ⟨hdash.1 e, rfl⟩⟩
  · rcases h with ⟨rfl, h1, h2, _⟩ | ⟨rfl, rfl, h1⟩
    · exact .inl ⟨rfl, ht, .inr ⟨h1, h2⟩⟩
    · refine .inr ⟨rfl, rfl, fun m' hA => ?_⟩
      rcases hA.2 with ⟨e, _⟩ | ⟨h3, h4⟩
      · exact hne (hdash.2 e)
      · have e := h1 m' h3 h4
        subst e
        have hl := h3.length
        rcases splitL_two (c := 32) (bl t) with h5 | ⟨a, r, h5, h6⟩
        · rw [show splitL 32 t.data.toList = [bl t] from splitL_no h5] at hl; simp at hl
        · rw [show splitL 32 t.data.toList = a :: splitL 32 r from by rw [show t.data.toList = a ++ 32 :: r from h5]; exact splitL_cut h6] at hl; simp at hl

/-- The first words are read as 'o', so far as any reading goes. -/
def RdI (us : List (List UInt8)) (o : List (ByteArray × Int)) : Prop := (∀ m', Words us m' → m'.take o.length = o) ∧ (∀ (k : Nat) (u : List UInt8) (m : ByteArray × Int), us[k]? = some u → o[k]? = some m → MarkP m → Word u m)
theorem rdI_start (us : List (List UInt8)) : RdI us [] := ⟨fun _ _ => by simp, fun k u m _ h => by simp at h⟩
theorem rdI_fail {us : List (List UInt8)} {o : List (ByteArray × Int)} {k : Nat} {u : List UInt8} {m : ByteArray × Int} (_ : RdI us o) (hu : us[k]? = some u) (hm : MkR u m false) (hne : us ≠ [[45]]) : IsW us [] false :=
  .inr ⟨hne, .inr ⟨rfl, rfl, fun m' hw => by
    obtain ⟨x, _, hx⟩ := hw.at hu
    exact absurd (hm.2 x hx).1 (by simp)⟩⟩
theorem rdI_step {us : List (List UInt8)} {o : List (ByteArray × Int)} {k : Nat} {u : List UInt8} {m : ByteArray × Int} (h : RdI us o) (hu : us[k]? = some u) (hk : o.length = k) (hm : MkR u m true) : RdI us (o ++ [m]) := by
  subst hk
  refine ⟨fun m' hw => ?_, fun j u' m' h1 h2 hp => ?_⟩
  · obtain ⟨x, hx, hx2⟩ := hw.at hu
    obtain ⟨hlt, rfl⟩ := List.getElem?_eq_some_iff.1 hx
    rw [List.length_append, List.length_singleton, List.take_succ_eq_append_getElem hlt, h.1 m' hw, ← (hm.2 _ hx2).2]
  · by_cases hj : j < o.length
    · rw [List.getElem?_append_left hj] at h2
      exact h.2 j u' m' h1 h2 hp
    · rw [List.getElem?_append_right (by omega)] at h2
      obtain ⟨h3, h4⟩ := List.getElem?_eq_some_iff.1 h2
      have e : j = o.length := by simp at h3; omega
      subst e
      simp at h4
      subst h4
      rw [hu] at h1
      obtain rfl : u = u' := by simpa using h1
      exact hm.1 rfl hp
theorem rdI_end {us : List (List UInt8)} {o : List (ByteArray × Int)} (h : RdI us o) (hl : o.length = us.length) : (StampP o → Words us o) ∧ (∀ m', Words us m' → m' = o) := by
  refine ⟨fun hs => words_of hl.symm fun k u m h1 h2 => h.2 k u m h1 h2 ?_, fun m' hw => ?_⟩
  · obtain ⟨h3, rfl⟩ := List.getElem?_eq_some_iff.1 h2
    exact hs.2.1 k h3
  · have e := h.1 m' hw
    rw [List.take_of_length_le (by rw [hw.length]; omega)] at e
    exact e

set_option maxHeartbeats 1600000 in
theorem l1Marks_any (a : Option Addr) (cap : Nat) (ws : List ByteArray) (w : World) (hl : ws.length ≤ 1000) (hs : ∀ u ∈ ws, u.size ≤ 1000) (hr : RowS w a ws) :
    Calls Tryd.prog 22 #[.slice a ws.length cap] w fun e w' => WE w' w.heap.size (ws.map bl) e ∧ Below w.heap.size w w' := by
  obtain ⟨i0, hi, hz0, hz1, hz2⟩ := info_parts Tryd.infoM
  go_enter Tryd.func22, Tryd.ntmps22
  by_cases h1 : ws.length = 1
  · have hpos : 0 < ws.length := by omega
    have hw : ws.map bl = [bl (ws[0]'hpos)] := by
      match ws, h1 with
      | [u], _ => rfl
    have h1' : ((ws.length : Int) == 1) = true := by rw [beq_iff_eq]; omega
    obtain ⟨b1, o1, rfl, hlt1, c0⟩ := hr 0 hpos
    have c0 : w.cell? ⟨b1, o1, none⟩ = some (.string ws[0]) := c0
    clear h1
    by_cases hu : ws[0] = ⟨#[45]⟩
    · have hu' : (ws[0].toList == [45]) = true := by rw [hu, ByteArray.toList_eq]; rfl
      have H : Hid (IsW (ws.map bl) [] true) := .inl ⟨by rw [hw, hu]; rfl, rfl, rfl⟩
      clear hu hr hw
      go_wp2_with fail
      exact bodyPost_ret (v := .tuple #[.slice none 0 0, .bool true]) (by simp [results, Tryd.results22, go_sem]) rfl ⟨⟨_, [], true, rfl, Gath.none _ _, H.out⟩, Below.refl _ _⟩
    · have hu' : (ws[0].toList == [45]) = false := by
        have h := toList_bne.2 hu
        rwa [show (⟨#[45]⟩ : ByteArray).toList = [45] from by rw [ByteArray.toList_eq]] at h
      have HNE : Hid (ws.map bl ≠ [[45]]) := fun e => hu (data_inj (show bl ws[0] = [45] by rw [hw] at e; simpa using e))
      clear hu hw
      go_wp2_with fail
      go_loopw [4, 5] (fun out iv wr => ∃ k : Nat, k ≤ ws.length ∧ iv = .int .i64 k ∧ ∃ o, Gath wr w.heap.size out o ∧ o.length = k ∧ (∀ m ∈ o, m.1.size ≤ 1000) ∧ RdI (ws.map bl) o ∧ Below w.heap.size w wr) (fun _ iv _ => ws.length - (intOf iv).toNat)
      case atStart => exact ⟨0, Nat.zero_le _, rfl, [], Gath.none _ _, rfl, by simp, rdI_start _, Below.refl _ _⟩
      case round =>
        obtain ⟨k, hk, rfl, o, hg, hol, hos, hI, hbl⟩ := hrel
        have hzr := hbl.size
        have HOL : Hid (o.length = k) := hol
        have hol' : o.length ≤ 1000 := by omega
        clear hol
        by_cases hlt : k < ws.length
        · obtain ⟨b2, o2, eb, hlt2, c0⟩ := hr k hlt
          obtain ⟨rfl, rfl⟩ : b1 = b2 ∧ o1 = o2 := by simpa using eb
          have e0 := cell_on hbl hlt1 c0
          have k0 : (0 : Int) ≤ (k : Int) := by omega
          have k1 : (k : Int) < (ws.length : Int) := by omega
          have hsz := hs _ (List.getElem_mem hlt)
          have hui : (ws.map bl)[k]? = some (bl ws[k]) := by simp [hlt]
          have HI : Hid (RdI (ws.map bl) o) := hI
          have HUI : Hid ((ws.map bl)[k]? = some (bl ws[k])) := hui
          clear hI hui
          go_wp2_with fail
          refine (l1Mark_any ws[k] _ (by omega)).mono ?_
          rintro e w2 ⟨⟨m, ok, rfl, hm, hms⟩, b2⟩
          rw [bl_length] at hms
          have B2 : Below w.heap.size w w2 := hbl.trans (b2.mono hzr)
          have hg2 := hg.keep b2
          have z2 := B2.size
          cases ok
          · have H : Hid (IsW (ws.map bl) [] false) := rdI_fail HI.out HUI.out hm HNE.out
            clear hm HI HUI
            go_wp2_with fail
            exact bodyPost_ret (v := .tuple #[.slice none 0 0, .bool false]) (by simp [results, Tryd.results22, go_sem]) rfl ⟨⟨_, [], false, rfl, Gath.none _ _, H.out⟩, B2.alloc z2 _⟩
          · have H : Hid (RdI (ws.map bl) (o ++ [m])) := rdI_step HI.out HUI.out HOL.out hm
            obtain ⟨ms, mv⟩ := m
            clear hm HI HUI
            have hg3 : (w2.alloc (.cells #[.string ms, .int .i64 mv] 37)).ownsRow w.heap.size 37 2 _ o.length (mcells o) := World.ownsRow.alloc hg2 _
            have hba : Below w.heap.size w (w2.alloc (.cells #[.string ms, .int .i64 mv] 37)) := B2.alloc z2 _
            have x0 := box0 w2 (.string ms) (.int .i64 mv) 37
            have x1 := box1 w2 (.string ms) (.int .i64 mv) 37
            have tn : ∀ j u, [Value.string ms, .int .i64 mv][j]? = some u → ((w2.alloc (.cells #[.string ms, .int .i64 mv] 37)).alloc (.cells #[.string ms, .int .i64 mv] 37)).cell? ((⟨w2.heap.size + 1, 0, none⟩ : Addr).add j) = some u := by
              have h := two_new (w2.alloc (.cells #[.string ms, .int .i64 mv] 37)) (.string ms) (.int .i64 mv) 37
              rw [World.size_alloc] at h
              exact h
            go_wp2_with (at_builtin; refine wpList_append_lies _ rfl _ _ 23 rfl w.heap.size 37 i0 (.agg #[.string .empty, .int .i64 0]) 2 24 Tryd.underlying23 hi hz0 hz1 hz2 rfl (by decide) _ _ _ rfl (World.ownsRow.alloc hg3 _) ⟨w2.heap.size + 1, 0, none⟩ 1 1 [.string ms, .int .i64 mv] rfl rfl tn (by simp [Value.oneCell']) (by decide) (by unfold maxLen; omega) (by omega) (by simp; omega) _ rfl ?_; intro g' cap' w5 hown' hgrow _ _)
            have hob := ownsRow_block hg3
            refine ⟨⟨k + 1, by omega, by go_num, o ++ [(ms, mv)], Gath.snoc hown', by have := HOL.out; simp; omega, fun m hm => ?_, H.out, (hba.alloc (by simp; omega) _).grown hgrow (by simp; omega) hob⟩, by simp [intOf]; omega⟩
            rcases List.mem_append.1 hm with h | h
            · exact hos m h
            · rw [List.mem_singleton.1 h]; show ms.size ≤ 1000; exact Nat.le_trans hms hsz
        · have HI : Hid (RdI (ws.map bl) o) := hI
          have HOK : Hid (o.length = ws.length) := by have := HOL.out; unfold Hid; omega
          clear hI
          obtain ⟨ao, co, rfl, hrow⟩ := hg.shape
          go_wp2_with fail
          refine (specOk_b ao co o _ (by unfold maxLen; omega) hrow (fun j hj => by have := hos _ (List.getElem_mem hj); unfold maxLen; omega)).mono ?_
          rintro e w3 ⟨⟨r, rfl, hr3⟩, b3⟩
          have B3 : Below w.heap.size w w3 := hbl.trans (b3.mono hzr)
          have hE := rdI_end HI.out (by rw [List.length_map]; exact HOK.out)
          cases r
          · have H : Hid (IsW (ws.map bl) [] false) := .inr ⟨HNE.out, .inr ⟨rfl, rfl, fun m' hw hs' => by
              rw [hE.2 m' hw] at hs'
              exact absurd (hr3.2 hs') (by simp)⟩⟩
            clear hE hr3 HI
            go_wp2_with fail
            exact bodyPost_ret (v := .tuple #[.slice none 0 0, .bool false]) (by simp [results, Tryd.results22, go_sem]) rfl ⟨⟨_, [], false, rfl, Gath.none _ _, H.out⟩, B3⟩
          by_cases ho0 : o.length = 0
          · have H : Hid (IsW (ws.map bl) [] false) := .inr ⟨HNE.out, .inr ⟨rfl, rfl, fun m' hw _ => by
              rw [hE.2 m' hw]
              exact List.length_eq_zero_iff.1 ho0⟩⟩
            have ho0' : ((o.length : Int) == 0) = true := by rw [beq_iff_eq]; omega
            clear hE hr3 HI
            go_wp2_with fail
            exact bodyPost_ret (v := .tuple #[.slice none 0 0, .bool false]) (by simp [results, Tryd.results22, go_sem]) rfl ⟨⟨_, [], false, rfl, Gath.none _ _, H.out⟩, B3⟩
          have ho0' : ((o.length : Int) == 0) = false := by rw [beq_eq_false_iff_ne]; omega
          have H : Hid (IsW (ws.map bl) o true) := .inr ⟨HNE.out, .inl ⟨rfl, hE.1 (hr3.1 rfl), hr3.1 rfl, fun e => ho0 (by rw [e]; rfl)⟩⟩
          clear hE hr3 HI
          go_wp2_with fail
          exact bodyPost_ret (v := .tuple #[.slice ao o.length co, .bool true]) (by simp [results, Tryd.results22, go_sem]) rfl ⟨⟨_, o, true, rfl, hg.keep b3, H.out⟩, B3⟩
  have h1' : ((ws.length : Int) == 1) = false := by rw [beq_eq_false_iff_ne]; omega
  have HNE : Hid (ws.map bl ≠ [[45]]) := fun e => h1 (by have := congrArg List.length e; simpa using this)
  go_wp2_with fail
  go_loopw [4, 5] (fun out iv wr => ∃ k : Nat, k ≤ ws.length ∧ iv = .int .i64 k ∧ ∃ o, Gath wr w.heap.size out o ∧ o.length = k ∧ (∀ m ∈ o, m.1.size ≤ 1000) ∧ RdI (ws.map bl) o ∧ Below w.heap.size w wr) (fun _ iv _ => ws.length - (intOf iv).toNat)
  case atStart => exact ⟨0, Nat.zero_le _, rfl, [], Gath.none _ _, rfl, by simp, rdI_start _, Below.refl _ _⟩
  case round =>
    obtain ⟨k, hk, rfl, o, hg, hol, hos, hI, hbl⟩ := hrel
    have hzr := hbl.size
    have HOL : Hid (o.length = k) := hol
    have hol' : o.length ≤ 1000 := by omega
    clear hol
    by_cases hlt : k < ws.length
    · obtain ⟨b1, o1, rfl, hlt1, c0⟩ := hr k hlt
      have e0 := cell_on hbl hlt1 c0
      have k0 : (0 : Int) ≤ (k : Int) := by omega
      have k1 : (k : Int) < (ws.length : Int) := by omega
      have hsz := hs _ (List.getElem_mem hlt)
      have hui : (ws.map bl)[k]? = some (bl ws[k]) := by simp [hlt]
      have HI : Hid (RdI (ws.map bl) o) := hI
      have HUI : Hid ((ws.map bl)[k]? = some (bl ws[k])) := hui
      clear hI hui
      go_wp2_with fail
      refine (l1Mark_any ws[k] _ (by omega)).mono ?_
      rintro e w2 ⟨⟨m, ok, rfl, hm, hms⟩, b2⟩
      rw [bl_length] at hms
      have B2 : Below w.heap.size w w2 := hbl.trans (b2.mono hzr)
      have hg2 := hg.keep b2
      have z2 := B2.size
      cases ok
      · have H : Hid (IsW (ws.map bl) [] false) := rdI_fail HI.out HUI.out hm HNE.out
        clear hm HI HUI
        go_wp2_with fail
        exact bodyPost_ret (v := .tuple #[.slice none 0 0, .bool false]) (by simp [results, Tryd.results22, go_sem]) rfl ⟨⟨_, [], false, rfl, Gath.none _ _, H.out⟩, B2.alloc z2 _⟩
      · have H : Hid (RdI (ws.map bl) (o ++ [m])) := rdI_step HI.out HUI.out HOL.out hm
        obtain ⟨ms, mv⟩ := m
        clear hm HI HUI
        have hg3 : (w2.alloc (.cells #[.string ms, .int .i64 mv] 37)).ownsRow w.heap.size 37 2 _ o.length (mcells o) := World.ownsRow.alloc hg2 _
        have hba : Below w.heap.size w (w2.alloc (.cells #[.string ms, .int .i64 mv] 37)) := B2.alloc z2 _
        have x0 := box0 w2 (.string ms) (.int .i64 mv) 37
        have x1 := box1 w2 (.string ms) (.int .i64 mv) 37
        have tn : ∀ j u, [Value.string ms, .int .i64 mv][j]? = some u → ((w2.alloc (.cells #[.string ms, .int .i64 mv] 37)).alloc (.cells #[.string ms, .int .i64 mv] 37)).cell? ((⟨w2.heap.size + 1, 0, none⟩ : Addr).add j) = some u := by
          have h := two_new (w2.alloc (.cells #[.string ms, .int .i64 mv] 37)) (.string ms) (.int .i64 mv) 37
          rw [World.size_alloc] at h
          exact h
        go_wp2_with (at_builtin; refine wpList_append_lies _ rfl _ _ 23 rfl w.heap.size 37 i0 (.agg #[.string .empty, .int .i64 0]) 2 24 Tryd.underlying23 hi hz0 hz1 hz2 rfl (by decide) _ _ _ rfl (World.ownsRow.alloc hg3 _) ⟨w2.heap.size + 1, 0, none⟩ 1 1 [.string ms, .int .i64 mv] rfl rfl tn (by simp [Value.oneCell']) (by decide) (by unfold maxLen; omega) (by omega) (by simp; omega) _ rfl ?_; intro g' cap' w5 hown' hgrow _ _)
        have hob := ownsRow_block hg3
        refine ⟨⟨k + 1, by omega, by go_num, o ++ [(ms, mv)], Gath.snoc hown', by have := HOL.out; simp; omega, fun m hm => ?_, H.out, (hba.alloc (by simp; omega) _).grown hgrow (by simp; omega) hob⟩, by simp [intOf]; omega⟩
        rcases List.mem_append.1 hm with h | h
        · exact hos m h
        · rw [List.mem_singleton.1 h]; show ms.size ≤ 1000; exact Nat.le_trans hms hsz
    · have HI : Hid (RdI (ws.map bl) o) := hI
      have HOK : Hid (o.length = ws.length) := by have := HOL.out; unfold Hid; omega
      clear hI
      obtain ⟨ao, co, rfl, hrow⟩ := hg.shape
      go_wp2_with fail
      refine (specOk_b ao co o _ (by unfold maxLen; omega) hrow (fun j hj => by have := hos _ (List.getElem_mem hj); unfold maxLen; omega)).mono ?_
      rintro e w3 ⟨⟨r, rfl, hr3⟩, b3⟩
      have B3 : Below w.heap.size w w3 := hbl.trans (b3.mono hzr)
      have hE := rdI_end HI.out (by rw [List.length_map]; exact HOK.out)
      cases r
      · have H : Hid (IsW (ws.map bl) [] false) := .inr ⟨HNE.out, .inr ⟨rfl, rfl, fun m' hw hs' => by
          rw [hE.2 m' hw] at hs'
          exact absurd (hr3.2 hs') (by simp)⟩⟩
        clear hE hr3 HI
        go_wp2_with fail
        exact bodyPost_ret (v := .tuple #[.slice none 0 0, .bool false]) (by simp [results, Tryd.results22, go_sem]) rfl ⟨⟨_, [], false, rfl, Gath.none _ _, H.out⟩, B3⟩
      by_cases ho0 : o.length = 0
      · have H : Hid (IsW (ws.map bl) [] false) := .inr ⟨HNE.out, .inr ⟨rfl, rfl, fun m' hw _ => by
          rw [hE.2 m' hw]
          exact List.length_eq_zero_iff.1 ho0⟩⟩
        have ho0' : ((o.length : Int) == 0) = true := by rw [beq_iff_eq]; omega
        clear hE hr3 HI
        go_wp2_with fail
        exact bodyPost_ret (v := .tuple #[.slice none 0 0, .bool false]) (by simp [results, Tryd.results22, go_sem]) rfl ⟨⟨_, [], false, rfl, Gath.none _ _, H.out⟩, B3⟩
      have ho0' : ((o.length : Int) == 0) = false := by rw [beq_eq_false_iff_ne]; omega
      have H : Hid (IsW (ws.map bl) o true) := .inr ⟨HNE.out, .inl ⟨rfl, hE.1 (hr3.1 rfl), hr3.1 rfl, fun e => ho0 (by rw [e]; rfl)⟩⟩
      clear hE hr3 HI
      go_wp2_with fail
      exact bodyPost_ret (v := .tuple #[.slice ao o.length co, .bool true]) (by simp [results, Tryd.results22, go_sem]) rfl ⟨⟨_, o, true, rfl, hg.keep b3, H.out⟩, B3⟩

theorem split_sizes {t : ByteArray} {us : List ByteArray} {c : UInt8} (h : us.map bl = splitL c (bl t)) : us.length ≤ t.size + 1 ∧ ∀ u ∈ us, u.size ≤ t.size := by
  have key : ∀ (n : Nat) (s : List UInt8), s.length ≤ n → (splitL c s).length ≤ s.length + 1 ∧ ∀ u ∈ splitL c s, u.length ≤ s.length := by
    intro n
    induction n with
    | zero =>
      intro s hs
      obtain rfl := List.length_eq_zero_iff.1 (Nat.le_zero.1 hs)
      simp [splitL]
    | succ n ih =>
      intro s hs
      rcases splitL_two (c := c) s with h | ⟨a, r, rfl, h⟩
      · rw [splitL_no h]
        exact ⟨by simp, fun u hu => by rw [List.mem_singleton.1 hu]; exact Nat.le_refl _⟩
      · have hr := ih r (by simp at hs; omega)
        rw [splitL_cut h]
        refine ⟨by have := hr.1; simp; omega, fun u hu => ?_⟩
        rcases List.mem_cons.1 hu with rfl | hu
        · simp
        · have := hr.2 u hu; simp; omega
  obtain ⟨k1, k2⟩ := key _ (bl t) (Nat.le_refl _)
  rw [← h, List.length_map, bl_length] at k1
  refine ⟨k1, fun u hu => ?_⟩
  have := k2 (bl u) (by rw [← h]; exact List.mem_map_of_mem hu)
  rwa [bl_length, bl_length] at this

set_option maxHeartbeats 800000 in
theorem specRead_any (t : ByteArray) (w : World) (ht : t.size ≤ 1048576) :
    Calls Tryd.prog 11 #[.string t] w fun e w' => RE w' w.heap.size t e ∧ Below w.heap.size w w' := by
  by_cases h4 : 400 < t.size
  · have H : Hid (IsR t [] false) := .inr ⟨rfl, rfl, fun m' h => by have := h.1; omega⟩
    go_enter Tryd.func11, Tryd.ntmps11
    go_wp2_with fail
    exact bodyPost_ret (v := .tuple #[.slice none 0 0, .bool false]) (by simp [results, Tryd.results11, go_sem]) rfl ⟨⟨_, [], false, rfl, Gath.none _ _, H.out⟩, Below.refl _ _⟩
  go_enter Tryd.func11, Tryd.ntmps11
  go_wp2_with fail
  refine (l1Split_32 t _ (by omega)).mono ?_
  rintro e w1 ⟨⟨v, us, rfl, hg1, hus⟩, b1⟩
  obtain ⟨ap, cp, rfl, hrow⟩ := hg1.shape
  obtain ⟨hl, hs⟩ := split_sizes hus
  have HUS : Hid (us.map bl = splitL 32 (bl t)) := hus
  clear hus hg1
  go_wp2_with fail
  refine (l1Marks_any ap cp us _ (by omega) (fun u hu => by have := hs u hu; omega) hrow).mono ?_
  rintro e w2 ⟨⟨v, m, ok, rfl, hg2, hw⟩, b2⟩
  have H : Hid (IsR t m ok) := isR_of_words (by omega) (by rw [← HUS.out]; exact hw)
  have B2 : Below w.heap.size w w2 := b1.trans (b2.mono b1.size)
  have hg3 := hg2.lower b1.size
  clear hw hg2 b2
  go_wp2_with fail
  exact bodyPost_ret (v := .tuple #[v, .bool ok]) (by simp [results, Tryd.results11, go_sem]) rfl ⟨⟨_, m, ok, rfl, hg3, H.out⟩, B2⟩

end Go.Proofs.YtpfhegengmlkmaaDoor
