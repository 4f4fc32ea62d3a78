/- Walks: l1Num. -/
import Derived.Test.YtpfhegengmlkmaaDoorRdS
namespace Go.Proofs.YtpfhegengmlkmaaDoor
open Go.RowKit Go.BigFrame

/-- What l1Num tells of a version's text. -/
def NumR (p : List UInt8) (v : Int) (ok : Bool) : Prop := (ok = true → 1 ≤ v → v ≤ 1099511627776 → Dig p v) ∧ (∀ v', Dig p v' → ok = true ∧ v = v')
theorem numR_no {p : List UInt8} (h : ∀ v, ¬ Dig p v) (v : Int) : NumR p v false := ⟨fun e => Bool.noConfusion e, fun v' hv => absurd hv (h v')⟩
theorem dig_nil (v : Int) : ¬ Dig [] v := fun h => h.1 rfl
theorem dig_long {p : List UInt8} (hp : 18 < p.length) (v : Int) : ¬ Dig p v := fun h => by
  obtain ⟨h1, h2, h3, h4, h5⟩ := h
  match p, hp with
  | x :: r, hp =>
    have h6 := dval_head (r := r) (h3 x (List.mem_cons_self ..)) (fun e => h2 (by rw [e]; rfl))
    have h7 : 10 ^ 18 ≤ 10 ^ r.length := Nat.pow_le_pow_right (by omega) (by simp at hp; omega)
    omega
theorem dig_head {p : List UInt8} {x : UInt8} (hp : p[0]? = some x) (hx : x = 48 ∨ ¬ DG x) (v : Int) : ¬ Dig p v := fun h => by
  obtain ⟨h1, h2, h3, h4, h5⟩ := h
  match p, hp with
  | y :: r, hp =>
    simp at hp
    subst hp
    rcases hx with rfl | hx
    · exact h2 rfl
    · exact hx (h3 y (List.mem_cons_self ..))
theorem dig_at {p : List UInt8} {x : UInt8} {k : Nat} (hp : p[k]? = some x) (hx : ¬ DG x) (v : Int) : ¬ Dig p v := fun h => hx (h.2.2.1 x (List.mem_of_getElem? hp))
theorem dval_take {p : List UInt8} {k : Nat} {x : UInt8} (hp : p[k]? = some x) : dval 0 (p.take (k + 1)) = 10 * dval 0 (p.take k) + (x.toNat - 48) := by
  obtain ⟨hk, rfl⟩ := List.getElem?_eq_some_iff.1 hp
  rw [List.take_succ_eq_append_getElem hk, dval_snoc]
theorem digs_take {p : List UInt8} {k : Nat} {x : UInt8} (hp : p[k]? = some x) (h : ∀ y ∈ p.take k, DG y) (hx : DG x) : ∀ y ∈ p.take (k + 1), DG y := by
  obtain ⟨hk, rfl⟩ := List.getElem?_eq_some_iff.1 hp
  rw [List.take_succ_eq_append_getElem hk]
  intro y hy
  rcases List.mem_append.1 hy with hy | hy
  · exact h y hy
  · rw [List.mem_singleton.1 hy]; exact hx
theorem dval_small {p : List UInt8} {k : Nat} (h : ∀ y ∈ p.take k, DG y) (hk : k ≤ 17) : dval 0 (p.take k) ≤ 100000000000000000 := by
  have h1 := dval_lt (p.take k) 0 h
  have h2 : 10 ^ (p.take k).length ≤ 10 ^ 17 := Nat.pow_le_pow_right (by omega) (by rw [List.length_take]; omega)
  omega
theorem numR_yes {p : List UInt8} (h1 : p ≠ []) (h : ∀ y ∈ p, DG y) (h0 : p.head? = some 48 → p = [48]) : NumR p (dval 0 p : Nat) true := by
  refine ⟨fun _ hv hm => ⟨h1, fun e => ?_, h, rfl, by omega⟩, fun v' hv => ⟨rfl, hv.2.2.2.1.symm⟩⟩
  rw [h0 e] at hv
  revert hv
  decide

/-- A call answered a number and whether: what l1Num tells. -/
def NumE (p : List UInt8) (e : Ending) : Prop := ∃ v ok, e = .returned (.tuple #[.int .i64 v, .bool ok]) ∧ NumR p v ok

set_option maxHeartbeats 1600000 in
theorem l1Num_any (t : ByteArray) (w : World) (ht : t.size ≤ 1000000) :
    Calls Tryd.prog 42 #[.string t] w fun e w' => NumE (bl t) e ∧ w' = w := by
  by_cases h0 : t.size < 1
  · have H : Hid (NumR (bl t) 0 false) := numR_no (by rw [show bl t = [] from List.length_eq_zero_iff.1 (by rw [bl_length]; omega)]; exact dig_nil) 0
    go_enter Tryd.func42, Tryd.ntmps42
    go_wp2_with fail
    exact bodyPost_ret (v := .tuple #[.int .i64 0, .bool false]) (by simp [results, Tryd.results42, go_sem]) rfl ⟨⟨0, false, rfl, H.out⟩, rfl⟩
  have hat0 := bl_at t 0 (by omega)
  by_cases hneg : t[0] = 45
  · have hneg' : ((t[0].toNat : Int) == 45) = true := by rw [hneg]; decide
    have HNO : Hid (∀ v, ¬ Dig (bl t) v) := dig_head (by rw [hat0, hneg]) (.inr (by unfold DG; decide))
    have H : Hid (NumR (bl t) 0 false) := numR_no HNO.out 0
    have hs0 : (t.toList == [48]) = false := by
      have h : t ≠ ⟨#[48]⟩ := fun e => by
        have e1 : (bl t)[0]? = some 48 := by rw [e]; rfl
        rw [hat0, hneg] at e1
        exact absurd e1 (by decide)
      have h := toList_bne.2 h
      rwa [show (⟨#[48]⟩ : ByteArray).toList = [48] from by rw [ByteArray.toList_eq]] at h
    clear hat0 hneg
    go_enter Tryd.func42, Tryd.ntmps42
    by_cases h1 : t.size < 2
    · go_wp2_with fail
      exact bodyPost_ret (v := .tuple #[.int .i64 0, .bool false]) (by simp [results, Tryd.results42, go_sem]) rfl ⟨⟨0, false, rfl, H.out⟩, rfl⟩
    by_cases h19 : 19 < t.size
    · go_wp2_with fail
      exact bodyPost_ret (v := .tuple #[.int .i64 0, .bool false]) (by simp [results, Tryd.results42, go_sem]) rfl ⟨⟨0, false, rfl, H.out⟩, rfl⟩
    go_wp2_with fail
    · exact bodyPost_ret (v := .tuple #[.int .i64 0, .bool false]) (by simp [results, Tryd.results42, go_sem]) rfl ⟨⟨0, false, rfl, H.out⟩, rfl⟩
    have HNEG : Hid (∀ V : Nat, NumR (bl t) (-(V : Int)) true) := fun V => ⟨fun _ h1 => by omega, fun v' hv => absurd hv (HNO.out v')⟩
    go_loop [5, 6] (fun nv iv => ∃ k V : Nat, k ≤ t.size - 1 ∧ iv = .int .i64 k ∧ nv = .int .i64 (V : Int) ∧ V < 10 ^ k) (fun _ iv => t.size - 1 - (intOf iv).toNat)
    case atStart => exact ⟨0, 0, Nat.zero_le _, rfl, rfl, by simp⟩
    case round =>
      obtain ⟨k, V, hk, rfl, rfl, hV⟩ := hrel
      by_cases hlt : k < t.size - 1
      · have hV' : V < 1000000000000000000 := by
          have h2 : 10 ^ k ≤ 10 ^ 18 := Nat.pow_le_pow_right (by omega) (by omega)
          omega
        have HP : Hid (V < 10 ^ k) := hV
        have hks : k < (t.extract 1 t.size).size := by rw [ByteArray.size_extract]; omega
        by_cases hx1 : ((t.extract 1 t.size)[k].toNat : Int) < 48
        · go_wp2_with fail
          exact bodyPost_ret (v := .tuple #[.int .i64 0, .bool false]) (by simp [results, Tryd.results42, go_sem]) rfl ⟨⟨0, false, rfl, H.out⟩, rfl⟩
        by_cases hx2 : 57 < ((t.extract 1 t.size)[k].toNat : Int)
        · go_wp2_with fail
          exact bodyPost_ret (v := .tuple #[.int .i64 0, .bool false]) (by simp [results, Tryd.results42, go_sem]) rfl ⟨⟨0, false, rfl, H.out⟩, rfl⟩
        clear hV
        have hVV : V ≤ 100000000000000000 ∨ 17 < k := by
          by_cases h17 : 17 < k
          · exact .inr h17
          · left
            have h2 : 10 ^ k ≤ 10 ^ 17 := Nat.pow_le_pow_right (by omega) (by omega)
            have := HP.out
            omega
        have hVb : V ≤ 100000000000000000 := by omega
        clear hVV hV'
        go_wp2_with fail
        refine ⟨⟨k + 1, 10 * V + ((t.extract 1 t.size)[k].toNat - 48), by omega, by go_num, by congr 1; omega, ?_⟩, by simp [intOf]; omega⟩
        have := HP.out
        rw [Nat.pow_succ]
        omega
      · have hV' : V ≤ 1000000000000000000 := by
          have h2 : 10 ^ k ≤ 10 ^ 18 := Nat.pow_le_pow_right (by omega) (by omega)
          omega
        clear hV
        go_wp2_with fail
        exact bodyPost_ret (v := .tuple #[.int .i64 (-(V : Int)), .bool true]) (by simp [results, Tryd.results42, go_sem]) rfl ⟨⟨-(V : Int), true, rfl, HNEG.out V⟩, rfl⟩
  have hneg' : ((t[0].toNat : Int) == 45) = false := by
    rw [beq_eq_false_iff_ne]
    exact fun e => hneg (UInt8.toNat_inj.1 (by rw [show (45 : UInt8).toNat = 45 from rfl]; omega))
  by_cases h18 : 18 < t.size
  · have H : Hid (NumR (bl t) 0 false) := numR_no (dig_long (by rw [bl_length]; omega)) 0
    go_enter Tryd.func42, Tryd.ntmps42
    go_wp2_with fail
    exact bodyPost_ret (v := .tuple #[.int .i64 0, .bool false]) (by simp [results, Tryd.results42, go_sem]) rfl ⟨⟨0, false, rfl, H.out⟩, rfl⟩
  by_cases hz : t[0] = 48 ∧ t ≠ ⟨#[48]⟩
  · have H : Hid (NumR (bl t) 0 false) := numR_no (dig_head (by rw [hat0, hz.1]) (.inl rfl)) 0
    have hz1 : ((t[0].toNat : Int) == 48) = true := by rw [hz.1]; decide
    have hz2 : (t.toList == [48]) = false := by
      have h := toList_bne.2 hz.2
      rwa [show (⟨#[48]⟩ : ByteArray).toList = [48] from by rw [ByteArray.toList_eq]] at h
    clear hz
    go_enter Tryd.func42, Tryd.ntmps42
    go_wp2_with fail
    exact bodyPost_ret (v := .tuple #[.int .i64 0, .bool false]) (by simp [results, Tryd.results42, go_sem]) rfl ⟨⟨0, false, rfl, H.out⟩, rfl⟩
  have HZ : Hid ((bl t).head? = some 48 → bl t = [48]) := fun e => by
    rw [List.head?_eq_getElem?, hat0] at e
    have e1 : t[0] = 48 := by simpa using e
    by_cases ht48 : t = ⟨#[48]⟩
    · rw [ht48]; rfl
    · exact absurd ⟨e1, ht48⟩ hz
  go_enter Tryd.func42, Tryd.ntmps42
  by_cases hz0 : t[0] = 48
  · have ht48 : t = ⟨#[48]⟩ := Classical.byContradiction fun h => hz ⟨hz0, h⟩
    have hz1 : ((t[0].toNat : Int) == 48) = true := by rw [hz0]; decide
    have hz2 : (t.toList == [48]) = true := by rw [ht48, ByteArray.toList_eq]; rfl
    clear hz hz0 ht48 hat0 hneg
    go_wp2_with fail
    go_loop [5, 6] (fun nv iv => ∃ k : Nat, k ≤ t.size ∧ iv = .int .i64 k ∧ nv = .int .i64 (dval 0 ((bl t).take k) : Nat) ∧ (∀ y ∈ (bl t).take k, DG y)) (fun _ iv => t.size - (intOf iv).toNat)
    case atStart => exact ⟨0, Nat.zero_le _, rfl, rfl, by simp⟩
    case round =>
      obtain ⟨k, hk, rfl, rfl, hall⟩ := hrel
      by_cases hlt : k < t.size
      · have hat := bl_at t k hlt
        by_cases hdg : DG t[k]
        · have HT := dval_take hat
          have HD : Hid (∀ y ∈ (bl t).take (k + 1), DG y) := digs_take hat hall hdg
          have hsm := dval_small hall (by omega)
          have hd1 := hdg.1
          have hd2 := hdg.2
          generalize dval 0 ((bl t).take k) = V at *
          have HTT : Hid (dval 0 ((bl t).take (k + 1)) = 10 * V + (t[k].toNat - 48)) := HT
          clear HT hall hdg hat
          go_wp2_with fail
          exact ⟨⟨k + 1, by omega, by go_num, by rw [HTT.out]; congr 1; omega, HD.out⟩, by simp [intOf]; omega⟩
        · have H : Hid (NumR (bl t) 0 false) := numR_no (dig_at hat hdg) 0
          have hdd : (t[k].toNat : Int) < 48 ∨ (57 : Int) < (t[k].toNat : Int) := by unfold DG at hdg; omega
          clear hat hall hdg
          rcases hdd with hdd | hdd
          all_goals
            go_wp2_with fail
            exact bodyPost_ret (v := .tuple #[.int .i64 0, .bool false]) (by simp [results, Tryd.results42, go_sem]) rfl ⟨⟨0, false, rfl, H.out⟩, rfl⟩
      · have hfin : (bl t).take k = bl t := List.take_of_length_le (by rw [bl_length]; omega)
        rw [hfin] at hall ⊢
        have H : Hid (NumR (bl t) (dval 0 (bl t) : Nat) true) := numR_yes (fun e => h0 (by rw [← bl_length, e]; exact Nat.zero_lt_one)) hall HZ.out
        clear hfin hall
        generalize dval 0 (bl t) = V at *
        go_wp2_with fail
        exact bodyPost_ret (v := .tuple #[.int .i64 (V : Int), .bool true]) (by simp [results, Tryd.results42, go_sem]) rfl ⟨⟨(V : Int), true, rfl, H.out⟩, rfl⟩
  · have hz1 : ((t[0].toNat : Int) == 48) = false := by
      rw [beq_eq_false_iff_ne]
      exact fun e => hz0 (UInt8.toNat_inj.1 (by rw [show (48 : UInt8).toNat = 48 from rfl]; omega))
    clear hz hz0 hat0 hneg
    go_wp2_with fail
    go_loop [5, 6] (fun nv iv => ∃ k : Nat, k ≤ t.size ∧ iv = .int .i64 k ∧ nv = .int .i64 (dval 0 ((bl t).take k) : Nat) ∧ (∀ y ∈ (bl t).take k, DG y)) (fun _ iv => t.size - (intOf iv).toNat)
    case atStart => exact ⟨0, Nat.zero_le _, rfl, rfl, by simp⟩
    case round =>
      obtain ⟨k, hk, rfl, rfl, hall⟩ := hrel
      by_cases hlt : k < t.size
      · have hat := bl_at t k hlt
        by_cases hdg : DG t[k]
        · have HT := dval_take hat
          have HD : Hid (∀ y ∈ (bl t).take (k + 1), DG y) := digs_take hat hall hdg
          have hsm := dval_small hall (by omega)
          have hd1 := hdg.1
          have hd2 := hdg.2
          generalize dval 0 ((bl t).take k) = V at *
          have HTT : Hid (dval 0 ((bl t).take (k + 1)) = 10 * V + (t[k].toNat - 48)) := HT
          clear HT hall hdg hat
          go_wp2_with fail
          exact ⟨⟨k + 1, by omega, by go_num, by rw [HTT.out]; congr 1; omega, HD.out⟩, by simp [intOf]; omega⟩
        · have H : Hid (NumR (bl t) 0 false) := numR_no (dig_at hat hdg) 0
          have hdd : (t[k].toNat : Int) < 48 ∨ (57 : Int) < (t[k].toNat : Int) := by unfold DG at hdg; omega
          clear hat hall hdg
          rcases hdd with hdd | hdd
          all_goals
            go_wp2_with fail
            exact bodyPost_ret (v := .tuple #[.int .i64 0, .bool false]) (by simp [results, Tryd.results42, go_sem]) rfl ⟨⟨0, false, rfl, H.out⟩, rfl⟩
      · have hfin : (bl t).take k = bl t := List.take_of_length_le (by rw [bl_length]; omega)
        rw [hfin] at hall ⊢
        have H : Hid (NumR (bl t) (dval 0 (bl t) : Nat) true) := numR_yes (fun e => h0 (by rw [← bl_length, e]; exact Nat.zero_lt_one)) hall HZ.out
        clear hfin hall
        generalize dval 0 (bl t) = V at *
        go_wp2_with fail
        exact bodyPost_ret (v := .tuple #[.int .i64 (V : Int), .bool true]) (by simp [results, Tryd.results42, go_sem]) rfl ⟨⟨(V : Int), true, rfl, H.out⟩, rfl⟩

end Go.Proofs.YtpfhegengmlkmaaDoor
