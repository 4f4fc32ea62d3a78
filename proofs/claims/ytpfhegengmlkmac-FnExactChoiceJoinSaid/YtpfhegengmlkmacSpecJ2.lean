/- Walk: spec.StampJoin. -/
import Derived.Test.YtpfhegengmlkmacSpecJ
import Derived.Test.YtpfhegengmlkmacGet
namespace Go.Proofs.Ytpfhegengmlkmac
open Go.RowKit Go.BigFrame

set_option maxHeartbeats 1600000 in
theorem specJoin_any (aa ab : Option Addr) (ca cb : Nat) (la lb : List (ByteArray × Int)) (w : World) (hla : la.length ≤ maxLen) (hlb : lb.length ≤ maxLen) (ha : Row w aa la) (hb : Row w ab lb)
    (hsa : ∀ j, (h : j < la.length) → la[j].1.size ≤ maxLen) (hsb : ∀ j, (h : j < lb.length) → lb[j].1.size ≤ maxLen) :
    Calls Try.prog 65 #[.slice aa la.length ca, .slice ab lb.length cb] w fun e w' => (∃ v m ok, e = .returned (.tuple #[v, .bool ok]) ∧ Gath w' w.heap.size v m ∧ IsJ la lb m ok) ∧ Below w.heap.size w w' := by
  go_enter Try.func65, Try.ntmps65
  go_wp2_with fail
  refine (specOk_b aa ca la _ hla ha hsa).mono ?_
  rintro e w1 ⟨⟨r, rfl, hr1⟩, hb1⟩
  cases r
  · have hn : ¬ StampP la := fun h => by simpa using hr1.2 h
    clear hr1
    go_wp2_with fail
    exact bodyPost_ret (v := .tuple #[.slice none 0 0, .bool false]) (by simp [results, Try.results65, go_sem]) rfl ⟨⟨_, [], false, rfl, Gath.none _ _, .inl ⟨fun h => hn h.1, rfl, rfl⟩⟩, hb1⟩
  have hya : StampP la := hr1.1 rfl
  clear hr1
  go_wp2_with fail
  refine (specOk_b ab cb lb _ hlb (hb.below hb1) hsb).mono ?_
  rintro e w2 ⟨⟨r, rfl, hr2⟩, hb2⟩
  have hb12 : Below w.heap.size w w2 := hb1.trans (hb2.mono hb1.size)
  cases r
  · have hn : ¬ StampP lb := fun h => by simpa using hr2.2 h
    clear hr2
    go_wp2_with fail
    exact bodyPost_ret (v := .tuple #[.slice none 0 0, .bool false]) (by simp [results, Try.results65, go_sem]) rfl ⟨⟨_, [], false, rfl, Gath.none _ _, .inl ⟨fun h => hn h.2, rfl, rfl⟩⟩, hb12⟩
  have hyb : StampP lb := hr2.1 rfl
  clear hr2
  have sa := stamp_sorted hya
  have sb := stamp_sorted hyb
  have la12 := hya.1
  have lb12 := hyb.1
  go_wp2_with fail
  go_loopw [6, 7] (fun out i wr => ∃ k : Nat, k ≤ la.length ∧ i = .int .i64 k ∧ Gath wr w.heap.size out (la.take k) ∧ Below w.heap.size w wr) (fun _ i _ => la.length - (intOf i).toNat)
  case atStart => exact ⟨0, Nat.zero_le _, rfl, Gath.none _ _, hb12⟩
  case round =>
    obtain ⟨k, hk, rfl, hg, hbl⟩ := hrel
    by_cases hlt : k < la.length
    · obtain ⟨b, ob, rfl, hblt, c0, c1⟩ := ha k hlt
      have e0 := cell_on hbl hblt c0
      have e1 := cell_on hbl hblt c1
      obtain ⟨ag, capg, rfl, hrow⟩ := hg.shape
      have hk1 : (la.take k).length ≤ 1048576 := by rw [List.length_take]; omega
      have HS := setR_snoc (take_low sa hlt)
      rw [← List.take_succ_eq_append_getElem hlt] at HS
      have HS' : Hid _ := HS
      clear HS
      generalize la.take k = o at *
      go_wp2_with (go_at_call 91; refine (l1Set_any _ _ o la[k] _ hk1 hrow).mono ?_; rintro e w3 ⟨⟨v, rfl, hg3⟩, hb3⟩)
      exact ⟨⟨k + 1, by omega, by go_num, by rw [← HS'.out]; exact hg3.lower hbl.size, hbl.trans (hb3.mono hbl.size)⟩, by simp [intOf]; omega⟩
    · have hg' : Gath wr w.heap.size u6 la := by rw [List.take_of_length_le (by omega)] at hg; exact hg
      clear hg
      go_wp2_with fail
      go_loopw [6, 8] (fun out i wr => ∃ (k : Nat) (o : List (ByteArray × Int)), k ≤ lb.length ∧ i = .int .i64 k ∧ Gath wr w.heap.size out o ∧ o.length ≤ la.length + k ∧ JoinOf la (lb.take k) o ∧ Below w.heap.size w wr) (fun _ i _ => lb.length - (intOf i).toNat)
      case atStart => exact ⟨0, la, Nat.zero_le _, rfl, hg', by omega, joinOf_start sa, hbl⟩
      case round =>
        obtain ⟨k, o, hk, rfl, hg, hol, hj, hbl⟩ := hrel
        by_cases hlt : k < lb.length
        · obtain ⟨b, ob, rfl, hblt, c0, c1⟩ := hb k hlt
          have e0 := cell_on hbl hblt c0
          have e1 := cell_on hbl hblt c1
          have g1 : b < wr.heap.size := Nat.lt_of_lt_of_le hblt hbl.size
          obtain ⟨ag, capg, rfl, hrow⟩ := hg.shape
          have HRB : Hid (∀ n : Lat wr, Row n.w ag o) := fun n => hrow.below n.h
          by_cases hc : getM o lb[k].1 < lb[k].2
          · have HJ : Hid _ := joinOf_set sb hlt hj hc
            have HL := setR_length (m := lb[k]) (l := o)
            go_wp2_with fail
            refine wp_region_lat (by kernel_rfl) (by kernel_rfl) ?_
            have hne := Lat.some wr
            have q0 : ∀ n : Lat wr, n.w.cell? ⟨b, ob + k * 2, none⟩ = some (.string lb[k].1) := fun n => n.cell g1 e0
            have q1 : ∀ n : Lat wr, n.w.cell? ⟨b, ob + k * 2 + 1, none⟩ = some (.int .i64 lb[k].2) := fun n => n.cell g1 e1
            repeat (go_big_quiet_step ((go_at_call 49; exact Calls.lat_same (l1Get_any _ _ o _ _ (by unfold maxLen; omega) (HRB.out _)))))
            refine wpQuiet_nil ?_
            rintro _ ⟨nq, rfl⟩
            have e0 := q0 nq
            have e1 := q1 nq
            have B3 := hbl.trans (nq.h.mono hbl.size)
            go_wp2_with (go_at_call 91; refine (l1Set_any _ _ o lb[k] _ (by omega) (HRB.out nq)).mono ?_; rintro e w3 ⟨⟨v, rfl, hg3⟩, hb3⟩)
            exact ⟨⟨k + 1, _, by omega, by go_num, hg3.lower B3.size, by omega, HJ.out, B3.trans (hb3.mono B3.size)⟩, by simp [intOf]; omega⟩
          · have HJ : Hid _ := joinOf_keep sb hlt hj hc
            go_wp2_with fail
            refine wp_region_lat (by kernel_rfl) (by kernel_rfl) ?_
            have hne := Lat.some wr
            have q0 : ∀ n : Lat wr, n.w.cell? ⟨b, ob + k * 2, none⟩ = some (.string lb[k].1) := fun n => n.cell g1 e0
            have q1 : ∀ n : Lat wr, n.w.cell? ⟨b, ob + k * 2 + 1, none⟩ = some (.int .i64 lb[k].2) := fun n => n.cell g1 e1
            repeat (go_big_quiet_step ((go_at_call 49; exact Calls.lat_same (l1Get_any _ _ o _ _ (by unfold maxLen; omega) (HRB.out _)))))
            refine wpQuiet_nil ?_
            rintro _ ⟨nq, rfl⟩
            go_wp2_with fail
            exact ⟨⟨k + 1, o, by omega, by go_num, hg.keep nq.h, by omega, HJ.out, hbl.trans (nq.h.mono hbl.size)⟩, by simp [intOf]; omega⟩
        · have hj' : JoinOf la lb o := by rw [List.take_of_length_le (by omega)] at hj; exact hj
          have HJ : Hid (JoinOf la lb o) := hj'
          clear hj hj'
          obtain ⟨ag, capg, rfl, hrow⟩ := hg.shape
          by_cases h12 : 12 < o.length
          · go_wp2_with fail
            exact bodyPost_ret (v := .tuple #[.slice none 0 0, .bool false]) (by simp [results, Try.results65, go_sem]) rfl ⟨⟨_, [], false, rfl, Gath.none _ _, .inr ⟨hya, hyb, o, HJ.out, .inr ⟨h12, rfl, rfl⟩⟩⟩, hbl⟩
          · go_wp2_with fail
            exact bodyPost_ret (v := .tuple #[.slice ag o.length capg, .bool true]) (by simp [results, Try.results65, go_sem]) rfl ⟨⟨_, o, true, rfl, hg, .inr ⟨hya, hyb, o, HJ.out, .inl ⟨by omega, rfl, rfl⟩⟩⟩, hbl⟩

end Go.Proofs.Ytpfhegengmlkmac
