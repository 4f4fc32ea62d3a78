/- Walks: spec's reading of a stamp's text: l1Split. -/
import Derived.Test.YtpfhegengmlkmaaDoorRdM
import Derived.Test.YtpfhegengmlkmaaDoorGathS
namespace Go.Proofs.YtpfhegengmlkmaaDoor
open Go.RowKit Go.BigFrame

def bl (s : ByteArray) : List UInt8 := s.data.toList
theorem bl_length (s : ByteArray) : (bl s).length = s.size := Array.length_toList
theorem bl_at (s : ByteArray) (k : Nat) (h : k < s.size) : (bl s)[k]? = some s[k] := by
  unfold bl
  rw [Array.getElem?_toList]
  exact Array.getElem?_eq_getElem h
theorem bl_extract (s : ByteArray) (a i : Nat) : bl (s.extract a i) = ((bl s).take i).drop a := by
  unfold bl
  rw [ByteArray.data_extract, Array.toList_extract, List.extract_eq_take_drop, List.drop_take]
theorem drop_mid {L : List UInt8} {a i : Nat} (ha : a ≤ i) (hi : i ≤ L.length) : L.drop a = (L.take i).drop a ++ L.drop i := by
  have h := congrArg (List.drop a) (List.take_append_drop i L)
  rw [List.drop_append, List.length_take, Nat.min_eq_left hi] at h
  rw [← h, show a - i = 0 by omega, List.drop_zero]
theorem drop_cons {L : List UInt8} {i : Nat} {x : UInt8} (h : L[i]? = some x) : L.drop i = x :: L.drop (i + 1) := by
  obtain ⟨hi, rfl⟩ := List.getElem?_eq_some_iff.1 h
  exact List.drop_eq_getElem_cons hi
theorem split_mid {L : List UInt8} {a i : Nat} {c : UInt8} (ha : a ≤ i) (h : L[i]? = some c) (hc : c ∉ (L.take i).drop a) : splitL c (L.drop a) = (L.take i).drop a :: splitL c (L.drop (i + 1)) := by
  have hi : i < L.length := (List.getElem?_eq_some_iff.1 h).1
  rw [drop_mid ha (by omega), drop_cons h, splitL_cut hc]
theorem take_step {L : List UInt8} {a i : Nat} {x c : UInt8} (ha : a ≤ i) (h : L[i]? = some x) (hx : x ≠ c) (hc : c ∉ (L.take i).drop a) : c ∉ (L.take (i + 1)).drop a := by
  obtain ⟨hi, rfl⟩ := List.getElem?_eq_some_iff.1 h
  rw [List.take_succ_eq_append_getElem hi, List.drop_append, List.length_take, Nat.min_eq_left (by omega), show a - i = 0 by omega, List.drop_zero, List.mem_append, not_or]
  exact ⟨hc, by simp [Ne.symm hx]⟩

set_option maxHeartbeats 1600000 in
theorem l1Split_any (t : ByteArray) (c : UInt8) (w : World) (ht : t.size ≤ 1000000) :
    Calls Tryd.prog 23 #[.string t, .int .u8 (c.toNat : Int)] w fun e w' => (∃ v us, e = .returned v ∧ GathS w' w.heap.size v us ∧ us.map bl = splitL c (bl t)) ∧ Below w.heap.size w w' := by
  obtain ⟨i0, hi, hz0, hz1, hz2⟩ := info_parts Tryd.infoS
  go_enter Tryd.func23, Tryd.ntmps23
  go_wp2_with fail
  go_loopw [5, 6, 7] (fun out av iv wr => ∃ a i : Nat, a ≤ i ∧ i ≤ t.size ∧ av = .int .i64 a ∧ iv = .int .i64 i ∧ ∃ o, GathS wr w.heap.size out o ∧ o.length ≤ i ∧ o.map bl ++ splitL c ((bl t).drop a) = splitL c (bl t) ∧ c ∉ ((bl t).take i).drop a ∧ Below w.heap.size w wr) (fun _ _ iv _ => t.size - (intOf iv).toNat)
  case atStart => exact ⟨0, 0, Nat.le_refl _, Nat.zero_le _, rfl, rfl, [], gathS_none _ _, by simp, by simp, by simp, Below.refl _ _⟩
  case round =>
    obtain ⟨a, i, hai, hit, rfl, rfl, o, hg, hol, hsp, hno, hbl⟩ := hrel
    have hzr := hbl.size
    by_cases hlt : i < t.size
    · have hat := bl_at t i hlt
      by_cases hc : t[i] = c
      · have hc' : ((t[i].toNat : Int) == (c.toNat : Int)) = true := by rw [hc]; simp
        have HS : Hid (splitL c ((bl t).drop a) = ((bl t).take i).drop a :: splitL c ((bl t).drop (i + 1))) := split_mid hai (by rw [hat, hc]) hno
        have HSP : Hid (o.map bl ++ splitL c ((bl t).drop a) = splitL c (bl t)) := hsp
        have hg4 : wr.ownsRow w.heap.size 9 1 _ o.length (o.map .string) := hg
        clear hsp hno hat
        go_wp2_with (at_builtin; refine wpList_append_lies _ rfl _ _ 35 rfl w.heap.size 9 i0 (.string .empty) 1 16 Tryd.underlying35 hi hz0 hz1 hz2 rfl (by decide) _ _ _ rfl (hg4.alloc _) ⟨wr.heap.size, 0, none⟩ 1 1 [.string (t.extract a i)] rfl rfl (one_new wr _ _) (by simp [Value.oneCell']) (by decide) (by unfold maxLen; omega) (by omega) (by simp; omega) _ rfl ?_; intro g' cap' w5 hown' hgrow _ _)
        have hob := ownsRow_block hg4
        refine ⟨⟨i + 1, i + 1, Nat.le_refl _, by omega, by go_num, by go_num, o ++ [t.extract a i], GathS.snoc hown', by simp; omega, ?_, by simp, (hbl.alloc hzr _).grown hgrow (by simp; omega) hob⟩, by simp [intOf]; omega⟩
        rw [← HSP.out, HS.out, List.map_append, List.append_assoc, List.map_singleton, bl_extract]
        rfl
      · have hc' : ((t[i].toNat : Int) == (c.toNat : Int)) = false := by
          rw [beq_eq_false_iff_ne]
          exact fun e => hc (UInt8.toNat_inj.1 (by omega))
        have HN : Hid (c ∉ ((bl t).take (i + 1)).drop a) := take_step hai hat hc hno
        have HSP : Hid (o.map bl ++ splitL c ((bl t).drop a) = splitL c (bl t)) := hsp
        clear hsp hno hat
        go_wp2_with fail
        exact ⟨⟨a, i + 1, by omega, by omega, rfl, by go_num, o, hg, by omega, HSP.out, HN.out, hbl⟩, by simp [intOf]; omega⟩
    · have HS : Hid (splitL c ((bl t).drop a) = [(bl t).drop a]) := splitL_no (by rw [List.take_of_length_le (by rw [bl_length]; omega)] at hno; exact hno)
      have HSP : Hid (o.map bl ++ splitL c ((bl t).drop a) = splitL c (bl t)) := hsp
      have hg4 : wr.ownsRow w.heap.size 9 1 _ o.length (o.map .string) := hg
      clear hsp hno
      go_wp2_with (at_builtin; refine wpList_append_lies _ rfl _ _ 35 rfl w.heap.size 9 i0 (.string .empty) 1 16 Tryd.underlying35 hi hz0 hz1 hz2 rfl (by decide) _ _ _ rfl (hg4.alloc _) ⟨wr.heap.size, 0, none⟩ 1 1 [.string (t.extract a t.size)] rfl rfl (one_new wr _ _) (by simp [Value.oneCell']) (by decide) (by unfold maxLen; omega) (by omega) (by simp; omega) _ rfl ?_; intro g' cap' w5 hown' hgrow _ _)
      have hob := ownsRow_block hg4
      go_ret
      refine ⟨⟨_, o ++ [t.extract a t.size], rfl, GathS.snoc hown', ?_⟩, (hbl.alloc hzr _).grown hgrow (by simp; omega) hob⟩
      rw [← HSP.out, HS.out, List.map_append, List.map_singleton, bl_extract, List.take_of_length_le (by rw [bl_length]; omega)]

end Go.Proofs.YtpfhegengmlkmaaDoor
