/- Walks: l1Dec, spec.StampText. -/
import Derived.Test.YtpfhegengmlkmaaDoorTxM
import Derived.Test.YtpfhegengmlkmaaDoorWe
import Derived.Laws.IdiomStrings
namespace Go.Proofs.YtpfhegengmlkmaaDoor
open Go.RowKit Go.BigFrame
set_option maxRecDepth 100000

/-- string([]byte{d}) of a byte that was just laid. -/
theorem conv_byte2 (d : Int) (h0 : 0 ≤ d) (h1 : d ≤ 255) (u : World) :
    (convert 22 9 (.slice (some ⟨u.heap.size, 0, none⟩) 1 1)).run Tryd.prog (u.alloc (.cells #[.int .u8 d] 5)) = .ok (.string ⟨#[UInt8.ofNat d.toNat]⟩) (u.alloc (.cells #[.int .u8 d] 5)) := by
  have h := run_convert_bytes_back (P := Tryd.prog) (u.alloc (.cells #[.int .u8 d] 5)) 22 9 5 ⟨u.heap.size, 0, none⟩ 1 [UInt8.ofNat d.toNat] Tryd.underlying22 Tryd.underlying5 Tryd.underlying9 (fun j hj => by
    obtain rfl : j = 0 := by simpa using hj
    have e : ((UInt8.ofNat d.toNat).toNat : Int) = d := by
      rw [UInt8.toNat_ofNat']
      omega
    simp [Addr.add, go_sem]
    omega)
  simpa using h
theorem toList_append2 (a b : ByteArray) : (a ++ b).data.toList = a.data.toList ++ b.data.toList := by
  rw [ByteArray.data_append, Array.toList_append]
theorem size_list (s : ByteArray) : s.data.toList.length = s.size := Array.length_toList
theorem eq_of_list {s : ByteArray} {l : List UInt8} (h : s.data.toList = l) : s = ⟨l.toArray⟩ := data_eq (by rw [h])

set_option maxHeartbeats 400000 in
theorem l1Dec_exact (k : Nat) (w : World) (h0 : 1 ≤ k) (h1 : k ≤ 1099511627776) :
    Calls Tryd.prog 17 #[.int .i64 (k : Int)] w fun e w' => e = .returned (.string ⟨(Lib.decDigits k).toArray⟩) ∧ Below w.heap.size w w' := by
  have hk' : ((k : Int) == 0) = false := by simp; omega
  go_enter Tryd.func17, Tryd.ntmps17
  go_wp2_with fail
  go_loopw [0, 3] (fun kk out wr => ∃ (q : Nat) (s : ByteArray), kk = .int .i64 q ∧ s.size + q ≤ k ∧ out = .string s ∧ DecI k q s.data.toList ∧ Below w.heap.size w wr) (fun kk _ _ => (intOf kk).toNat)
  case atStart => exact ⟨k, _, rfl, by show 0 + k ≤ _; omega, rfl, decI_start (by omega), Below.refl _ _⟩
  case round =>
    obtain ⟨q, s, rfl, hq, rfl, hI, hb⟩ := hrel
    by_cases hlt : 0 < q
    · have hcv := conv_byte2 (48 + (q : Int) % 10) (by omega) (by omega) wr
      have hq' : ((q : Int) != 0) = true := by simp; omega
      have HI : Hid (DecI k (q / 10) (UInt8.ofNat (48 + q % 10) :: s.data.toList)) := decI_step hlt hI
      clear hI
      go_wp2_with fail
      have hsz : ((⟨#[48 + UInt8.ofNat (q % 10)]⟩ : ByteArray) ++ s).size = 1 + s.size := by rw [ByteArray.size_append]; rfl
      refine ⟨⟨q / 10, _, by congr 1, by rw [hsz]; omega, rfl, ?_, hb.alloc hb.size _⟩, by simp [intOf]; omega⟩
      rw [toList_append2]
      have e : UInt8.ofNat (48 + q % 10) = 48 + UInt8.ofNat (q % 10) := by rw [UInt8.ofNat_add]; rfl
      have h := HI.out
      rw [e] at h
      exact h
    · have hq' : ((q : Int) != 0) = false := by simp; omega
      have HS : Hid (s = ⟨(Lib.decDigits k).toArray⟩) := eq_of_list (hI.1 (by omega))
      clear hI
      go_wp2_with fail
      go_ret
      exact ⟨by rw [HS.out]; rfl, hb⟩

set_option maxHeartbeats 1600000 in
theorem specText_any (a : Option Addr) (cap : Nat) (l : List (ByteArray × Int)) (w : World) (hl : l.length ≤ maxLen) (hr : Row w a l) (hs : ∀ j, (h : j < l.length) → l[j].1.size ≤ maxLen) :
    Calls Tryd.prog 6 #[.slice a l.length cap] w fun e w' => (∃ s, e = .returned (.string s) ∧ IsTx l s) ∧ Below w.heap.size w w' := by
  go_enter Tryd.func6, Tryd.ntmps6
  go_wp2_with fail
  refine (specOk_b a cap l _ hl hr hs).mono ?_
  rintro e w1 ⟨⟨r, rfl, hr1⟩, b1⟩
  cases r
  · have H : Hid (IsTx l ⟨#[]⟩) := ⟨fun h => by simpa using hr1.2 h, fun _ => rfl⟩
    clear hr1
    go_wp2_with fail
    go_ret
    exact ⟨⟨_, rfl, H.out⟩, b1⟩
  have hS : StampP l := hr1.1 rfl
  clear hr1
  by_cases h0 : l.length = 0
  · have h0' : ((l.length : Int) == 0) = true := by rw [beq_iff_eq]; omega
    have H : Hid (IsTx l ⟨#[45]⟩) := ⟨fun _ => by rw [if_pos (List.length_eq_zero_iff.1 h0)], fun h => absurd hS h⟩
    clear hS h0
    go_wp2_with fail
    go_ret
    exact ⟨⟨_, rfl, H.out⟩, b1⟩
  have h0' : ((l.length : Int) == 0) = false := by rw [beq_eq_false_iff_ne]; omega
  have h12 := hS.1
  have HS : Hid (StampP l) := hS
  have hpos : 0 < l.length := by omega
  clear hS h0
  go_wp2_with fail
  go_loopw [3, 4] (fun out iv wr => ∃ (k : Nat) (s : ByteArray), k ≤ l.length ∧ iv = .int .i64 k ∧ out = .string s ∧ s.data.toList = textB (l.take k) ∧ Below w.heap.size w wr) (fun _ iv _ => l.length - (intOf iv).toNat)
  case atStart => exact ⟨0, _, Nat.zero_le _, rfl, rfl, by simp [textB, Lib.join_nil], b1⟩
  case round =>
    obtain ⟨k, s, hk, rfl, rfl, hI, hbl⟩ := hrel
    by_cases hlt : k < l.length
    · obtain ⟨b2, o2, rfl, hlt2, c0, c1⟩ := hr k hlt
      have e0 := cell_on hbl hlt2 c0
      have e1 := cell_on hbl hlt2 c1
      have g2 : b2 < wr.heap.size := Nat.lt_of_lt_of_le hlt2 hbl.size
      have k0 : (0 : Int) ≤ (k : Int) := by omega
      have k1 : (k : Int) < (l.length : Int) := by omega
      have hM := HS.out.2.1 k hlt
      have hv1 := hM.2.1
      have hv2 := hM.2.2
      have hn8 := hM.1.2.1
      obtain ⟨V, hV⟩ : ∃ V : Nat, l[k].2 = (V : Int) := ⟨l[k].2.toNat, by omega⟩
      have hsz : s.size ≤ 13194139533444 := by
        have h1 := textB_len HS.out.2.1 k hk
        rw [← hI, size_list] at h1
        omega
      have hdl := decDigits_len _ V (Nat.le_refl _)
      have hdz : (⟨(Lib.decDigits V).toArray⟩ : ByteArray).size = (Lib.decDigits V).length := by
        show (Lib.decDigits V).toArray.size = _
        simp
      have HW : Hid (wordB l[k] = l[k].1.data.toList ++ 58 :: Lib.decDigits V) := by unfold Hid wordB; rw [hV]; rfl
      rw [hV] at e1 hv1 hv2
      have cd : ∀ n : Lat wr, Calls Tryd.prog 17 #[.int .i64 (V : Int)] n.w fun e w'' => e = .returned (.string ⟨(Lib.decDigits V).toArray⟩) ∧ Below n.w.heap.size n.w w'' := fun n => l1Dec_exact V n.w (by omega) (by omega)
      obtain ⟨D, hD⟩ : ∃ D : ByteArray, (⟨(Lib.decDigits V).toArray⟩ : ByteArray) = D := ⟨_, rfl⟩
      rw [hD] at cd hdz
      have HDD : Hid (D.data.toList = Lib.decDigits V) := by rw [Hid, ← hD]
      have hDs : D.size ≤ 1099511627777 := by omega
      have q0 : ∀ n : Lat wr, n.w.cell? ⟨b2, o2 + k * 2, none⟩ = some (.string l[k].1) := fun n => n.cell g2 e0
      have q1 : ∀ n : Lat wr, n.w.cell? ⟨b2, o2 + k * 2 + 1, none⟩ = some (.int .i64 (V : Int)) := fun n => n.cell g2 e1
      have hne := Lat.some wr
      have HI : Hid (s.data.toList = textB (l.take k)) := hI
      clear hI hM hV hD hdl hdz
      by_cases hk0 : 0 < k
      · have HSN : Hid (textB (l.take (k + 1)) = textB (l.take k) ++ (32 :: wordB l[k])) := textB_snoc hlt hk0
        have hs32 : (s ++ (⟨#[32]⟩ : ByteArray)).size = s.size + 1 := by rw [ByteArray.size_append]; rfl
        have HA : Hid ((s ++ (⟨#[32]⟩ : ByteArray)).data.toList = s.data.toList ++ [32]) := toList_append2 _ _
        go_wp2_with fail
        generalize s ++ (⟨#[32]⟩ : ByteArray) = s2 at *
        refine wp_region_lat (by kernel_rfl) (by kernel_rfl) ?_
        repeat (go_big_quiet_step ((go_at_call 17; exact Calls.lat_of (cd _))))
        refine wpQuiet_nil ?_
        rintro _ ⟨nq, rfl⟩
        go_wp2_with fail
        refine ⟨⟨k + 1, _, by omega, by go_num, rfl, ?_, hbl.trans (nq.h.mono hbl.size)⟩, by simp [intOf]; omega⟩
        rw [HSN.out, HW.out]
        simp only [toList_append2, HA.out, HI.out, HDD.out, List.append_assoc]
        rfl
      · have HSN : Hid (textB (l.take (k + 1)) = wordB l[k]) := by
          obtain rfl : k = 0 := by omega
          exact textB_first hlt
        have HS0 : Hid (s.data.toList = []) := by
          rw [Hid, HI.out, show k = 0 by omega]
          simp [textB, Lib.join_nil]
        go_wp2_with fail
        refine wp_region_lat (by kernel_rfl) (by kernel_rfl) ?_
        repeat (go_big_quiet_step ((go_at_call 17; exact Calls.lat_of (cd _))))
        refine wpQuiet_nil ?_
        rintro _ ⟨nq, rfl⟩
        go_wp2_with fail
        refine ⟨⟨k + 1, _, by omega, by go_num, rfl, ?_, hbl.trans (nq.h.mono hbl.size)⟩, by simp [intOf]; omega⟩
        rw [HSN.out, HW.out]
        simp only [toList_append2, HS0.out, HDD.out, List.append_assoc]
        rfl
    · have HF : Hid (IsTx l s) := ⟨fun _ => by rw [if_neg (fun e => by rw [e] at hpos; simp at hpos), hI, List.take_of_length_le (by omega)], fun h => absurd HS.out h⟩
      clear hI
      go_wp2_with fail
      go_ret
      exact ⟨⟨_, rfl, HF.out⟩, hbl⟩

end Go.Proofs.YtpfhegengmlkmaaDoor
