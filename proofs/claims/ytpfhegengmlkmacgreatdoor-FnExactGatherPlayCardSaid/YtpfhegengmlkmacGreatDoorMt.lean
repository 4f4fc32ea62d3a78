/- Walks: markText, markMarkS, heldMarkS. -/
import Derived.Test.YtpfhegengmlkmacGreatDoorLat
import Derived.Laws.IdiomStrings
namespace Go.Proofs.YtpfhegengmlkmacGreatDoor
open Go.RowKit Go.BigFrame

/-- string([]byte{d}) of a byte that was just laid. -/
theorem conv_one (d : Int) (h0 : 0 ≤ d) (h1 : d ≤ 255) (u : World) :
    (convert 121 9 (.slice (some ⟨u.heap.size, 0, none⟩) 1 1)).run Tryz.prog (u.alloc (.cells #[.int .u8 d] 5)) = .ok (.string ⟨#[UInt8.ofNat d.toNat]⟩) (u.alloc (.cells #[.int .u8 d] 5)) := by
  have h := run_convert_bytes_back (P := Tryz.prog) (u.alloc (.cells #[.int .u8 d] 5)) 121 9 5 ⟨u.heap.size, 0, none⟩ 1 [UInt8.ofNat d.toNat] Tryz.underlying121 Tryz.underlying5 Tryz.underlying9 (fun j hj => by
    obtain rfl : j = 0 := by simpa using hj
    have e : ((UInt8.ofNat d.toNat).toNat : Int) = d := by
      rw [UInt8.toNat_ofNat']
      omega
    simp [Addr.add, go_sem]
    omega)
  simpa using h

/-- The decimal text of q ahead of 'out', by so many steps at the most. -/
def mtF : Nat → Nat → ByteArray → ByteArray
  | 0, _, out => out
  | f + 1, q, out => if q = 0 then out else mtF f (q / 10) (⟨#[48 + UInt8.ofNat (q % 10)]⟩ ++ out)
theorem mtF_zero (f : Nat) (out : ByteArray) : mtF f 0 out = out := by cases f <;> simp [mtF]
theorem mtF_step (f q : Nat) (out : ByteArray) (h : 0 < q) : mtF (f + 1) q out = mtF f (q / 10) (⟨#[48 + UInt8.ofNat (q % 10)]⟩ ++ out) := by
  rw [mtF, if_neg (by omega)]
/-- The text that markText makes of k. -/
def mt (k : Int) : ByteArray := if k ≤ 0 then ⟨#[109, 48]⟩ else ⟨#[109]⟩ ++ mtF (k.toNat + 1) k.toNat ⟨#[]⟩

set_option maxHeartbeats 400000 in
theorem markText_any (k : Int) (w : World) (h1 : k ≤ 1000000000) :
    Calls Tryz.prog 66 #[.int .i64 k] w fun e w' => e = .returned (.string (mt k)) ∧ Below w.heap.size w w' := by
  by_cases hk : k ≤ 0
  · have H : Hid (mt k = ⟨#[109, 48]⟩) := by unfold Hid mt; rw [if_pos hk]
    go_enter Tryz.func66, Tryz.ntmps66
    go_wp2_with fail
    go_ret
    exact ⟨by rw [H.out]; rfl, Below.refl _ _⟩
  · have H : Hid (mt k = ⟨#[109]⟩ ++ mtF (k.toNat + 1) k.toNat ⟨#[]⟩) := by unfold Hid mt; rw [if_neg hk]
    go_enter Tryz.func66, Tryz.ntmps66
    go_wp2_with fail
    go_loopw [0, 3] (fun kk out wr => ∃ (q f : Nat) (s : ByteArray), kk = .int .i64 q ∧ s.size + q ≤ 1000000000 ∧ out = .string s ∧ q < f ∧ Hid (mtF f q s = mtF (k.toNat + 1) k.toNat ⟨#[]⟩) ∧ Below w.heap.size w wr) (fun kk _ _ => (intOf kk).toNat)
    case atStart => exact ⟨k.toNat, k.toNat + 1, _, by congr 1; omega, by show 0 + k.toNat ≤ _; omega, rfl, by omega, rfl, Below.refl _ _⟩
    case round =>
      obtain ⟨q, f, s, rfl, hq, rfl, hqf, HF, hb⟩ := hrel
      by_cases hlt : 0 < q
      · have hcv := conv_one (48 + (q : Int) % 10) (by omega) (by omega) wr
        go_wp2_with fail
        obtain ⟨g, rfl⟩ : ∃ g, f = g + 1 := ⟨f - 1, by omega⟩
        refine ⟨⟨q / 10, g, _, by congr 1, ?_, rfl, by omega, ?_, hb.alloc hb.size _⟩, by simp [intOf]; omega⟩
        · rw [ByteArray.size_append]
          show 1 + s.size + q / 10 ≤ _
          omega
        · rw [← HF.out, mtF_step g q s hlt]
          rfl
      · obtain rfl : q = 0 := by omega
        have HF' : Hid (s = mtF (k.toNat + 1) k.toNat ⟨#[]⟩) := by rw [← HF.out, mtF_zero]; rfl
        go_wp2_with fail
        go_ret
        exact ⟨by rw [H.out, ← HF'.out]; rfl, hb⟩

/-- What markMarkS leaves of n marks, counted from k on. -/
def marked (k : Int) (n : Nat) : List (ByteArray × Int) := (List.range n).map fun (i : Nat) => (mt (k + 2 * (i : Int)), k + 2 * (i : Int) + 1)
theorem marked_length (k : Int) (n : Nat) : (marked k n).length = n := by simp [marked]
theorem marked_at (k : Int) (n j : Nat) (h : j < (marked k n).length) : (marked k n)[j] = (mt (k + 2 * (j : Int)), k + 2 * (j : Int) + 1) := by simp [marked]

set_option maxHeartbeats 800000 in
theorem markMarkS_any (b cap n : Nat) (k : Int) (w : World) (hn : n ≤ 1048576) (hk0 : 0 ≤ k) (hk1 : k ≤ 10000000) (l : List (ByteArray × Int)) (hl : l.length = n) (ho : Own w b l) :
    Calls Tryz.prog 59 #[.slice (some ⟨b, 0, none⟩) n cap, .int .i64 k] w fun e w' => e = .returned (.int .i64 (k + 2 * (n : Int))) ∧ Own w' b (marked k n) ∧ But b w w' := by
  have hp : Part w b (marked k n) 0 := by
    obtain ⟨m, f, hf, hm, _⟩ := ho
    exact ⟨m, f, hf, by rw [marked_length, ← hl]; exact hm, fun j _ h => by omega⟩
  go_enter Tryz.func59, Tryz.ntmps59
  go_wp2_with fail
  go_loopw [1, 5] (fun kk i wr => ∃ j : Nat, j ≤ n ∧ i = .int .i64 j ∧ kk = .int .i64 (k + 2 * (j : Int)) ∧ Part wr b (marked k n) j ∧ But b w wr) (fun _ i _ => n - (intOf i).toNat)
  case atStart => exact ⟨0, Nat.zero_le _, rfl, by simp, hp, But.refl _ _⟩
  case round =>
    obtain ⟨j, hj, rfl, rfl, hpj, hb⟩ := hrel
    by_cases hlt : j < n
    · have hlen := marked_length k n
      have hpl := hpj.lt
      have HM : Hid ((marked k n)[j] = (mt (k + 2 * (j : Int)), k + 2 * (j : Int) + 1)) := marked_at k n j (by omega)
      go_wp2_with (first | (go_at_call 66; refine (markText_any _ _ (by omega)).mono ?_; rintro e w1 ⟨rfl, hb1⟩; have hp1 := hpj.below hpl hb1; obtain ⟨v0, hv0⟩ := hp1.cell (i := j * 2) (by omega); obtain ⟨v1, hv1⟩ := hp1.cell (i := j * 2 + 1) (by omega); have hz0 := hp1.frozen (j * 2); have hz1 := hp1.frozen (j * 2 + 1)))
      exact ⟨⟨j + 1, by omega, by go_num, by congr 1; omega, hp1.step' (by omega) HM.out, ((hb.trans (But.of_below hb1)).setCell _ _).setCell _ _⟩, by simp [intOf]; omega⟩
    · obtain rfl : j = n := by omega
      go_wp2_with fail
      go_ret
      exact ⟨rfl, Part.own (by rw [marked_length]; exact hpj), hb⟩

set_option maxHeartbeats 400000 in
theorem markMarkS_none (a : Option Addr) (cap : Nat) (k : Int) (w : World) :
    Calls Tryz.prog 59 #[.slice a 0 cap, .int .i64 k] w fun e w' => e = .returned (.int .i64 k) ∧ w' = w := by
  go_enter Tryz.func59, Tryz.ntmps59
  go_wp2_with fail
  go_loop [1, 5] (fun kk i => i = .int .i64 0 ∧ kk = .int .i64 k) (fun _ _ => 0)
  case atStart => exact ⟨rfl, rfl⟩
  case round =>
    obtain ⟨rfl, rfl⟩ := hrel
    go_wp2_with fail
    go_ret
    exact ⟨rfl, rfl⟩

set_option maxHeartbeats 800000 in
theorem heldMarkS_any (a : Option Addr) (cap n : Nat) (k : Int) (w : World) (hn : n ≤ 1048576) (hk0 : 0 ≤ k) (hk1 : k ≤ 10000000) (hr : Row w a (marked k n)) :
    Calls Tryz.prog 63 #[.slice a n cap, .int .i64 k] w fun e w' => e = .returned (.int .i64 (k + 2 * (n : Int))) ∧ Below w.heap.size w w' := by
  go_enter Tryz.func63, Tryz.ntmps63
  go_wp2_with fail
  go_loopw [1, 5] (fun kk i wr => ∃ j : Nat, j ≤ n ∧ i = .int .i64 j ∧ kk = .int .i64 (k + 2 * (j : Int)) ∧ Below w.heap.size w wr) (fun _ i _ => n - (intOf i).toNat)
  case atStart => exact ⟨0, Nat.zero_le _, rfl, by simp, Below.refl _ _⟩
  case round =>
    obtain ⟨j, hj, rfl, rfl, hb⟩ := hrel
    by_cases hlt : j < n
    · have hlen := marked_length k n
      obtain ⟨b, o, rfl, hblt, c0, c1⟩ := hr j (by omega)
      rw [marked_at k n j (by omega)] at c0 c1
      have e0 := cell_on hb hblt c0
      have e1 := cell_on hb hblt c1
      have g1 : b < wr.heap.size := Nat.lt_of_lt_of_le hblt hb.size
      go_wp2_with fail
      refine wp_region_lat (by kernel_rfl) (by kernel_rfl) ?_
      have hne := Lat.some wr
      have q0 : ∀ n : Lat wr, n.w.cell? ⟨b, o + j * 2, none⟩ = some (.string (mt (k + 2 * (j : Int)))) := fun n => n.cell g1 e0
      repeat (go_big_quiet_step ((go_at_call 66; exact Calls.lat_of (markText_any _ _ (by omega)))))
      refine wpQuiet_nil ?_
      rintro _ ⟨nq, rfl⟩
      have f1 := nq.cell g1 e1
      go_wp2_with fail
      exact ⟨⟨j + 1, by omega, by go_num, by congr 1; omega, hb.trans (nq.h.mono hb.size)⟩, by simp [intOf]; omega⟩
    · obtain rfl : j = n := by omega
      go_wp2_with fail
      go_ret
      exact ⟨rfl, hb⟩

end Go.Proofs.YtpfhegengmlkmacGreatDoor
