/- The walk of the law FnStampOnly. -/
import Derived.Test.YtpfhegengmlkmaaDraw5
import Derived.Test.YtpfhegengmlkmaaBs
import Derived.Test.YtpfhegengmlkmaaLawM
namespace Go.Proofs.Ytpfhegengmlkmaa
open Go.RowKit Go.BigFrame
set_option maxRecDepth 100000

set_option maxHeartbeats 1600000 in
theorem lawOnly_any (ab : Option Addr) (n c : Nat) (w : World) (h : Bytes w ab n c) (hn : n ≤ maxLen) :
    Calls Try.prog 6 #[.slice ab n c] w fun e w' => e = .returned (.bool true) ∧ Below w.heap.size w w' := by
  unfold maxLen at hn
  go_enter Try.func6, Try.ntmps6
  by_cases hbig : 1048576 < n
  · have hbig' : decide ((1048576 : Int) < (n : Int)) = true := by simp; omega
    go_wp2_with fail
    go_ret
    exact ⟨rfl, Below.refl _ _⟩
  have hbig' : decide ((1048576 : Int) < (n : Int)) = false := by simp; omega
  go_wp2_with fail
  refine (drawOnly_any ab n c _ h).mono ?_
  rintro e w1 ⟨⟨va, la, vb, lb, rfl, hm1, hs1, hlb⟩, b1⟩
  obtain ⟨aa, ca, rfl, hra⟩ := hm1.g.shape
  obtain ⟨a', c', rfl, hrb⟩ := hs1.shape
  have hla := hm1.len
  have hsz := hm1.size
  clear hm1 hs1 h
  go_wp2_with fail
  refine (implOnly_any aa ca la a' c' lb _ (by omega) hra (fun j hj => by have := hsz _ (List.getElem_mem hj); omega) (by omega) hrb).mono ?_
  rintro e w2 ⟨⟨vt, lt, rfl, hg2, ho2⟩, b2⟩
  obtain ⟨at_, ct, rfl, hrt⟩ := hg2.shape
  have hra2 := hra.below b2
  have hrb2 := hrb.below b2
  have B2 : Below w.heap.size w w2 := b1.trans (b2.mono b1.size)
  clear b1 b2 hg2 hra hrb
  go_wp2_with fail
  refine (specOnly_any aa ca la a' c' lb _ (by omega) hra2 (fun j hj => by have := hsz _ (List.getElem_mem hj); unfold maxLen; omega) (by omega) hrb2).mono ?_
  rintro e w3 ⟨⟨vu, lu, rfl, hg3, ho3⟩, b3⟩
  obtain rfl := ho2.one ho3
  obtain ⟨au, cu, rfl, hru⟩ := hg3.shape
  have hra3 := hra2.below b3
  have hrb3 := hrb2.below b3
  have hrt3 := hrt.below b3
  have B3 : Below w.heap.size w w3 := B2.trans (b3.mono B2.size)
  clear b3 hg3 hra2 hrb2 hrt B2
  go_wp2_with fail
  have htl : lt.length ≤ 40 := by
    by_cases hp : StampP la
    · rw [ho2.1 hp]; exact Nat.le_trans (List.length_filter_le _ _) hla
    · rw [ho2.2 hp]; simp
  refine (bsMarks_any at_ au ct cu lt lt _ (by unfold maxLen; omega) (by unfold maxLen; omega) hrt3 hru).mono ?_
  rintro e w4 ⟨⟨r, rfl, hr4⟩, b4⟩
  obtain rfl : r = true := hr4.2 rfl
  have hra4 := hra3.below b4
  have hrb4 := hrb3.below b4
  have hrt4 := hrt3.below b4
  have B4 : Below w.heap.size w w4 := B3.trans (b4.mono B3.size)
  have hst : StampP lt := ho2.stamp
  have htz : ∀ j, (h : j < lt.length) → lt[j].1.size ≤ maxLen := by
    intro j hj
    have hmem : lt[j] ∈ la := by
      by_cases hp : StampP la
      · exact (show ∀ x, x ∈ lt → x ∈ la from fun x hx => by rw [ho2.1 hp] at hx; exact (List.mem_filter.1 hx).1) _ (List.getElem_mem hj)
      · have e := ho2.2 hp
        subst e
        simp at hj
    have := hsz _ hmem
    unfold maxLen
    omega
  clear b4 hra3 hrb3 hrt3 hru B3 hr4
  go_wp2_with fail
  go_loopw [6] (fun i wr => ∃ k : Nat, k ≤ lb.length ∧ i = .int .i64 k ∧ Below w4.heap.size w4 wr) (fun i _ => lb.length - (intOf i).toNat)
  case atStart => exact ⟨0, Nat.zero_le _, rfl, Below.refl _ _⟩
  case round =>
    obtain ⟨k, hk, rfl, hbl⟩ := hrel
    by_cases hlt : k < lb.length
    · obtain ⟨b1, o1, rfl, hlt1, c0⟩ := hrb4 k hlt
      have e0 := cell_on hbl hlt1 c0
      have g0 : b1 < wr.heap.size := Nat.lt_of_lt_of_le hlt1 hbl.size
      have k0 : (0 : Int) ≤ (k : Int) := by omega
      have k1 : (k : Int) < (lb.length : Int) := by omega
      go_wp2_with fail
      have hne := Lat.some wr
      have qt : ∀ n : Lat wr, Row n.w at_ lt := fun n => (hrt4.below hbl).below n.h
      have qa : ∀ n : Lat wr, Row n.w aa la := fun n => (hra4.below hbl).below n.h
      have qb : ∀ n : Lat wr, n.w.cell? ⟨b1, o1 + k, none⟩ = some (.string lb[k]) := fun n => n.cell g0 e0
      have ci : ∀ n : Lat wr, Calls Try.prog 25 #[.slice at_ lt.length ct, .string lb[k]] n.w fun e w'' => e = .returned (.int .i64 (getM lt lb[k])) ∧ Below n.w.heap.size n.w w'' := fun n =>
        (implGet_any at_ ct lt lb[k] n.w (by unfold maxLen; omega) (qt n) htz).mono fun _ _ ⟨⟨v, he, hv⟩, hb⟩ => ⟨by rw [he, hv.1 hst], hb⟩
      have cs : ∀ n : Lat wr, Calls Try.prog 26 #[.slice aa la.length ca, .string lb[k]] n.w fun e w'' => e = .returned (.int .i64 (getM lt lb[k])) ∧ Below n.w.heap.size n.w w'' := fun n =>
        (specGet_any aa ca la lb[k] n.w (by unfold maxLen; omega) (qa n) (fun j hj => by have := hsz _ (List.getElem_mem hj); unfold maxLen; omega)).mono fun _ _ ⟨⟨v, he, hv⟩, hb⟩ => ⟨by rw [he, ← ho2.get (among_at hlt) ⟨fun _ => rfl, fun h => absurd hst h⟩ hv], hb⟩
      clear qt qa
      generalize getM lt lb[k] = gv at *
      refine wp_region_lat (by kernel_rfl) (by kernel_rfl) ?_
      repeat (go_big_quiet_step (first | (go_at_call 25; exact Calls.lat_of (ci _)) | (go_at_call 26; exact Calls.lat_of (cs _))))
      refine wpQuiet_nil ?_
      rintro _ ⟨nq, rfl⟩
      go_wp2_with fail
      exact ⟨⟨k + 1, by omega, by go_num, hbl.trans (nq.h.mono hbl.size)⟩, by simp [intOf]; omega⟩
    · go_wp2_with fail
      refine (implStampOk_any at_ ct lt _ (by unfold maxLen; omega) (hrt4.below hbl) htz).mono ?_
      rintro e w5 ⟨⟨r, rfl, hr5⟩, b5⟩
      obtain rfl : r = true := hr5.2 hst
      have B5 : Below w.heap.size w w5 := (B4.trans (hbl.mono B4.size)).trans (b5.mono (Nat.le_trans B4.size hbl.size))
      clear hr5
      go_wp2_with fail
      go_ret
      exact ⟨rfl, B5⟩

end Go.Proofs.Ytpfhegengmlkmaa
