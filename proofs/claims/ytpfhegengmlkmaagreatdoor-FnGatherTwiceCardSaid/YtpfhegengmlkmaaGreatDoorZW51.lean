/- Texts of this claim, one behind the other. -/
import Derived.Test.YtpfhegengmlkmaaGreatDoorZW20
import Derived.Test.YtpfhegengmlkmaaGreatDoorZW26
import Derived.Test.YtpfhegengmlkmaaGreatDoorZW50
namespace Go.Proofs.YtpfhegengmlkmaaGreatDoor

theorem above_chain {l : List ItemL} (h : WinP l) {x : Int} {m : List (ByteArray × Int)} (ht : TakeP l m) : ∀ j, (hj : j + 1 < (l ++ [(x, m)]).length) → AboveP (l ++ [(x, m)])[j].2 (l ++ [(x, m)])[j + 1].2 := fun j hj => by
  rw [List.length_append, List.length_singleton] at hj
  by_cases e : j + 1 < l.length
  · rw [List.getElem_append_left (by omega), List.getElem_append_left e]
    exact h.2.2 j e
  · obtain rfl : j = l.length - 1 := by omega
    rw [List.getElem_append_left (by omega), List.getElem_append_right (by omega)]
    simp only [List.getElem_singleton]
    exact ht (by omega)
theorem win_put {l : List ItemL} (h : WinP l) {x : Int} {m : List (ByteArray × Int)} (hm : StampP m ∧ m ≠ []) (ht : TakeP l m) : WinP (putL l (x, m)) := by
  have h4 := h.1
  have hs : ∀ j, (hj : j < (l ++ [(x, m)]).length) → StampP (l ++ [(x, m)])[j].2 ∧ (l ++ [(x, m)])[j].2 ≠ [] := fun j hj => by
    by_cases e : j < l.length
    · rw [List.getElem_append_left e]; exact h.2.1 j e
    · rw [List.getElem_append_right (by omega)]
      simp only [List.getElem_singleton]
      exact hm
  have hc := above_chain h (x := x) ht
  unfold putL
  split
  · exact ⟨by simp; omega, hs, hc⟩
  · rename_i hf
    have e : l.tail ++ [(x, m)] = (l ++ [(x, m)]).tail := by cases l with
      | nil => simp at hf
      | cons y t => rfl
    rw [e]
    refine ⟨by simp; omega, fun j hj => ?_, fun j hj => ?_⟩
    · rw [List.getElem_tail]; exact hs _ _
    · simp only [List.getElem_tail]; exact hc (j + 1) (by simp at hj ⊢; omega)
end Go.Proofs.YtpfhegengmlkmaaGreatDoor

namespace Go.Proofs.YtpfhegengmlkmaaGreatDoor
open Go.RowKit

theorem putL_end (l : List ItemL) (it : ItemL) : ∃ r, putL l it = r ++ [it] := by
  by_cases h : l.length < 4
  · exact ⟨l, putL_room h⟩
  · exact ⟨l.tail, putL_full h⟩
/-- An item that was just taken is old. -/
theorem isP_twice {l r : List ItemL} {x : Int} {m : List (ByteArray × Int)} (h : IsP l x m r 0) : IsP r x m r 2 := by
  by_cases hp : WinP l ∧ StampP m ∧ m ≠ []
  · by_cases ht : TakeP l m
    · obtain ⟨rfl, _⟩ := h.2.2 hp ht
      refine isP_old ⟨win_put hp.1 hp.2 ht, hp.2⟩ fun q => ?_
      obtain ⟨r, e⟩ := putL_end l (x, m)
      rw [e] at q
      have h1 := q (by simp)
      simp only [List.length_append, List.length_cons, List.length_nil] at h1
      simp at h1
      exact h1.2.2.2.2 h1.2.2.2.1
    · have := (h.2.1 hp ht).2; omega
  · have := (h.1 hp).2; omega
theorem GatP.put {g : GatL} (h : GatP g) (k : Nat) {r : List ItemL} (hr : WinP r) {sh : List (ByteArray × Int)} (hs : StampP sh) : GatP ⟨g.ins, g.wins.set k r, sh⟩ := by
  refine ⟨h.ins, by simpa using h.len, ⟨by simpa using h.wins.1, by simpa using h.wins.2.1, fun j hj => ?_⟩, hs⟩
  simp only [List.length_set] at hj
  simp only [List.getElem_set]
  split
  · exact hr
  · exact h.wins.2.2 j hj
theorem isP_win {l r : List ItemL} {x : Int} {m : List (ByteArray × Int)} (h : IsP l x m r 0) : WinP r := by
  by_cases hp : WinP l ∧ StampP m ∧ m ≠ []
  · by_cases ht : TakeP l m
    · obtain ⟨rfl, _⟩ := h.2.2 hp ht
      exact win_put hp.1 hp.2 ht
    · have := (h.2.1 hp ht).2; omega
  · have := (h.1 hp).2; omega
theorem PutG.twice {g g1 : GatL} {i x c : Int} {m ss : List (ByteArray × Int)} {sv : List Int} (h : PutG g i x m g1 sv ss c) (hc : c ≠ 2) : PutG g1 i x m g1 [] [] 3 := by
  rcases h with ⟨_, _, _, _, e⟩ | ⟨hI, r, cc, hP, h⟩
  · exact absurd e hc
  · rcases h with ⟨_, _, _, _, e⟩ | ⟨rfl, rfl, rfl, rfl, rfl⟩ | ⟨rfl, sh, hC, rfl⟩
    · exact absurd e hc
    · exact .inr ⟨hI, r, 2, hP, .inr (.inl ⟨rfl, rfl, rfl, rfl, rfl⟩)⟩
    · have hk : i.toNat < g.wins.length := by have := hI.1.len; have := hI.2; omega
      refine .inr ⟨⟨hI.1.put _ (isP_win hP) (hC.nice hI.1.shown).1, hI.2⟩, r, 2, ?_, .inr (.inl ⟨rfl, rfl, rfl, rfl, rfl⟩)⟩
      have e : (g.wins.set i.toNat r).getD i.toNat [] = r := by simp [List.getD, hk]
      show IsP ((g.wins.set i.toNat r).getD i.toNat []) x m r 2
      rw [e]
      exact isP_twice hP

end Go.Proofs.YtpfhegengmlkmaaGreatDoor

namespace Go.Proofs.YtpfhegengmlkmaaGreatDoor
open Go.RowKit Go.BigFrame
set_option maxRecDepth 100000

set_option maxHeartbeats 12800000 in
theorem lawTwice_any (ab : Option Addr) (n c : Nat) (w : World) (h : Bytes w ab n c) (hn : n ≤ maxLen) (het : ErrT w) :
    Calls Tryz.prog 5 #[.slice ab n c] w fun e w' => e = .returned (.bool true) ∧ Below w.heap.size w w' := by
  unfold maxLen at hn
  go_enter Tryz.func5, Tryz.ntmps5
  by_cases hbig : 1048576 < n
  · have hbig' : decide ((1048576 : Int) < (n : Int)) = true := by simp; omega
    go_wp2_with fail
    go_ret
    exact ⟨rfl, Below.refl _ _⟩
  have hbig' : decide ((1048576 : Int) < (n : Int)) = false := by simp; omega
  go_wp2_with fail
  refine (drawPut_any ab n c _ h).mono ?_
  rintro e w1 ⟨hE, B⟩
  obtain ⟨g, a0, c0, a1, c1, a2, c2, i, x, m, am, cm, rfl, hfit, hl100, hcap, ⟨r0, r1, r2⟩, hfm, hcm, hrm⟩ := hE
  replace het := het.below B
  clear h hbig hbig'
  have bW : Below w1.heap.size w1 ((w1.alloc (.cells #[.slice a0 g.ins.length c0, .slice a1 g.wins.length c1, .slice a2 g.shown.length c2] 30)).alloc (.cells #[.int .i64 i, .int .i64 x, .slice am m.length cm] 42)) := ((Below.refl _ _).alloc (Nat.le_refl _) _).alloc (by simp) _
  have tG : Tri ((w1.alloc (.cells #[.slice a0 g.ins.length c0, .slice a1 g.wins.length c1, .slice a2 g.shown.length c2] 30)).alloc (.cells #[.int .i64 i, .int .i64 x, .slice am m.length cm] 42)) w1.heap.size (.slice a0 g.ins.length c0) (.slice a1 g.wins.length c1) (.slice a2 g.shown.length c2) := by constructor <;> simp [go_sem]
  have tF : Tri ((w1.alloc (.cells #[.slice a0 g.ins.length c0, .slice a1 g.wins.length c1, .slice a2 g.shown.length c2] 30)).alloc (.cells #[.int .i64 i, .int .i64 x, .slice am m.length cm] 42)) (w1.heap.size + 1) (.int .i64 i) (.int .i64 x) (.slice am m.length cm) := by constructor <;> simp [go_sem]
  replace r0 := r0.below bW
  replace r1 := r1.below bW
  replace r2 := r2.below bW
  replace hrm := hrm.below bW
  replace het := het.below bW
  replace B := B.trans (bW.mono B.size)
  have HK : Hid _ := And.intro hfit (And.intro hl100 (And.intro hcap (And.intro r0 (And.intro r1 (And.intro r2 (And.intro hfm (And.intro hcm (And.intro hrm (And.intro het (And.intro B (And.intro tG tF)))))))))))
  clear hfit hl100 hcap r0 r1 r2 hfm hcm hrm het B tG tF bW
  go_wp2_with fail
  obtain ⟨hfit, hl100, hcap, r0, r1, r2, hfm, hcm, hrm, het, B, tG, tF⟩ := HK.out
  clear HK
  generalize ((w1.alloc (.cells #[.slice a0 g.ins.length c0, .slice a1 g.wins.length c1, .slice a2 g.shown.length c2] 30)).alloc (.cells #[.int .i64 i, .int .i64 x, .slice am m.length cm] 42)) = W1 at *
  generalize w1.heap.size = bg at *
  have hl20 : g.ins.length ≤ 1048576 := by omega
  refine (implGP_any a0 a1 a2 am c0 c1 c2 cm g i x m W1 hfit hl20 hcap.1 hcap.2 r0 r1 r2 hfm hcm hrm het).mono ?_
  rintro e w2 ⟨hE, b2⟩
  obtain ⟨R, rfl, _, _, hI⟩ := hE.cal
  clear hE
  have bA : Below w2.heap.size w2 ((w2.alloc (.cells #[.slice R.s0 R.g.ins.length R.d0, .slice R.s1 R.L.length R.d1, .slice R.s2 R.g.shown.length R.d2] 30)).alloc (.cells #[.slice R.s3 R.sv.length R.d3, .slice R.s4 R.ss.length R.d4] 36)) := ((Below.refl _ _).alloc (Nat.le_refl _) _).alloc (by simp) _
  have tA : Tri ((w2.alloc (.cells #[.slice R.s0 R.g.ins.length R.d0, .slice R.s1 R.L.length R.d1, .slice R.s2 R.g.shown.length R.d2] 30)).alloc (.cells #[.slice R.s3 R.sv.length R.d3, .slice R.s4 R.ss.length R.d4] 36)) w2.heap.size (.slice R.s0 R.g.ins.length R.d0) (.slice R.s1 R.L.length R.d1) (.slice R.s2 R.g.shown.length R.d2) := by constructor <;> simp [go_sem]
  have dA : Duo ((w2.alloc (.cells #[.slice R.s0 R.g.ins.length R.d0, .slice R.s1 R.L.length R.d1, .slice R.s2 R.g.shown.length R.d2] 30)).alloc (.cells #[.slice R.s3 R.sv.length R.d3, .slice R.s4 R.ss.length R.d4] 36)) (w2.heap.size + 1) (.slice R.s3 R.sv.length R.d3) (.slice R.s4 R.ss.length R.d4) := by constructor <;> simp [go_sem]
  have HWA : Hid (∃ WA, ((w2.alloc (.cells #[.slice R.s0 R.g.ins.length R.d0, .slice R.s1 R.L.length R.d1, .slice R.s2 R.g.shown.length R.d2] 30)).alloc (.cells #[.slice R.s3 R.sv.length R.d3, .slice R.s4 R.ss.length R.d4] 36)) = WA) := ⟨_, rfl⟩
  obtain ⟨WA, hWA⟩ := HWA.out
  clear HWA
  rw [hWA] at bA tA dA
  have HWA : Hid (((w2.alloc (.cells #[.slice R.s0 R.g.ins.length R.d0, .slice R.s1 R.L.length R.d1, .slice R.s2 R.g.shown.length R.d2] 30)).alloc (.cells #[.slice R.s3 R.sv.length R.d3, .slice R.s4 R.ss.length R.d4] 36)) = WA) := hWA
  clear hWA
  have B2 := B.trans (b2.mono B.size)
  replace B := B2.trans (bA.mono B2.size)
  replace r0 := (r0.below b2).below bA
  replace r1 := (r1.below b2).below bA
  replace r2 := (r2.below b2).below bA
  replace hrm := (hrm.below b2).below bA
  replace het := (het.below b2).below bA
  replace hI := hI.below bA
  replace tG := (tG.keep b2).keep bA
  replace tF := (tF.keep b2).keep bA
  obtain ⟨x0, x1, x2, _, _, _⟩ := id tG
  obtain ⟨y0, y1, y2, _, _, _⟩ := id tF
  have HK : Hid _ := And.intro r0 (And.intro r1 (And.intro r2 (And.intro hrm (And.intro het (And.intro hI (And.intro tG (And.intro tF (And.intro tA (And.intro dA B)))))))))
  clear r0 r1 r2 hrm het hI tG tF tA dA B B2 bA b2 hcap
  go_wp2_with (rw [HWA.out])
  obtain ⟨r0, r1, r2, hrm, het, hI, tG, tF, tA, dA, B⟩ := HK.out
  clear HK x0 x1 x2 y0 y1 y2 HWA
  generalize w2.heap.size = ba at *
  refine (specGP_any a0 a1 a2 am c0 c1 c2 cm g i x m WA hfit hl20 r0 r1 r2 hfm hrm).mono ?_
  rintro e w3 ⟨hE, b3⟩
  obtain ⟨RS, rfl, _, _, hIS⟩ := hE.cal b3.size
  clear hE r0 r1 r2
  have bB : Below w3.heap.size w3 ((w3.alloc (.cells #[.slice RS.s0 RS.g.ins.length RS.d0, .slice RS.s1 RS.L.length RS.d1, .slice RS.s2 RS.g.shown.length RS.d2] 30)).alloc (.cells #[.slice RS.s3 RS.sv.length RS.d3, .slice RS.s4 RS.ss.length RS.d4] 36)) := ((Below.refl _ _).alloc (Nat.le_refl _) _).alloc (by simp) _
  have tB : Tri ((w3.alloc (.cells #[.slice RS.s0 RS.g.ins.length RS.d0, .slice RS.s1 RS.L.length RS.d1, .slice RS.s2 RS.g.shown.length RS.d2] 30)).alloc (.cells #[.slice RS.s3 RS.sv.length RS.d3, .slice RS.s4 RS.ss.length RS.d4] 36)) w3.heap.size (.slice RS.s0 RS.g.ins.length RS.d0) (.slice RS.s1 RS.L.length RS.d1) (.slice RS.s2 RS.g.shown.length RS.d2) := by constructor <;> simp [go_sem]
  have dB : Duo ((w3.alloc (.cells #[.slice RS.s0 RS.g.ins.length RS.d0, .slice RS.s1 RS.L.length RS.d1, .slice RS.s2 RS.g.shown.length RS.d2] 30)).alloc (.cells #[.slice RS.s3 RS.sv.length RS.d3, .slice RS.s4 RS.ss.length RS.d4] 36)) (w3.heap.size + 1) (.slice RS.s3 RS.sv.length RS.d3) (.slice RS.s4 RS.ss.length RS.d4) := by constructor <;> simp [go_sem]
  have HWB : Hid (∃ WB, ((w3.alloc (.cells #[.slice RS.s0 RS.g.ins.length RS.d0, .slice RS.s1 RS.L.length RS.d1, .slice RS.s2 RS.g.shown.length RS.d2] 30)).alloc (.cells #[.slice RS.s3 RS.sv.length RS.d3, .slice RS.s4 RS.ss.length RS.d4] 36)) = WB) := ⟨_, rfl⟩
  obtain ⟨WB, hWB⟩ := HWB.out
  clear HWB
  rw [hWB] at bB tB dB
  have HWB : Hid (((w3.alloc (.cells #[.slice RS.s0 RS.g.ins.length RS.d0, .slice RS.s1 RS.L.length RS.d1, .slice RS.s2 RS.g.shown.length RS.d2] 30)).alloc (.cells #[.slice RS.s3 RS.sv.length RS.d3, .slice RS.s4 RS.ss.length RS.d4] 36)) = WB) := hWB
  clear hWB
  have B3 := B.trans (b3.mono B.size)
  replace B := B3.trans (bB.mono B3.size)
  replace hrm := (hrm.below b3).below bB
  replace het := (het.below b3).below bB
  replace hI := (hI.below b3).below bB
  replace hIS := hIS.below bB
  obtain ⟨eg, ev, es, ec, el⟩ := cal_same hIS hI
  have hcode : (R.code != RS.code) = false := by rw [ec]; simp
  have HC1 : Hid (Calls Tryz.prog 9 #[R.gv, RS.gv] WB fun e w' => e = .returned (.bool true) ∧ Below WB.heap.size WB w') := bsRows_any hIS.rows hI.rows eg.symm
  have HEQ : Hid (RS.g = R.g ∧ RS.sv = R.sv ∧ RS.ss = R.ss) := ⟨eg, ev, es⟩
  replace tF := (tF.keep b3).keep bB
  replace tA := (tA.keep b3).keep bB
  replace dA := (dA.keep b3).keep bB
  obtain ⟨x0, x1, x2, _, _, _⟩ := id tA
  obtain ⟨y0, y1, y2, _, _, _⟩ := id tB
  have HK : Hid _ := And.intro hrm (And.intro het (And.intro hI (And.intro hIS (And.intro tF (And.intro tA (And.intro dA (And.intro tB (And.intro dB B))))))))
  clear hrm het hI hIS tF tA dA tB dB B B3 b3 bB eg ev es ec el tG
  go_wp2_with (rw [HWB.out])
  refine Calls.mono HC1.out ?_
  rintro e w5 ⟨rfl, b5⟩
  obtain ⟨hrm, het, hI, hIS, tF, tA, dA, tB, dB, B⟩ := HK.out
  clear HK HC1 x0 x1 x2 y0 y1 y2 HWB
  replace B := B.trans (b5.mono B.size)
  replace hrm := hrm.below b5
  replace het := het.below b5
  replace hI := hI.below b5
  replace hIS := hIS.below b5
  replace tF := tF.keep b5
  replace tA := tA.keep b5
  replace dA := dA.keep b5
  replace dB := dB.keep b5
  clear b5 tB
  generalize w3.heap.size = bb at *
  have HC2 : Hid (Calls Tryz.prog 12 #[R.wv, RS.wv] w5 fun e w' => e = .returned (.bool true) ∧ Below w5.heap.size w5 w') := bsRowsS_any hIS.rows hI.rows HEQ.out.2.1.symm HEQ.out.2.2.symm
  obtain ⟨x0, x1, _, _⟩ := id dA
  obtain ⟨y0, y1, _, _⟩ := id dB
  have HK : Hid _ := And.intro hrm (And.intro het (And.intro hI (And.intro tF (And.intro tA B))))
  clear hrm het hI hIS tF tA dA dB B
  go_wp2_with fail
  refine Calls.mono HC2.out ?_
  rintro e w6 ⟨rfl, b6⟩
  obtain ⟨hrm, het, hI, tF, tA, B⟩ := HK.out
  clear HK HC2 x0 x1 y0 y1 HEQ hcode
  replace B := B.trans (b6.mono B.size)
  replace hrm := hrm.below b6
  replace het := het.below b6
  replace hI := hI.below b6
  replace tF := tF.keep b6
  replace tA := tA.keep b6
  clear b6
  by_cases h2 : R.code = 2
  · have h2' : (R.code == 2) = true := by rw [h2]; rfl
    clear hI tF tA hrm het
    go_wp2_with fail
    go_ret
    exact ⟨rfl, B⟩
  have h2' : (R.code == 2) = false := by rw [beq_eq_false_iff_ne]; exact h2
  have HCALL : Hid (Calls Tryz.prog 10 #[R.gv, .agg #[.int .i64 i, .int .i64 x, .slice am m.length cm]] w6 fun e w' => GPE w6 w' R.g i x m e ∧ Below w6.heap.size w6 w') := by
    have rr := hI.rows
    have z := implGP_any R.s0 R.s1 R.s2 am R.d0 R.d1 R.d2 cm R.g i x m w6 rr.nice.fit (by have := rr.nice.ins; omega) hI.cap.1 hI.cap.2 rr.r0 rr.r1 rr.r2 hfm hcm hrm het
    rw [← rr.len] at z
    exact z
  obtain ⟨x0, x1, x2, _, _, _⟩ := id tA
  obtain ⟨y0, y1, y2, _, _, _⟩ := id tF
  have HK : Hid _ := And.intro hI (And.intro tA B)
  clear hI tA B tF hrm het
  go_wp2_with fail
  refine Calls.mono HCALL.out ?_
  rintro e w7 ⟨hE, b7⟩
  obtain ⟨R2, rfl, _, _, hI2⟩ := hE.cal
  obtain ⟨hI, tA, B⟩ := HK.out
  clear HK HCALL hE x0 x1 x2 y0 y1 y2
  obtain ⟨tw1, tw2, tw3, tw4⟩ := PutG.one hI2.put (PutG.twice hI.put h2)
  have bC : Below w7.heap.size w7 ((w7.alloc (.cells #[.slice R2.s0 R2.g.ins.length R2.d0, .slice R2.s1 R2.L.length R2.d1, .slice R2.s2 R2.g.shown.length R2.d2] 30)).alloc (.cells #[.slice R2.s3 R2.sv.length R2.d3, .slice R2.s4 R2.ss.length R2.d4] 36)) := ((Below.refl _ _).alloc (Nat.le_refl _) _).alloc (by simp) _
  have tC : Tri ((w7.alloc (.cells #[.slice R2.s0 R2.g.ins.length R2.d0, .slice R2.s1 R2.L.length R2.d1, .slice R2.s2 R2.g.shown.length R2.d2] 30)).alloc (.cells #[.slice R2.s3 R2.sv.length R2.d3, .slice R2.s4 R2.ss.length R2.d4] 36)) w7.heap.size (.slice R2.s0 R2.g.ins.length R2.d0) (.slice R2.s1 R2.L.length R2.d1) (.slice R2.s2 R2.g.shown.length R2.d2) := by constructor <;> simp [go_sem]
  have dC : Duo ((w7.alloc (.cells #[.slice R2.s0 R2.g.ins.length R2.d0, .slice R2.s1 R2.L.length R2.d1, .slice R2.s2 R2.g.shown.length R2.d2] 30)).alloc (.cells #[.slice R2.s3 R2.sv.length R2.d3, .slice R2.s4 R2.ss.length R2.d4] 36)) (w7.heap.size + 1) (.slice R2.s3 R2.sv.length R2.d3) (.slice R2.s4 R2.ss.length R2.d4) := by constructor <;> simp [go_sem]
  have HWC : Hid (∃ WC, ((w7.alloc (.cells #[.slice R2.s0 R2.g.ins.length R2.d0, .slice R2.s1 R2.L.length R2.d1, .slice R2.s2 R2.g.shown.length R2.d2] 30)).alloc (.cells #[.slice R2.s3 R2.sv.length R2.d3, .slice R2.s4 R2.ss.length R2.d4] 36)) = WC) := ⟨_, rfl⟩
  obtain ⟨WC, hWC⟩ := HWC.out
  clear HWC
  rw [hWC] at bC tC dC
  have HWC : Hid (((w7.alloc (.cells #[.slice R2.s0 R2.g.ins.length R2.d0, .slice R2.s1 R2.L.length R2.d1, .slice R2.s2 R2.g.shown.length R2.d2] 30)).alloc (.cells #[.slice R2.s3 R2.sv.length R2.d3, .slice R2.s4 R2.ss.length R2.d4] 36)) = WC) := hWC
  clear hWC
  have B7 := B.trans (b7.mono B.size)
  replace B := B7.trans (bC.mono B7.size)
  replace hI := (hI.below b7).below bC
  replace hI2 := hI2.below bC
  obtain ⟨x0, x1, x2, _, _, _⟩ := id ((tA.keep b7).keep bC)
  obtain ⟨z0, z1, z2, _, _, _⟩ := id tC
  have HC3 : Hid (Calls Tryz.prog 9 #[R2.gv, R.gv] WC fun e w' => e = .returned (.bool true) ∧ Below WC.heap.size WC w') := bsRows_any hI.rows hI2.rows tw1
  have hc3 : (R2.code == 3) = true := by rw [tw4]; rfl
  have HV : Hid (R2.sv.length = 0 ∧ R2.ss.length = 0) := by rw [tw2, tw3]; exact ⟨rfl, rfl⟩
  clear hI hI2 tA tC tw1 tw2 tw3 tw4 b7 bC B7 h2 h2'
  go_wp2_with (rw [HWC.out])
  refine Calls.mono HC3.out ?_
  rintro e w8 ⟨rfl, b8⟩
  replace B := B.trans (b8.mono B.size)
  obtain ⟨y0, y1, _, _⟩ := id (dC.keep b8)
  have v0 := HV.out.1
  have v1 := HV.out.2
  clear HC3 dC b8 HV x0 x1 x2 z0 z1 z2 HWC
  go_wp2_with fail
  go_ret
  exact ⟨rfl, B⟩

end Go.Proofs.YtpfhegengmlkmaaGreatDoor
