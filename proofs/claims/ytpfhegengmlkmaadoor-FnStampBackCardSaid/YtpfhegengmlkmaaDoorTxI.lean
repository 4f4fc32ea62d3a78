/- Walks: (impl.Mark).text, impl.StampText. -/
import Derived.Test.YtpfhegengmlkmaaDoorTxM
import Derived.Test.YtpfhegengmlkmaaDoorWf
import Derived.Test.YtpfhegengmlkmaaDoorGathS
import Derived.Test.YtpfhegengmlkmaaDoorShelf
import Derived.Lib.LaidTab
namespace Go.Proofs.YtpfhegengmlkmaaDoor
open Go.RowKit Go.BigFrame
set_option maxRecDepth 100000

theorem var_below {P : Program} {w w' : World} {n : String} {cs : Array Value} (h : w.var? P n = some cs) (hb : Below w.heap.size w w') : w'.var? P n = some cs := by
  unfold World.var? at h ⊢
  cases hg : P.globalNamed n with
  | none => rw [hg] at h; cases h
  | some g =>
    rw [hg] at h
    simp only [Option.bind_some] at h ⊢
    have hlt : g < w.heap.size := by
      rcases Nat.lt_or_ge g w.heap.size with h' | h'
      · exact h'
      · rw [Array.getElem?_eq_none h'] at h; cases h
    rw [hb.block g hlt]
    exact h
/-- The library's table of the powers of ten lies as its text lays it. -/
def Tab (w : World) : Prop := Lib.TabIs Tryd.prog w "internal/strconv.uint64pow10" .u64 Lib.pow10Tab
theorem Tab.below {w w' : World} (h : Tab w) (hb : Below w.heap.size w w') : Tab w' := var_below h hb
theorem below_grow (w : World) (q : Nat) (os : Array Obj) : Below w.heap.size w (Sort.grow (w.drewN q) os) :=
  ⟨rfl, rfl, rfl, by simp [Sort.grow, World.drewN], fun k hk => by
    show (w.heap ++ os)[k]? = _
    rw [Array.getElem?_append_left hk]⟩
theorem itoa_any (n : Nat) (w : World) (h1 : n ≤ 1099511627776) (ht : Tab w) :
    Calls Tryd.prog 28 #[.int .i64 (n : Int)] w fun e w' => e = .returned (.string ⟨(Lib.decDigits n).toArray⟩) ∧ Below w.heap.size w w' :=
  (Tryd.strconv_Itoa (n : Int) (by omega) (by omega) w ht).mono fun _ w' ⟨he, k, os, hw⟩ => ⟨by rw [he]; unfold Lib.itoa; rw [if_neg (by omega)]; rfl, by rw [hw]; exact below_grow w k os⟩

set_option maxHeartbeats 800000 in
theorem text_any (s : ByteArray) (n : Nat) (w : World) (hs : s.size ≤ 8) (h1 : n ≤ 1099511627776) (ht : Tab w) :
    Calls Tryd.prog 15 #[.agg #[.string s, .int .i64 (n : Int)]] w fun e w' => e = .returned (.string ⟨(wordB (s, (n : Int))).toArray⟩) ∧ Below w.heap.size w w' := by
  go_enter Tryd.func15, Tryd.ntmps15
  go_wp2_with fail
  have c0 := box0 w (.string s) (.int .i64 (n : Int)) 37
  have c1 := box1 w (.string s) (.int .i64 (n : Int)) 37
  have hlx := box_lt w (.cells #[.string s, .int .i64 (n : Int)] 37)
  have hb0 : Below w.heap.size w (w.alloc (.cells #[.string s, .int .i64 (n : Int)] 37)) := (Below.refl _ _).alloc (Nat.le_refl _) _
  replace ht := ht.below hb0
  generalize w.alloc (.cells #[.string s, .int .i64 (n : Int)] 37) = W0 at *
  have hdl := decDigits_len _ n (Nat.le_refl _)
  have cd : ∀ m : Lat W0, Calls Tryd.prog 28 #[.int .i64 (n : Int)] m.w fun e w'' => e = .returned (.string ⟨(Lib.decDigits n).toArray⟩) ∧ Below m.w.heap.size m.w w'' := fun m => itoa_any n m.w h1 (ht.below m.h)
  obtain ⟨D, hD⟩ : ∃ D : ByteArray, (⟨(Lib.decDigits n).toArray⟩ : ByteArray) = D := ⟨_, rfl⟩
  have hDs : D.size ≤ 1099511627777 := by
    rw [← hD]
    show (Lib.decDigits n).toArray.size ≤ _
    simp
    omega
  rw [hD] at cd
  have HW : Hid (s ++ (⟨#[58]⟩ : ByteArray) ++ D = ⟨(wordB (s, (n : Int))).toArray⟩) := by
    apply data_eq
    rw [ByteArray.data_append, ByteArray.data_append, Array.toList_append, Array.toList_append, ← hD]
    show s.data.toList ++ [58] ++ Lib.decDigits n = wordB (s, (n : Int))
    unfold wordB
    rw [List.append_assoc]
    rfl
  have q0 : ∀ m : Lat W0, m.w.cell? ⟨w.heap.size, 0, none⟩ = some (.string s) := fun m => m.cell hlx c0
  have q1 : ∀ m : Lat W0, m.w.cell? ⟨w.heap.size, 1, none⟩ = some (.int .i64 (n : Int)) := fun m => m.cell hlx c1
  have hne := Lat.some W0
  clear hD hdl
  refine wp_region_lat (by kernel_rfl) (by kernel_rfl) ?_
  repeat (go_big_quiet_step ((go_at_call 28; exact Calls.lat_of (cd _))))
  refine wpQuiet_nil ?_
  rintro _ ⟨nq, rfl⟩
  go_wp2_with fail
  go_ret
  exact ⟨by rw [← HW.out]; rfl, hb0.trans (nq.h.mono hb0.size)⟩

theorem GathS.slots {w : World} {B : Nat} {v : Value} {xs : List ByteArray} (h : GathS w B v xs) (h0 : 0 < xs.length) : ∃ g c, v = .slice (some ⟨g, 0, none⟩) xs.length c ∧ (∀ (j : Nat) x, xs[j]? = some x → w.cell? ⟨g, 0 + j, none⟩ = some (.string x)) ∧ g < w.heap.size ∧ xs.length ≤ c := by
  rcases id h with ⟨hl, h1 | ⟨g, cap, cur, hv, hg, hh, hn, r⟩⟩
  · omega
  · subst hv
    refine ⟨g, cap, rfl, fun j x hx => ?_, (Array.getElem?_eq_some_iff.1 hh).1, hn⟩
    have hj : j < xs.length := (List.getElem?_eq_some_iff.1 hx).1
    rw [Nat.zero_add, World.ownsRow.cellAt h j (by omega)]
    simp [hx]

set_option maxHeartbeats 1600000 in
theorem implText_any (a : Option Addr) (cap : Nat) (l : List (ByteArray × Int)) (w : World) (hl : l.length ≤ maxLen) (hr : Row w a l) (hs : ∀ j, (h : j < l.length) → l[j].1.size ≤ maxLen) (ht : Tab w) :
    Calls Tryd.prog 5 #[.slice a l.length cap] w fun e w' => (∃ s, e = .returned (.string s) ∧ IsTx l s) ∧ Below w.heap.size w w' := by
  obtain ⟨i0, hi, hz0, hz1, hz2⟩ := info_parts Tryd.infoS
  go_enter Tryd.func5, Tryd.ntmps5
  go_wp2_with fail
  refine (implStampOk_any a cap l _ hl hr hs).mono ?_
  rintro e w1 ⟨⟨r, rfl, hr1⟩, b1⟩
  cases r
  · have H : Hid (IsTx l ⟨#[]⟩) := ⟨fun h => by simpa using hr1.2 h, fun _ => rfl⟩
    clear hr1
    go_wp2_with fail
    go_ret
    exact ⟨⟨_, rfl, H.out⟩, b1⟩
  have hS : StampP l := hr1.1 rfl
  clear hr1
  by_cases h0 : l.length = 0
  · have h0' : ((l.length : Int) == 0) = true := by rw [beq_iff_eq]; omega
    have H : Hid (IsTx l ⟨#[45]⟩) := ⟨fun _ => by rw [if_pos (List.length_eq_zero_iff.1 h0)], fun h => absurd hS h⟩
    clear hS h0
    go_wp2_with fail
    go_ret
    exact ⟨⟨_, rfl, H.out⟩, b1⟩
  have h0' : ((l.length : Int) == 0) = false := by rw [beq_eq_false_iff_ne]; omega
  have h12 := hS.1
  have HS : Hid (StampP l) := hS
  have hpos : 0 < l.length := by omega
  clear hS h0
  go_wp2_with fail
  go_loopw [3, 14] (fun ws iv wr => ∃ (k : Nat) (o : List ByteArray), k ≤ l.length ∧ iv = .int .i64 k ∧ GathS wr w.heap.size ws o ∧ o.length ≤ k ∧ o.map (·.data.toList) = (l.take k).map wordB ∧ Below w.heap.size w wr) (fun _ iv _ => l.length - (intOf iv).toNat)
  case atStart => exact ⟨0, [], Nat.zero_le _, rfl, gathS_none _ _, Nat.le_refl _, by simp, b1⟩
  case round =>
    obtain ⟨k, o, hk, rfl, hg, hol, hI, hbl⟩ := hrel
    have hzr := hbl.size
    have HI : Hid (o.map (·.data.toList) = (l.take k).map wordB) := hI
    clear hI
    by_cases hlt : k < l.length
    · obtain ⟨b2, o2, rfl, hlt2, c0, c1⟩ := hr k hlt
      have e0 := cell_on hbl hlt2 c0
      have e1 := cell_on hbl hlt2 c1
      have k0 : (0 : Int) ≤ (k : Int) := by omega
      have k1 : (k : Int) < (l.length : Int) := by omega
      have hM := HS.out.2.1 k hlt
      have hv1 := hM.2.1
      have hv2 := hM.2.2
      have hn8 := hM.1.2.1
      obtain ⟨V, hV⟩ : ∃ V : Nat, l[k].2 = (V : Int) := ⟨l[k].2.toNat, by omega⟩
      have HT : Hid ((l.take (k + 1)).map wordB = (l.take k).map wordB ++ [wordB (l[k].1, (V : Int))]) := by
        rw [Hid, List.take_succ_eq_append_getElem hlt, List.map_append, List.map_singleton, ← hV]
      rw [hV] at e1 hv1 hv2
      clear hV hM c0 c1
      have hba : Below wr.heap.size wr (wr.alloc (.cells #[.string l[k].1, .int .i64 (V : Int)] 37)) := (Below.refl _ _).alloc (Nat.le_refl _) _
      have ht2 : Tab (wr.alloc (.cells #[.string l[k].1, .int .i64 (V : Int)] 37)) := (ht.below hbl).below hba
      go_wp2_with fail
      refine (text_any l[k].1 V _ hn8 (by omega) ht2).mono ?_
      rintro e w3 ⟨rfl, b3⟩
      have B3 : Below w.heap.size w w3 := (hbl.trans (hba.mono hzr)).trans (b3.mono (Nat.le_trans hzr hba.size))
      have z3 := B3.size
      have hg3 : w3.ownsRow w.heap.size 9 1 _ o.length (o.map .string) := (hg.keep hba).keep b3
      have hob := ownsRow_block hg3
      have hba3 : Below w3.heap.size w3 (w3.alloc (.cells #[.string ⟨(wordB (l[k].1, (V : Int))).toArray⟩] 9)) := (Below.refl _ _).alloc (Nat.le_refl _) _
      go_wp2_with (at_builtin; refine wpList_append_lies _ rfl _ _ 35 rfl w.heap.size 9 i0 (.string .empty) 1 16 Tryd.underlying35 hi hz0 hz1 hz2 rfl (by decide) _ _ _ rfl (hg3.alloc _) ⟨w3.heap.size, 0, none⟩ 1 1 [.string ⟨(wordB (l[k].1, (V : Int))).toArray⟩] rfl rfl (one_new w3 _ _) (by simp [Value.oneCell']) (by decide) (by unfold maxLen; omega) (by omega) (by simp; omega) _ rfl ?_; intro g' cap' w5 hown' hgrow _ _)
      refine ⟨⟨k + 1, o ++ [⟨(wordB (l[k].1, (V : Int))).toArray⟩], by omega, by go_num, GathS.snoc hown', by simp; omega, ?_, (B3.alloc z3 _).grown hgrow (by simp; omega) hob⟩, by simp [intOf]; omega⟩
      rw [HT.out, List.map_append, HI.out]
      rfl
    · have HI2 : Hid (o.map (·.data.toList) = l.map wordB) := by
        have h := HI.out
        rw [List.take_of_length_le (by omega)] at h
        exact h
      have ho0 : 0 < o.length := by
        have h := congrArg List.length HI2.out
        rw [List.length_map, List.length_map] at h
        omega
      have hlen : (Lib.join (o.map (·.data.toList)) [32]).length ≤ 140737488355328 := by
        rw [HI2.out]
        have h := textB_len HS.out.2.1 l.length (Nat.le_refl _)
        rw [List.take_of_length_le (Nat.le_refl _)] at h
        show (textB l).length ≤ _
        omega
      have HF : Hid (IsTx l ⟨(Lib.join (o.map (·.data.toList)) [32]).toArray⟩) := ⟨fun _ => by
        rw [if_neg (fun e => by rw [e] at hpos; simp at hpos), HI2.out]
        rfl, fun h => absurd HS.out h⟩
      obtain ⟨g, c, rfl, hcells, hgl, hcap⟩ := hg.slots ho0
      clear HI HI2
      go_wp2_with fail
      refine (Tryd.strings_Join g 0 c o ⟨#[32]⟩ _ hcells hgl (by omega) hcap hlen).mono ?_
      rintro e w3 ⟨rfl, b3⟩
      have B3 : Below w.heap.size w w3 := hbl.trans (b3.mono hzr)
      go_wp2_with fail
      go_ret
      exact ⟨⟨_, rfl, HF.out⟩, B3⟩

end Go.Proofs.YtpfhegengmlkmaaDoor
