/- Walk: spec.ChoiceCount. -/
import Derived.Test.YtpfhegengmlkmacCBs
namespace Go.Proofs.Ytpfhegengmlkmac
open Go.RowKit Go.BigFrame
set_option maxRecDepth 100000

/-- How many choices agree. -/
def CntP (ws : List (List ItemL)) (n : Nat) : Prop := (OkW ws ∧ n = (foundL ws ws.length []).length) ∨ (¬ OkW ws ∧ n = 0)
theorem CntP.one {ws : List (List ItemL)} {n m : Nat} (h : CntP ws n) (k : CntP ws m) : n = m := by
  rcases h with ⟨h1, rfl⟩ | ⟨h1, rfl⟩
  · rcases k with ⟨_, rfl⟩ | ⟨k1, _⟩
    · rfl
    · exact absurd h1 k1
  · rcases k with ⟨k1, _⟩ | ⟨_, rfl⟩
    · exact absurd k1 h1
    · rfl

set_option maxHeartbeats 1600000 in
theorem specCC_any (a : Option Addr) (cap : Nat) (ws : List (List ItemL)) (w : World) (hf : FitW ws) (hr : RowW w a ws) :
    Calls Try.prog 22 #[.slice a ws.length cap] w fun e w' => (∃ n : Nat, e = .returned (.int .i64 (n : Int)) ∧ CntP ws n) ∧ Below w.heap.size w w' := by
  go_enter Try.func22, Try.ntmps22
  go_wp2_with fail
  refine (l3Ok_any a cap ws _ hf hr).mono ?_
  rintro e w1 ⟨⟨r, rfl, hr1⟩, b1⟩
  have HR : Hid (r = true ↔ OkW ws) := hr1
  clear hr1
  cases r with
  | false =>
    have HN : Hid (CntP ws 0) := .inr ⟨fun h => by have := HR.out.2 h; simp at this, rfl⟩
    go_wp2_with fail
    go_ret
    exact ⟨⟨0, rfl, HN.out⟩, b1⟩
  | true =>
    have HOK : Hid (OkW ws) := HR.out.1 rfl
    clear HR
    have h6 := HOK.out.2.1
    have h1l := HOK.out.1
    go_wp2_with fail
    have hpow : 4 ^ ws.length ≤ 4096 := Nat.le_trans (Nat.pow_le_pow_right (by omega) h6) (by decide)
    refine (l3All_any w w1.heap.size a cap ws b1.size hf hr h6 (fun k hk => (HOK.out.2.2 k hk).1) ws.length none 0 [] (.slice none 0 0) [] w1 b1 (fun k hk => absurd hk (Nat.not_lt_zero k)) (fun _ => rfl) (fun b o h => by cases h) ⟨by simp, fun i hi => by simp at hi⟩ (by simp) (gathU_none _ _) (Nat.le_refl _) (by simp; omega)).mono ?_
    rintro e w2 ⟨⟨v2, L, rfl, hg2, hL, _⟩, hgr⟩
    have hb2 : Below w1.heap.size w1 w2 := (Below.refl _ _).grown hgr (Nat.le_refl _) (fun k hk => by cases hk)
    have B2 : Below w.heap.size w w2 := b1.trans (hb2.mono b1.size)
    simp only [List.map_nil, List.nil_append] at hL
    have hlens : ∀ q ∈ foundL ws ws.length [], q.length = ws.length := fun q hq => (chP_iff.2 ⟨HOK.out, hq⟩).2.1
    obtain ⟨va, vc, rfl, _⟩ := hg2.row (fun p hp => by
      have := hlens p.1 (by rw [← hL]; exact List.mem_map.2 ⟨p, hp, rfl⟩)
      omega)
    have HC : Hid (CntP ws L.length) := .inl ⟨HOK.out, by rw [← hL, List.length_map]⟩
    clear hL hlens
    go_wp2_with fail
    go_ret
    exact ⟨⟨L.length, rfl, HC.out⟩, B2⟩

end Go.Proofs.Ytpfhegengmlkmac
