/- The iterator's contract in the form that a loop over it takes. -/
import Derived.Test.YtpfhegengmlkmacSideW
namespace Go.Proofs.Ytpfhegengmlkmac
open Go.RowKit Go.Shelf Go.BigFrame
attribute [local go_sem] Oper.semAt_some

set_option maxHeartbeats 400000 in
theorem sideBySide_any (aa ab : Option Addr) (na nb ca cb : Nat) (w : World) :
    Calls Try.prog 92 #[.slice aa na ca, .slice ab nb cb] w fun e w' => e = .returned (.func (.func 112) #[] #[.pointer (some ⟨w.heap.size, 0, none⟩), .pointer (some ⟨w.heap.size + 1, 0, none⟩)]) ∧
      w' = (w.alloc (.cells #[.slice aa na ca] 45)).alloc (.cells #[.slice ab nb cb] 45) := by
  go_enter Try.func92, Try.ntmps92
  go_wp2
  go_ret
  exact ⟨rfl, rfl⟩

theorem side_stops (n lo hi Ba Bb : Nat) (aa ab : Option Addr) (ca cb : Nat) (la lb : List (ByteArray × Int)) (hca : la.length ≤ ca) (hcb : lb.length ≤ cb) (hpa : StampP la) (hpb : StampP lb) (hBa : hi ≤ Ba) (hBb : hi ≤ Bb) (w : World) (hlo : lo ≤ w.heap.size)
    (cA : w.cell? ⟨Ba, 0, none⟩ = some (.slice aa la.length ca)) (cB : w.cell? ⟨Bb, 0, none⟩ = some (.slice ab lb.length cb)) (nA3 : w.cell? ⟨Ba, 3, none⟩ = none) (nB3 : w.cell? ⟨Bb, 3, none⟩ = none) (hra : RowL lo w aa la) (hrb : RowL lo w ab lb) :
    SeqStopsK Fence.wide n Try.prog 112 #[.pointer (some ⟨Ba, 0, none⟩), .pointer (some ⟨Bb, 0, none⟩)] encP (KS lo hi) (fun ys => ys.map PM.p = pairsF (la.length + lb.length) la lb) (fun pre => pre.map PM.p <+: pairsF (la.length + lb.length) la lb) (la.length + lb.length) w :=
  fun l J Jx W hW hJ _ hY h0 =>
    side1_in n l Ba Bb lo hi aa ab ca cb la lb hca hcb hpa.1 hpb.1 (name_sizes hpa) (name_sizes hpb) (stamp_sorted hpa).2 (stamp_sorted hpb).2 hBa hBb J Jx W (Nat.le_trans hlo hW.size) hJ hY
      (cell_on hW (block_lt_of_cell cA) cA) (cell_on hW (block_lt_of_cell cB) cB) ((hW.cell (p := ⟨Ba, 3, none⟩) (lt_of cA)).trans nA3) ((hW.cell (p := ⟨Bb, 3, none⟩) (lt_of cB)).trans nB3) (hra.below (hW.mono hlo)) (hrb.below (hW.mono hlo)) h0
where
  lt_of {B : Nat} {v : Value} (h : w.cell? ⟨B, 0, none⟩ = some v) : B < w.heap.size := block_lt_of_cell h
  name_sizes {l : List (ByteArray × Int)} (h : StampP l) : ∀ m ∈ l, m.1.size ≤ 1048576 := fun m hm => by
    obtain ⟨j, hj, rfl⟩ := List.mem_iff_getElem.1 hm
    have := (h.2.1 j hj).1.2.1
    omega

end Go.Proofs.Ytpfhegengmlkmac
