/- Texts of this claim, one behind the other. -/
import Derived.Laws.IdiomStrings
import Derived.Laws.StructEq
import Derived.Test.YtpfhegengmlkmaaGreatZK1
import Derived.Test.YtpfhegengmlkmaaGreatZK5
import Derived.Test.YtpfhegengmlkmaaGreatZK6
import Derived.Test.YtpfhegengmlkmaaGreatZK9
import Derived.Test.YtpfhegengmlkmaaGreatZK17
import Derived.Test.YtpfhegengmlkmaaGreatZK19
import Derived.Test.YtpfhegengmlkmaaGreatZK21
import Derived.Test.YtpfhegengmlkmaaGreatZK22
import Derived.Test.YtpfhegengmlkmaaGreatZK23
import Derived.Test.YtpfhegengmlkmaaGreatZK30
import Derived.Test.YtpfhegengmlkmaaGreatZK31
namespace Go.Proofs.YtpfhegengmlkmaaGreat
open Go.RowKit Go.BigFrame
set_option maxRecDepth 100000

/-- Two cells of a box. -/
structure Duo (w : World) (b : Nat) (x y : Value) : Prop where
  c0 : w.cell? ⟨b, 0, none⟩ = some x
  c1 : w.cell? ⟨b, 1, none⟩ = some y
  f0 : w.frozen? ⟨b, 0, none⟩ = false
  f1 : w.frozen? ⟨b, 1, none⟩ = false
theorem Duo.keep {w w' : World} {b : Nat} {x y : Value} (h : Duo w b x y) (hb : Below w.heap.size w w') : Duo w' b x y := by
  have hl : b < w.heap.size := block_lt_of_cell h.c0
  exact ⟨cell_on hb hl h.c0, cell_on hb hl h.c1, (hb.frozen (p := ⟨b, 0, none⟩) hl).trans h.f0, (hb.frozen (p := ⟨b, 1, none⟩) hl).trans h.f1⟩
theorem Duo.span {w w' : World} {b lo hi : Nat} {x y : Value} (h : Duo w b x y) (hs : Span lo hi w w') (hd : b < lo ∨ hi ≤ b) : Duo w' b x y := by
  have e := hs.block b (block_lt_of_cell h.c0) hd
  exact ⟨(World.cell?_of_block (a := ⟨b, 0, none⟩) e).trans h.c0, (World.cell?_of_block (a := ⟨b, 1, none⟩) e).trans h.c1, (World.frozen?_of_block (a := ⟨b, 0, none⟩) e).trans h.f0, (World.frozen?_of_block (a := ⟨b, 1, none⟩) e).trans h.f1⟩
theorem Duo.set0 {w : World} {b : Nat} {x y : Value} (h : Duo w b x y) (v : Value) : Duo (w.setCell ⟨b, 0, none⟩ v) b v y := ⟨by simp [go_sem, h.c0], by simp [go_sem, h.c1], by simp [go_sem, h.f0], by simp [go_sem, h.f1]⟩
theorem Duo.set1 {w : World} {b : Nat} {x y : Value} (h : Duo w b x y) (v : Value) : Duo (w.setCell ⟨b, 1, none⟩ v) b x v := ⟨by simp [go_sem, h.c0], by simp [go_sem, h.c1], by simp [go_sem, h.f0], by simp [go_sem, h.f1]⟩
theorem duo_new (w : World) (x y : Value) (t : TypeId) : Duo (w.alloc (.cells #[x, y] t)) w.heap.size x y := ⟨by simp [go_sem], by simp [go_sem], by simp [go_sem], by simp [go_sem]⟩
theorem PartS.keepP {w w' : World} {b k : Nat} {l : List ByteArray} (h : PartS w b l k) (hb : Below w.heap.size w w') : PartS w' b l k := h.below h.lt hb

/-- What a call of GatherPut has answered. -/
structure ResG where
  g : GatL
  L : List WinY
  sv : List Int
  ss : List (ByteArray × Int)
  code : Int
  s0 : Option Addr
  s1 : Option Addr
  s2 : Option Addr
  s3 : Option Addr
  s4 : Option Addr
  d0 : Nat
  d1 : Nat
  d2 : Nat
  d3 : Nat
  d4 : Nat
  tl : Nat
  h1 : Nat
  h2 : Nat
  th : Nat
abbrev ResG.gv (R : ResG) : Value := .agg #[.slice R.s0 R.g.ins.length R.d0, .slice R.s1 R.L.length R.d1, .slice R.s2 R.g.shown.length R.d2]
abbrev ResG.wv (R : ResG) : Value := .agg #[.slice R.s3 R.sv.length R.d3, .slice R.s4 R.ss.length R.d4]
abbrev ResG.all (R : ResG) : Value := .tuple #[R.gv, R.wv, .int .i64 R.code]
/-- It lies so: the gather, the values and the stamp in blocks of their own. -/
structure CalI (g : GatL) (i x : Int) (m : List (ByteArray × Int)) (R : ResG) (u : World) : Prop where
  put : PutG g i x m R.g R.sv R.ss R.code
  map : R.L.map (·.l) = R.g.wins
  sg : SafeG u R.tl R.h1 R.s0 R.s1 R.s2 R.g.ins R.L R.g.shown
  sz : SafeZ u R.h1 R.h2 R.s3 R.sv
  ss : Safe u R.h2 R.th R.s4 R.ss
  o1 : R.tl ≤ R.h1
  o2 : R.h1 ≤ R.h2
  o3 : R.h2 ≤ R.th
  o4 : R.th ≤ u.heap.size
  cap : R.g.ins.length ≤ R.d0 ∧ R.d0 ≤ maxLen
  cap2 : R.g.shown.length ≤ R.d2 ∧ R.ss.length ≤ R.d4
/-- It lies so: somewhere between two. -/
structure CalS (g : GatL) (i x : Int) (m : List (ByteArray × Int)) (R : ResG) (u : World) : Prop where
  put : PutG g i x m R.g R.sv R.ss R.code
  map : R.L.map (·.l) = R.g.wins
  sg : SafeG u R.tl R.th R.s0 R.s1 R.s2 R.g.ins R.L R.g.shown
  sz : SafeZ u R.tl R.th R.s3 R.sv
  ss : Safe u R.tl R.th R.s4 R.ss
  o1 : R.tl ≤ R.th
  o4 : R.th ≤ u.heap.size
  cap : R.g.ins.length ≤ R.d0 ∧ R.d0 ≤ maxLen
  room : RoomS u R.tl R.th R.s0 R.s1 R.d0 R.d1 R.g.ins.length R.L.length
theorem CalI.below {g : GatL} {i x : Int} {m : List (ByteArray × Int)} {R : ResG} {u u' : World} (h : CalI g i x m R u) (hb : Below u.heap.size u u') : CalI g i x m R u' := ⟨h.put, h.map, h.sg.below hb, h.sz.below hb, h.ss.below hb, h.o1, h.o2, h.o3, Nat.le_trans h.o4 hb.size, h.cap, h.cap2⟩
theorem CalS.below {g : GatL} {i x : Int} {m : List (ByteArray × Int)} {R : ResG} {u u' : World} (h : CalS g i x m R u) (hb : Below u.heap.size u u') : CalS g i x m R u' := ⟨h.put, h.map, h.sg.below hb, h.sz.below hb, h.ss.below hb, h.o1, Nat.le_trans h.o4 hb.size, h.cap, h.room.below hb⟩
theorem CalI.span {g : GatL} {i x : Int} {m : List (ByteArray × Int)} {R : ResG} {u u' : World} {lo hi : Nat} (h : CalI g i x m R u) (hs : Span lo hi u u') (hd : R.th ≤ lo ∨ hi ≤ R.tl) : CalI g i x m R u' := by
  have h1 := h.o1
  have h2 := h.o2
  have h3 := h.o3
  exact ⟨h.put, h.map, h.sg.span hs (by omega), h.sz.span hs (by omega), h.ss.span hs (by omega), h.o1, h.o2, h.o3, Nat.le_trans h.o4 hs.size, h.cap, h.cap2⟩
theorem CalS.span {g : GatL} {i x : Int} {m : List (ByteArray × Int)} {R : ResG} {u u' : World} {lo hi : Nat} (h : CalS g i x m R u) (hs : Span lo hi u u') (hd : R.th ≤ lo ∨ hi ≤ R.tl) : CalS g i x m R u' := ⟨h.put, h.map, h.sg.span hs hd, h.sz.span hs hd, h.ss.span hs hd, h.o1, Nat.le_trans h.o4 hs.size, h.cap, h.room.span hs hd⟩

theorem GPS.cal {w w' : World} {g : GatL} {i x : Int} {m : List (ByteArray × Int)} {e : Ending} (h : GPS w w' g i x m e) (hb : w.heap.size ≤ w'.heap.size) : ∃ R : ResG, e = .returned R.all ∧ R.tl = w.heap.size ∧ R.th = w'.heap.size ∧ CalS g i x m R w' := by
  obtain ⟨g', L, sv, ss, code, a0, a1, a2, a3, a4, d0, d1, d2, d3, d4, rfl, hp, hm, k1, k2, k3, k4, k5⟩ := h
  exact ⟨⟨g', L, sv, ss, code, a0, a1, a2, a3, a4, d0, d1, d2, d3, d4, w.heap.size, 0, 0, w'.heap.size⟩, rfl, rfl, rfl, hp, hm, k1, k2, k3, hb, Nat.le_refl _, k4, k5⟩
/-- What holds while the region runs: f says which operations are done. -/
structure Fx (Cal : ResG → World → Prop) (W : World) (GV FV : Value) (g : GatL) (i x : Int) (m : List (ByteArray × Int)) (f : Nat → Bool) (R : ResG) (b9 b10 p0 p1 p2 pl ph pf : Nat) (v6 v7 v8 v30 v31 v32 v33 v34 v35 v36 v37 v38 : Value) (u : World) : Prop where
  bel : Below W.heap.size W u
  k0 : f 0 = true → v31 = GV
  k1 : f 1 = true → v32 = .agg #[.slice (some ⟨p0, 0, none⟩) g.ins.length g.ins.length, .slice (some ⟨p1, 0, none⟩) g.wins.length g.wins.length, .slice (some ⟨p2, 0, none⟩) g.shown.length g.shown.length] ∧ (f 4 = false → PartS u p0 g.ins g.ins.length ∧ PartW u pl ph p1 g.wins g.wins.length ∧ Own u p2 g.shown)
  k2 : f 2 = true → v33 = FV
  k3 : f 3 = true → v34 = .agg #[.int .i64 i, .int .i64 x, .slice (some ⟨pf, 0, none⟩) m.length m.length] ∧ (f 4 = false → Own u pf m)
  k4 : f 4 = true → v35 = R.all ∧ Cal R u ∧ W.heap.size ≤ R.tl
  k5 : f 5 = true → v30 = R.all
  k6 : f 6 = true → v36 = R.gv
  k7 : f 7 = true → v37 = R.wv
  k8 : f 8 = true → v38 = .int .i64 R.code
  k9 : f 9 = true → v6 = .pointer (some ⟨b9, 0, none⟩) ∧ W.heap.size ≤ b9 ∧ b9 < u.heap.size ∧ (f 4 = true → b9 < R.tl ∨ R.th ≤ b9) ∧ (f 11 = false → Tri u b9 (.slice none 0 0) (.slice none 0 0) (.slice none 0 0)) ∧ (f 11 = true → Tri u b9 (.slice R.s0 R.g.ins.length R.d0) (.slice R.s1 R.L.length R.d1) (.slice R.s2 R.g.shown.length R.d2))
  k10 : f 10 = true → v7 = .pointer (some ⟨b10, 0, none⟩) ∧ W.heap.size ≤ b10 ∧ b10 < u.heap.size ∧ (f 4 = true → b10 < R.tl ∨ R.th ≤ b10) ∧ (f 12 = false → Duo u b10 (.slice none 0 0) (.slice none 0 0)) ∧ (f 12 = true → Duo u b10 (.slice R.s3 R.sv.length R.d3) (.slice R.s4 R.ss.length R.d4))
  k13 : f 13 = true → v8 = .int .i64 R.code
  ne : f 9 = true → f 10 = true → b9 ≠ b10
  c4 : f 4 = true → f 1 = true ∧ f 3 = true
  c5 : f 5 = true → f 4 = true
  c6 : f 6 = true → f 4 = true
  c7 : f 7 = true → f 4 = true
  c8 : f 8 = true → f 4 = true
  c11 : f 11 = true → f 4 = true ∧ f 9 = true
  c12 : f 12 = true → f 4 = true ∧ f 10 = true
  c13 : f 13 = true → f 4 = true
/-- While the copies are still used: they may lie where the boxes do not. -/
theorem Fx.below {Cal : ResG → World → Prop} (hC : ∀ R u u', Cal R u → Below u.heap.size u u' → Cal R u') {W u u' : World} {GV FV : Value} {g : GatL} {i x : Int} {m : List (ByteArray × Int)} {f : Nat → Bool} {R : ResG} {b9 b10 p0 p1 p2 pl ph pf : Nat} {v6 v7 v8 v30 v31 v32 v33 v34 v35 v36 v37 v38 : Value} (h : Fx Cal W GV FV g i x m f R b9 b10 p0 p1 p2 pl ph pf v6 v7 v8 v30 v31 v32 v33 v34 v35 v36 v37 v38 u) (hb : Below u.heap.size u u') :
    Fx Cal W GV FV g i x m f R b9 b10 p0 p1 p2 pl ph pf v6 v7 v8 v30 v31 v32 v33 v34 v35 v36 v37 v38 u' :=
  { h with
    bel := h.bel.trans (hb.mono h.bel.size)
    k1 := fun e => let ⟨q0, q1⟩ := h.k1 e; ⟨q0, fun e' => let ⟨r1, r2, r3⟩ := q1 e'; ⟨r1.keepP hb, r2.below hb, r3.below hb⟩⟩
    k3 := fun e => let ⟨q0, q1⟩ := h.k3 e; ⟨q0, fun e' => (q1 e').below hb⟩
    k4 := fun e => let ⟨q0, q1, q2⟩ := h.k4 e; ⟨q0, hC _ _ _ q1 hb, q2⟩
    k9 := fun e => let ⟨q0, q1, q2, q3, q4, q5⟩ := h.k9 e; ⟨q0, q1, Nat.lt_of_lt_of_le q2 hb.size, q3, fun e' => (q4 e').keep hb, fun e' => (q5 e').keep hb⟩
    k10 := fun e => let ⟨q0, q1, q2, q3, q4, q5⟩ := h.k10 e; ⟨q0, q1, Nat.lt_of_lt_of_le q2 hb.size, q3, fun e' => (q4 e').keep hb, fun e' => (q5 e').keep hb⟩ }

end Go.Proofs.YtpfhegengmlkmaaGreat

namespace Go.Proofs.YtpfhegengmlkmaaGreat
open Go.RowKit Go.BigFrame
set_option maxRecDepth 100000

theorem NiceG.fit {g : GatL} (h : NiceG g) : FitG g :=
  ⟨⟨by have := h.ins; unfold maxLen; omega, fun j hj => by have := h.names j hj; unfold maxLen; omega⟩, ⟨by have := h.wins; unfold maxLen; omega, fun j hj => (h.items _ (List.getElem_mem hj)).fit⟩, stamp_fit h.shown⟩
/-- How an answer can be read. -/
structure RowsR (R : ResG) (u : World) : Prop where
  nice : NiceG R.g
  sv6 : R.sv.length ≤ 6
  st : StampP R.ss
  len : R.L.length = R.g.wins.length
  r0 : RowS u R.s0 R.g.ins
  r1 : RowW u R.s1 R.g.wins
  r2 : Row u R.s2 R.g.shown
  r3 : RowZ u R.s3 R.sv
  r4 : Row u R.s4 R.ss
theorem map_len {L : List WinY} {ws : List (List ItemL)} (h : L.map (·.l) = ws) : L.length = ws.length := by rw [← h, List.length_map]
theorem CalI.rows {g : GatL} {i x : Int} {m : List (ByteArray × Int)} {R : ResG} {u : World} (h : CalI g i x m R u) : RowsR R u := by
  obtain ⟨k1, k2, k3⟩ := h.put.nice
  obtain ⟨q0, q1, q2⟩ := h.sg.rows
  rw [h.map] at q1
  exact ⟨k1, k2, k3, map_len h.map, q0, q1, q2, h.sz.row, h.ss.row⟩
theorem CalS.rows {g : GatL} {i x : Int} {m : List (ByteArray × Int)} {R : ResG} {u : World} (h : CalS g i x m R u) : RowsR R u := by
  obtain ⟨k1, k2, k3⟩ := h.put.nice
  obtain ⟨q0, q1, q2⟩ := h.sg.rows
  rw [h.map] at q1
  exact ⟨k1, k2, k3, map_len h.map, q0, q1, q2, h.sz.row, h.ss.row⟩

end Go.Proofs.YtpfhegengmlkmaaGreat

namespace Go.Proofs.YtpfhegengmlkmaaGreat
open Go.RowKit Go.BigFrame
set_option maxRecDepth 100000

/-- The cells of shows, two each. -/
def hcells : List ShoY → List Value
  | [] => []
  | p :: r => .slice p.a1 p.vals.length p.c1 :: .slice p.a2 p.st.length p.c2 :: hcells r
theorem show_unlike : 87 ≠ 3 := by decide

/-- A row that grew is one block at most. -/
theorem grown_span {w w' : World} {r : Option Nat} (hg : w.grownBy w' r) : ∃ lo hi, Span lo hi w w' ∧ (lo < hi → r = some lo ∧ hi = lo + 1) ∧ (¬ lo < hi → hi = 0) := by
  cases r with
  | none => exact ⟨0, 0, ⟨hg.os, hg.tape, hg.output, hg.size, fun i hi _ => hg.block i hi (by simp)⟩, fun h => absurd h (Nat.lt_irrefl _), fun _ => rfl⟩
  | some k => exact ⟨k, k + 1, span_grown hg, fun _ => ⟨rfl, rfl⟩, fun h => absurd (Nat.lt_succ_self k) h⟩

structure PlyW (B : Nat) (u : World) (bG glo ghi : Nat) (g : GatL) (Lw : List WinY) (a0 a1 a2 : Option Addr) (d0 d1 d2 : Nat) (vs vc : Value) (L : List ShoY) (cs : List Int) : Prop where
  tG : Tri u bG (.slice a0 g.ins.length d0) (.slice a1 Lw.length d1) (.slice a2 g.shown.length d2)
  map : Lw.map (·.l) = g.wins
  nice : NiceG g
  sg : SafeG u glo ghi a0 a1 a2 g.ins Lw g.shown
  glt : ghi ≤ u.heap.size
  gbox : bG < glo ∨ ghi ≤ bG
  bB : bG < B
  BU : B ≤ u.heap.size
  osh : u.ownsRow B 87 2 vs L.length (hcells L)
  oco : GathN u B vc cs
  at_ : ∀ p ∈ L, p.In u ∧ B ≤ p.lo
  dis : L.Pairwise fun p q => p.hi ≤ q.lo
  sfar : ∀ p ∈ L, ∀ k, vs.ownBlock = some k → k < p.lo ∨ p.hi ≤ k
  cfar : ∀ p ∈ L, ∀ k, vc.ownBlock = some k → k < p.lo ∨ p.hi ≤ k
  sgf : ∀ k, vs.ownBlock = some k → k < glo ∨ ghi ≤ k
  cgf : ∀ k, vc.ownBlock = some k → k < glo ∨ ghi ≤ k
theorem PlyW.keep {B : Nat} {u u' : World} {bG glo ghi : Nat} {g : GatL} {Lw : List WinY} {a0 a1 a2 : Option Addr} {d0 d1 d2 : Nat} {vs vc : Value} {L : List ShoY} {cs : List Int} (h : PlyW B u bG glo ghi g Lw a0 a1 a2 d0 d1 d2 vs vc L cs) (hb : Below u.heap.size u u') : PlyW B u' bG glo ghi g Lw a0 a1 a2 d0 d1 d2 vs vc L cs :=
  { h with tG := h.tG.keep hb, sg := h.sg.below hb, glt := Nat.le_trans h.glt hb.size, BU := Nat.le_trans h.BU hb.size, osh := own_keep h.osh hb, oco := own_keep (show World.ownsRow _ _ _ _ _ _ _ from h.oco) hb, at_ := fun p hp => ⟨(h.at_ p hp).1.below hb, (h.at_ p hp).2⟩ }
theorem PlyW.rows {B : Nat} {u : World} {bG glo ghi : Nat} {g : GatL} {Lw : List WinY} {a0 a1 a2 : Option Addr} {d0 d1 d2 : Nat} {vs vc : Value} {L : List ShoY} {cs : List Int} (h : PlyW B u bG glo ghi g Lw a0 a1 a2 d0 d1 d2 vs vc L cs) : Lw.length = g.wins.length ∧ RowS u a0 g.ins ∧ RowW u a1 g.wins ∧ Row u a2 g.shown := by
  obtain ⟨q0, q1, q2⟩ := h.sg.rows
  rw [h.map] at q1
  exact ⟨map_len h.map, q0, q1, q2⟩
/-- One code more. -/
theorem PlyW.code {B : Nat} {u u' : World} {bG glo ghi g' cap : Nat} {g : GatL} {Lw : List WinY} {a0 a1 a2 : Option Addr} {d0 d1 d2 : Nat} {vs vc : Value} {L : List ShoY} {cs : List Int} {c : Int} (h : PlyW B u bG glo ghi g Lw a0 a1 a2 d0 d1 d2 vs vc L cs)
    (ho : u'.ownsRow B 3 1 (.slice (some ⟨g', 0, none⟩) (cs.length + 1) cap) (cs.length + 1) ((cs.map fun y => .int .i64 y) ++ [.int .i64 c])) (hg : u.grownBy u' vc.ownBlock) (hloc : vc.ownBlock = some g' ∨ g' = u.heap.size) : PlyW B u' bG glo ghi g Lw a0 a1 a2 d0 d1 d2 vs (.slice (some ⟨g', 0, none⟩) (cs.length + 1) cap) L (cs ++ [c]) := by
  obtain ⟨lo, hi, hs, k1, k2⟩ := grown_span hg
  have hfrom := own_from (show World.ownsRow _ _ _ _ _ _ _ from h.oco)
  have hbB := h.bB
  have hnew : ∀ k, (Value.slice (some ⟨g', 0, none⟩) (cs.length + 1) cap).ownBlock = some k → k = g' := fun k e => by simp [Value.ownBlock] at e; exact e.symm
  refine { h with tG := h.tG.span hs ?_, sg := h.sg.span hs ?_, glt := Nat.le_trans h.glt hs.size, BU := Nat.le_trans h.BU hs.size, osh := World.ownsRow.kept h.osh hg (own_types h.osh h.oco show_unlike), oco := GathN.snoc ho, at_ := fun p hp => ⟨(h.at_ p hp).1.span hs ?_, (h.at_ p hp).2⟩, cfar := fun p hp k e => ?_, cgf := fun k e => ?_ }
  · by_cases e : lo < hi
    · have := hfrom lo (k1 e).1; omega
    · have := k2 e; omega
  · by_cases e : lo < hi
    · have := h.cgf lo (k1 e).1; have := (k1 e).2; omega
    · have := k2 e; omega
  · by_cases e : lo < hi
    · have := h.cfar p hp lo (k1 e).1; have := (k1 e).2; omega
    · have := k2 e; omega
  · obtain rfl := hnew k e
    rcases hloc with e | rfl
    · exact h.cfar p hp _ e
    · exact .inr (h.at_ p hp).1.o3
  · obtain rfl := hnew k e
    rcases hloc with e | rfl
    · exact h.cgf _ e
    · exact .inr h.glt
/-- Another gather. -/
theorem PlyW.put {B : Nat} {u : World} {bG glo ghi glo' ghi' : Nat} {g g' : GatL} {Lw Lw' : List WinY} {a0 a1 a2 a0' a1' a2' : Option Addr} {d0 d1 d2 d0' d1' d2' : Nat} {vs vc : Value} {L : List ShoY} {cs : List Int} (h : PlyW B u bG glo ghi g Lw a0 a1 a2 d0 d1 d2 vs vc L cs)
    (hm : Lw'.map (·.l) = g'.wins) (hn : NiceG g') (hsg : SafeG u glo' ghi' a0' a1' a2' g'.ins Lw' g'.shown) (hgl : ghi' ≤ u.heap.size) (hbx : bG < glo' ∨ ghi' ≤ bG) (hs : ∀ k, vs.ownBlock = some k → k < glo' ∨ ghi' ≤ k) (hc : ∀ k, vc.ownBlock = some k → k < glo' ∨ ghi' ≤ k) :
    PlyW B (((u.setCell ⟨bG, 0, none⟩ (.slice a0' g'.ins.length d0')).setCell ⟨bG, 1, none⟩ (.slice a1' Lw'.length d1')).setCell ⟨bG, 2, none⟩ (.slice a2' g'.shown.length d2')) bG glo' ghi' g' Lw' a0' a1' a2' d0' d1' d2' vs vc L cs := by
  have hsp : Span bG (bG + 1) u (((u.setCell ⟨bG, 0, none⟩ (.slice a0' g'.ins.length d0')).setCell ⟨bG, 1, none⟩ (.slice a1' Lw'.length d1')).setCell ⟨bG, 2, none⟩ (.slice a2' g'.shown.length d2')) := (((Span.refl _ _ _).setCell (Nat.le_refl _) (Nat.lt_succ_self _) _ _).setCell (Nat.le_refl _) (Nat.lt_succ_self _) _ _).setCell (Nat.le_refl _) (Nat.lt_succ_self _) _ _
  have hbB := h.bB
  exact { tG := ((h.tG.set0 _).set1 _).set2c _, map := hm, nice := hn, sg := hsg.span hsp (by omega), glt := Nat.le_trans hgl hsp.size, gbox := hbx, bB := h.bB, BU := Nat.le_trans h.BU hsp.size, osh := own_farY (own_farY (own_farY h.osh hbB _ _) hbB _ _) hbB _ _, oco := own_farY (own_farY (own_farY (show World.ownsRow _ _ _ _ _ _ _ from h.oco) hbB _ _) hbB _ _) hbB _ _, at_ := fun p hp => ⟨(h.at_ p hp).1.span hsp (by have := (h.at_ p hp).2; omega), (h.at_ p hp).2⟩, dis := h.dis, sfar := h.sfar, cfar := h.cfar, sgf := hs, cgf := hc }
/-- A gather anew lies as every gather does. -/
theorem SafeN.full {w : World} {lo hi : Nat} {a0 a1 a2 : Option Addr} {nm : List ByteArray} (h : SafeN w lo hi a0 a1 nm) (h0 : nm ≠ []) : ∃ L : List WinY, L.length = nm.length ∧ L.map (·.l) = (newG nm).wins ∧ SafeG w lo hi a0 a1 a2 (newG nm).ins L (newG nm).shown := by
  rcases h with e | ⟨b, t, rfl, rfl, h1, h2, h3, h4, h5, h6, h7⟩
  · exact absurd e h0
  · obtain ⟨m, f, hr, hnm, hf⟩ := h7
    have hl : ((List.range nm.length).map fun j => WinY.mk [] (f j) lo lo).length = nm.length := by simp
    refine ⟨(List.range nm.length).map fun j => WinY.mk [] (f j) lo lo, hl, ?_, .inr ⟨b, t, rfl, rfl, h6, ⟨hr.lt, fun k hk => ?_, fun p hp => ?_, fun p hp => ?_, fun p hp => ?_, ?_⟩, h5, ⟨h1, h2⟩, ⟨h3, h4⟩, fun p hp => ?_, .inl rfl⟩⟩
    · simp only [List.map_map, newG]
      apply List.ext_getElem
      · simp
      · intro i h8 h9
        simp
    · rw [hl] at hk
      rw [hr.cell (by omega)]
      simp
    · obtain ⟨j, hj, rfl⟩ := List.mem_map.1 hp
      obtain ⟨s, c, e⟩ := hf j (List.mem_range.1 hj)
      exact ⟨s, c, e, Nat.zero_le _, .inl rfl⟩
    · obtain ⟨j, hj, rfl⟩ := List.mem_map.1 hp
      exact .inr h3
    · obtain ⟨j, hj, rfl⟩ := List.mem_map.1 hp
      exact ⟨Nat.le_refl _, Nat.le_refl _, by show lo ≤ hi; omega⟩
    · rw [List.pairwise_map]
      exact List.Pairwise.imp (fun _ => .inl (Nat.le_refl _)) (List.pairwise_lt_range)
    · obtain ⟨j, hj, rfl⟩ := List.mem_map.1 hp
      exact .inr h1

/-- What GatherNew answers, for a play to begin with. -/
theorem NewE.start {w w' : World} {ins : List ByteArray} {e : Ending} (h : NewE w w' ins e) : (∃ a0 c0 a1 c1 a2 c2 L, e = .returned (.tuple #[.agg #[.slice a0 ins.length c0, .slice a1 (List.length L) c1, .slice a2 0 c2], .bool true]) ∧ IsN ins ins true ∧ L.map (·.l) = (newG ins).wins ∧ SafeG w' w.heap.size w'.heap.size a0 a1 a2 (newG ins).ins L (newG ins).shown ∧ ins.length ≤ c0 ∧ c0 ≤ maxLen) ∨ (e = .returned (.tuple #[.agg #[.slice none 0 0, .slice none 0 0, .slice none 0 0], .bool false]) ∧ IsN ins [] false) := by
  rcases id h with ⟨B, v0, v1, L, v2, hB, rfl, hp, h1, h2, h3, ⟨a2, c2, rfl⟩⟩ | ⟨rfl, hp⟩
  · have hpos : 0 < ins.length := hp.1
    obtain ⟨nm, ok, b0, e0, b1, e1, b2, e2, he, hN, hS⟩ := h.safe
    simp only [Ending.returned.injEq, Value.tuple.injEq, Array.mk.injEq, List.cons.injEq, Value.agg.injEq, Value.bool.injEq, and_true] at he
    obtain ⟨⟨rfl, rfl, he2⟩, hok⟩ := he
    subst hok
    obtain rfl : nm = ins := by
      rcases hN with ⟨_, _, e⟩ | ⟨e, _, _⟩
      · exact e
      · cases e
    obtain ⟨L', hl', hm', hs'⟩ := hS.full (a2 := a2) (fun e => by rw [e] at hpos; simp at hpos)
    have hcap : nm.length ≤ e0 ∧ e0 ≤ maxLen := by
      rcases (show World.ownsRow _ _ _ _ _ _ _ from h1).2 with ⟨_, e⟩ | ⟨g', cap, cur, e, _, _, hn, hmx, _⟩
      · omega
      · simp only [Value.slice.injEq] at e
        omega
    exact .inl ⟨b0, e0, b1, e1, a2, c2, L', by rw [hl'], hN, hm', hs', hcap⟩
  · exact .inr ⟨rfl, .inr ⟨rfl, hp, rfl⟩⟩
theorem hid_hold {P : Prop} (h : Hid P) : P := h.out
theorem CalI.grown {g : GatL} {i x : Int} {m : List (ByteArray × Int)} {R : ResG} {u u' : World} {r : Option Nat} (h : CalI g i x m R u) (hg : u.grownBy u' r) (hd : ∀ k, r = some k → k < R.tl ∨ R.th ≤ k) : CalI g i x m R u' := by
  obtain ⟨lo, hi, hs, k1, k2⟩ := grown_span hg
  refine h.span hs ?_
  by_cases e : lo < hi
  · have := hd lo (k1 e).1; have := (k1 e).2; omega
  · have := k2 e; omega
theorem CalS.grown {g : GatL} {i x : Int} {m : List (ByteArray × Int)} {R : ResG} {u u' : World} {r : Option Nat} (h : CalS g i x m R u) (hg : u.grownBy u' r) (hd : ∀ k, r = some k → k < R.tl ∨ R.th ≤ k) : CalS g i x m R u' := by
  obtain ⟨lo, hi, hs, k1, k2⟩ := grown_span hg
  refine h.span hs ?_
  by_cases e : lo < hi
  · have := hd lo (k1 e).1; have := (k1 e).2; omega
  · have := k2 e; omega
theorem Duo.grown {w w' : World} {b : Nat} {x y : Value} {r : Option Nat} (h : Duo w b x y) (hg : w.grownBy w' r) (hd : ∀ k, r = some k → k ≠ b) : Duo w' b x y := by
  obtain ⟨lo, hi, hs, k1, k2⟩ := grown_span hg
  refine h.span hs ?_
  by_cases e : lo < hi
  · have := hd lo (k1 e).1; have := (k1 e).2; omega
  · have := k2 e; omega
end Go.Proofs.YtpfhegengmlkmaaGreat

namespace Go.Proofs.YtpfhegengmlkmaaGreat
open Go.RowKit Go.BigFrame
set_option maxRecDepth 100000

/-- What holds while the region runs: f says which operations are done. -/
structure Fy (Cal : ResG → World → Prop) (W : World) (GV SV IV PV FV : Value) (f : Nat → Bool) (R : ResG) (b10 b11 : Nat) (v11 v12 v13 v32 v33 v34 v35 v36 v37 v38 v39 v40 v41 : Value) (u : World) : Prop where
  bel : Below W.heap.size W u
  k0 : f 0 = true → v33 = GV
  k1 : f 1 = true → v34 = SV
  k2 : f 2 = true → v35 = IV
  k3 : f 3 = true → v36 = PV
  k4 : f 4 = true → v37 = FV
  k5 : f 5 = true → v38 = R.all ∧ Cal R u ∧ W.heap.size ≤ R.tl
  k6 : f 6 = true → v32 = R.all
  k7 : f 7 = true → v39 = R.gv
  k8 : f 8 = true → v40 = R.wv
  k9 : f 9 = true → v41 = .int .i64 R.code
  k10 : f 10 = true → v11 = .pointer (some ⟨b10, 0, none⟩) ∧ W.heap.size ≤ b10 ∧ b10 < u.heap.size ∧ (f 5 = true → b10 < R.tl ∨ R.th ≤ b10) ∧ (f 12 = false → Tri u b10 (.slice none 0 0) (.slice none 0 0) (.slice none 0 0)) ∧ (f 12 = true → Tri u b10 (.slice R.s0 R.g.ins.length R.d0) (.slice R.s1 R.L.length R.d1) (.slice R.s2 R.g.shown.length R.d2))
  k11 : f 11 = true → v12 = .pointer (some ⟨b11, 0, none⟩) ∧ W.heap.size ≤ b11 ∧ b11 < u.heap.size ∧ (f 5 = true → b11 < R.tl ∨ R.th ≤ b11) ∧ (f 13 = false → Duo u b11 (.slice none 0 0) (.slice none 0 0)) ∧ (f 13 = true → Duo u b11 (.slice R.s3 R.sv.length R.d3) (.slice R.s4 R.ss.length R.d4))
  k14 : f 14 = true → v13 = .int .i64 R.code
  ne : f 10 = true → f 11 = true → b10 ≠ b11
  c6 : f 6 = true → f 5 = true
  c7 : f 7 = true → f 5 = true
  c8 : f 8 = true → f 5 = true
  c9 : f 9 = true → f 5 = true
  c12 : f 12 = true → f 5 = true ∧ f 10 = true
  c13 : f 13 = true → f 5 = true ∧ f 11 = true
  c14 : f 14 = true → f 5 = true
theorem Fy.below {Cal : ResG → World → Prop} (hC : ∀ R u u', Cal R u → Below u.heap.size u u' → Cal R u') {W u u' : World} {GV SV IV PV FV : Value} {f : Nat → Bool} {R : ResG} {b10 b11 : Nat} {v11 v12 v13 v32 v33 v34 v35 v36 v37 v38 v39 v40 v41 : Value} (h : Fy Cal W GV SV IV PV FV f R b10 b11 v11 v12 v13 v32 v33 v34 v35 v36 v37 v38 v39 v40 v41 u) (hb : Below u.heap.size u u') :
    Fy Cal W GV SV IV PV FV f R b10 b11 v11 v12 v13 v32 v33 v34 v35 v36 v37 v38 v39 v40 v41 u' :=
  { h with
    bel := h.bel.trans (hb.mono h.bel.size)
    k5 := fun e => let ⟨q0, q1, q2⟩ := h.k5 e; ⟨q0, hC _ _ _ q1 hb, q2⟩
    k10 := fun e => let ⟨q0, q1, q2, q3, q4, q5⟩ := h.k10 e; ⟨q0, q1, Nat.lt_of_lt_of_le q2 hb.size, q3, fun e' => (q4 e').keep hb, fun e' => (q5 e').keep hb⟩
    k11 := fun e => let ⟨q0, q1, q2, q3, q4, q5⟩ := h.k11 e; ⟨q0, q1, Nat.lt_of_lt_of_le q2 hb.size, q3, fun e' => (q4 e').keep hb, fun e' => (q5 e').keep hb⟩ }

end Go.Proofs.YtpfhegengmlkmaaGreat

namespace Go.Proofs.YtpfhegengmlkmaaGreat
open Go.RowKit Go.BigFrame
set_option maxRecDepth 100000

set_option maxHeartbeats 800000 in
theorem bsInts_same (a b : Option Addr) (ca cb : Nat) (ps : List Int) (w : World) (hp : ps.length ≤ maxLen) (ha : RowZ w a ps) (hb : RowZ w b ps) :
    Calls Tryz.prog 8 #[.slice a ps.length ca, .slice b ps.length cb] w fun e w' => e = .returned (.bool true) ∧ Below w.heap.size w w' := by
  unfold maxLen at hp
  go_enter Tryz.func8, Tryz.ntmps8
  go_wp2_with fail
  go_loopw [5] (fun i wr => ∃ k : Nat, k ≤ ps.length ∧ i = .int .i64 k ∧ Below w.heap.size w wr) (fun i _ => ps.length - (intOf i).toNat)
  case atStart => exact ⟨0, Nat.zero_le _, rfl, Below.refl _ _⟩
  case round =>
    obtain ⟨k, hk, rfl, hbl⟩ := hrel
    by_cases hlt : k < ps.length
    · obtain ⟨b1, o1, rfl, g1, e1⟩ := ha.below hbl k hlt
      obtain ⟨b2, o2, rfl, g2, f1⟩ := hb.below hbl k hlt
      have k0 : (0 : Int) ≤ (k : Int) := by omega
      have k1 : (k : Int) < (ps.length : Int) := by omega
      go_wp2_with fail
      go_quiet (fail)
      go_wp2_with fail
      exact ⟨⟨k + 1, by omega, by go_num, below_drewN hbl _⟩, by simp [intOf]; omega⟩
    · go_wp2_with fail
      go_ret
      exact ⟨rfl, hbl⟩

end Go.Proofs.YtpfhegengmlkmaaGreat

namespace Go.Proofs.YtpfhegengmlkmaaGreat
open Go.RowKit Go.BigFrame
set_option maxRecDepth 100000

theorem But.grown {R : Nat} {x w w' : World} {row : Option Nat} (h : But R x w) (hg : w.grownBy w' row) (hr : ∀ k, row = some k → x.heap.size ≤ k) : But R x w' :=
  ⟨hg.os.trans h.os, hg.tape.trans h.tape, hg.output.trans h.output, Nat.le_trans h.size hg.size, fun k hk hn => (hg.block k (Nat.lt_of_lt_of_le hk h.size) (fun e => by have := hr k e.symm; omega)).trans (h.block k hk hn)⟩
theorem Rd.grown {w w' : World} {R n c p : Nat} {ab : Option Addr} {row : Option Nat} (h : Rd w R ab n c p) (hg : w.grownBy w' row) (hr : ∀ k, row = some k → R < k) : Rd w' R ab n c p := by
  have := h.lt
  exact h.same fun k hk => hg.block k (by omega) (fun e => by have := hr k e.symm; omega)

end Go.Proofs.YtpfhegengmlkmaaGreat
