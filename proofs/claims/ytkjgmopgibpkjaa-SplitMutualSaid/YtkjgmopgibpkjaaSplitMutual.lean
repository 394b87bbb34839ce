/- freeboardlaw08.SplitMutual: for every input the law answers true, and what is handed in reads as it did. Conditions: none. -/
import Derived.Test.YtkjgmopgibpkjaaSplitAlive
namespace Go.Proofs.Ytkjgmopgibpkjaa
open Go.ChangeShapes Go.WideShapes Go.ChangeAt Go.RowKit ShapeM SplitM
set_option linter.unusedVariables false
set_option maxRecDepth 100000 in
set_option maxHeartbeats 4000000 in
theorem mutual_g1 (id m ch ro lo he k a mn k2 a2 mn2 : Int) (A A2 : Option Addr) (n cp n2 cp2 : Nat) (ka : ∀ W, Calls Try.prog 14 #[] W fun e w' => e = .returned (.bool true) ∧ Below W.heap.size W w') (h : 5000 < n) (w : World) : Calls Try.prog 6 #[.agg #[.int .u32 id, .int .i64 m, .int .i64 ch, .int .i64 ro, .int .i64 lo, .int .i64 he], .agg #[.int .u8 k, .int .i64 a, .int .i64 mn, .slice A n cp], .agg #[.int .u8 k2, .int .i64 a2, .int .i64 mn2, .slice A2 n2 cp2]] w fun e w' => e = .returned (.bool true) ∧ Below w.heap.size w w' := by
  have B := Box6.new w (.int .u32 id) (.int .i64 m) (.int .i64 ch) (.int .i64 ro) (.int .i64 lo) (.int .i64 he) 24
  have hb : Below w.heap.size w (w.alloc (.cells #[.int .u32 id, .int .i64 m, .int .i64 ch, .int .i64 ro, .int .i64 lo, .int .i64 he] 24 (0, 0))) := (Below.refl _ _).alloc (Nat.le_refl _) _
  replace B := B.alloc (.cells #[.int .u8 k, .int .i64 a, .int .i64 mn, .slice A n cp] 32 (0, 0))
  have G := CellsAt.new (w.alloc (.cells #[.int .u32 id, .int .i64 m, .int .i64 ch, .int .i64 ro, .int .i64 lo, .int .i64 he] 24 (0, 0))) [.int .u8 k, .int .i64 a, .int .i64 mn, .slice A n cp] 32
  replace hb := hb.alloc hb.size (.cells #[.int .u8 k, .int .i64 a, .int .i64 mn, .slice A n cp] 32 (0, 0))
  replace B := B.alloc (.cells #[.int .u8 k2, .int .i64 a2, .int .i64 mn2, .slice A2 n2 cp2] 32 (0, 0))
  replace G := G.alloc (.cells #[.int .u8 k2, .int .i64 a2, .int .i64 mn2, .slice A2 n2 cp2] 32 (0, 0))
  have G2 := CellsAt.new ((w.alloc (.cells #[.int .u32 id, .int .i64 m, .int .i64 ch, .int .i64 ro, .int .i64 lo, .int .i64 he] 24 (0, 0))).alloc (.cells #[.int .u8 k, .int .i64 a, .int .i64 mn, .slice A n cp] 32 (0, 0))) [.int .u8 k2, .int .i64 a2, .int .i64 mn2, .slice A2 n2 cp2] 32
  replace hb := hb.alloc hb.size (.cells #[.int .u8 k2, .int .i64 a2, .int .i64 mn2, .slice A2 n2 cp2] 32 (0, 0))
  simp only [World.size_alloc] at G G2
  obtain ⟨c0, c1, c2, c3, c4, c5⟩ := B.all
  obtain ⟨g0, g1, g2, g3⟩ := G.all4
  obtain ⟨g02, g12, g22, g32⟩ := G2.all4
  go_enter Try.func6, Try.ntmps6
  go_wp2_with (first
    | (go_at_call 14; refine (ka _).mono ?_; rintro e w2 ⟨rfl, hb2⟩; replace hb := hb.trans (hb2.mono hb.size); clear c0 c1 c2 c3 c4 c5 g0 g1 g2 g3 g02 g12 g22 g32; replace B := B.below hb2 (Nat.le_refl _); replace G := G.below hb2 (Nat.le_refl _); replace G2 := G2.below hb2 (Nat.le_refl _); clear hb2; obtain ⟨c0, c1, c2, c3, c4, c5⟩ := B.all; obtain ⟨g0, g1, g2, g3⟩ := G.all4; obtain ⟨g02, g12, g22, g32⟩ := G2.all4; have blt := B.lt; have glt := G.lt; have glt2 := G2.lt))
  go_ret
  exact ⟨rfl, hb⟩
set_option maxRecDepth 100000 in
set_option maxHeartbeats 4000000 in
theorem mutual_g2 (id m ch ro lo he k a mn k2 a2 mn2 : Int) (A A2 : Option Addr) (n cp n2 cp2 : Nat) (ka : ∀ W, Calls Try.prog 14 #[] W fun e w' => e = .returned (.bool true) ∧ Below W.heap.size W w') (h : n ≤ 5000) (h2 : 5000 < n2) (w : World) : Calls Try.prog 6 #[.agg #[.int .u32 id, .int .i64 m, .int .i64 ch, .int .i64 ro, .int .i64 lo, .int .i64 he], .agg #[.int .u8 k, .int .i64 a, .int .i64 mn, .slice A n cp], .agg #[.int .u8 k2, .int .i64 a2, .int .i64 mn2, .slice A2 n2 cp2]] w fun e w' => e = .returned (.bool true) ∧ Below w.heap.size w w' := by
  have B := Box6.new w (.int .u32 id) (.int .i64 m) (.int .i64 ch) (.int .i64 ro) (.int .i64 lo) (.int .i64 he) 24
  have hb : Below w.heap.size w (w.alloc (.cells #[.int .u32 id, .int .i64 m, .int .i64 ch, .int .i64 ro, .int .i64 lo, .int .i64 he] 24 (0, 0))) := (Below.refl _ _).alloc (Nat.le_refl _) _
  replace B := B.alloc (.cells #[.int .u8 k, .int .i64 a, .int .i64 mn, .slice A n cp] 32 (0, 0))
  have G := CellsAt.new (w.alloc (.cells #[.int .u32 id, .int .i64 m, .int .i64 ch, .int .i64 ro, .int .i64 lo, .int .i64 he] 24 (0, 0))) [.int .u8 k, .int .i64 a, .int .i64 mn, .slice A n cp] 32
  replace hb := hb.alloc hb.size (.cells #[.int .u8 k, .int .i64 a, .int .i64 mn, .slice A n cp] 32 (0, 0))
  replace B := B.alloc (.cells #[.int .u8 k2, .int .i64 a2, .int .i64 mn2, .slice A2 n2 cp2] 32 (0, 0))
  replace G := G.alloc (.cells #[.int .u8 k2, .int .i64 a2, .int .i64 mn2, .slice A2 n2 cp2] 32 (0, 0))
  have G2 := CellsAt.new ((w.alloc (.cells #[.int .u32 id, .int .i64 m, .int .i64 ch, .int .i64 ro, .int .i64 lo, .int .i64 he] 24 (0, 0))).alloc (.cells #[.int .u8 k, .int .i64 a, .int .i64 mn, .slice A n cp] 32 (0, 0))) [.int .u8 k2, .int .i64 a2, .int .i64 mn2, .slice A2 n2 cp2] 32
  replace hb := hb.alloc hb.size (.cells #[.int .u8 k2, .int .i64 a2, .int .i64 mn2, .slice A2 n2 cp2] 32 (0, 0))
  simp only [World.size_alloc] at G G2
  obtain ⟨c0, c1, c2, c3, c4, c5⟩ := B.all
  obtain ⟨g0, g1, g2, g3⟩ := G.all4
  obtain ⟨g02, g12, g22, g32⟩ := G2.all4
  go_enter Try.func6, Try.ntmps6
  go_wp2_with (first
    | (go_at_call 14; refine (ka _).mono ?_; rintro e w2 ⟨rfl, hb2⟩; replace hb := hb.trans (hb2.mono hb.size); clear c0 c1 c2 c3 c4 c5 g0 g1 g2 g3 g02 g12 g22 g32; replace B := B.below hb2 (Nat.le_refl _); replace G := G.below hb2 (Nat.le_refl _); replace G2 := G2.below hb2 (Nat.le_refl _); clear hb2; obtain ⟨c0, c1, c2, c3, c4, c5⟩ := B.all; obtain ⟨g0, g1, g2, g3⟩ := G.all4; obtain ⟨g02, g12, g22, g32⟩ := G2.all4; have blt := B.lt; have glt := G.lt; have glt2 := G2.lt))
  go_ret
  exact ⟨rfl, hb⟩
set_option maxRecDepth 100000 in
set_option maxHeartbeats 4000000 in
theorem mutual_c1 (id m ch ro lo he k a mn k2 a2 mn2 : Int) (A A2 : Option Addr) (n cp n2 cp2 : Nat) (ka : ∀ W, Calls Try.prog 14 #[] W fun e w' => e = .returned (.bool true) ∧ Below W.heap.size W w') (h : n ≤ 5000) (h2 : n2 ≤ 5000) (E : Int) (hE : (E == 0) = false) (hE2 : (E != 0) = true) (hc : ∀ W, Calls Try.prog 13 #[.agg #[.int .u32 id, .int .i64 m, .int .i64 ch, .int .i64 ro, .int .i64 lo, .int .i64 he], .agg #[.int .u8 k, .int .i64 a, .int .i64 mn, .slice A n cp]] W fun e w' => e = .returned (.int .i64 E) ∧ Below W.heap.size W w') (w : World) : Calls Try.prog 6 #[.agg #[.int .u32 id, .int .i64 m, .int .i64 ch, .int .i64 ro, .int .i64 lo, .int .i64 he], .agg #[.int .u8 k, .int .i64 a, .int .i64 mn, .slice A n cp], .agg #[.int .u8 k2, .int .i64 a2, .int .i64 mn2, .slice A2 n2 cp2]] w fun e w' => e = .returned (.bool true) ∧ Below w.heap.size w w' := by
  have B := Box6.new w (.int .u32 id) (.int .i64 m) (.int .i64 ch) (.int .i64 ro) (.int .i64 lo) (.int .i64 he) 24
  have hb : Below w.heap.size w (w.alloc (.cells #[.int .u32 id, .int .i64 m, .int .i64 ch, .int .i64 ro, .int .i64 lo, .int .i64 he] 24 (0, 0))) := (Below.refl _ _).alloc (Nat.le_refl _) _
  replace B := B.alloc (.cells #[.int .u8 k, .int .i64 a, .int .i64 mn, .slice A n cp] 32 (0, 0))
  have G := CellsAt.new (w.alloc (.cells #[.int .u32 id, .int .i64 m, .int .i64 ch, .int .i64 ro, .int .i64 lo, .int .i64 he] 24 (0, 0))) [.int .u8 k, .int .i64 a, .int .i64 mn, .slice A n cp] 32
  replace hb := hb.alloc hb.size (.cells #[.int .u8 k, .int .i64 a, .int .i64 mn, .slice A n cp] 32 (0, 0))
  replace B := B.alloc (.cells #[.int .u8 k2, .int .i64 a2, .int .i64 mn2, .slice A2 n2 cp2] 32 (0, 0))
  replace G := G.alloc (.cells #[.int .u8 k2, .int .i64 a2, .int .i64 mn2, .slice A2 n2 cp2] 32 (0, 0))
  have G2 := CellsAt.new ((w.alloc (.cells #[.int .u32 id, .int .i64 m, .int .i64 ch, .int .i64 ro, .int .i64 lo, .int .i64 he] 24 (0, 0))).alloc (.cells #[.int .u8 k, .int .i64 a, .int .i64 mn, .slice A n cp] 32 (0, 0))) [.int .u8 k2, .int .i64 a2, .int .i64 mn2, .slice A2 n2 cp2] 32
  replace hb := hb.alloc hb.size (.cells #[.int .u8 k2, .int .i64 a2, .int .i64 mn2, .slice A2 n2 cp2] 32 (0, 0))
  simp only [World.size_alloc] at G G2
  obtain ⟨c0, c1, c2, c3, c4, c5⟩ := B.all
  obtain ⟨g0, g1, g2, g3⟩ := G.all4
  obtain ⟨g02, g12, g22, g32⟩ := G2.all4
  go_enter Try.func6, Try.ntmps6
  go_wp2_with (first
    | (go_at_call 14; refine (ka _).mono ?_; rintro e w2 ⟨rfl, hb2⟩; replace hb := hb.trans (hb2.mono hb.size); clear c0 c1 c2 c3 c4 c5 g0 g1 g2 g3 g02 g12 g22 g32; replace B := B.below hb2 (Nat.le_refl _); replace G := G.below hb2 (Nat.le_refl _); replace G2 := G2.below hb2 (Nat.le_refl _); clear hb2; obtain ⟨c0, c1, c2, c3, c4, c5⟩ := B.all; obtain ⟨g0, g1, g2, g3⟩ := G.all4; obtain ⟨g02, g12, g22, g32⟩ := G2.all4; have blt := B.lt; have glt := G.lt; have glt2 := G2.lt)
    | (go_at_call 13; (with_reducible refine (hc _).mono ?_); rintro e w3 ⟨rfl, hb2⟩; replace hb := hb.trans (hb2.mono hb.size); clear c0 c1 c2 c3 c4 c5 g0 g1 g2 g3 g02 g12 g22 g32; replace B := B.below hb2 (Nat.le_refl _); replace G := G.below hb2 (Nat.le_refl _); replace G2 := G2.below hb2 (Nat.le_refl _); clear hb2; obtain ⟨c0, c1, c2, c3, c4, c5⟩ := B.all; obtain ⟨g0, g1, g2, g3⟩ := G.all4; obtain ⟨g02, g12, g22, g32⟩ := G2.all4; have blt := B.lt; have glt := G.lt; have glt2 := G2.lt))
  go_ret
  exact ⟨rfl, hb⟩
set_option maxRecDepth 100000 in
set_option maxHeartbeats 4000000 in
theorem mutual_c2 (id m ch ro lo he k a mn k2 a2 mn2 : Int) (A A2 : Option Addr) (n cp n2 cp2 : Nat) (ka : ∀ W, Calls Try.prog 14 #[] W fun e w' => e = .returned (.bool true) ∧ Below W.heap.size W w') (h : n ≤ 5000) (h2 : n2 ≤ 5000) (E : Int) (hE : (E == 0) = false) (hE2 : (E != 0) = true) (hc : ∀ W, Calls Try.prog 13 #[.agg #[.int .u32 id, .int .i64 m, .int .i64 ch, .int .i64 ro, .int .i64 lo, .int .i64 he], .agg #[.int .u8 k, .int .i64 a, .int .i64 mn, .slice A n cp]] W fun e w' => e = .returned (.int .i64 0) ∧ Below W.heap.size W w') (hc2 : ∀ W, Calls Try.prog 13 #[.agg #[.int .u32 id, .int .i64 m, .int .i64 ch, .int .i64 ro, .int .i64 lo, .int .i64 he], .agg #[.int .u8 k2, .int .i64 a2, .int .i64 mn2, .slice A2 n2 cp2]] W fun e w' => e = .returned (.int .i64 E) ∧ Below W.heap.size W w') (w : World) : Calls Try.prog 6 #[.agg #[.int .u32 id, .int .i64 m, .int .i64 ch, .int .i64 ro, .int .i64 lo, .int .i64 he], .agg #[.int .u8 k, .int .i64 a, .int .i64 mn, .slice A n cp], .agg #[.int .u8 k2, .int .i64 a2, .int .i64 mn2, .slice A2 n2 cp2]] w fun e w' => e = .returned (.bool true) ∧ Below w.heap.size w w' := by
  have B := Box6.new w (.int .u32 id) (.int .i64 m) (.int .i64 ch) (.int .i64 ro) (.int .i64 lo) (.int .i64 he) 24
  have hb : Below w.heap.size w (w.alloc (.cells #[.int .u32 id, .int .i64 m, .int .i64 ch, .int .i64 ro, .int .i64 lo, .int .i64 he] 24 (0, 0))) := (Below.refl _ _).alloc (Nat.le_refl _) _
  replace B := B.alloc (.cells #[.int .u8 k, .int .i64 a, .int .i64 mn, .slice A n cp] 32 (0, 0))
  have G := CellsAt.new (w.alloc (.cells #[.int .u32 id, .int .i64 m, .int .i64 ch, .int .i64 ro, .int .i64 lo, .int .i64 he] 24 (0, 0))) [.int .u8 k, .int .i64 a, .int .i64 mn, .slice A n cp] 32
  replace hb := hb.alloc hb.size (.cells #[.int .u8 k, .int .i64 a, .int .i64 mn, .slice A n cp] 32 (0, 0))
  replace B := B.alloc (.cells #[.int .u8 k2, .int .i64 a2, .int .i64 mn2, .slice A2 n2 cp2] 32 (0, 0))
  replace G := G.alloc (.cells #[.int .u8 k2, .int .i64 a2, .int .i64 mn2, .slice A2 n2 cp2] 32 (0, 0))
  have G2 := CellsAt.new ((w.alloc (.cells #[.int .u32 id, .int .i64 m, .int .i64 ch, .int .i64 ro, .int .i64 lo, .int .i64 he] 24 (0, 0))).alloc (.cells #[.int .u8 k, .int .i64 a, .int .i64 mn, .slice A n cp] 32 (0, 0))) [.int .u8 k2, .int .i64 a2, .int .i64 mn2, .slice A2 n2 cp2] 32
  replace hb := hb.alloc hb.size (.cells #[.int .u8 k2, .int .i64 a2, .int .i64 mn2, .slice A2 n2 cp2] 32 (0, 0))
  simp only [World.size_alloc] at G G2
  obtain ⟨c0, c1, c2, c3, c4, c5⟩ := B.all
  obtain ⟨g0, g1, g2, g3⟩ := G.all4
  obtain ⟨g02, g12, g22, g32⟩ := G2.all4
  go_enter Try.func6, Try.ntmps6
  go_wp2_with (first
    | (go_at_call 14; refine (ka _).mono ?_; rintro e w2 ⟨rfl, hb2⟩; replace hb := hb.trans (hb2.mono hb.size); clear c0 c1 c2 c3 c4 c5 g0 g1 g2 g3 g02 g12 g22 g32; replace B := B.below hb2 (Nat.le_refl _); replace G := G.below hb2 (Nat.le_refl _); replace G2 := G2.below hb2 (Nat.le_refl _); clear hb2; obtain ⟨c0, c1, c2, c3, c4, c5⟩ := B.all; obtain ⟨g0, g1, g2, g3⟩ := G.all4; obtain ⟨g02, g12, g22, g32⟩ := G2.all4; have blt := B.lt; have glt := G.lt; have glt2 := G2.lt)
    | (go_at_call 13; (with_reducible refine (hc _).mono ?_); rintro e w3 ⟨rfl, hb2⟩; replace hb := hb.trans (hb2.mono hb.size); clear c0 c1 c2 c3 c4 c5 g0 g1 g2 g3 g02 g12 g22 g32; replace B := B.below hb2 (Nat.le_refl _); replace G := G.below hb2 (Nat.le_refl _); replace G2 := G2.below hb2 (Nat.le_refl _); clear hb2; obtain ⟨c0, c1, c2, c3, c4, c5⟩ := B.all; obtain ⟨g0, g1, g2, g3⟩ := G.all4; obtain ⟨g02, g12, g22, g32⟩ := G2.all4; have blt := B.lt; have glt := G.lt; have glt2 := G2.lt)
    | (go_at_call 13; (with_reducible refine (hc2 _).mono ?_); rintro e w4 ⟨rfl, hb2⟩; replace hb := hb.trans (hb2.mono hb.size); clear c0 c1 c2 c3 c4 c5 g0 g1 g2 g3 g02 g12 g22 g32; replace B := B.below hb2 (Nat.le_refl _); replace G := G.below hb2 (Nat.le_refl _); replace G2 := G2.below hb2 (Nat.le_refl _); clear hb2; obtain ⟨c0, c1, c2, c3, c4, c5⟩ := B.all; obtain ⟨g0, g1, g2, g3⟩ := G.all4; obtain ⟨g02, g12, g22, g32⟩ := G2.all4; have blt := B.lt; have glt := G.lt; have glt2 := G2.lt))
  go_ret
  exact ⟨rfl, hb⟩
set_option maxRecDepth 100000 in
set_option maxHeartbeats 4000000 in
theorem mutual_tt (id m ch ro lo he k a mn k2 a2 mn2 : Int) (A A2 : Option Addr) (n cp n2 cp2 : Nat) (ka : ∀ W, Calls Try.prog 14 #[] W fun e w' => e = .returned (.bool true) ∧ Below W.heap.size W w') (h : n ≤ 5000) (h2 : n2 ≤ 5000) (t : Bool) (hc : ∀ W, Calls Try.prog 13 #[.agg #[.int .u32 id, .int .i64 m, .int .i64 ch, .int .i64 ro, .int .i64 lo, .int .i64 he], .agg #[.int .u8 k, .int .i64 a, .int .i64 mn, .slice A n cp]] W fun e w' => e = .returned (.int .i64 0) ∧ Below W.heap.size W w') (hc2 : ∀ W, Calls Try.prog 13 #[.agg #[.int .u32 id, .int .i64 m, .int .i64 ch, .int .i64 ro, .int .i64 lo, .int .i64 he], .agg #[.int .u8 k2, .int .i64 a2, .int .i64 mn2, .slice A2 n2 cp2]] W fun e w' => e = .returned (.int .i64 0) ∧ Below W.heap.size W w') (t1 : ∀ W, Calls Try.prog 12 #[.agg #[.int .u32 id, .int .i64 m, .int .i64 ch, .int .i64 ro, .int .i64 lo, .int .i64 he], .agg #[.int .u8 k, .int .i64 a, .int .i64 mn, .slice A n cp], .agg #[.int .u8 k2, .int .i64 a2, .int .i64 mn2, .slice A2 n2 cp2]] W fun e w' => e = .returned (.tuple #[.bool t, .int .i64 0]) ∧ Below W.heap.size W w') (t2 : ∀ W, Calls Try.prog 12 #[.agg #[.int .u32 id, .int .i64 m, .int .i64 ch, .int .i64 ro, .int .i64 lo, .int .i64 he], .agg #[.int .u8 k2, .int .i64 a2, .int .i64 mn2, .slice A2 n2 cp2], .agg #[.int .u8 k, .int .i64 a, .int .i64 mn, .slice A n cp]] W fun e w' => e = .returned (.tuple #[.bool t, .int .i64 0]) ∧ Below W.heap.size W w') (t3 : ∀ W, Calls Try.prog 12 #[.agg #[.int .u32 id, .int .i64 m, .int .i64 ch, .int .i64 ro, .int .i64 lo, .int .i64 he], .agg #[.int .u8 k, .int .i64 a, .int .i64 mn, .slice A n cp], .agg #[.int .u8 k, .int .i64 a, .int .i64 mn, .slice A n cp]] W fun e w' => e = .returned (.tuple #[.bool true, .int .i64 0]) ∧ Below W.heap.size W w') (r1 : ∀ W, Calls Try.prog 21 #[.int .u8 k] W fun e w' => e = .returned (.bool true) ∧ W = w') (r2 : ∀ W, Calls Try.prog 21 #[.int .u8 k2] W fun e w' => e = .returned (.bool true) ∧ W = w') (w : World) : Calls Try.prog 6 #[.agg #[.int .u32 id, .int .i64 m, .int .i64 ch, .int .i64 ro, .int .i64 lo, .int .i64 he], .agg #[.int .u8 k, .int .i64 a, .int .i64 mn, .slice A n cp], .agg #[.int .u8 k2, .int .i64 a2, .int .i64 mn2, .slice A2 n2 cp2]] w fun e w' => e = .returned (.bool true) ∧ Below w.heap.size w w' := by
  have B := Box6.new w (.int .u32 id) (.int .i64 m) (.int .i64 ch) (.int .i64 ro) (.int .i64 lo) (.int .i64 he) 24
  have hb : Below w.heap.size w (w.alloc (.cells #[.int .u32 id, .int .i64 m, .int .i64 ch, .int .i64 ro, .int .i64 lo, .int .i64 he] 24 (0, 0))) := (Below.refl _ _).alloc (Nat.le_refl _) _
  replace B := B.alloc (.cells #[.int .u8 k, .int .i64 a, .int .i64 mn, .slice A n cp] 32 (0, 0))
  have G := CellsAt.new (w.alloc (.cells #[.int .u32 id, .int .i64 m, .int .i64 ch, .int .i64 ro, .int .i64 lo, .int .i64 he] 24 (0, 0))) [.int .u8 k, .int .i64 a, .int .i64 mn, .slice A n cp] 32
  replace hb := hb.alloc hb.size (.cells #[.int .u8 k, .int .i64 a, .int .i64 mn, .slice A n cp] 32 (0, 0))
  replace B := B.alloc (.cells #[.int .u8 k2, .int .i64 a2, .int .i64 mn2, .slice A2 n2 cp2] 32 (0, 0))
  replace G := G.alloc (.cells #[.int .u8 k2, .int .i64 a2, .int .i64 mn2, .slice A2 n2 cp2] 32 (0, 0))
  have G2 := CellsAt.new ((w.alloc (.cells #[.int .u32 id, .int .i64 m, .int .i64 ch, .int .i64 ro, .int .i64 lo, .int .i64 he] 24 (0, 0))).alloc (.cells #[.int .u8 k, .int .i64 a, .int .i64 mn, .slice A n cp] 32 (0, 0))) [.int .u8 k2, .int .i64 a2, .int .i64 mn2, .slice A2 n2 cp2] 32
  replace hb := hb.alloc hb.size (.cells #[.int .u8 k2, .int .i64 a2, .int .i64 mn2, .slice A2 n2 cp2] 32 (0, 0))
  simp only [World.size_alloc] at G G2
  obtain ⟨c0, c1, c2, c3, c4, c5⟩ := B.all
  obtain ⟨g0, g1, g2, g3⟩ := G.all4
  obtain ⟨g02, g12, g22, g32⟩ := G2.all4
  go_enter Try.func6, Try.ntmps6
  go_wp2_with (first
    | (go_at_call 14; refine (ka _).mono ?_; rintro e w2 ⟨rfl, hb2⟩; replace hb := hb.trans (hb2.mono hb.size); clear c0 c1 c2 c3 c4 c5 g0 g1 g2 g3 g02 g12 g22 g32; replace B := B.below hb2 (Nat.le_refl _); replace G := G.below hb2 (Nat.le_refl _); replace G2 := G2.below hb2 (Nat.le_refl _); clear hb2; obtain ⟨c0, c1, c2, c3, c4, c5⟩ := B.all; obtain ⟨g0, g1, g2, g3⟩ := G.all4; obtain ⟨g02, g12, g22, g32⟩ := G2.all4; have blt := B.lt; have glt := G.lt; have glt2 := G2.lt)
    | (go_at_call 13; (with_reducible refine (hc _).mono ?_); rintro e w3 ⟨rfl, hb2⟩; replace hb := hb.trans (hb2.mono hb.size); clear c0 c1 c2 c3 c4 c5 g0 g1 g2 g3 g02 g12 g22 g32; replace B := B.below hb2 (Nat.le_refl _); replace G := G.below hb2 (Nat.le_refl _); replace G2 := G2.below hb2 (Nat.le_refl _); clear hb2; obtain ⟨c0, c1, c2, c3, c4, c5⟩ := B.all; obtain ⟨g0, g1, g2, g3⟩ := G.all4; obtain ⟨g02, g12, g22, g32⟩ := G2.all4; have blt := B.lt; have glt := G.lt; have glt2 := G2.lt)
    | (go_at_call 13; (with_reducible refine (hc2 _).mono ?_); rintro e w4 ⟨rfl, hb2⟩; replace hb := hb.trans (hb2.mono hb.size); clear c0 c1 c2 c3 c4 c5 g0 g1 g2 g3 g02 g12 g22 g32; replace B := B.below hb2 (Nat.le_refl _); replace G := G.below hb2 (Nat.le_refl _); replace G2 := G2.below hb2 (Nat.le_refl _); clear hb2; obtain ⟨c0, c1, c2, c3, c4, c5⟩ := B.all; obtain ⟨g0, g1, g2, g3⟩ := G.all4; obtain ⟨g02, g12, g22, g32⟩ := G2.all4; have blt := B.lt; have glt := G.lt; have glt2 := G2.lt)
    | (go_at_call 12; (with_reducible refine (t1 _).mono ?_); rintro e w5 ⟨rfl, hb2⟩; replace hb := hb.trans (hb2.mono hb.size); clear c0 c1 c2 c3 c4 c5 g0 g1 g2 g3 g02 g12 g22 g32; replace B := B.below hb2 (Nat.le_refl _); replace G := G.below hb2 (Nat.le_refl _); replace G2 := G2.below hb2 (Nat.le_refl _); clear hb2; obtain ⟨c0, c1, c2, c3, c4, c5⟩ := B.all; obtain ⟨g0, g1, g2, g3⟩ := G.all4; obtain ⟨g02, g12, g22, g32⟩ := G2.all4; have blt := B.lt; have glt := G.lt; have glt2 := G2.lt)
    | (go_at_call 12; (with_reducible refine (t2 _).mono ?_); rintro e w6 ⟨rfl, hb2⟩; replace hb := hb.trans (hb2.mono hb.size); clear c0 c1 c2 c3 c4 c5 g0 g1 g2 g3 g02 g12 g22 g32; replace B := B.below hb2 (Nat.le_refl _); replace G := G.below hb2 (Nat.le_refl _); replace G2 := G2.below hb2 (Nat.le_refl _); clear hb2; obtain ⟨c0, c1, c2, c3, c4, c5⟩ := B.all; obtain ⟨g0, g1, g2, g3⟩ := G.all4; obtain ⟨g02, g12, g22, g32⟩ := G2.all4; have blt := B.lt; have glt := G.lt; have glt2 := G2.lt)
    | (go_at_call 12; (with_reducible refine (t3 _).mono ?_); rintro e w7 ⟨rfl, hb2⟩; replace hb := hb.trans (hb2.mono hb.size); clear c0 c1 c2 c3 c4 c5 g0 g1 g2 g3 g02 g12 g22 g32; replace B := B.below hb2 (Nat.le_refl _); replace G := G.below hb2 (Nat.le_refl _); replace G2 := G2.below hb2 (Nat.le_refl _); clear hb2; obtain ⟨c0, c1, c2, c3, c4, c5⟩ := B.all; obtain ⟨g0, g1, g2, g3⟩ := G.all4; obtain ⟨g02, g12, g22, g32⟩ := G2.all4; have blt := B.lt; have glt := G.lt; have glt2 := G2.lt)
    | (go_at_call 21; (with_reducible refine (r1 _).mono ?_); rintro e w9 ⟨rfl, rfl⟩)
    | (go_at_call 21; (with_reducible refine (r2 _).mono ?_); rintro e w9 ⟨rfl, rfl⟩))
  go_ret
  exact ⟨rfl, hb⟩
set_option maxRecDepth 100000 in
set_option maxHeartbeats 4000000 in
theorem mutual_tf (id m ch ro lo he k a mn k2 a2 mn2 : Int) (A A2 : Option Addr) (n cp n2 cp2 : Nat) (ka : ∀ W, Calls Try.prog 14 #[] W fun e w' => e = .returned (.bool true) ∧ Below W.heap.size W w') (h : n ≤ 5000) (h2 : n2 ≤ 5000) (t : Bool) (hc : ∀ W, Calls Try.prog 13 #[.agg #[.int .u32 id, .int .i64 m, .int .i64 ch, .int .i64 ro, .int .i64 lo, .int .i64 he], .agg #[.int .u8 k, .int .i64 a, .int .i64 mn, .slice A n cp]] W fun e w' => e = .returned (.int .i64 0) ∧ Below W.heap.size W w') (hc2 : ∀ W, Calls Try.prog 13 #[.agg #[.int .u32 id, .int .i64 m, .int .i64 ch, .int .i64 ro, .int .i64 lo, .int .i64 he], .agg #[.int .u8 k2, .int .i64 a2, .int .i64 mn2, .slice A2 n2 cp2]] W fun e w' => e = .returned (.int .i64 0) ∧ Below W.heap.size W w') (t1 : ∀ W, Calls Try.prog 12 #[.agg #[.int .u32 id, .int .i64 m, .int .i64 ch, .int .i64 ro, .int .i64 lo, .int .i64 he], .agg #[.int .u8 k, .int .i64 a, .int .i64 mn, .slice A n cp], .agg #[.int .u8 k2, .int .i64 a2, .int .i64 mn2, .slice A2 n2 cp2]] W fun e w' => e = .returned (.tuple #[.bool t, .int .i64 0]) ∧ Below W.heap.size W w') (t2 : ∀ W, Calls Try.prog 12 #[.agg #[.int .u32 id, .int .i64 m, .int .i64 ch, .int .i64 ro, .int .i64 lo, .int .i64 he], .agg #[.int .u8 k2, .int .i64 a2, .int .i64 mn2, .slice A2 n2 cp2], .agg #[.int .u8 k, .int .i64 a, .int .i64 mn, .slice A n cp]] W fun e w' => e = .returned (.tuple #[.bool t, .int .i64 0]) ∧ Below W.heap.size W w') (t3 : ∀ W, Calls Try.prog 12 #[.agg #[.int .u32 id, .int .i64 m, .int .i64 ch, .int .i64 ro, .int .i64 lo, .int .i64 he], .agg #[.int .u8 k, .int .i64 a, .int .i64 mn, .slice A n cp], .agg #[.int .u8 k, .int .i64 a, .int .i64 mn, .slice A n cp]] W fun e w' => e = .returned (.tuple #[.bool true, .int .i64 0]) ∧ Below W.heap.size W w') (r1 : ∀ W, Calls Try.prog 21 #[.int .u8 k] W fun e w' => e = .returned (.bool true) ∧ W = w') (r2 : ∀ W, Calls Try.prog 21 #[.int .u8 k2] W fun e w' => e = .returned (.bool false) ∧ W = w') (w : World) : Calls Try.prog 6 #[.agg #[.int .u32 id, .int .i64 m, .int .i64 ch, .int .i64 ro, .int .i64 lo, .int .i64 he], .agg #[.int .u8 k, .int .i64 a, .int .i64 mn, .slice A n cp], .agg #[.int .u8 k2, .int .i64 a2, .int .i64 mn2, .slice A2 n2 cp2]] w fun e w' => e = .returned (.bool true) ∧ Below w.heap.size w w' := by
  have B := Box6.new w (.int .u32 id) (.int .i64 m) (.int .i64 ch) (.int .i64 ro) (.int .i64 lo) (.int .i64 he) 24
  have hb : Below w.heap.size w (w.alloc (.cells #[.int .u32 id, .int .i64 m, .int .i64 ch, .int .i64 ro, .int .i64 lo, .int .i64 he] 24 (0, 0))) := (Below.refl _ _).alloc (Nat.le_refl _) _
  replace B := B.alloc (.cells #[.int .u8 k, .int .i64 a, .int .i64 mn, .slice A n cp] 32 (0, 0))
  have G := CellsAt.new (w.alloc (.cells #[.int .u32 id, .int .i64 m, .int .i64 ch, .int .i64 ro, .int .i64 lo, .int .i64 he] 24 (0, 0))) [.int .u8 k, .int .i64 a, .int .i64 mn, .slice A n cp] 32
  replace hb := hb.alloc hb.size (.cells #[.int .u8 k, .int .i64 a, .int .i64 mn, .slice A n cp] 32 (0, 0))
  replace B := B.alloc (.cells #[.int .u8 k2, .int .i64 a2, .int .i64 mn2, .slice A2 n2 cp2] 32 (0, 0))
  replace G := G.alloc (.cells #[.int .u8 k2, .int .i64 a2, .int .i64 mn2, .slice A2 n2 cp2] 32 (0, 0))
  have G2 := CellsAt.new ((w.alloc (.cells #[.int .u32 id, .int .i64 m, .int .i64 ch, .int .i64 ro, .int .i64 lo, .int .i64 he] 24 (0, 0))).alloc (.cells #[.int .u8 k, .int .i64 a, .int .i64 mn, .slice A n cp] 32 (0, 0))) [.int .u8 k2, .int .i64 a2, .int .i64 mn2, .slice A2 n2 cp2] 32
  replace hb := hb.alloc hb.size (.cells #[.int .u8 k2, .int .i64 a2, .int .i64 mn2, .slice A2 n2 cp2] 32 (0, 0))
  simp only [World.size_alloc] at G G2
  obtain ⟨c0, c1, c2, c3, c4, c5⟩ := B.all
  obtain ⟨g0, g1, g2, g3⟩ := G.all4
  obtain ⟨g02, g12, g22, g32⟩ := G2.all4
  go_enter Try.func6, Try.ntmps6
  go_wp2_with (first
    | (go_at_call 14; refine (ka _).mono ?_; rintro e w2 ⟨rfl, hb2⟩; replace hb := hb.trans (hb2.mono hb.size); clear c0 c1 c2 c3 c4 c5 g0 g1 g2 g3 g02 g12 g22 g32; replace B := B.below hb2 (Nat.le_refl _); replace G := G.below hb2 (Nat.le_refl _); replace G2 := G2.below hb2 (Nat.le_refl _); clear hb2; obtain ⟨c0, c1, c2, c3, c4, c5⟩ := B.all; obtain ⟨g0, g1, g2, g3⟩ := G.all4; obtain ⟨g02, g12, g22, g32⟩ := G2.all4; have blt := B.lt; have glt := G.lt; have glt2 := G2.lt)
    | (go_at_call 13; (with_reducible refine (hc _).mono ?_); rintro e w3 ⟨rfl, hb2⟩; replace hb := hb.trans (hb2.mono hb.size); clear c0 c1 c2 c3 c4 c5 g0 g1 g2 g3 g02 g12 g22 g32; replace B := B.below hb2 (Nat.le_refl _); replace G := G.below hb2 (Nat.le_refl _); replace G2 := G2.below hb2 (Nat.le_refl _); clear hb2; obtain ⟨c0, c1, c2, c3, c4, c5⟩ := B.all; obtain ⟨g0, g1, g2, g3⟩ := G.all4; obtain ⟨g02, g12, g22, g32⟩ := G2.all4; have blt := B.lt; have glt := G.lt; have glt2 := G2.lt)
    | (go_at_call 13; (with_reducible refine (hc2 _).mono ?_); rintro e w4 ⟨rfl, hb2⟩; replace hb := hb.trans (hb2.mono hb.size); clear c0 c1 c2 c3 c4 c5 g0 g1 g2 g3 g02 g12 g22 g32; replace B := B.below hb2 (Nat.le_refl _); replace G := G.below hb2 (Nat.le_refl _); replace G2 := G2.below hb2 (Nat.le_refl _); clear hb2; obtain ⟨c0, c1, c2, c3, c4, c5⟩ := B.all; obtain ⟨g0, g1, g2, g3⟩ := G.all4; obtain ⟨g02, g12, g22, g32⟩ := G2.all4; have blt := B.lt; have glt := G.lt; have glt2 := G2.lt)
    | (go_at_call 12; (with_reducible refine (t1 _).mono ?_); rintro e w5 ⟨rfl, hb2⟩; replace hb := hb.trans (hb2.mono hb.size); clear c0 c1 c2 c3 c4 c5 g0 g1 g2 g3 g02 g12 g22 g32; replace B := B.below hb2 (Nat.le_refl _); replace G := G.below hb2 (Nat.le_refl _); replace G2 := G2.below hb2 (Nat.le_refl _); clear hb2; obtain ⟨c0, c1, c2, c3, c4, c5⟩ := B.all; obtain ⟨g0, g1, g2, g3⟩ := G.all4; obtain ⟨g02, g12, g22, g32⟩ := G2.all4; have blt := B.lt; have glt := G.lt; have glt2 := G2.lt)
    | (go_at_call 12; (with_reducible refine (t2 _).mono ?_); rintro e w6 ⟨rfl, hb2⟩; replace hb := hb.trans (hb2.mono hb.size); clear c0 c1 c2 c3 c4 c5 g0 g1 g2 g3 g02 g12 g22 g32; replace B := B.below hb2 (Nat.le_refl _); replace G := G.below hb2 (Nat.le_refl _); replace G2 := G2.below hb2 (Nat.le_refl _); clear hb2; obtain ⟨c0, c1, c2, c3, c4, c5⟩ := B.all; obtain ⟨g0, g1, g2, g3⟩ := G.all4; obtain ⟨g02, g12, g22, g32⟩ := G2.all4; have blt := B.lt; have glt := G.lt; have glt2 := G2.lt)
    | (go_at_call 12; (with_reducible refine (t3 _).mono ?_); rintro e w7 ⟨rfl, hb2⟩; replace hb := hb.trans (hb2.mono hb.size); clear c0 c1 c2 c3 c4 c5 g0 g1 g2 g3 g02 g12 g22 g32; replace B := B.below hb2 (Nat.le_refl _); replace G := G.below hb2 (Nat.le_refl _); replace G2 := G2.below hb2 (Nat.le_refl _); clear hb2; obtain ⟨c0, c1, c2, c3, c4, c5⟩ := B.all; obtain ⟨g0, g1, g2, g3⟩ := G.all4; obtain ⟨g02, g12, g22, g32⟩ := G2.all4; have blt := B.lt; have glt := G.lt; have glt2 := G2.lt)
    | (go_at_call 21; (with_reducible refine (r1 _).mono ?_); rintro e w9 ⟨rfl, rfl⟩)
    | (go_at_call 21; (with_reducible refine (r2 _).mono ?_); rintro e w9 ⟨rfl, rfl⟩))
  go_ret
  exact ⟨rfl, hb⟩
set_option maxRecDepth 100000 in
set_option maxHeartbeats 4000000 in
theorem mutual_ft (id m ch ro lo he k a mn k2 a2 mn2 : Int) (A A2 : Option Addr) (n cp n2 cp2 : Nat) (ka : ∀ W, Calls Try.prog 14 #[] W fun e w' => e = .returned (.bool true) ∧ Below W.heap.size W w') (h : n ≤ 5000) (h2 : n2 ≤ 5000) (t : Bool) (hc : ∀ W, Calls Try.prog 13 #[.agg #[.int .u32 id, .int .i64 m, .int .i64 ch, .int .i64 ro, .int .i64 lo, .int .i64 he], .agg #[.int .u8 k, .int .i64 a, .int .i64 mn, .slice A n cp]] W fun e w' => e = .returned (.int .i64 0) ∧ Below W.heap.size W w') (hc2 : ∀ W, Calls Try.prog 13 #[.agg #[.int .u32 id, .int .i64 m, .int .i64 ch, .int .i64 ro, .int .i64 lo, .int .i64 he], .agg #[.int .u8 k2, .int .i64 a2, .int .i64 mn2, .slice A2 n2 cp2]] W fun e w' => e = .returned (.int .i64 0) ∧ Below W.heap.size W w') (t1 : ∀ W, Calls Try.prog 12 #[.agg #[.int .u32 id, .int .i64 m, .int .i64 ch, .int .i64 ro, .int .i64 lo, .int .i64 he], .agg #[.int .u8 k, .int .i64 a, .int .i64 mn, .slice A n cp], .agg #[.int .u8 k2, .int .i64 a2, .int .i64 mn2, .slice A2 n2 cp2]] W fun e w' => e = .returned (.tuple #[.bool t, .int .i64 0]) ∧ Below W.heap.size W w') (t2 : ∀ W, Calls Try.prog 12 #[.agg #[.int .u32 id, .int .i64 m, .int .i64 ch, .int .i64 ro, .int .i64 lo, .int .i64 he], .agg #[.int .u8 k2, .int .i64 a2, .int .i64 mn2, .slice A2 n2 cp2], .agg #[.int .u8 k, .int .i64 a, .int .i64 mn, .slice A n cp]] W fun e w' => e = .returned (.tuple #[.bool t, .int .i64 0]) ∧ Below W.heap.size W w') (t3 : ∀ W, Calls Try.prog 12 #[.agg #[.int .u32 id, .int .i64 m, .int .i64 ch, .int .i64 ro, .int .i64 lo, .int .i64 he], .agg #[.int .u8 k, .int .i64 a, .int .i64 mn, .slice A n cp], .agg #[.int .u8 k, .int .i64 a, .int .i64 mn, .slice A n cp]] W fun e w' => e = .returned (.tuple #[.bool false, .int .i64 0]) ∧ Below W.heap.size W w') (r1 : ∀ W, Calls Try.prog 21 #[.int .u8 k] W fun e w' => e = .returned (.bool false) ∧ W = w') (r2 : ∀ W, Calls Try.prog 21 #[.int .u8 k2] W fun e w' => e = .returned (.bool true) ∧ W = w') (w : World) : Calls Try.prog 6 #[.agg #[.int .u32 id, .int .i64 m, .int .i64 ch, .int .i64 ro, .int .i64 lo, .int .i64 he], .agg #[.int .u8 k, .int .i64 a, .int .i64 mn, .slice A n cp], .agg #[.int .u8 k2, .int .i64 a2, .int .i64 mn2, .slice A2 n2 cp2]] w fun e w' => e = .returned (.bool true) ∧ Below w.heap.size w w' := by
  have B := Box6.new w (.int .u32 id) (.int .i64 m) (.int .i64 ch) (.int .i64 ro) (.int .i64 lo) (.int .i64 he) 24
  have hb : Below w.heap.size w (w.alloc (.cells #[.int .u32 id, .int .i64 m, .int .i64 ch, .int .i64 ro, .int .i64 lo, .int .i64 he] 24 (0, 0))) := (Below.refl _ _).alloc (Nat.le_refl _) _
  replace B := B.alloc (.cells #[.int .u8 k, .int .i64 a, .int .i64 mn, .slice A n cp] 32 (0, 0))
  have G := CellsAt.new (w.alloc (.cells #[.int .u32 id, .int .i64 m, .int .i64 ch, .int .i64 ro, .int .i64 lo, .int .i64 he] 24 (0, 0))) [.int .u8 k, .int .i64 a, .int .i64 mn, .slice A n cp] 32
  replace hb := hb.alloc hb.size (.cells #[.int .u8 k, .int .i64 a, .int .i64 mn, .slice A n cp] 32 (0, 0))
  replace B := B.alloc (.cells #[.int .u8 k2, .int .i64 a2, .int .i64 mn2, .slice A2 n2 cp2] 32 (0, 0))
  replace G := G.alloc (.cells #[.int .u8 k2, .int .i64 a2, .int .i64 mn2, .slice A2 n2 cp2] 32 (0, 0))
  have G2 := CellsAt.new ((w.alloc (.cells #[.int .u32 id, .int .i64 m, .int .i64 ch, .int .i64 ro, .int .i64 lo, .int .i64 he] 24 (0, 0))).alloc (.cells #[.int .u8 k, .int .i64 a, .int .i64 mn, .slice A n cp] 32 (0, 0))) [.int .u8 k2, .int .i64 a2, .int .i64 mn2, .slice A2 n2 cp2] 32
  replace hb := hb.alloc hb.size (.cells #[.int .u8 k2, .int .i64 a2, .int .i64 mn2, .slice A2 n2 cp2] 32 (0, 0))
  simp only [World.size_alloc] at G G2
  obtain ⟨c0, c1, c2, c3, c4, c5⟩ := B.all
  obtain ⟨g0, g1, g2, g3⟩ := G.all4
  obtain ⟨g02, g12, g22, g32⟩ := G2.all4
  go_enter Try.func6, Try.ntmps6
  go_wp2_with (first
    | (go_at_call 14; refine (ka _).mono ?_; rintro e w2 ⟨rfl, hb2⟩; replace hb := hb.trans (hb2.mono hb.size); clear c0 c1 c2 c3 c4 c5 g0 g1 g2 g3 g02 g12 g22 g32; replace B := B.below hb2 (Nat.le_refl _); replace G := G.below hb2 (Nat.le_refl _); replace G2 := G2.below hb2 (Nat.le_refl _); clear hb2; obtain ⟨c0, c1, c2, c3, c4, c5⟩ := B.all; obtain ⟨g0, g1, g2, g3⟩ := G.all4; obtain ⟨g02, g12, g22, g32⟩ := G2.all4; have blt := B.lt; have glt := G.lt; have glt2 := G2.lt)
    | (go_at_call 13; (with_reducible refine (hc _).mono ?_); rintro e w3 ⟨rfl, hb2⟩; replace hb := hb.trans (hb2.mono hb.size); clear c0 c1 c2 c3 c4 c5 g0 g1 g2 g3 g02 g12 g22 g32; replace B := B.below hb2 (Nat.le_refl _); replace G := G.below hb2 (Nat.le_refl _); replace G2 := G2.below hb2 (Nat.le_refl _); clear hb2; obtain ⟨c0, c1, c2, c3, c4, c5⟩ := B.all; obtain ⟨g0, g1, g2, g3⟩ := G.all4; obtain ⟨g02, g12, g22, g32⟩ := G2.all4; have blt := B.lt; have glt := G.lt; have glt2 := G2.lt)
    | (go_at_call 13; (with_reducible refine (hc2 _).mono ?_); rintro e w4 ⟨rfl, hb2⟩; replace hb := hb.trans (hb2.mono hb.size); clear c0 c1 c2 c3 c4 c5 g0 g1 g2 g3 g02 g12 g22 g32; replace B := B.below hb2 (Nat.le_refl _); replace G := G.below hb2 (Nat.le_refl _); replace G2 := G2.below hb2 (Nat.le_refl _); clear hb2; obtain ⟨c0, c1, c2, c3, c4, c5⟩ := B.all; obtain ⟨g0, g1, g2, g3⟩ := G.all4; obtain ⟨g02, g12, g22, g32⟩ := G2.all4; have blt := B.lt; have glt := G.lt; have glt2 := G2.lt)
    | (go_at_call 12; (with_reducible refine (t1 _).mono ?_); rintro e w5 ⟨rfl, hb2⟩; replace hb := hb.trans (hb2.mono hb.size); clear c0 c1 c2 c3 c4 c5 g0 g1 g2 g3 g02 g12 g22 g32; replace B := B.below hb2 (Nat.le_refl _); replace G := G.below hb2 (Nat.le_refl _); replace G2 := G2.below hb2 (Nat.le_refl _); clear hb2; obtain ⟨c0, c1, c2, c3, c4, c5⟩ := B.all; obtain ⟨g0, g1, g2, g3⟩ := G.all4; obtain ⟨g02, g12, g22, g32⟩ := G2.all4; have blt := B.lt; have glt := G.lt; have glt2 := G2.lt)
    | (go_at_call 12; (with_reducible refine (t2 _).mono ?_); rintro e w6 ⟨rfl, hb2⟩; replace hb := hb.trans (hb2.mono hb.size); clear c0 c1 c2 c3 c4 c5 g0 g1 g2 g3 g02 g12 g22 g32; replace B := B.below hb2 (Nat.le_refl _); replace G := G.below hb2 (Nat.le_refl _); replace G2 := G2.below hb2 (Nat.le_refl _); clear hb2; obtain ⟨c0, c1, c2, c3, c4, c5⟩ := B.all; obtain ⟨g0, g1, g2, g3⟩ := G.all4; obtain ⟨g02, g12, g22, g32⟩ := G2.all4; have blt := B.lt; have glt := G.lt; have glt2 := G2.lt)
    | (go_at_call 12; (with_reducible refine (t3 _).mono ?_); rintro e w7 ⟨rfl, hb2⟩; replace hb := hb.trans (hb2.mono hb.size); clear c0 c1 c2 c3 c4 c5 g0 g1 g2 g3 g02 g12 g22 g32; replace B := B.below hb2 (Nat.le_refl _); replace G := G.below hb2 (Nat.le_refl _); replace G2 := G2.below hb2 (Nat.le_refl _); clear hb2; obtain ⟨c0, c1, c2, c3, c4, c5⟩ := B.all; obtain ⟨g0, g1, g2, g3⟩ := G.all4; obtain ⟨g02, g12, g22, g32⟩ := G2.all4; have blt := B.lt; have glt := G.lt; have glt2 := G2.lt)
    | (go_at_call 21; (with_reducible refine (r1 _).mono ?_); rintro e w9 ⟨rfl, rfl⟩)
    | (go_at_call 21; (with_reducible refine (r2 _).mono ?_); rintro e w9 ⟨rfl, rfl⟩))
  go_ret
  exact ⟨rfl, hb⟩
set_option maxRecDepth 100000 in
set_option maxHeartbeats 4000000 in
theorem mutual_ff (id m ch ro lo he k a mn k2 a2 mn2 : Int) (A A2 : Option Addr) (n cp n2 cp2 : Nat) (ka : ∀ W, Calls Try.prog 14 #[] W fun e w' => e = .returned (.bool true) ∧ Below W.heap.size W w') (h : n ≤ 5000) (h2 : n2 ≤ 5000) (t : Bool) (hc : ∀ W, Calls Try.prog 13 #[.agg #[.int .u32 id, .int .i64 m, .int .i64 ch, .int .i64 ro, .int .i64 lo, .int .i64 he], .agg #[.int .u8 k, .int .i64 a, .int .i64 mn, .slice A n cp]] W fun e w' => e = .returned (.int .i64 0) ∧ Below W.heap.size W w') (hc2 : ∀ W, Calls Try.prog 13 #[.agg #[.int .u32 id, .int .i64 m, .int .i64 ch, .int .i64 ro, .int .i64 lo, .int .i64 he], .agg #[.int .u8 k2, .int .i64 a2, .int .i64 mn2, .slice A2 n2 cp2]] W fun e w' => e = .returned (.int .i64 0) ∧ Below W.heap.size W w') (t1 : ∀ W, Calls Try.prog 12 #[.agg #[.int .u32 id, .int .i64 m, .int .i64 ch, .int .i64 ro, .int .i64 lo, .int .i64 he], .agg #[.int .u8 k, .int .i64 a, .int .i64 mn, .slice A n cp], .agg #[.int .u8 k2, .int .i64 a2, .int .i64 mn2, .slice A2 n2 cp2]] W fun e w' => e = .returned (.tuple #[.bool false, .int .i64 0]) ∧ Below W.heap.size W w') (t2 : ∀ W, Calls Try.prog 12 #[.agg #[.int .u32 id, .int .i64 m, .int .i64 ch, .int .i64 ro, .int .i64 lo, .int .i64 he], .agg #[.int .u8 k2, .int .i64 a2, .int .i64 mn2, .slice A2 n2 cp2], .agg #[.int .u8 k, .int .i64 a, .int .i64 mn, .slice A n cp]] W fun e w' => e = .returned (.tuple #[.bool false, .int .i64 0]) ∧ Below W.heap.size W w') (t3 : ∀ W, Calls Try.prog 12 #[.agg #[.int .u32 id, .int .i64 m, .int .i64 ch, .int .i64 ro, .int .i64 lo, .int .i64 he], .agg #[.int .u8 k, .int .i64 a, .int .i64 mn, .slice A n cp], .agg #[.int .u8 k, .int .i64 a, .int .i64 mn, .slice A n cp]] W fun e w' => e = .returned (.tuple #[.bool false, .int .i64 0]) ∧ Below W.heap.size W w') (r1 : ∀ W, Calls Try.prog 21 #[.int .u8 k] W fun e w' => e = .returned (.bool false) ∧ W = w') (r2 : ∀ W, Calls Try.prog 21 #[.int .u8 k2] W fun e w' => e = .returned (.bool false) ∧ W = w') (w : World) : Calls Try.prog 6 #[.agg #[.int .u32 id, .int .i64 m, .int .i64 ch, .int .i64 ro, .int .i64 lo, .int .i64 he], .agg #[.int .u8 k, .int .i64 a, .int .i64 mn, .slice A n cp], .agg #[.int .u8 k2, .int .i64 a2, .int .i64 mn2, .slice A2 n2 cp2]] w fun e w' => e = .returned (.bool true) ∧ Below w.heap.size w w' := by
  have B := Box6.new w (.int .u32 id) (.int .i64 m) (.int .i64 ch) (.int .i64 ro) (.int .i64 lo) (.int .i64 he) 24
  have hb : Below w.heap.size w (w.alloc (.cells #[.int .u32 id, .int .i64 m, .int .i64 ch, .int .i64 ro, .int .i64 lo, .int .i64 he] 24 (0, 0))) := (Below.refl _ _).alloc (Nat.le_refl _) _
  replace B := B.alloc (.cells #[.int .u8 k, .int .i64 a, .int .i64 mn, .slice A n cp] 32 (0, 0))
  have G := CellsAt.new (w.alloc (.cells #[.int .u32 id, .int .i64 m, .int .i64 ch, .int .i64 ro, .int .i64 lo, .int .i64 he] 24 (0, 0))) [.int .u8 k, .int .i64 a, .int .i64 mn, .slice A n cp] 32
  replace hb := hb.alloc hb.size (.cells #[.int .u8 k, .int .i64 a, .int .i64 mn, .slice A n cp] 32 (0, 0))
  replace B := B.alloc (.cells #[.int .u8 k2, .int .i64 a2, .int .i64 mn2, .slice A2 n2 cp2] 32 (0, 0))
  replace G := G.alloc (.cells #[.int .u8 k2, .int .i64 a2, .int .i64 mn2, .slice A2 n2 cp2] 32 (0, 0))
  have G2 := CellsAt.new ((w.alloc (.cells #[.int .u32 id, .int .i64 m, .int .i64 ch, .int .i64 ro, .int .i64 lo, .int .i64 he] 24 (0, 0))).alloc (.cells #[.int .u8 k, .int .i64 a, .int .i64 mn, .slice A n cp] 32 (0, 0))) [.int .u8 k2, .int .i64 a2, .int .i64 mn2, .slice A2 n2 cp2] 32
  replace hb := hb.alloc hb.size (.cells #[.int .u8 k2, .int .i64 a2, .int .i64 mn2, .slice A2 n2 cp2] 32 (0, 0))
  simp only [World.size_alloc] at G G2
  obtain ⟨c0, c1, c2, c3, c4, c5⟩ := B.all
  obtain ⟨g0, g1, g2, g3⟩ := G.all4
  obtain ⟨g02, g12, g22, g32⟩ := G2.all4
  go_enter Try.func6, Try.ntmps6
  go_wp2_with (first
    | (go_at_call 14; refine (ka _).mono ?_; rintro e w2 ⟨rfl, hb2⟩; replace hb := hb.trans (hb2.mono hb.size); clear c0 c1 c2 c3 c4 c5 g0 g1 g2 g3 g02 g12 g22 g32; replace B := B.below hb2 (Nat.le_refl _); replace G := G.below hb2 (Nat.le_refl _); replace G2 := G2.below hb2 (Nat.le_refl _); clear hb2; obtain ⟨c0, c1, c2, c3, c4, c5⟩ := B.all; obtain ⟨g0, g1, g2, g3⟩ := G.all4; obtain ⟨g02, g12, g22, g32⟩ := G2.all4; have blt := B.lt; have glt := G.lt; have glt2 := G2.lt)
    | (go_at_call 13; (with_reducible refine (hc _).mono ?_); rintro e w3 ⟨rfl, hb2⟩; replace hb := hb.trans (hb2.mono hb.size); clear c0 c1 c2 c3 c4 c5 g0 g1 g2 g3 g02 g12 g22 g32; replace B := B.below hb2 (Nat.le_refl _); replace G := G.below hb2 (Nat.le_refl _); replace G2 := G2.below hb2 (Nat.le_refl _); clear hb2; obtain ⟨c0, c1, c2, c3, c4, c5⟩ := B.all; obtain ⟨g0, g1, g2, g3⟩ := G.all4; obtain ⟨g02, g12, g22, g32⟩ := G2.all4; have blt := B.lt; have glt := G.lt; have glt2 := G2.lt)
    | (go_at_call 13; (with_reducible refine (hc2 _).mono ?_); rintro e w4 ⟨rfl, hb2⟩; replace hb := hb.trans (hb2.mono hb.size); clear c0 c1 c2 c3 c4 c5 g0 g1 g2 g3 g02 g12 g22 g32; replace B := B.below hb2 (Nat.le_refl _); replace G := G.below hb2 (Nat.le_refl _); replace G2 := G2.below hb2 (Nat.le_refl _); clear hb2; obtain ⟨c0, c1, c2, c3, c4, c5⟩ := B.all; obtain ⟨g0, g1, g2, g3⟩ := G.all4; obtain ⟨g02, g12, g22, g32⟩ := G2.all4; have blt := B.lt; have glt := G.lt; have glt2 := G2.lt)
    | (go_at_call 12; (with_reducible refine (t1 _).mono ?_); rintro e w5 ⟨rfl, hb2⟩; replace hb := hb.trans (hb2.mono hb.size); clear c0 c1 c2 c3 c4 c5 g0 g1 g2 g3 g02 g12 g22 g32; replace B := B.below hb2 (Nat.le_refl _); replace G := G.below hb2 (Nat.le_refl _); replace G2 := G2.below hb2 (Nat.le_refl _); clear hb2; obtain ⟨c0, c1, c2, c3, c4, c5⟩ := B.all; obtain ⟨g0, g1, g2, g3⟩ := G.all4; obtain ⟨g02, g12, g22, g32⟩ := G2.all4; have blt := B.lt; have glt := G.lt; have glt2 := G2.lt)
    | (go_at_call 12; (with_reducible refine (t2 _).mono ?_); rintro e w6 ⟨rfl, hb2⟩; replace hb := hb.trans (hb2.mono hb.size); clear c0 c1 c2 c3 c4 c5 g0 g1 g2 g3 g02 g12 g22 g32; replace B := B.below hb2 (Nat.le_refl _); replace G := G.below hb2 (Nat.le_refl _); replace G2 := G2.below hb2 (Nat.le_refl _); clear hb2; obtain ⟨c0, c1, c2, c3, c4, c5⟩ := B.all; obtain ⟨g0, g1, g2, g3⟩ := G.all4; obtain ⟨g02, g12, g22, g32⟩ := G2.all4; have blt := B.lt; have glt := G.lt; have glt2 := G2.lt)
    | (go_at_call 12; (with_reducible refine (t3 _).mono ?_); rintro e w7 ⟨rfl, hb2⟩; replace hb := hb.trans (hb2.mono hb.size); clear c0 c1 c2 c3 c4 c5 g0 g1 g2 g3 g02 g12 g22 g32; replace B := B.below hb2 (Nat.le_refl _); replace G := G.below hb2 (Nat.le_refl _); replace G2 := G2.below hb2 (Nat.le_refl _); clear hb2; obtain ⟨c0, c1, c2, c3, c4, c5⟩ := B.all; obtain ⟨g0, g1, g2, g3⟩ := G.all4; obtain ⟨g02, g12, g22, g32⟩ := G2.all4; have blt := B.lt; have glt := G.lt; have glt2 := G2.lt)
    | (go_at_call 21; (with_reducible refine (r1 _).mono ?_); rintro e w9 ⟨rfl, rfl⟩)
    | (go_at_call 21; (with_reducible refine (r2 _).mono ?_); rintro e w9 ⟨rfl, rfl⟩))
  go_ret
  exact ⟨rfl, hb⟩

theorem self_hit {c : Cfg} {k a mn : Int} {n : Nat} (h : chkA c k a mn n = 0) : touB 0 0 (kWr k || kWr k) (blkL 0 a mn) (blkL 0 a mn) = kWr k := by
  unfold touB
  rw [if_pos ⟨rfl, rfl⟩, Bool.or_self]
  cases e : kWr k
  · rfl
  · rw [Bool.true_and]
    obtain ⟨_, _, _, _, q, _⟩ := chkA_box h
    have q1 := q e
    refine decide_eq_true ⟨a, ?_⟩
    rw [and_self, blkL_0, rng_mem]
    omega
theorem mutual_hit (x y : Bool) (l l2 : List Int) : touB 0 0 (y || x) l2 l = touB 0 0 (x || y) l l2 := by
  unfold touB
  rw [if_pos ⟨rfl, rfl⟩, if_pos ⟨rfl, rfl⟩, Bool.or_comm, hitB_comm]
theorem splitMutual_walk (w : World) (c : Cfg) (_hw : Wide c) (k a mn : Int) (A : Option Addr) (n cp : Nat) (zs : List Int) (wk : (Lit.int .u8 k).wf = true) (wa : (Lit.int .i64 a).wf = true) (wm : (Lit.int .i64 mn).wf = true) (I : Ints .u8 w A n zs) (hcp : n ≤ cp) (k2 a2 mn2 : Int) (A2 : Option Addr) (n2 cp2 : Nat) (zs2 : List Int) (wk2 : (Lit.int .u8 k2).wf = true) (wa2 : (Lit.int .i64 a2).wf = true) (wm2 : (Lit.int .i64 mn2).wf = true) (I2 : Ints .u8 w A2 n2 zs2) (hcp2 : n2 ≤ cp2) : Calls Try.prog 6 #[cfgV c, askV k a mn A n cp, askV k2 a2 mn2 A2 n2 cp2] w fun e w' => e = .returned (.bool true) ∧ Below w.heap.size w w' := by
  have ka := fun W => alive8_calls W
  have hk := (bounds_u8 wk).1
  have hk2 := (bounds_u8 wk2).1
  by_cases g1 : 5000 < n
  · exact mutual_g1 _ _ _ _ _ _ k a mn k2 a2 mn2 A A2 n cp n2 cp2 ka g1 w
  by_cases g2 : 5000 < n2
  · exact mutual_g2 _ _ _ _ _ _ k a mn k2 a2 mn2 A A2 n cp n2 cp2 ka (by omega) g2 w
  have hc := fun W => splitCheck c k a mn hk A n cp W
  have hc2 := fun W => splitCheck c k2 a2 mn2 hk2 A2 n2 cp2 W
  by_cases e1 : chkA c k a mn n = 0
  · rw [e1] at hc
    by_cases e2 : chkA c k2 a2 mn2 n2 = 0
    · rw [e2] at hc2
      have t1 := fun W => splitTouch c k a mn hk A n cp k2 a2 mn2 hk2 A2 n2 cp2 W
      have t2 := fun W => splitTouch c k2 a2 mn2 hk2 A2 n2 cp2 k a mn hk A n cp W
      have t3 := fun W => splitTouch c k a mn hk A n cp k a mn hk A n cp W
      have s3 := self_hit e1
      have r1 := fun W => writes8_calls k W
      have r2 := fun W => writes8_calls k2 W
      simp only [e1, e2, show touE 0 0 = 0 from rfl] at t1 t2 t3
      simp only [s3] at t3
      simp only [mutual_hit (kWr k) (kWr k2) (blkL 0 a mn) (blkL 0 a2 mn2)] at t2
      have hff : kWr k = false → kWr k2 = false → touB 0 0 (kWr k || kWr k2) (blkL 0 a mn) (blkL 0 a2 mn2) = false := by
        intro q1 q2
        unfold touB
        rw [if_pos ⟨rfl, rfl⟩, q1, q2]
        rfl
      generalize touB 0 0 (kWr k || kWr k2) (blkL 0 a mn) (blkL 0 a2 mn2) = t at *
      clear s3
      generalize kWr k = x at *
      generalize kWr k2 = y at *
      cases x <;> cases y
      · rw [hff rfl rfl] at t1 t2
        exact mutual_ff _ _ _ _ _ _ k a mn k2 a2 mn2 A A2 n cp n2 cp2 ka (by omega) (by omega) t hc hc2 t1 t2 t3 r1 r2 w
      · exact mutual_ft _ _ _ _ _ _ k a mn k2 a2 mn2 A A2 n cp n2 cp2 ka (by omega) (by omega) t hc hc2 t1 t2 t3 r1 r2 w
      · exact mutual_tf _ _ _ _ _ _ k a mn k2 a2 mn2 A A2 n cp n2 cp2 ka (by omega) (by omega) t hc hc2 t1 t2 t3 r1 r2 w
      · exact mutual_tt _ _ _ _ _ _ k a mn k2 a2 mn2 A A2 n cp n2 cp2 ka (by omega) (by omega) t hc hc2 t1 t2 t3 r1 r2 w
    · exact mutual_c2 _ _ _ _ _ _ k a mn k2 a2 mn2 A A2 n cp n2 cp2 ka (by omega) (by omega) _ (by simpa using e2) (by simpa using e2) hc hc2 w
  · exact mutual_c1 _ _ _ _ _ _ k a mn k2 a2 mn2 A A2 n cp n2 cp2 ka (by omega) (by omega) _ (by simpa using e1) (by simpa using e1) hc w


namespace splitMutual
set_option linter.unusedVariables false
set_option maxRecDepth 100000 in
theorem lifted (os : Os) (started : os.Started) (H : Type) (enc : TypeId × Value → H) :
    ReturnsInHanded {} Try.checked os 6 .any (Rows.splitMutualSpec.pre6 enc Try.prog Try.f6 Rows.splitMutualRow.domain false) (Rows.splitMutualSpec.post enc Try.prog Try.f6 false true false false) := by
  refine returnsInHanded_of_change (C := Try.checked) Try.own started (by kernel_rfl) Try.func6
    (ChangeSpec.witness6 (enc := enc) (C := Try.checked) false ⟨#[], #[.agg #[.int .u32 0, .int .i64 0, .int .i64 0, .int .i64 0, .int .i64 0, .int .i64 0], .agg #[.int .u8 0, .int .i64 0, .int .i64 0, .slice none 0 0], .agg #[.int .u8 0, .int .i64 0, .int .i64 0, .slice none 0 0]], []⟩ 8 (by kernel_rfl) (by kernel_rfl) (by kernel_rfl) (by kernel_rfl)) ?_
  intro W base args ds gs before hval0 hW hcnd _
  have hval : ∀ (j : Nat) t v, Try.f6.params[j]? = some t → args[j]? = some v → Value.okWide Try.prog W .any base t v := hval0
  have hW' := hW
  obtain ⟨p, q, hA0, hV, rfl, hfz, hnd⟩ := hW
  have hA : DataW.TrodAll enc Try.prog W 0 (fun _ => true) true Try.f6.params.toList args.toList ds p := hA0
  rw [Try.params6] at hA hval
  obtain ⟨v0, vs0, d0, ds0, p0, q0, hargs, rfl, rfl, h0, r0⟩ := trodAll_cons hA
  obtain ⟨v1, vs1, d1, ds1, p1, q1, rfl, rfl, rfl, h1, r1⟩ := trodAll_cons r0
  obtain ⟨v2, vs2, d2, ds2, p2, q2, rfl, rfl, rfl, h2, r2⟩ := trodAll_cons r1
  obtain ⟨rfl, rfl, rfl⟩ := trodAll_nil r2
  obtain rfl : args = #[v0, v1, v2] := by cases args; simp_all
  obtain ⟨rfl, rfl⟩ := trodVars_none hV
  have k0 := h0
  have lt0 : ∀ x ∈ p0, x.block < W.heap.size := by obtain ⟨m, hm⟩ := k0; exact DataW.trod_lt m _ _ _ hm
  obtain ⟨z0, rfl, w0⟩ := cfg_in (hval 0 24 v0 rfl rfl) h0
  have k1 := h1
  have lt1 : ∀ x ∈ p1, x.block < W.heap.size := by obtain ⟨m, hm⟩ := k1; exact DataW.trod_lt m _ _ _ hm
  obtain ⟨kd1, at1, mn1, a1, len1, cap1, z1, rfl, wk1, wa1, wm1, w1, c1⟩ := ask_in (hval 1 32 v1 rfl rfl) h1
  have k2 := h2
  have lt2 : ∀ x ∈ p2, x.block < W.heap.size := by obtain ⟨m, hm⟩ := k2; exact DataW.trod_lt m _ _ _ hm
  obtain ⟨kd2, at2, mn2, a2, len2, cap2, z2, rfl, wk2, wa2, wm2, w2, c2⟩ := ask_in (hval 2 32 v2 rfl rfl) h2
  clear hA0 hval0
  refine (splitMutual_walk W z0 w0 kd1 at1 mn1 a1 len1 cap1 z1 wk1 wa1 wm1 w1 c1 kd2 at2 mn2 a2 len2 cap2 z2 wk2 wa2 wm2 w2 c2).mono fun e W' ⟨he, bel⟩ => ?_
  subst he
  exact ⟨_, rfl, _, _, _, [], _, [], hW', trodAll_mk1 (shut_bool Try.underlying4 _), (trodAll_cons_mk (Below.trod Try.laidOut (by kernel_rfl) (of_decide_eq_true (by kernel_rfl)) k0 bel lt0) (trodAll_cons_mk (Below.trod Try.laidOut (by kernel_rfl) (of_decide_eq_true (by kernel_rfl)) k1 bel lt1) (trodAll_cons_mk (Below.trod Try.laidOut (by kernel_rfl) (of_decide_eq_true (by kernel_rfl)) k2 bel lt2) trodAll_mk0))), rfl, bel.frame _, fun h => by cases h⟩

theorem holds : Rows.SplitMutualSaid :=
  OpenClaim.holds_of_wide 6 Try.f6 rfl rfl rfl rfl rfl rfl rfl ⟨rfl, rfl, rfl, rfl, rfl⟩ rfl rfl rfl rfl rfl (by kernel_rfl) Try.func6 (by kernel_rfl)
    (of_decide_eq_true (by kernel_rfl)) (by unfold Func.isWrapper; first | (rw [if_pos (by decide +kernel)]; kernel_rfl) | (rw [if_neg (by decide +kernel)]; exact ⟨rfl, rfl⟩))
    (fun os started H enc _ => lifted os started H enc)
end splitMutual
end Go.Proofs.Ytkjgmopgibpkjaa
