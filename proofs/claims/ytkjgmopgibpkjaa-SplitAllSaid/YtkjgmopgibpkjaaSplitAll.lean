/- freeboardlaw08.SplitAll: for every input the law answers true, and what is handed in reads as it did. Conditions: none. -/
import Derived.Test.YtkjgmopgibpkjaaSplitAlive
namespace Go.Proofs.Ytkjgmopgibpkjaa
open Go.ChangeShapes Go.WideShapes Go.ChangeAt Go.RowKit ShapeM SplitM
set_option linter.unusedVariables false
set_option maxRecDepth 100000 in
set_option maxHeartbeats 4000000 in
theorem all_g1 (id m ch ro lo he k a mn k2 a2 mn2 : Int) (A A2 : Option Addr) (n cp n2 cp2 : Nat) (ka : ∀ W, Calls Try.prog 14 #[] W fun e w' => e = .returned (.bool true) ∧ Below W.heap.size W w') (h : 5000 < n) (w : World) : Calls Try.prog 5 #[.agg #[.int .u32 id, .int .i64 m, .int .i64 ch, .int .i64 ro, .int .i64 lo, .int .i64 he], .agg #[.int .u8 k, .int .i64 a, .int .i64 mn, .slice A n cp], .agg #[.int .u8 k2, .int .i64 a2, .int .i64 mn2, .slice A2 n2 cp2]] w fun e w' => e = .returned (.bool true) ∧ Below w.heap.size w w' := by
  have B := Box6.new w (.int .u32 id) (.int .i64 m) (.int .i64 ch) (.int .i64 ro) (.int .i64 lo) (.int .i64 he) 24
  have hb : Below w.heap.size w (w.alloc (.cells #[.int .u32 id, .int .i64 m, .int .i64 ch, .int .i64 ro, .int .i64 lo, .int .i64 he] 24 (0, 0))) := (Below.refl _ _).alloc (Nat.le_refl _) _
  replace B := B.alloc (.cells #[.int .u8 k, .int .i64 a, .int .i64 mn, .slice A n cp] 32 (0, 0))
  have G := CellsAt.new (w.alloc (.cells #[.int .u32 id, .int .i64 m, .int .i64 ch, .int .i64 ro, .int .i64 lo, .int .i64 he] 24 (0, 0))) [.int .u8 k, .int .i64 a, .int .i64 mn, .slice A n cp] 32
  replace hb := hb.alloc hb.size (.cells #[.int .u8 k, .int .i64 a, .int .i64 mn, .slice A n cp] 32 (0, 0))
  replace B := B.alloc (.cells #[.int .u8 k2, .int .i64 a2, .int .i64 mn2, .slice A2 n2 cp2] 32 (0, 0))
  replace G := G.alloc (.cells #[.int .u8 k2, .int .i64 a2, .int .i64 mn2, .slice A2 n2 cp2] 32 (0, 0))
  have G2 := CellsAt.new ((w.alloc (.cells #[.int .u32 id, .int .i64 m, .int .i64 ch, .int .i64 ro, .int .i64 lo, .int .i64 he] 24 (0, 0))).alloc (.cells #[.int .u8 k, .int .i64 a, .int .i64 mn, .slice A n cp] 32 (0, 0))) [.int .u8 k2, .int .i64 a2, .int .i64 mn2, .slice A2 n2 cp2] 32
  replace hb := hb.alloc hb.size (.cells #[.int .u8 k2, .int .i64 a2, .int .i64 mn2, .slice A2 n2 cp2] 32 (0, 0))
  simp only [World.size_alloc] at G G2
  obtain ⟨c0, c1, c2, c3, c4, c5⟩ := B.all
  obtain ⟨g0, g1, g2, g3⟩ := G.all4
  obtain ⟨g02, g12, g22, g32⟩ := G2.all4
  go_enter Try.func5, Try.ntmps5
  go_wp2_with (first
    | (go_at_call 14; refine (ka _).mono ?_; rintro e w2 ⟨rfl, hb2⟩; replace hb := hb.trans (hb2.mono hb.size); clear c0 c1 c2 c3 c4 c5 g0 g1 g2 g3 g02 g12 g22 g32; replace B := B.below hb2 (Nat.le_refl _); replace G := G.below hb2 (Nat.le_refl _); replace G2 := G2.below hb2 (Nat.le_refl _); clear hb2; obtain ⟨c0, c1, c2, c3, c4, c5⟩ := B.all; obtain ⟨g0, g1, g2, g3⟩ := G.all4; obtain ⟨g02, g12, g22, g32⟩ := G2.all4; have blt := B.lt; have glt := G.lt; have glt2 := G2.lt))
  go_ret
  exact ⟨rfl, hb⟩
set_option maxRecDepth 100000 in
set_option maxHeartbeats 4000000 in
theorem all_g2 (id m ch ro lo he k a mn k2 a2 mn2 : Int) (A A2 : Option Addr) (n cp n2 cp2 : Nat) (ka : ∀ W, Calls Try.prog 14 #[] W fun e w' => e = .returned (.bool true) ∧ Below W.heap.size W w') (h : n ≤ 5000) (h2 : 5000 < n2) (w : World) : Calls Try.prog 5 #[.agg #[.int .u32 id, .int .i64 m, .int .i64 ch, .int .i64 ro, .int .i64 lo, .int .i64 he], .agg #[.int .u8 k, .int .i64 a, .int .i64 mn, .slice A n cp], .agg #[.int .u8 k2, .int .i64 a2, .int .i64 mn2, .slice A2 n2 cp2]] w fun e w' => e = .returned (.bool true) ∧ Below w.heap.size w w' := by
  have B := Box6.new w (.int .u32 id) (.int .i64 m) (.int .i64 ch) (.int .i64 ro) (.int .i64 lo) (.int .i64 he) 24
  have hb : Below w.heap.size w (w.alloc (.cells #[.int .u32 id, .int .i64 m, .int .i64 ch, .int .i64 ro, .int .i64 lo, .int .i64 he] 24 (0, 0))) := (Below.refl _ _).alloc (Nat.le_refl _) _
  replace B := B.alloc (.cells #[.int .u8 k, .int .i64 a, .int .i64 mn, .slice A n cp] 32 (0, 0))
  have G := CellsAt.new (w.alloc (.cells #[.int .u32 id, .int .i64 m, .int .i64 ch, .int .i64 ro, .int .i64 lo, .int .i64 he] 24 (0, 0))) [.int .u8 k, .int .i64 a, .int .i64 mn, .slice A n cp] 32
  replace hb := hb.alloc hb.size (.cells #[.int .u8 k, .int .i64 a, .int .i64 mn, .slice A n cp] 32 (0, 0))
  replace B := B.alloc (.cells #[.int .u8 k2, .int .i64 a2, .int .i64 mn2, .slice A2 n2 cp2] 32 (0, 0))
  replace G := G.alloc (.cells #[.int .u8 k2, .int .i64 a2, .int .i64 mn2, .slice A2 n2 cp2] 32 (0, 0))
  have G2 := CellsAt.new ((w.alloc (.cells #[.int .u32 id, .int .i64 m, .int .i64 ch, .int .i64 ro, .int .i64 lo, .int .i64 he] 24 (0, 0))).alloc (.cells #[.int .u8 k, .int .i64 a, .int .i64 mn, .slice A n cp] 32 (0, 0))) [.int .u8 k2, .int .i64 a2, .int .i64 mn2, .slice A2 n2 cp2] 32
  replace hb := hb.alloc hb.size (.cells #[.int .u8 k2, .int .i64 a2, .int .i64 mn2, .slice A2 n2 cp2] 32 (0, 0))
  simp only [World.size_alloc] at G G2
  obtain ⟨c0, c1, c2, c3, c4, c5⟩ := B.all
  obtain ⟨g0, g1, g2, g3⟩ := G.all4
  obtain ⟨g02, g12, g22, g32⟩ := G2.all4
  go_enter Try.func5, Try.ntmps5
  go_wp2_with (first
    | (go_at_call 14; refine (ka _).mono ?_; rintro e w2 ⟨rfl, hb2⟩; replace hb := hb.trans (hb2.mono hb.size); clear c0 c1 c2 c3 c4 c5 g0 g1 g2 g3 g02 g12 g22 g32; replace B := B.below hb2 (Nat.le_refl _); replace G := G.below hb2 (Nat.le_refl _); replace G2 := G2.below hb2 (Nat.le_refl _); clear hb2; obtain ⟨c0, c1, c2, c3, c4, c5⟩ := B.all; obtain ⟨g0, g1, g2, g3⟩ := G.all4; obtain ⟨g02, g12, g22, g32⟩ := G2.all4; have blt := B.lt; have glt := G.lt; have glt2 := G2.lt))
  go_ret
  exact ⟨rfl, hb⟩
set_option maxRecDepth 100000 in
set_option maxHeartbeats 4000000 in
theorem all_e1 (id m ch ro lo he k a mn k2 a2 mn2 : Int) (A A2 : Option Addr) (n cp n2 cp2 : Nat) (ka : ∀ W, Calls Try.prog 14 #[] W fun e w' => e = .returned (.bool true) ∧ Below W.heap.size W w') (h : n ≤ 5000) (h2 : n2 ≤ 5000) (l l2 : List Int) (E E2 : Int) (hE : (E == 0) = false) (hE2 : (E != 0) = true) (h1 : ∀ W, Calls Try.prog 10 #[.agg #[.int .u32 id, .int .i64 m, .int .i64 ch, .int .i64 ro, .int .i64 lo, .int .i64 he], .agg #[.int .u8 k, .int .i64 a, .int .i64 mn, .slice A n cp]] W fun e w' => ∃ A3 c3, e = .returned (.tuple #[.slice A3 l.length c3, .int .i64 E]) ∧ Ints .i64 w' A3 l.length l ∧ Below W.heap.size W w') (hl2 : ∀ W, Calls Try.prog 10 #[.agg #[.int .u32 id, .int .i64 m, .int .i64 ch, .int .i64 ro, .int .i64 lo, .int .i64 he], .agg #[.int .u8 k2, .int .i64 a2, .int .i64 mn2, .slice A2 n2 cp2]] W fun e w' => ∃ A3 c3, e = .returned (.tuple #[.slice A3 l2.length c3, .int .i64 E2]) ∧ Ints .i64 w' A3 l2.length l2 ∧ Below W.heap.size W w') (ht : ∀ W, Calls Try.prog 12 #[.agg #[.int .u32 id, .int .i64 m, .int .i64 ch, .int .i64 ro, .int .i64 lo, .int .i64 he], .agg #[.int .u8 k, .int .i64 a, .int .i64 mn, .slice A n cp], .agg #[.int .u8 k2, .int .i64 a2, .int .i64 mn2, .slice A2 n2 cp2]] W fun e w' => e = .returned (.tuple #[.bool false, .int .i64 E]) ∧ Below W.heap.size W w') (w : World) : Calls Try.prog 5 #[.agg #[.int .u32 id, .int .i64 m, .int .i64 ch, .int .i64 ro, .int .i64 lo, .int .i64 he], .agg #[.int .u8 k, .int .i64 a, .int .i64 mn, .slice A n cp], .agg #[.int .u8 k2, .int .i64 a2, .int .i64 mn2, .slice A2 n2 cp2]] w fun e w' => e = .returned (.bool true) ∧ Below w.heap.size w w' := by
  have B := Box6.new w (.int .u32 id) (.int .i64 m) (.int .i64 ch) (.int .i64 ro) (.int .i64 lo) (.int .i64 he) 24
  have hb : Below w.heap.size w (w.alloc (.cells #[.int .u32 id, .int .i64 m, .int .i64 ch, .int .i64 ro, .int .i64 lo, .int .i64 he] 24 (0, 0))) := (Below.refl _ _).alloc (Nat.le_refl _) _
  replace B := B.alloc (.cells #[.int .u8 k, .int .i64 a, .int .i64 mn, .slice A n cp] 32 (0, 0))
  have G := CellsAt.new (w.alloc (.cells #[.int .u32 id, .int .i64 m, .int .i64 ch, .int .i64 ro, .int .i64 lo, .int .i64 he] 24 (0, 0))) [.int .u8 k, .int .i64 a, .int .i64 mn, .slice A n cp] 32
  replace hb := hb.alloc hb.size (.cells #[.int .u8 k, .int .i64 a, .int .i64 mn, .slice A n cp] 32 (0, 0))
  replace B := B.alloc (.cells #[.int .u8 k2, .int .i64 a2, .int .i64 mn2, .slice A2 n2 cp2] 32 (0, 0))
  replace G := G.alloc (.cells #[.int .u8 k2, .int .i64 a2, .int .i64 mn2, .slice A2 n2 cp2] 32 (0, 0))
  have G2 := CellsAt.new ((w.alloc (.cells #[.int .u32 id, .int .i64 m, .int .i64 ch, .int .i64 ro, .int .i64 lo, .int .i64 he] 24 (0, 0))).alloc (.cells #[.int .u8 k, .int .i64 a, .int .i64 mn, .slice A n cp] 32 (0, 0))) [.int .u8 k2, .int .i64 a2, .int .i64 mn2, .slice A2 n2 cp2] 32
  replace hb := hb.alloc hb.size (.cells #[.int .u8 k2, .int .i64 a2, .int .i64 mn2, .slice A2 n2 cp2] 32 (0, 0))
  simp only [World.size_alloc] at G G2
  obtain ⟨c0, c1, c2, c3, c4, c5⟩ := B.all
  obtain ⟨g0, g1, g2, g3⟩ := G.all4
  obtain ⟨g02, g12, g22, g32⟩ := G2.all4
  go_enter Try.func5, Try.ntmps5
  go_wp2_with (first
    | (go_at_call 14; refine (ka _).mono ?_; rintro e w2 ⟨rfl, hb2⟩; replace hb := hb.trans (hb2.mono hb.size); clear c0 c1 c2 c3 c4 c5 g0 g1 g2 g3 g02 g12 g22 g32; replace B := B.below hb2 (Nat.le_refl _); replace G := G.below hb2 (Nat.le_refl _); replace G2 := G2.below hb2 (Nat.le_refl _); clear hb2; obtain ⟨c0, c1, c2, c3, c4, c5⟩ := B.all; obtain ⟨g0, g1, g2, g3⟩ := G.all4; obtain ⟨g02, g12, g22, g32⟩ := G2.all4; have blt := B.lt; have glt := G.lt; have glt2 := G2.lt)
    | (go_at_call 10; (with_reducible refine (h1 _).mono ?_); rintro e w9 ⟨A3, C3, rfl, K1, hb2⟩; replace hb := hb.trans (hb2.mono hb.size); clear c0 c1 c2 c3 c4 c5 g0 g1 g2 g3 g02 g12 g22 g32; replace B := B.below hb2 (Nat.le_refl _); replace G := G.below hb2 (Nat.le_refl _); replace G2 := G2.below hb2 (Nat.le_refl _); clear hb2; obtain ⟨c0, c1, c2, c3, c4, c5⟩ := B.all; obtain ⟨g0, g1, g2, g3⟩ := G.all4; obtain ⟨g02, g12, g22, g32⟩ := G2.all4; have blt := B.lt; have glt := G.lt; have glt2 := G2.lt)
    | (go_at_call 10; (with_reducible refine (hl2 _).mono ?_); rintro e w9 ⟨A4, C4, rfl, K2, hb2⟩; replace K1 := K1.below hb2 (Nat.le_refl _); replace hb := hb.trans (hb2.mono hb.size); clear c0 c1 c2 c3 c4 c5 g0 g1 g2 g3 g02 g12 g22 g32; replace B := B.below hb2 (Nat.le_refl _); replace G := G.below hb2 (Nat.le_refl _); replace G2 := G2.below hb2 (Nat.le_refl _); clear hb2; obtain ⟨c0, c1, c2, c3, c4, c5⟩ := B.all; obtain ⟨g0, g1, g2, g3⟩ := G.all4; obtain ⟨g02, g12, g22, g32⟩ := G2.all4; have blt := B.lt; have glt := G.lt; have glt2 := G2.lt)
    | (go_at_call 12; (with_reducible refine (ht _).mono ?_); rintro e w9 ⟨rfl, hb2⟩; replace K1 := K1.below hb2 (Nat.le_refl _); replace K2 := K2.below hb2 (Nat.le_refl _); replace hb := hb.trans (hb2.mono hb.size); clear c0 c1 c2 c3 c4 c5 g0 g1 g2 g3 g02 g12 g22 g32; replace B := B.below hb2 (Nat.le_refl _); replace G := G.below hb2 (Nat.le_refl _); replace G2 := G2.below hb2 (Nat.le_refl _); clear hb2; obtain ⟨c0, c1, c2, c3, c4, c5⟩ := B.all; obtain ⟨g0, g1, g2, g3⟩ := G.all4; obtain ⟨g02, g12, g22, g32⟩ := G2.all4; have blt := B.lt; have glt := G.lt; have glt2 := G2.lt))
  go_ret
  exact ⟨rfl, hb⟩
set_option maxRecDepth 100000 in
set_option maxHeartbeats 4000000 in
theorem all_e2 (id m ch ro lo he k a mn k2 a2 mn2 : Int) (A A2 : Option Addr) (n cp n2 cp2 : Nat) (ka : ∀ W, Calls Try.prog 14 #[] W fun e w' => e = .returned (.bool true) ∧ Below W.heap.size W w') (h : n ≤ 5000) (h2 : n2 ≤ 5000) (l l2 : List Int) (E2 : Int) (hE : (E2 == 0) = false) (hE2 : (E2 != 0) = true) (h1 : ∀ W, Calls Try.prog 10 #[.agg #[.int .u32 id, .int .i64 m, .int .i64 ch, .int .i64 ro, .int .i64 lo, .int .i64 he], .agg #[.int .u8 k, .int .i64 a, .int .i64 mn, .slice A n cp]] W fun e w' => ∃ A3 c3, e = .returned (.tuple #[.slice A3 l.length c3, .int .i64 0]) ∧ Ints .i64 w' A3 l.length l ∧ Below W.heap.size W w') (hl2 : ∀ W, Calls Try.prog 10 #[.agg #[.int .u32 id, .int .i64 m, .int .i64 ch, .int .i64 ro, .int .i64 lo, .int .i64 he], .agg #[.int .u8 k2, .int .i64 a2, .int .i64 mn2, .slice A2 n2 cp2]] W fun e w' => ∃ A3 c3, e = .returned (.tuple #[.slice A3 l2.length c3, .int .i64 E2]) ∧ Ints .i64 w' A3 l2.length l2 ∧ Below W.heap.size W w') (ht : ∀ W, Calls Try.prog 12 #[.agg #[.int .u32 id, .int .i64 m, .int .i64 ch, .int .i64 ro, .int .i64 lo, .int .i64 he], .agg #[.int .u8 k, .int .i64 a, .int .i64 mn, .slice A n cp], .agg #[.int .u8 k2, .int .i64 a2, .int .i64 mn2, .slice A2 n2 cp2]] W fun e w' => e = .returned (.tuple #[.bool false, .int .i64 E2]) ∧ Below W.heap.size W w') (w : World) : Calls Try.prog 5 #[.agg #[.int .u32 id, .int .i64 m, .int .i64 ch, .int .i64 ro, .int .i64 lo, .int .i64 he], .agg #[.int .u8 k, .int .i64 a, .int .i64 mn, .slice A n cp], .agg #[.int .u8 k2, .int .i64 a2, .int .i64 mn2, .slice A2 n2 cp2]] w fun e w' => e = .returned (.bool true) ∧ Below w.heap.size w w' := by
  have B := Box6.new w (.int .u32 id) (.int .i64 m) (.int .i64 ch) (.int .i64 ro) (.int .i64 lo) (.int .i64 he) 24
  have hb : Below w.heap.size w (w.alloc (.cells #[.int .u32 id, .int .i64 m, .int .i64 ch, .int .i64 ro, .int .i64 lo, .int .i64 he] 24 (0, 0))) := (Below.refl _ _).alloc (Nat.le_refl _) _
  replace B := B.alloc (.cells #[.int .u8 k, .int .i64 a, .int .i64 mn, .slice A n cp] 32 (0, 0))
  have G := CellsAt.new (w.alloc (.cells #[.int .u32 id, .int .i64 m, .int .i64 ch, .int .i64 ro, .int .i64 lo, .int .i64 he] 24 (0, 0))) [.int .u8 k, .int .i64 a, .int .i64 mn, .slice A n cp] 32
  replace hb := hb.alloc hb.size (.cells #[.int .u8 k, .int .i64 a, .int .i64 mn, .slice A n cp] 32 (0, 0))
  replace B := B.alloc (.cells #[.int .u8 k2, .int .i64 a2, .int .i64 mn2, .slice A2 n2 cp2] 32 (0, 0))
  replace G := G.alloc (.cells #[.int .u8 k2, .int .i64 a2, .int .i64 mn2, .slice A2 n2 cp2] 32 (0, 0))
  have G2 := CellsAt.new ((w.alloc (.cells #[.int .u32 id, .int .i64 m, .int .i64 ch, .int .i64 ro, .int .i64 lo, .int .i64 he] 24 (0, 0))).alloc (.cells #[.int .u8 k, .int .i64 a, .int .i64 mn, .slice A n cp] 32 (0, 0))) [.int .u8 k2, .int .i64 a2, .int .i64 mn2, .slice A2 n2 cp2] 32
  replace hb := hb.alloc hb.size (.cells #[.int .u8 k2, .int .i64 a2, .int .i64 mn2, .slice A2 n2 cp2] 32 (0, 0))
  simp only [World.size_alloc] at G G2
  obtain ⟨c0, c1, c2, c3, c4, c5⟩ := B.all
  obtain ⟨g0, g1, g2, g3⟩ := G.all4
  obtain ⟨g02, g12, g22, g32⟩ := G2.all4
  go_enter Try.func5, Try.ntmps5
  go_wp2_with (first
    | (go_at_call 14; refine (ka _).mono ?_; rintro e w2 ⟨rfl, hb2⟩; replace hb := hb.trans (hb2.mono hb.size); clear c0 c1 c2 c3 c4 c5 g0 g1 g2 g3 g02 g12 g22 g32; replace B := B.below hb2 (Nat.le_refl _); replace G := G.below hb2 (Nat.le_refl _); replace G2 := G2.below hb2 (Nat.le_refl _); clear hb2; obtain ⟨c0, c1, c2, c3, c4, c5⟩ := B.all; obtain ⟨g0, g1, g2, g3⟩ := G.all4; obtain ⟨g02, g12, g22, g32⟩ := G2.all4; have blt := B.lt; have glt := G.lt; have glt2 := G2.lt)
    | (go_at_call 10; (with_reducible refine (h1 _).mono ?_); rintro e w9 ⟨A3, C3, rfl, K1, hb2⟩; replace hb := hb.trans (hb2.mono hb.size); clear c0 c1 c2 c3 c4 c5 g0 g1 g2 g3 g02 g12 g22 g32; replace B := B.below hb2 (Nat.le_refl _); replace G := G.below hb2 (Nat.le_refl _); replace G2 := G2.below hb2 (Nat.le_refl _); clear hb2; obtain ⟨c0, c1, c2, c3, c4, c5⟩ := B.all; obtain ⟨g0, g1, g2, g3⟩ := G.all4; obtain ⟨g02, g12, g22, g32⟩ := G2.all4; have blt := B.lt; have glt := G.lt; have glt2 := G2.lt)
    | (go_at_call 10; (with_reducible refine (hl2 _).mono ?_); rintro e w9 ⟨A4, C4, rfl, K2, hb2⟩; replace K1 := K1.below hb2 (Nat.le_refl _); replace hb := hb.trans (hb2.mono hb.size); clear c0 c1 c2 c3 c4 c5 g0 g1 g2 g3 g02 g12 g22 g32; replace B := B.below hb2 (Nat.le_refl _); replace G := G.below hb2 (Nat.le_refl _); replace G2 := G2.below hb2 (Nat.le_refl _); clear hb2; obtain ⟨c0, c1, c2, c3, c4, c5⟩ := B.all; obtain ⟨g0, g1, g2, g3⟩ := G.all4; obtain ⟨g02, g12, g22, g32⟩ := G2.all4; have blt := B.lt; have glt := G.lt; have glt2 := G2.lt)
    | (go_at_call 12; (with_reducible refine (ht _).mono ?_); rintro e w9 ⟨rfl, hb2⟩; replace K1 := K1.below hb2 (Nat.le_refl _); replace K2 := K2.below hb2 (Nat.le_refl _); replace hb := hb.trans (hb2.mono hb.size); clear c0 c1 c2 c3 c4 c5 g0 g1 g2 g3 g02 g12 g22 g32; replace B := B.below hb2 (Nat.le_refl _); replace G := G.below hb2 (Nat.le_refl _); replace G2 := G2.below hb2 (Nat.le_refl _); clear hb2; obtain ⟨c0, c1, c2, c3, c4, c5⟩ := B.all; obtain ⟨g0, g1, g2, g3⟩ := G.all4; obtain ⟨g02, g12, g22, g32⟩ := G2.all4; have blt := B.lt; have glt := G.lt; have glt2 := G2.lt))
  go_ret
  exact ⟨rfl, hb⟩

theorem hitB_nil (x : Int) : hitB [x] [] = false := by unfold hitB; exact decide_eq_false (by rintro ⟨_, _, h⟩; cases h)
theorem hitB_left (l : List Int) (x : Int) (r : List Int) : hitB (l ++ [x]) r = (hitB l r || hitB [x] r) := by
  unfold hitB
  rw [← Bool.decide_or]
  refine decide_eq_decide.2 ⟨?_, ?_⟩
  · rintro ⟨z, h1, h2⟩
    rw [List.mem_append] at h1
    rcases h1 with h1 | h1
    · exact .inl ⟨z, h1, h2⟩
    · exact .inr ⟨z, h1, h2⟩
  · rintro (⟨z, h1, h2⟩ | ⟨z, h1, h2⟩)
    · exact ⟨z, List.mem_append.2 (.inl h1), h2⟩
    · exact ⟨z, List.mem_append.2 (.inr h1), h2⟩
theorem hitB_right (x : Int) (r : List Int) (y : Int) : hitB [x] (r ++ [y]) = (hitB [x] r || (x == y)) := by
  rw [hitB_comm, hitB_left, hitB_comm]
  congr 1
  by_cases h : x = y
  · subst h
    rw [show (x == x) = true by simp]
    exact decide_eq_true ⟨x, List.mem_singleton.2 rfl, List.mem_singleton.2 rfl⟩
  · rw [show (x == y) = false by simpa using h]
    refine decide_eq_false ?_
    rintro ⟨z, h1, h2⟩
    rw [List.mem_singleton] at h1 h2
    exact h (h2.symm.trans h1)
set_option maxRecDepth 100000 in
set_option maxHeartbeats 4000000 in
theorem all_tt (id m ch ro lo he k a k2 a2 : Int) (A A2 : Option Addr) (n cp n2 cp2 : Nat) (ka : ∀ W, Calls Try.prog 14 #[] W fun e w' => e = .returned (.bool true) ∧ Below W.heap.size W w') (M M2 N : Nat) (hM : M ≤ 8) (hM2 : M2 ≤ 8) (hN : N ≤ 960) (ha : 0 ≤ a) (ha1 : a ≤ 960) (hin : 1 ≤ M → a + (M : Int) ≤ N) (h : n ≤ 5000) (h2 : n2 ≤ 5000) (l l2 : List Int) (c : Bool) (el : l.length = M) (el2 : l2.length = M2) (hl : Hid (l = rng a M)) (hcc : Hid (hitB l l2 = c)) (h1 : ∀ W, Calls Try.prog 10 #[.agg #[.int .u32 id, .int .i64 m, .int .i64 ch, .int .i64 ro, .int .i64 lo, .int .i64 he], .agg #[.int .u8 k, .int .i64 a, .int .i64 (M : Nat), .slice A n cp]] W fun e w' => ∃ A3 c3, e = .returned (.tuple #[.slice A3 l.length c3, .int .i64 0]) ∧ Ints .i64 w' A3 l.length l ∧ Below W.heap.size W w') (hl2 : ∀ W, Calls Try.prog 10 #[.agg #[.int .u32 id, .int .i64 m, .int .i64 ch, .int .i64 ro, .int .i64 lo, .int .i64 he], .agg #[.int .u8 k2, .int .i64 a2, .int .i64 (M2 : Nat), .slice A2 n2 cp2]] W fun e w' => ∃ A3 c3, e = .returned (.tuple #[.slice A3 l2.length c3, .int .i64 0]) ∧ Ints .i64 w' A3 l2.length l2 ∧ Below W.heap.size W w') (ht : ∀ W, Calls Try.prog 12 #[.agg #[.int .u32 id, .int .i64 m, .int .i64 ch, .int .i64 ro, .int .i64 lo, .int .i64 he], .agg #[.int .u8 k, .int .i64 a, .int .i64 (M : Nat), .slice A n cp], .agg #[.int .u8 k2, .int .i64 a2, .int .i64 (M2 : Nat), .slice A2 n2 cp2]] W fun e w' => e = .returned (.tuple #[.bool c, .int .i64 0]) ∧ Below W.heap.size W w') (hs : ∀ W, Calls Try.prog 20 #[.agg #[.int .u32 id, .int .i64 m, .int .i64 ch, .int .i64 ro, .int .i64 lo, .int .i64 he]] W fun e w' => e = .returned (.tuple #[.int .i64 (N : Nat), .int .i64 0]) ∧ Below W.heap.size W w') (r1 : ∀ W, Calls Try.prog 21 #[.int .u8 k] W fun e w' => e = .returned (.bool true) ∧ W = w') (r2 : ∀ W, Calls Try.prog 21 #[.int .u8 k2] W fun e w' => e = .returned (.bool true) ∧ W = w') (w : World) : Calls Try.prog 5 #[.agg #[.int .u32 id, .int .i64 m, .int .i64 ch, .int .i64 ro, .int .i64 lo, .int .i64 he], .agg #[.int .u8 k, .int .i64 a, .int .i64 (M : Nat), .slice A n cp], .agg #[.int .u8 k2, .int .i64 a2, .int .i64 (M2 : Nat), .slice A2 n2 cp2]] w fun e w' => e = .returned (.bool true) ∧ Below w.heap.size w w' := by
  have B := Box6.new w (.int .u32 id) (.int .i64 m) (.int .i64 ch) (.int .i64 ro) (.int .i64 lo) (.int .i64 he) 24
  have hb : Below w.heap.size w (w.alloc (.cells #[.int .u32 id, .int .i64 m, .int .i64 ch, .int .i64 ro, .int .i64 lo, .int .i64 he] 24 (0, 0))) := (Below.refl _ _).alloc (Nat.le_refl _) _
  replace B := B.alloc (.cells #[.int .u8 k, .int .i64 a, .int .i64 (M : Nat), .slice A n cp] 32 (0, 0))
  have G := CellsAt.new (w.alloc (.cells #[.int .u32 id, .int .i64 m, .int .i64 ch, .int .i64 ro, .int .i64 lo, .int .i64 he] 24 (0, 0))) [.int .u8 k, .int .i64 a, .int .i64 (M : Nat), .slice A n cp] 32
  replace hb := hb.alloc hb.size (.cells #[.int .u8 k, .int .i64 a, .int .i64 (M : Nat), .slice A n cp] 32 (0, 0))
  replace B := B.alloc (.cells #[.int .u8 k2, .int .i64 a2, .int .i64 (M2 : Nat), .slice A2 n2 cp2] 32 (0, 0))
  replace G := G.alloc (.cells #[.int .u8 k2, .int .i64 a2, .int .i64 (M2 : Nat), .slice A2 n2 cp2] 32 (0, 0))
  have G2 := CellsAt.new ((w.alloc (.cells #[.int .u32 id, .int .i64 m, .int .i64 ch, .int .i64 ro, .int .i64 lo, .int .i64 he] 24 (0, 0))).alloc (.cells #[.int .u8 k, .int .i64 a, .int .i64 (M : Nat), .slice A n cp] 32 (0, 0))) [.int .u8 k2, .int .i64 a2, .int .i64 (M2 : Nat), .slice A2 n2 cp2] 32
  replace hb := hb.alloc hb.size (.cells #[.int .u8 k2, .int .i64 a2, .int .i64 (M2 : Nat), .slice A2 n2 cp2] 32 (0, 0))
  simp only [World.size_alloc] at G G2
  obtain ⟨c0, c1, c2, c3, c4, c5⟩ := B.all
  obtain ⟨g0, g1, g2, g3⟩ := G.all4
  obtain ⟨g02, g12, g22, g32⟩ := G2.all4
  go_enter Try.func5, Try.ntmps5
  simp only [el] at h1
  simp only [el2] at hl2
  have elH := Lib.hid el
  have elH2 := Lib.hid el2
  clear el el2
  go_wp2_with (first
    | (go_at_call 14; refine (ka _).mono ?_; rintro e w2 ⟨rfl, hb2⟩; replace hb := hb.trans (hb2.mono hb.size); clear c0 c1 c2 c3 c4 c5 g0 g1 g2 g3 g02 g12 g22 g32; replace B := B.below hb2 (Nat.le_refl _); replace G := G.below hb2 (Nat.le_refl _); replace G2 := G2.below hb2 (Nat.le_refl _); clear hb2; obtain ⟨c0, c1, c2, c3, c4, c5⟩ := B.all; obtain ⟨g0, g1, g2, g3⟩ := G.all4; obtain ⟨g02, g12, g22, g32⟩ := G2.all4; have blt := B.lt; have glt := G.lt; have glt2 := G2.lt)
    | (go_at_call 10; (with_reducible refine (h1 _).mono ?_); rintro e w9 ⟨A3, C3, rfl, K1, hb2⟩; replace hb := hb.trans (hb2.mono hb.size); clear c0 c1 c2 c3 c4 c5 g0 g1 g2 g3 g02 g12 g22 g32; replace B := B.below hb2 (Nat.le_refl _); replace G := G.below hb2 (Nat.le_refl _); replace G2 := G2.below hb2 (Nat.le_refl _); clear hb2; obtain ⟨c0, c1, c2, c3, c4, c5⟩ := B.all; obtain ⟨g0, g1, g2, g3⟩ := G.all4; obtain ⟨g02, g12, g22, g32⟩ := G2.all4; have blt := B.lt; have glt := G.lt; have glt2 := G2.lt)
    | (go_at_call 10; (with_reducible refine (hl2 _).mono ?_); rintro e w9 ⟨A4, C4, rfl, K2, hb2⟩; replace K1 := K1.below hb2 (Nat.le_refl _); replace hb := hb.trans (hb2.mono hb.size); clear c0 c1 c2 c3 c4 c5 g0 g1 g2 g3 g02 g12 g22 g32; replace B := B.below hb2 (Nat.le_refl _); replace G := G.below hb2 (Nat.le_refl _); replace G2 := G2.below hb2 (Nat.le_refl _); clear hb2; obtain ⟨c0, c1, c2, c3, c4, c5⟩ := B.all; obtain ⟨g0, g1, g2, g3⟩ := G.all4; obtain ⟨g02, g12, g22, g32⟩ := G2.all4; have blt := B.lt; have glt := G.lt; have glt2 := G2.lt)
    | (go_at_call 12; (with_reducible refine (ht _).mono ?_); rintro e w9 ⟨rfl, hb2⟩; replace K1 := K1.below hb2 (Nat.le_refl _); replace K2 := K2.below hb2 (Nat.le_refl _); replace hb := hb.trans (hb2.mono hb.size); clear c0 c1 c2 c3 c4 c5 g0 g1 g2 g3 g02 g12 g22 g32; replace B := B.below hb2 (Nat.le_refl _); replace G := G.below hb2 (Nat.le_refl _); replace G2 := G2.below hb2 (Nat.le_refl _); clear hb2; obtain ⟨c0, c1, c2, c3, c4, c5⟩ := B.all; obtain ⟨g0, g1, g2, g3⟩ := G.all4; obtain ⟨g02, g12, g22, g32⟩ := G2.all4; have blt := B.lt; have glt := G.lt; have glt2 := G2.lt)
    | (go_at_call 20; (with_reducible refine (hs _).mono ?_); rintro e w9 ⟨rfl, hb2⟩; replace K1 := K1.below hb2 (Nat.le_refl _); replace K2 := K2.below hb2 (Nat.le_refl _); replace hb := hb.trans (hb2.mono hb.size); clear c0 c1 c2 c3 c4 c5 g0 g1 g2 g3 g02 g12 g22 g32; replace B := B.below hb2 (Nat.le_refl _); replace G := G.below hb2 (Nat.le_refl _); replace G2 := G2.below hb2 (Nat.le_refl _); clear hb2; obtain ⟨c0, c1, c2, c3, c4, c5⟩ := B.all; obtain ⟨g0, g1, g2, g3⟩ := G.all4; obtain ⟨g02, g12, g22, g32⟩ := G2.all4; have blt := B.lt; have glt := G.lt; have glt2 := G2.lt))
  have hw9 := Below.refl w9.heap.size w9
  clear h1 hl2 ht hs
  clear c0 c1 c2 c3 c4 c5 g0 g1 g2 g3 g02 g12 g22 g32
  go_loopg [16, 17] M (fun r s16 s17 wr => ∃ i : Nat, i + r = M ∧ s16 = .bool (hitB (l.take i) l2) ∧ s17 = .int .i64 i ∧ Below w9.heap.size w9 wr)
  case atStart => exact ⟨0, by omega, rfl, rfl, hw9⟩
  case round =>
    obtain ⟨i, hi, rfl, rfl, hbk⟩ := hrel
    clear hw9
    by_cases hiM : i < M
    · obtain ⟨b1, o1, rfl, k1⟩ := K1.at_below hbk hiM
      obtain ⟨x, ex⟩ : ∃ x : Int, a + (i : Int) = x := ⟨_, rfl⟩
      have ex2 : l.getD i 0 = x := by rw [hl.out, ← ex]; exact rng_at hiM
      have F : Hid (l.take (i + 1) = l.take i ++ [x]) := by rw [← ex2]; exact take_snoc (by rw [elH.out]; exact hiM)
      have F2 : Hid (hitB (l.take (i + 1)) l2 = (hitB (l.take i) l2 || hitB [x] l2)) := by rw [F.out]; exact hitB_left _ _ _
      rw [ex2] at k1
      have hin' := hin (by omega)
      have d0 : decide (x < 0) = false := decide_eq_false (by omega)
      have d1 : decide ((N : Int) ≤ x) = false := decide_eq_false (by omega)
      have ex3 : IntKind.i64.wrap (a + (i : Int)) = x := by rw [IntWalk.i64_left, wrap64_in (by omega) (by omega)]; exact ex
      clear ex2 F hin
      replace G := G.below hbk (Nat.le_refl _)
      obtain ⟨g0, g1, g2, g3⟩ := G.all4
      generalize hitB (l.take i) l2 = c0 at *
      go_wp2_with fail
      go_quiet (fail)
      go_wp2_with fail
      generalize hwd : World.drewN wr _ = wd at *
      have hbd : Below w9.heap.size w9 wd := by rw [← hwd]; exact below_drewN hbk _
      have k1d : wd.cell? ⟨b1, o1 + i, none⟩ = some (.int .i64 x) := by rw [← hwd]; exact k1
      clear hwd k1 hbk g0 g1 g2 g3 d0 d1 ex ex3 hin'
      have hwd0 := Below.refl wd.heap.size wd
      go_loopg [16, 18] M2 (fun r s16 s18 wq => ∃ j : Nat, j + r = M2 ∧ s16 = .bool (c0 || hitB [x] (l2.take j)) ∧ s18 = .int .i64 j ∧ Below wd.heap.size wd wq)
      case atStart => exact ⟨0, by omega, by rw [List.take_zero, hitB_nil, Bool.or_false], rfl, hwd0⟩
      case round =>
        obtain ⟨j, hj, rfl, rfl, hbq⟩ := hrel
        clear hwd0
        have hbq9 := hbd.trans (hbq.mono hbd.size)
        by_cases hjM : j < M2
        · obtain ⟨b2, o2, rfl, k2⟩ := K2.at_below hbq9 hjM
          have kk1 : wr.cell? ⟨b1, o1 + i, none⟩ = some (.int .i64 x) := by rw [hbq.cell (p := ⟨b1, o1 + i, none⟩) (cell_lt k1d)]; exact k1d
          have E : Hid (l2.take (j + 1) = l2.take j ++ [l2.getD j 0]) := take_snoc (by rw [elH2.out]; exact hjM)
          have E2 : Hid ((c0 || hitB [x] (l2.take (j + 1))) = ((c0 || hitB [x] (l2.take j)) || (x == l2.getD j 0))) := by refine Lib.hid ?_; rw [E.out, hitB_right, Bool.or_assoc]
          clear E
          generalize l2.getD j 0 = y at *
          generalize (c0 || hitB [x] (l2.take j)) = d at *
          cases d
          · by_cases hxy : x = y
            · subst hxy
              go_wp2_with fail
              go_quiet (fail)
              go_wp2
              go_roundg (M2 - (j + 1))
              case measure => omega
              case rel => exact ⟨j + 1, by omega, by rw [E2.out]; simp, by go_num, below_drewN hbq _⟩
            · have hxb : (x == y) = false := by simpa using hxy
              go_wp2_with fail
              go_quiet (fail)
              go_wp2
              go_roundg (M2 - (j + 1))
              case measure => omega
              case rel => exact ⟨j + 1, by omega, by rw [E2.out, hxb]; rfl, by go_num, below_drewN hbq _⟩
          · go_wp2_with fail
            go_quiet (fail)
            go_wp2
            go_roundg (M2 - (j + 1))
            case measure => omega
            case rel => exact ⟨j + 1, by omega, by rw [E2.out]; rfl, by go_num, below_drewN hbq _⟩
        · obtain rfl : j = M2 := by omega
          have E : Hid (hitB [x] (l2.take j) = hitB [x] l2) := by refine Lib.hid ?_; rw [List.take_of_length_le (by rw [elH2.out]; exact Nat.le_refl _)]
          rw [E.out]
          clear E
          generalize hq : (c0 || hitB [x] l2) = c1 at *
          go_wp2
          go_roundg (M - (i + 1))
          case measure => omega
          case rel => exact ⟨i + 1, by omega, by rw [F2.out], by go_num, hbq9⟩
    · obtain rfl : i = M := by omega
      have F : Hid (hitB (l.take i) l2 = c) := by rw [List.take_of_length_le (by rw [elH.out]; exact Nat.le_refl _)]; exact hcc.out
      rw [F.out]
      clear F K1 K2
      replace hb := hb.trans (hbk.mono hb.size)
      replace B := B.below hbk (Nat.le_refl _)
      replace G := G.below hbk (Nat.le_refl _)
      replace G2 := G2.below hbk (Nat.le_refl _)
      obtain ⟨c0, c1, c2, c3, c4, c5⟩ := B.all
      obtain ⟨g0, g1, g2, g3⟩ := G.all4
      obtain ⟨g02, g12, g22, g32⟩ := G2.all4
      cases c
      all_goals
        go_wp2_with (first
        | (go_at_call 21; (with_reducible refine (r1 _).mono ?_); rintro e w8 ⟨rfl, rfl⟩)
        | (go_at_call 21; (with_reducible refine (r2 _).mono ?_); rintro e w8 ⟨rfl, rfl⟩))
        go_ret
        exact ⟨rfl, hb⟩

set_option maxRecDepth 100000 in
set_option maxHeartbeats 4000000 in
theorem all_tf (id m ch ro lo he k a k2 a2 : Int) (A A2 : Option Addr) (n cp n2 cp2 : Nat) (ka : ∀ W, Calls Try.prog 14 #[] W fun e w' => e = .returned (.bool true) ∧ Below W.heap.size W w') (M M2 N : Nat) (hM : M ≤ 8) (hM2 : M2 ≤ 8) (hN : N ≤ 960) (ha : 0 ≤ a) (ha1 : a ≤ 960) (hin : 1 ≤ M → a + (M : Int) ≤ N) (h : n ≤ 5000) (h2 : n2 ≤ 5000) (l l2 : List Int) (c : Bool) (el : l.length = M) (el2 : l2.length = M2) (hl : Hid (l = rng a M)) (hcc : Hid (hitB l l2 = c)) (h1 : ∀ W, Calls Try.prog 10 #[.agg #[.int .u32 id, .int .i64 m, .int .i64 ch, .int .i64 ro, .int .i64 lo, .int .i64 he], .agg #[.int .u8 k, .int .i64 a, .int .i64 (M : Nat), .slice A n cp]] W fun e w' => ∃ A3 c3, e = .returned (.tuple #[.slice A3 l.length c3, .int .i64 0]) ∧ Ints .i64 w' A3 l.length l ∧ Below W.heap.size W w') (hl2 : ∀ W, Calls Try.prog 10 #[.agg #[.int .u32 id, .int .i64 m, .int .i64 ch, .int .i64 ro, .int .i64 lo, .int .i64 he], .agg #[.int .u8 k2, .int .i64 a2, .int .i64 (M2 : Nat), .slice A2 n2 cp2]] W fun e w' => ∃ A3 c3, e = .returned (.tuple #[.slice A3 l2.length c3, .int .i64 0]) ∧ Ints .i64 w' A3 l2.length l2 ∧ Below W.heap.size W w') (ht : ∀ W, Calls Try.prog 12 #[.agg #[.int .u32 id, .int .i64 m, .int .i64 ch, .int .i64 ro, .int .i64 lo, .int .i64 he], .agg #[.int .u8 k, .int .i64 a, .int .i64 (M : Nat), .slice A n cp], .agg #[.int .u8 k2, .int .i64 a2, .int .i64 (M2 : Nat), .slice A2 n2 cp2]] W fun e w' => e = .returned (.tuple #[.bool c, .int .i64 0]) ∧ Below W.heap.size W w') (hs : ∀ W, Calls Try.prog 20 #[.agg #[.int .u32 id, .int .i64 m, .int .i64 ch, .int .i64 ro, .int .i64 lo, .int .i64 he]] W fun e w' => e = .returned (.tuple #[.int .i64 (N : Nat), .int .i64 0]) ∧ Below W.heap.size W w') (r1 : ∀ W, Calls Try.prog 21 #[.int .u8 k] W fun e w' => e = .returned (.bool true) ∧ W = w') (r2 : ∀ W, Calls Try.prog 21 #[.int .u8 k2] W fun e w' => e = .returned (.bool false) ∧ W = w') (w : World) : Calls Try.prog 5 #[.agg #[.int .u32 id, .int .i64 m, .int .i64 ch, .int .i64 ro, .int .i64 lo, .int .i64 he], .agg #[.int .u8 k, .int .i64 a, .int .i64 (M : Nat), .slice A n cp], .agg #[.int .u8 k2, .int .i64 a2, .int .i64 (M2 : Nat), .slice A2 n2 cp2]] w fun e w' => e = .returned (.bool true) ∧ Below w.heap.size w w' := by
  have B := Box6.new w (.int .u32 id) (.int .i64 m) (.int .i64 ch) (.int .i64 ro) (.int .i64 lo) (.int .i64 he) 24
  have hb : Below w.heap.size w (w.alloc (.cells #[.int .u32 id, .int .i64 m, .int .i64 ch, .int .i64 ro, .int .i64 lo, .int .i64 he] 24 (0, 0))) := (Below.refl _ _).alloc (Nat.le_refl _) _
  replace B := B.alloc (.cells #[.int .u8 k, .int .i64 a, .int .i64 (M : Nat), .slice A n cp] 32 (0, 0))
  have G := CellsAt.new (w.alloc (.cells #[.int .u32 id, .int .i64 m, .int .i64 ch, .int .i64 ro, .int .i64 lo, .int .i64 he] 24 (0, 0))) [.int .u8 k, .int .i64 a, .int .i64 (M : Nat), .slice A n cp] 32
  replace hb := hb.alloc hb.size (.cells #[.int .u8 k, .int .i64 a, .int .i64 (M : Nat), .slice A n cp] 32 (0, 0))
  replace B := B.alloc (.cells #[.int .u8 k2, .int .i64 a2, .int .i64 (M2 : Nat), .slice A2 n2 cp2] 32 (0, 0))
  replace G := G.alloc (.cells #[.int .u8 k2, .int .i64 a2, .int .i64 (M2 : Nat), .slice A2 n2 cp2] 32 (0, 0))
  have G2 := CellsAt.new ((w.alloc (.cells #[.int .u32 id, .int .i64 m, .int .i64 ch, .int .i64 ro, .int .i64 lo, .int .i64 he] 24 (0, 0))).alloc (.cells #[.int .u8 k, .int .i64 a, .int .i64 (M : Nat), .slice A n cp] 32 (0, 0))) [.int .u8 k2, .int .i64 a2, .int .i64 (M2 : Nat), .slice A2 n2 cp2] 32
  replace hb := hb.alloc hb.size (.cells #[.int .u8 k2, .int .i64 a2, .int .i64 (M2 : Nat), .slice A2 n2 cp2] 32 (0, 0))
  simp only [World.size_alloc] at G G2
  obtain ⟨c0, c1, c2, c3, c4, c5⟩ := B.all
  obtain ⟨g0, g1, g2, g3⟩ := G.all4
  obtain ⟨g02, g12, g22, g32⟩ := G2.all4
  go_enter Try.func5, Try.ntmps5
  simp only [el] at h1
  simp only [el2] at hl2
  have elH := Lib.hid el
  have elH2 := Lib.hid el2
  clear el el2
  go_wp2_with (first
    | (go_at_call 14; refine (ka _).mono ?_; rintro e w2 ⟨rfl, hb2⟩; replace hb := hb.trans (hb2.mono hb.size); clear c0 c1 c2 c3 c4 c5 g0 g1 g2 g3 g02 g12 g22 g32; replace B := B.below hb2 (Nat.le_refl _); replace G := G.below hb2 (Nat.le_refl _); replace G2 := G2.below hb2 (Nat.le_refl _); clear hb2; obtain ⟨c0, c1, c2, c3, c4, c5⟩ := B.all; obtain ⟨g0, g1, g2, g3⟩ := G.all4; obtain ⟨g02, g12, g22, g32⟩ := G2.all4; have blt := B.lt; have glt := G.lt; have glt2 := G2.lt)
    | (go_at_call 10; (with_reducible refine (h1 _).mono ?_); rintro e w9 ⟨A3, C3, rfl, K1, hb2⟩; replace hb := hb.trans (hb2.mono hb.size); clear c0 c1 c2 c3 c4 c5 g0 g1 g2 g3 g02 g12 g22 g32; replace B := B.below hb2 (Nat.le_refl _); replace G := G.below hb2 (Nat.le_refl _); replace G2 := G2.below hb2 (Nat.le_refl _); clear hb2; obtain ⟨c0, c1, c2, c3, c4, c5⟩ := B.all; obtain ⟨g0, g1, g2, g3⟩ := G.all4; obtain ⟨g02, g12, g22, g32⟩ := G2.all4; have blt := B.lt; have glt := G.lt; have glt2 := G2.lt)
    | (go_at_call 10; (with_reducible refine (hl2 _).mono ?_); rintro e w9 ⟨A4, C4, rfl, K2, hb2⟩; replace K1 := K1.below hb2 (Nat.le_refl _); replace hb := hb.trans (hb2.mono hb.size); clear c0 c1 c2 c3 c4 c5 g0 g1 g2 g3 g02 g12 g22 g32; replace B := B.below hb2 (Nat.le_refl _); replace G := G.below hb2 (Nat.le_refl _); replace G2 := G2.below hb2 (Nat.le_refl _); clear hb2; obtain ⟨c0, c1, c2, c3, c4, c5⟩ := B.all; obtain ⟨g0, g1, g2, g3⟩ := G.all4; obtain ⟨g02, g12, g22, g32⟩ := G2.all4; have blt := B.lt; have glt := G.lt; have glt2 := G2.lt)
    | (go_at_call 12; (with_reducible refine (ht _).mono ?_); rintro e w9 ⟨rfl, hb2⟩; replace K1 := K1.below hb2 (Nat.le_refl _); replace K2 := K2.below hb2 (Nat.le_refl _); replace hb := hb.trans (hb2.mono hb.size); clear c0 c1 c2 c3 c4 c5 g0 g1 g2 g3 g02 g12 g22 g32; replace B := B.below hb2 (Nat.le_refl _); replace G := G.below hb2 (Nat.le_refl _); replace G2 := G2.below hb2 (Nat.le_refl _); clear hb2; obtain ⟨c0, c1, c2, c3, c4, c5⟩ := B.all; obtain ⟨g0, g1, g2, g3⟩ := G.all4; obtain ⟨g02, g12, g22, g32⟩ := G2.all4; have blt := B.lt; have glt := G.lt; have glt2 := G2.lt)
    | (go_at_call 20; (with_reducible refine (hs _).mono ?_); rintro e w9 ⟨rfl, hb2⟩; replace K1 := K1.below hb2 (Nat.le_refl _); replace K2 := K2.below hb2 (Nat.le_refl _); replace hb := hb.trans (hb2.mono hb.size); clear c0 c1 c2 c3 c4 c5 g0 g1 g2 g3 g02 g12 g22 g32; replace B := B.below hb2 (Nat.le_refl _); replace G := G.below hb2 (Nat.le_refl _); replace G2 := G2.below hb2 (Nat.le_refl _); clear hb2; obtain ⟨c0, c1, c2, c3, c4, c5⟩ := B.all; obtain ⟨g0, g1, g2, g3⟩ := G.all4; obtain ⟨g02, g12, g22, g32⟩ := G2.all4; have blt := B.lt; have glt := G.lt; have glt2 := G2.lt))
  have hw9 := Below.refl w9.heap.size w9
  clear h1 hl2 ht hs
  clear c0 c1 c2 c3 c4 c5 g0 g1 g2 g3 g02 g12 g22 g32
  go_loopg [16, 17] M (fun r s16 s17 wr => ∃ i : Nat, i + r = M ∧ s16 = .bool (hitB (l.take i) l2) ∧ s17 = .int .i64 i ∧ Below w9.heap.size w9 wr)
  case atStart => exact ⟨0, by omega, rfl, rfl, hw9⟩
  case round =>
    obtain ⟨i, hi, rfl, rfl, hbk⟩ := hrel
    clear hw9
    by_cases hiM : i < M
    · obtain ⟨b1, o1, rfl, k1⟩ := K1.at_below hbk hiM
      obtain ⟨x, ex⟩ : ∃ x : Int, a + (i : Int) = x := ⟨_, rfl⟩
      have ex2 : l.getD i 0 = x := by rw [hl.out, ← ex]; exact rng_at hiM
      have F : Hid (l.take (i + 1) = l.take i ++ [x]) := by rw [← ex2]; exact take_snoc (by rw [elH.out]; exact hiM)
      have F2 : Hid (hitB (l.take (i + 1)) l2 = (hitB (l.take i) l2 || hitB [x] l2)) := by rw [F.out]; exact hitB_left _ _ _
      rw [ex2] at k1
      have hin' := hin (by omega)
      have d0 : decide (x < 0) = false := decide_eq_false (by omega)
      have d1 : decide ((N : Int) ≤ x) = false := decide_eq_false (by omega)
      have ex3 : IntKind.i64.wrap (a + (i : Int)) = x := by rw [IntWalk.i64_left, wrap64_in (by omega) (by omega)]; exact ex
      clear ex2 F hin
      replace G := G.below hbk (Nat.le_refl _)
      obtain ⟨g0, g1, g2, g3⟩ := G.all4
      generalize hitB (l.take i) l2 = c0 at *
      go_wp2_with fail
      go_quiet (fail)
      go_wp2_with fail
      generalize hwd : World.drewN wr _ = wd at *
      have hbd : Below w9.heap.size w9 wd := by rw [← hwd]; exact below_drewN hbk _
      have k1d : wd.cell? ⟨b1, o1 + i, none⟩ = some (.int .i64 x) := by rw [← hwd]; exact k1
      clear hwd k1 hbk g0 g1 g2 g3 d0 d1 ex ex3 hin'
      have hwd0 := Below.refl wd.heap.size wd
      go_loopg [16, 18] M2 (fun r s16 s18 wq => ∃ j : Nat, j + r = M2 ∧ s16 = .bool (c0 || hitB [x] (l2.take j)) ∧ s18 = .int .i64 j ∧ Below wd.heap.size wd wq)
      case atStart => exact ⟨0, by omega, by rw [List.take_zero, hitB_nil, Bool.or_false], rfl, hwd0⟩
      case round =>
        obtain ⟨j, hj, rfl, rfl, hbq⟩ := hrel
        clear hwd0
        have hbq9 := hbd.trans (hbq.mono hbd.size)
        by_cases hjM : j < M2
        · obtain ⟨b2, o2, rfl, k2⟩ := K2.at_below hbq9 hjM
          have kk1 : wr.cell? ⟨b1, o1 + i, none⟩ = some (.int .i64 x) := by rw [hbq.cell (p := ⟨b1, o1 + i, none⟩) (cell_lt k1d)]; exact k1d
          have E : Hid (l2.take (j + 1) = l2.take j ++ [l2.getD j 0]) := take_snoc (by rw [elH2.out]; exact hjM)
          have E2 : Hid ((c0 || hitB [x] (l2.take (j + 1))) = ((c0 || hitB [x] (l2.take j)) || (x == l2.getD j 0))) := by refine Lib.hid ?_; rw [E.out, hitB_right, Bool.or_assoc]
          clear E
          generalize l2.getD j 0 = y at *
          generalize (c0 || hitB [x] (l2.take j)) = d at *
          cases d
          · by_cases hxy : x = y
            · subst hxy
              go_wp2_with fail
              go_quiet (fail)
              go_wp2
              go_roundg (M2 - (j + 1))
              case measure => omega
              case rel => exact ⟨j + 1, by omega, by rw [E2.out]; simp, by go_num, below_drewN hbq _⟩
            · have hxb : (x == y) = false := by simpa using hxy
              go_wp2_with fail
              go_quiet (fail)
              go_wp2
              go_roundg (M2 - (j + 1))
              case measure => omega
              case rel => exact ⟨j + 1, by omega, by rw [E2.out, hxb]; rfl, by go_num, below_drewN hbq _⟩
          · go_wp2_with fail
            go_quiet (fail)
            go_wp2
            go_roundg (M2 - (j + 1))
            case measure => omega
            case rel => exact ⟨j + 1, by omega, by rw [E2.out]; rfl, by go_num, below_drewN hbq _⟩
        · obtain rfl : j = M2 := by omega
          have E : Hid (hitB [x] (l2.take j) = hitB [x] l2) := by refine Lib.hid ?_; rw [List.take_of_length_le (by rw [elH2.out]; exact Nat.le_refl _)]
          rw [E.out]
          clear E
          generalize hq : (c0 || hitB [x] l2) = c1 at *
          go_wp2
          go_roundg (M - (i + 1))
          case measure => omega
          case rel => exact ⟨i + 1, by omega, by rw [F2.out], by go_num, hbq9⟩
    · obtain rfl : i = M := by omega
      have F : Hid (hitB (l.take i) l2 = c) := by rw [List.take_of_length_le (by rw [elH.out]; exact Nat.le_refl _)]; exact hcc.out
      rw [F.out]
      clear F K1 K2
      replace hb := hb.trans (hbk.mono hb.size)
      replace B := B.below hbk (Nat.le_refl _)
      replace G := G.below hbk (Nat.le_refl _)
      replace G2 := G2.below hbk (Nat.le_refl _)
      obtain ⟨c0, c1, c2, c3, c4, c5⟩ := B.all
      obtain ⟨g0, g1, g2, g3⟩ := G.all4
      obtain ⟨g02, g12, g22, g32⟩ := G2.all4
      cases c
      all_goals
        go_wp2_with (first
        | (go_at_call 21; (with_reducible refine (r1 _).mono ?_); rintro e w8 ⟨rfl, rfl⟩)
        | (go_at_call 21; (with_reducible refine (r2 _).mono ?_); rintro e w8 ⟨rfl, rfl⟩))
        go_ret
        exact ⟨rfl, hb⟩

set_option maxRecDepth 100000 in
set_option maxHeartbeats 4000000 in
theorem all_ft (id m ch ro lo he k a k2 a2 : Int) (A A2 : Option Addr) (n cp n2 cp2 : Nat) (ka : ∀ W, Calls Try.prog 14 #[] W fun e w' => e = .returned (.bool true) ∧ Below W.heap.size W w') (M M2 N : Nat) (hM : M ≤ 8) (hM2 : M2 ≤ 8) (hN : N ≤ 960) (ha : 0 ≤ a) (ha1 : a ≤ 960) (hin : 1 ≤ M → a + (M : Int) ≤ N) (h : n ≤ 5000) (h2 : n2 ≤ 5000) (l l2 : List Int) (c : Bool) (el : l.length = M) (el2 : l2.length = M2) (hl : Hid (l = rng a M)) (hcc : Hid (hitB l l2 = c)) (h1 : ∀ W, Calls Try.prog 10 #[.agg #[.int .u32 id, .int .i64 m, .int .i64 ch, .int .i64 ro, .int .i64 lo, .int .i64 he], .agg #[.int .u8 k, .int .i64 a, .int .i64 (M : Nat), .slice A n cp]] W fun e w' => ∃ A3 c3, e = .returned (.tuple #[.slice A3 l.length c3, .int .i64 0]) ∧ Ints .i64 w' A3 l.length l ∧ Below W.heap.size W w') (hl2 : ∀ W, Calls Try.prog 10 #[.agg #[.int .u32 id, .int .i64 m, .int .i64 ch, .int .i64 ro, .int .i64 lo, .int .i64 he], .agg #[.int .u8 k2, .int .i64 a2, .int .i64 (M2 : Nat), .slice A2 n2 cp2]] W fun e w' => ∃ A3 c3, e = .returned (.tuple #[.slice A3 l2.length c3, .int .i64 0]) ∧ Ints .i64 w' A3 l2.length l2 ∧ Below W.heap.size W w') (ht : ∀ W, Calls Try.prog 12 #[.agg #[.int .u32 id, .int .i64 m, .int .i64 ch, .int .i64 ro, .int .i64 lo, .int .i64 he], .agg #[.int .u8 k, .int .i64 a, .int .i64 (M : Nat), .slice A n cp], .agg #[.int .u8 k2, .int .i64 a2, .int .i64 (M2 : Nat), .slice A2 n2 cp2]] W fun e w' => e = .returned (.tuple #[.bool c, .int .i64 0]) ∧ Below W.heap.size W w') (hs : ∀ W, Calls Try.prog 20 #[.agg #[.int .u32 id, .int .i64 m, .int .i64 ch, .int .i64 ro, .int .i64 lo, .int .i64 he]] W fun e w' => e = .returned (.tuple #[.int .i64 (N : Nat), .int .i64 0]) ∧ Below W.heap.size W w') (r1 : ∀ W, Calls Try.prog 21 #[.int .u8 k] W fun e w' => e = .returned (.bool false) ∧ W = w') (r2 : ∀ W, Calls Try.prog 21 #[.int .u8 k2] W fun e w' => e = .returned (.bool true) ∧ W = w') (w : World) : Calls Try.prog 5 #[.agg #[.int .u32 id, .int .i64 m, .int .i64 ch, .int .i64 ro, .int .i64 lo, .int .i64 he], .agg #[.int .u8 k, .int .i64 a, .int .i64 (M : Nat), .slice A n cp], .agg #[.int .u8 k2, .int .i64 a2, .int .i64 (M2 : Nat), .slice A2 n2 cp2]] w fun e w' => e = .returned (.bool true) ∧ Below w.heap.size w w' := by
  have B := Box6.new w (.int .u32 id) (.int .i64 m) (.int .i64 ch) (.int .i64 ro) (.int .i64 lo) (.int .i64 he) 24
  have hb : Below w.heap.size w (w.alloc (.cells #[.int .u32 id, .int .i64 m, .int .i64 ch, .int .i64 ro, .int .i64 lo, .int .i64 he] 24 (0, 0))) := (Below.refl _ _).alloc (Nat.le_refl _) _
  replace B := B.alloc (.cells #[.int .u8 k, .int .i64 a, .int .i64 (M : Nat), .slice A n cp] 32 (0, 0))
  have G := CellsAt.new (w.alloc (.cells #[.int .u32 id, .int .i64 m, .int .i64 ch, .int .i64 ro, .int .i64 lo, .int .i64 he] 24 (0, 0))) [.int .u8 k, .int .i64 a, .int .i64 (M : Nat), .slice A n cp] 32
  replace hb := hb.alloc hb.size (.cells #[.int .u8 k, .int .i64 a, .int .i64 (M : Nat), .slice A n cp] 32 (0, 0))
  replace B := B.alloc (.cells #[.int .u8 k2, .int .i64 a2, .int .i64 (M2 : Nat), .slice A2 n2 cp2] 32 (0, 0))
  replace G := G.alloc (.cells #[.int .u8 k2, .int .i64 a2, .int .i64 (M2 : Nat), .slice A2 n2 cp2] 32 (0, 0))
  have G2 := CellsAt.new ((w.alloc (.cells #[.int .u32 id, .int .i64 m, .int .i64 ch, .int .i64 ro, .int .i64 lo, .int .i64 he] 24 (0, 0))).alloc (.cells #[.int .u8 k, .int .i64 a, .int .i64 (M : Nat), .slice A n cp] 32 (0, 0))) [.int .u8 k2, .int .i64 a2, .int .i64 (M2 : Nat), .slice A2 n2 cp2] 32
  replace hb := hb.alloc hb.size (.cells #[.int .u8 k2, .int .i64 a2, .int .i64 (M2 : Nat), .slice A2 n2 cp2] 32 (0, 0))
  simp only [World.size_alloc] at G G2
  obtain ⟨c0, c1, c2, c3, c4, c5⟩ := B.all
  obtain ⟨g0, g1, g2, g3⟩ := G.all4
  obtain ⟨g02, g12, g22, g32⟩ := G2.all4
  go_enter Try.func5, Try.ntmps5
  simp only [el] at h1
  simp only [el2] at hl2
  have elH := Lib.hid el
  have elH2 := Lib.hid el2
  clear el el2
  go_wp2_with (first
    | (go_at_call 14; refine (ka _).mono ?_; rintro e w2 ⟨rfl, hb2⟩; replace hb := hb.trans (hb2.mono hb.size); clear c0 c1 c2 c3 c4 c5 g0 g1 g2 g3 g02 g12 g22 g32; replace B := B.below hb2 (Nat.le_refl _); replace G := G.below hb2 (Nat.le_refl _); replace G2 := G2.below hb2 (Nat.le_refl _); clear hb2; obtain ⟨c0, c1, c2, c3, c4, c5⟩ := B.all; obtain ⟨g0, g1, g2, g3⟩ := G.all4; obtain ⟨g02, g12, g22, g32⟩ := G2.all4; have blt := B.lt; have glt := G.lt; have glt2 := G2.lt)
    | (go_at_call 10; (with_reducible refine (h1 _).mono ?_); rintro e w9 ⟨A3, C3, rfl, K1, hb2⟩; replace hb := hb.trans (hb2.mono hb.size); clear c0 c1 c2 c3 c4 c5 g0 g1 g2 g3 g02 g12 g22 g32; replace B := B.below hb2 (Nat.le_refl _); replace G := G.below hb2 (Nat.le_refl _); replace G2 := G2.below hb2 (Nat.le_refl _); clear hb2; obtain ⟨c0, c1, c2, c3, c4, c5⟩ := B.all; obtain ⟨g0, g1, g2, g3⟩ := G.all4; obtain ⟨g02, g12, g22, g32⟩ := G2.all4; have blt := B.lt; have glt := G.lt; have glt2 := G2.lt)
    | (go_at_call 10; (with_reducible refine (hl2 _).mono ?_); rintro e w9 ⟨A4, C4, rfl, K2, hb2⟩; replace K1 := K1.below hb2 (Nat.le_refl _); replace hb := hb.trans (hb2.mono hb.size); clear c0 c1 c2 c3 c4 c5 g0 g1 g2 g3 g02 g12 g22 g32; replace B := B.below hb2 (Nat.le_refl _); replace G := G.below hb2 (Nat.le_refl _); replace G2 := G2.below hb2 (Nat.le_refl _); clear hb2; obtain ⟨c0, c1, c2, c3, c4, c5⟩ := B.all; obtain ⟨g0, g1, g2, g3⟩ := G.all4; obtain ⟨g02, g12, g22, g32⟩ := G2.all4; have blt := B.lt; have glt := G.lt; have glt2 := G2.lt)
    | (go_at_call 12; (with_reducible refine (ht _).mono ?_); rintro e w9 ⟨rfl, hb2⟩; replace K1 := K1.below hb2 (Nat.le_refl _); replace K2 := K2.below hb2 (Nat.le_refl _); replace hb := hb.trans (hb2.mono hb.size); clear c0 c1 c2 c3 c4 c5 g0 g1 g2 g3 g02 g12 g22 g32; replace B := B.below hb2 (Nat.le_refl _); replace G := G.below hb2 (Nat.le_refl _); replace G2 := G2.below hb2 (Nat.le_refl _); clear hb2; obtain ⟨c0, c1, c2, c3, c4, c5⟩ := B.all; obtain ⟨g0, g1, g2, g3⟩ := G.all4; obtain ⟨g02, g12, g22, g32⟩ := G2.all4; have blt := B.lt; have glt := G.lt; have glt2 := G2.lt)
    | (go_at_call 20; (with_reducible refine (hs _).mono ?_); rintro e w9 ⟨rfl, hb2⟩; replace K1 := K1.below hb2 (Nat.le_refl _); replace K2 := K2.below hb2 (Nat.le_refl _); replace hb := hb.trans (hb2.mono hb.size); clear c0 c1 c2 c3 c4 c5 g0 g1 g2 g3 g02 g12 g22 g32; replace B := B.below hb2 (Nat.le_refl _); replace G := G.below hb2 (Nat.le_refl _); replace G2 := G2.below hb2 (Nat.le_refl _); clear hb2; obtain ⟨c0, c1, c2, c3, c4, c5⟩ := B.all; obtain ⟨g0, g1, g2, g3⟩ := G.all4; obtain ⟨g02, g12, g22, g32⟩ := G2.all4; have blt := B.lt; have glt := G.lt; have glt2 := G2.lt))
  have hw9 := Below.refl w9.heap.size w9
  clear h1 hl2 ht hs
  clear c0 c1 c2 c3 c4 c5 g0 g1 g2 g3 g02 g12 g22 g32
  go_loopg [16, 17] M (fun r s16 s17 wr => ∃ i : Nat, i + r = M ∧ s16 = .bool (hitB (l.take i) l2) ∧ s17 = .int .i64 i ∧ Below w9.heap.size w9 wr)
  case atStart => exact ⟨0, by omega, rfl, rfl, hw9⟩
  case round =>
    obtain ⟨i, hi, rfl, rfl, hbk⟩ := hrel
    clear hw9
    by_cases hiM : i < M
    · obtain ⟨b1, o1, rfl, k1⟩ := K1.at_below hbk hiM
      obtain ⟨x, ex⟩ : ∃ x : Int, a + (i : Int) = x := ⟨_, rfl⟩
      have ex2 : l.getD i 0 = x := by rw [hl.out, ← ex]; exact rng_at hiM
      have F : Hid (l.take (i + 1) = l.take i ++ [x]) := by rw [← ex2]; exact take_snoc (by rw [elH.out]; exact hiM)
      have F2 : Hid (hitB (l.take (i + 1)) l2 = (hitB (l.take i) l2 || hitB [x] l2)) := by rw [F.out]; exact hitB_left _ _ _
      rw [ex2] at k1
      have hin' := hin (by omega)
      have d0 : decide (x < 0) = false := decide_eq_false (by omega)
      have d1 : decide ((N : Int) ≤ x) = false := decide_eq_false (by omega)
      have ex3 : IntKind.i64.wrap (a + (i : Int)) = x := by rw [IntWalk.i64_left, wrap64_in (by omega) (by omega)]; exact ex
      clear ex2 F hin
      replace G := G.below hbk (Nat.le_refl _)
      obtain ⟨g0, g1, g2, g3⟩ := G.all4
      generalize hitB (l.take i) l2 = c0 at *
      go_wp2_with fail
      go_quiet (fail)
      go_wp2_with fail
      generalize hwd : World.drewN wr _ = wd at *
      have hbd : Below w9.heap.size w9 wd := by rw [← hwd]; exact below_drewN hbk _
      have k1d : wd.cell? ⟨b1, o1 + i, none⟩ = some (.int .i64 x) := by rw [← hwd]; exact k1
      clear hwd k1 hbk g0 g1 g2 g3 d0 d1 ex ex3 hin'
      have hwd0 := Below.refl wd.heap.size wd
      go_loopg [16, 18] M2 (fun r s16 s18 wq => ∃ j : Nat, j + r = M2 ∧ s16 = .bool (c0 || hitB [x] (l2.take j)) ∧ s18 = .int .i64 j ∧ Below wd.heap.size wd wq)
      case atStart => exact ⟨0, by omega, by rw [List.take_zero, hitB_nil, Bool.or_false], rfl, hwd0⟩
      case round =>
        obtain ⟨j, hj, rfl, rfl, hbq⟩ := hrel
        clear hwd0
        have hbq9 := hbd.trans (hbq.mono hbd.size)
        by_cases hjM : j < M2
        · obtain ⟨b2, o2, rfl, k2⟩ := K2.at_below hbq9 hjM
          have kk1 : wr.cell? ⟨b1, o1 + i, none⟩ = some (.int .i64 x) := by rw [hbq.cell (p := ⟨b1, o1 + i, none⟩) (cell_lt k1d)]; exact k1d
          have E : Hid (l2.take (j + 1) = l2.take j ++ [l2.getD j 0]) := take_snoc (by rw [elH2.out]; exact hjM)
          have E2 : Hid ((c0 || hitB [x] (l2.take (j + 1))) = ((c0 || hitB [x] (l2.take j)) || (x == l2.getD j 0))) := by refine Lib.hid ?_; rw [E.out, hitB_right, Bool.or_assoc]
          clear E
          generalize l2.getD j 0 = y at *
          generalize (c0 || hitB [x] (l2.take j)) = d at *
          cases d
          · by_cases hxy : x = y
            · subst hxy
              go_wp2_with fail
              go_quiet (fail)
              go_wp2
              go_roundg (M2 - (j + 1))
              case measure => omega
              case rel => exact ⟨j + 1, by omega, by rw [E2.out]; simp, by go_num, below_drewN hbq _⟩
            · have hxb : (x == y) = false := by simpa using hxy
              go_wp2_with fail
              go_quiet (fail)
              go_wp2
              go_roundg (M2 - (j + 1))
              case measure => omega
              case rel => exact ⟨j + 1, by omega, by rw [E2.out, hxb]; rfl, by go_num, below_drewN hbq _⟩
          · go_wp2_with fail
            go_quiet (fail)
            go_wp2
            go_roundg (M2 - (j + 1))
            case measure => omega
            case rel => exact ⟨j + 1, by omega, by rw [E2.out]; rfl, by go_num, below_drewN hbq _⟩
        · obtain rfl : j = M2 := by omega
          have E : Hid (hitB [x] (l2.take j) = hitB [x] l2) := by refine Lib.hid ?_; rw [List.take_of_length_le (by rw [elH2.out]; exact Nat.le_refl _)]
          rw [E.out]
          clear E
          generalize hq : (c0 || hitB [x] l2) = c1 at *
          go_wp2
          go_roundg (M - (i + 1))
          case measure => omega
          case rel => exact ⟨i + 1, by omega, by rw [F2.out], by go_num, hbq9⟩
    · obtain rfl : i = M := by omega
      have F : Hid (hitB (l.take i) l2 = c) := by rw [List.take_of_length_le (by rw [elH.out]; exact Nat.le_refl _)]; exact hcc.out
      rw [F.out]
      clear F K1 K2
      replace hb := hb.trans (hbk.mono hb.size)
      replace B := B.below hbk (Nat.le_refl _)
      replace G := G.below hbk (Nat.le_refl _)
      replace G2 := G2.below hbk (Nat.le_refl _)
      obtain ⟨c0, c1, c2, c3, c4, c5⟩ := B.all
      obtain ⟨g0, g1, g2, g3⟩ := G.all4
      obtain ⟨g02, g12, g22, g32⟩ := G2.all4
      cases c
      all_goals
        go_wp2_with (first
        | (go_at_call 21; (with_reducible refine (r1 _).mono ?_); rintro e w8 ⟨rfl, rfl⟩)
        | (go_at_call 21; (with_reducible refine (r2 _).mono ?_); rintro e w8 ⟨rfl, rfl⟩))
        go_ret
        exact ⟨rfl, hb⟩

set_option maxRecDepth 100000 in
set_option maxHeartbeats 4000000 in
theorem all_ff (id m ch ro lo he k a k2 a2 : Int) (A A2 : Option Addr) (n cp n2 cp2 : Nat) (ka : ∀ W, Calls Try.prog 14 #[] W fun e w' => e = .returned (.bool true) ∧ Below W.heap.size W w') (M M2 N : Nat) (hM : M ≤ 8) (hM2 : M2 ≤ 8) (hN : N ≤ 960) (ha : 0 ≤ a) (ha1 : a ≤ 960) (hin : 1 ≤ M → a + (M : Int) ≤ N) (h : n ≤ 5000) (h2 : n2 ≤ 5000) (l l2 : List Int) (c : Bool) (el : l.length = M) (el2 : l2.length = M2) (hl : Hid (l = rng a M)) (hcc : Hid (hitB l l2 = c)) (h1 : ∀ W, Calls Try.prog 10 #[.agg #[.int .u32 id, .int .i64 m, .int .i64 ch, .int .i64 ro, .int .i64 lo, .int .i64 he], .agg #[.int .u8 k, .int .i64 a, .int .i64 (M : Nat), .slice A n cp]] W fun e w' => ∃ A3 c3, e = .returned (.tuple #[.slice A3 l.length c3, .int .i64 0]) ∧ Ints .i64 w' A3 l.length l ∧ Below W.heap.size W w') (hl2 : ∀ W, Calls Try.prog 10 #[.agg #[.int .u32 id, .int .i64 m, .int .i64 ch, .int .i64 ro, .int .i64 lo, .int .i64 he], .agg #[.int .u8 k2, .int .i64 a2, .int .i64 (M2 : Nat), .slice A2 n2 cp2]] W fun e w' => ∃ A3 c3, e = .returned (.tuple #[.slice A3 l2.length c3, .int .i64 0]) ∧ Ints .i64 w' A3 l2.length l2 ∧ Below W.heap.size W w') (ht : ∀ W, Calls Try.prog 12 #[.agg #[.int .u32 id, .int .i64 m, .int .i64 ch, .int .i64 ro, .int .i64 lo, .int .i64 he], .agg #[.int .u8 k, .int .i64 a, .int .i64 (M : Nat), .slice A n cp], .agg #[.int .u8 k2, .int .i64 a2, .int .i64 (M2 : Nat), .slice A2 n2 cp2]] W fun e w' => e = .returned (.tuple #[.bool false, .int .i64 0]) ∧ Below W.heap.size W w') (hs : ∀ W, Calls Try.prog 20 #[.agg #[.int .u32 id, .int .i64 m, .int .i64 ch, .int .i64 ro, .int .i64 lo, .int .i64 he]] W fun e w' => e = .returned (.tuple #[.int .i64 (N : Nat), .int .i64 0]) ∧ Below W.heap.size W w') (r1 : ∀ W, Calls Try.prog 21 #[.int .u8 k] W fun e w' => e = .returned (.bool false) ∧ W = w') (r2 : ∀ W, Calls Try.prog 21 #[.int .u8 k2] W fun e w' => e = .returned (.bool false) ∧ W = w') (w : World) : Calls Try.prog 5 #[.agg #[.int .u32 id, .int .i64 m, .int .i64 ch, .int .i64 ro, .int .i64 lo, .int .i64 he], .agg #[.int .u8 k, .int .i64 a, .int .i64 (M : Nat), .slice A n cp], .agg #[.int .u8 k2, .int .i64 a2, .int .i64 (M2 : Nat), .slice A2 n2 cp2]] w fun e w' => e = .returned (.bool true) ∧ Below w.heap.size w w' := by
  have B := Box6.new w (.int .u32 id) (.int .i64 m) (.int .i64 ch) (.int .i64 ro) (.int .i64 lo) (.int .i64 he) 24
  have hb : Below w.heap.size w (w.alloc (.cells #[.int .u32 id, .int .i64 m, .int .i64 ch, .int .i64 ro, .int .i64 lo, .int .i64 he] 24 (0, 0))) := (Below.refl _ _).alloc (Nat.le_refl _) _
  replace B := B.alloc (.cells #[.int .u8 k, .int .i64 a, .int .i64 (M : Nat), .slice A n cp] 32 (0, 0))
  have G := CellsAt.new (w.alloc (.cells #[.int .u32 id, .int .i64 m, .int .i64 ch, .int .i64 ro, .int .i64 lo, .int .i64 he] 24 (0, 0))) [.int .u8 k, .int .i64 a, .int .i64 (M : Nat), .slice A n cp] 32
  replace hb := hb.alloc hb.size (.cells #[.int .u8 k, .int .i64 a, .int .i64 (M : Nat), .slice A n cp] 32 (0, 0))
  replace B := B.alloc (.cells #[.int .u8 k2, .int .i64 a2, .int .i64 (M2 : Nat), .slice A2 n2 cp2] 32 (0, 0))
  replace G := G.alloc (.cells #[.int .u8 k2, .int .i64 a2, .int .i64 (M2 : Nat), .slice A2 n2 cp2] 32 (0, 0))
  have G2 := CellsAt.new ((w.alloc (.cells #[.int .u32 id, .int .i64 m, .int .i64 ch, .int .i64 ro, .int .i64 lo, .int .i64 he] 24 (0, 0))).alloc (.cells #[.int .u8 k, .int .i64 a, .int .i64 (M : Nat), .slice A n cp] 32 (0, 0))) [.int .u8 k2, .int .i64 a2, .int .i64 (M2 : Nat), .slice A2 n2 cp2] 32
  replace hb := hb.alloc hb.size (.cells #[.int .u8 k2, .int .i64 a2, .int .i64 (M2 : Nat), .slice A2 n2 cp2] 32 (0, 0))
  simp only [World.size_alloc] at G G2
  obtain ⟨c0, c1, c2, c3, c4, c5⟩ := B.all
  obtain ⟨g0, g1, g2, g3⟩ := G.all4
  obtain ⟨g02, g12, g22, g32⟩ := G2.all4
  go_enter Try.func5, Try.ntmps5
  simp only [el] at h1
  simp only [el2] at hl2
  have elH := Lib.hid el
  have elH2 := Lib.hid el2
  clear el el2
  go_wp2_with (first
    | (go_at_call 14; refine (ka _).mono ?_; rintro e w2 ⟨rfl, hb2⟩; replace hb := hb.trans (hb2.mono hb.size); clear c0 c1 c2 c3 c4 c5 g0 g1 g2 g3 g02 g12 g22 g32; replace B := B.below hb2 (Nat.le_refl _); replace G := G.below hb2 (Nat.le_refl _); replace G2 := G2.below hb2 (Nat.le_refl _); clear hb2; obtain ⟨c0, c1, c2, c3, c4, c5⟩ := B.all; obtain ⟨g0, g1, g2, g3⟩ := G.all4; obtain ⟨g02, g12, g22, g32⟩ := G2.all4; have blt := B.lt; have glt := G.lt; have glt2 := G2.lt)
    | (go_at_call 10; (with_reducible refine (h1 _).mono ?_); rintro e w9 ⟨A3, C3, rfl, K1, hb2⟩; replace hb := hb.trans (hb2.mono hb.size); clear c0 c1 c2 c3 c4 c5 g0 g1 g2 g3 g02 g12 g22 g32; replace B := B.below hb2 (Nat.le_refl _); replace G := G.below hb2 (Nat.le_refl _); replace G2 := G2.below hb2 (Nat.le_refl _); clear hb2; obtain ⟨c0, c1, c2, c3, c4, c5⟩ := B.all; obtain ⟨g0, g1, g2, g3⟩ := G.all4; obtain ⟨g02, g12, g22, g32⟩ := G2.all4; have blt := B.lt; have glt := G.lt; have glt2 := G2.lt)
    | (go_at_call 10; (with_reducible refine (hl2 _).mono ?_); rintro e w9 ⟨A4, C4, rfl, K2, hb2⟩; replace K1 := K1.below hb2 (Nat.le_refl _); replace hb := hb.trans (hb2.mono hb.size); clear c0 c1 c2 c3 c4 c5 g0 g1 g2 g3 g02 g12 g22 g32; replace B := B.below hb2 (Nat.le_refl _); replace G := G.below hb2 (Nat.le_refl _); replace G2 := G2.below hb2 (Nat.le_refl _); clear hb2; obtain ⟨c0, c1, c2, c3, c4, c5⟩ := B.all; obtain ⟨g0, g1, g2, g3⟩ := G.all4; obtain ⟨g02, g12, g22, g32⟩ := G2.all4; have blt := B.lt; have glt := G.lt; have glt2 := G2.lt)
    | (go_at_call 12; (with_reducible refine (ht _).mono ?_); rintro e w9 ⟨rfl, hb2⟩; replace K1 := K1.below hb2 (Nat.le_refl _); replace K2 := K2.below hb2 (Nat.le_refl _); replace hb := hb.trans (hb2.mono hb.size); clear c0 c1 c2 c3 c4 c5 g0 g1 g2 g3 g02 g12 g22 g32; replace B := B.below hb2 (Nat.le_refl _); replace G := G.below hb2 (Nat.le_refl _); replace G2 := G2.below hb2 (Nat.le_refl _); clear hb2; obtain ⟨c0, c1, c2, c3, c4, c5⟩ := B.all; obtain ⟨g0, g1, g2, g3⟩ := G.all4; obtain ⟨g02, g12, g22, g32⟩ := G2.all4; have blt := B.lt; have glt := G.lt; have glt2 := G2.lt)
    | (go_at_call 20; (with_reducible refine (hs _).mono ?_); rintro e w9 ⟨rfl, hb2⟩; replace K1 := K1.below hb2 (Nat.le_refl _); replace K2 := K2.below hb2 (Nat.le_refl _); replace hb := hb.trans (hb2.mono hb.size); clear c0 c1 c2 c3 c4 c5 g0 g1 g2 g3 g02 g12 g22 g32; replace B := B.below hb2 (Nat.le_refl _); replace G := G.below hb2 (Nat.le_refl _); replace G2 := G2.below hb2 (Nat.le_refl _); clear hb2; obtain ⟨c0, c1, c2, c3, c4, c5⟩ := B.all; obtain ⟨g0, g1, g2, g3⟩ := G.all4; obtain ⟨g02, g12, g22, g32⟩ := G2.all4; have blt := B.lt; have glt := G.lt; have glt2 := G2.lt))
  have hw9 := Below.refl w9.heap.size w9
  clear h1 hl2 ht hs
  clear c0 c1 c2 c3 c4 c5 g0 g1 g2 g3 g02 g12 g22 g32
  go_loopg [16, 17] M (fun r s16 s17 wr => ∃ i : Nat, i + r = M ∧ s16 = .bool (hitB (l.take i) l2) ∧ s17 = .int .i64 i ∧ Below w9.heap.size w9 wr)
  case atStart => exact ⟨0, by omega, rfl, rfl, hw9⟩
  case round =>
    obtain ⟨i, hi, rfl, rfl, hbk⟩ := hrel
    clear hw9
    by_cases hiM : i < M
    · obtain ⟨b1, o1, rfl, k1⟩ := K1.at_below hbk hiM
      obtain ⟨x, ex⟩ : ∃ x : Int, a + (i : Int) = x := ⟨_, rfl⟩
      have ex2 : l.getD i 0 = x := by rw [hl.out, ← ex]; exact rng_at hiM
      have F : Hid (l.take (i + 1) = l.take i ++ [x]) := by rw [← ex2]; exact take_snoc (by rw [elH.out]; exact hiM)
      have F2 : Hid (hitB (l.take (i + 1)) l2 = (hitB (l.take i) l2 || hitB [x] l2)) := by rw [F.out]; exact hitB_left _ _ _
      rw [ex2] at k1
      have hin' := hin (by omega)
      have d0 : decide (x < 0) = false := decide_eq_false (by omega)
      have d1 : decide ((N : Int) ≤ x) = false := decide_eq_false (by omega)
      have ex3 : IntKind.i64.wrap (a + (i : Int)) = x := by rw [IntWalk.i64_left, wrap64_in (by omega) (by omega)]; exact ex
      clear ex2 F hin
      replace G := G.below hbk (Nat.le_refl _)
      obtain ⟨g0, g1, g2, g3⟩ := G.all4
      generalize hitB (l.take i) l2 = c0 at *
      go_wp2_with fail
      go_quiet (fail)
      go_wp2_with fail
      generalize hwd : World.drewN wr _ = wd at *
      have hbd : Below w9.heap.size w9 wd := by rw [← hwd]; exact below_drewN hbk _
      have k1d : wd.cell? ⟨b1, o1 + i, none⟩ = some (.int .i64 x) := by rw [← hwd]; exact k1
      clear hwd k1 hbk g0 g1 g2 g3 d0 d1 ex ex3 hin'
      have hwd0 := Below.refl wd.heap.size wd
      go_loopg [16, 18] M2 (fun r s16 s18 wq => ∃ j : Nat, j + r = M2 ∧ s16 = .bool (c0 || hitB [x] (l2.take j)) ∧ s18 = .int .i64 j ∧ Below wd.heap.size wd wq)
      case atStart => exact ⟨0, by omega, by rw [List.take_zero, hitB_nil, Bool.or_false], rfl, hwd0⟩
      case round =>
        obtain ⟨j, hj, rfl, rfl, hbq⟩ := hrel
        clear hwd0
        have hbq9 := hbd.trans (hbq.mono hbd.size)
        by_cases hjM : j < M2
        · obtain ⟨b2, o2, rfl, k2⟩ := K2.at_below hbq9 hjM
          have kk1 : wr.cell? ⟨b1, o1 + i, none⟩ = some (.int .i64 x) := by rw [hbq.cell (p := ⟨b1, o1 + i, none⟩) (cell_lt k1d)]; exact k1d
          have E : Hid (l2.take (j + 1) = l2.take j ++ [l2.getD j 0]) := take_snoc (by rw [elH2.out]; exact hjM)
          have E2 : Hid ((c0 || hitB [x] (l2.take (j + 1))) = ((c0 || hitB [x] (l2.take j)) || (x == l2.getD j 0))) := by refine Lib.hid ?_; rw [E.out, hitB_right, Bool.or_assoc]
          clear E
          generalize l2.getD j 0 = y at *
          generalize (c0 || hitB [x] (l2.take j)) = d at *
          cases d
          · by_cases hxy : x = y
            · subst hxy
              go_wp2_with fail
              go_quiet (fail)
              go_wp2
              go_roundg (M2 - (j + 1))
              case measure => omega
              case rel => exact ⟨j + 1, by omega, by rw [E2.out]; simp, by go_num, below_drewN hbq _⟩
            · have hxb : (x == y) = false := by simpa using hxy
              go_wp2_with fail
              go_quiet (fail)
              go_wp2
              go_roundg (M2 - (j + 1))
              case measure => omega
              case rel => exact ⟨j + 1, by omega, by rw [E2.out, hxb]; rfl, by go_num, below_drewN hbq _⟩
          · go_wp2_with fail
            go_quiet (fail)
            go_wp2
            go_roundg (M2 - (j + 1))
            case measure => omega
            case rel => exact ⟨j + 1, by omega, by rw [E2.out]; rfl, by go_num, below_drewN hbq _⟩
        · obtain rfl : j = M2 := by omega
          have E : Hid (hitB [x] (l2.take j) = hitB [x] l2) := by refine Lib.hid ?_; rw [List.take_of_length_le (by rw [elH2.out]; exact Nat.le_refl _)]
          rw [E.out]
          clear E
          generalize hq : (c0 || hitB [x] l2) = c1 at *
          go_wp2
          go_roundg (M - (i + 1))
          case measure => omega
          case rel => exact ⟨i + 1, by omega, by rw [F2.out], by go_num, hbq9⟩
    · obtain rfl : i = M := by omega
      have F : Hid (hitB (l.take i) l2 = c) := by rw [List.take_of_length_le (by rw [elH.out]; exact Nat.le_refl _)]; exact hcc.out
      rw [F.out]
      clear F K1 K2
      replace hb := hb.trans (hbk.mono hb.size)
      replace B := B.below hbk (Nat.le_refl _)
      replace G := G.below hbk (Nat.le_refl _)
      replace G2 := G2.below hbk (Nat.le_refl _)
      obtain ⟨c0, c1, c2, c3, c4, c5⟩ := B.all
      obtain ⟨g0, g1, g2, g3⟩ := G.all4
      obtain ⟨g02, g12, g22, g32⟩ := G2.all4
      cases c
      all_goals
        go_wp2_with (first
        | (go_at_call 21; (with_reducible refine (r1 _).mono ?_); rintro e w8 ⟨rfl, rfl⟩)
        | (go_at_call 21; (with_reducible refine (r2 _).mono ?_); rintro e w8 ⟨rfl, rfl⟩))
        go_ret
        exact ⟨rfl, hb⟩

theorem splitAll_walk (w : World) (c : Cfg) (_hw : Wide c) (k a mn : Int) (A : Option Addr) (n cp : Nat) (zs : List Int) (wk : (Lit.int .u8 k).wf = true) (wa : (Lit.int .i64 a).wf = true) (wm : (Lit.int .i64 mn).wf = true) (I : Ints .u8 w A n zs) (hcp : n ≤ cp) (k2 a2 mn2 : Int) (A2 : Option Addr) (n2 cp2 : Nat) (zs2 : List Int) (wk2 : (Lit.int .u8 k2).wf = true) (wa2 : (Lit.int .i64 a2).wf = true) (wm2 : (Lit.int .i64 mn2).wf = true) (I2 : Ints .u8 w A2 n2 zs2) (hcp2 : n2 ≤ cp2) : Calls Try.prog 5 #[cfgV c, askV k a mn A n cp, askV k2 a2 mn2 A2 n2 cp2] w fun e w' => e = .returned (.bool true) ∧ Below w.heap.size w w' := by
  have ka := fun W => alive8_calls W
  have hk := (bounds_u8 wk).1
  have hk2 := (bounds_u8 wk2).1
  by_cases g1 : 5000 < n
  · exact all_g1 _ _ _ _ _ _ k a mn k2 a2 mn2 A A2 n cp n2 cp2 ka g1 w
  by_cases g2 : 5000 < n2
  · exact all_g2 _ _ _ _ _ _ k a mn k2 a2 mn2 A A2 n cp n2 cp2 ka (by omega) g2 w
  have h1 := fun W => splitBlocks c k a mn hk A n cp W
  have h2 := fun W => splitBlocks c k2 a2 mn2 hk2 A2 n2 cp2 W
  have ht := fun W => splitTouch c k a mn hk A n cp k2 a2 mn2 hk2 A2 n2 cp2 W
  have g1' : n ≤ 5000 := by omega
  have g2' : n2 ≤ 5000 := by omega
  by_cases e1 : chkA c k a mn n = 0
  · by_cases e2 : chkA c k2 a2 mn2 n2 = 0
    · obtain ⟨hM, _, _⟩ := chkA_zero e1
      obtain ⟨b0, b1, b2, b3, _, _, b6⟩ := chkA_box e1
      obtain ⟨d0, d1, d2, d3, _, _, d6⟩ := chkA_box e2
      have hs := fun W => blocks_told c W
      simp only [numC_may hM, chkC_may hM] at hs
      have hN := blkC_box hM
      obtain ⟨N, eN⟩ : ∃ N : Nat, blkC c = N := ⟨(blkC c).toNat, by omega⟩
      rw [eN] at hs hN b6
      obtain ⟨M, rfl⟩ : ∃ M : Nat, mn = M := ⟨mn.toNat, by omega⟩
      obtain ⟨M2, rfl⟩ : ∃ M2 : Nat, mn2 = M2 := ⟨mn2.toNat, by omega⟩
      rw [e1] at h1
      rw [e2] at h2
      simp only [blkL_0, Int.toNat_natCast] at h1 h2
      have r1 := fun W => writes8_calls k W
      have r2 := fun W => writes8_calls k2 W
      have eT : touB 0 0 (kWr k || kWr k2) (rng a M) (rng a2 M2) = ((kWr k || kWr k2) && hitB (rng a M) (rng a2 M2)) := by unfold touB; rw [if_pos ⟨rfl, rfl⟩]
      simp only [e1, e2, show touE 0 0 = 0 from rfl, blkL_0, Int.toNat_natCast, eT] at ht
      have hin : 1 ≤ M → a + (M : Int) ≤ N := fun q => b6 (by omega)
      clear eT
      generalize kWr k = x at *
      generalize kWr k2 = y at *
      cases x <;> cases y
      · exact all_ff _ _ _ _ _ _ k a k2 a2 A A2 n cp n2 cp2 ka M M2 N (by omega) (by omega) (by omega) b2 b3 hin g1' g2' _ _ _ (rng_len _ _) (rng_len _ _) (Lib.hid rfl) (Lib.hid rfl) h1 h2 ht hs r1 r2 w
      · exact all_ft _ _ _ _ _ _ k a k2 a2 A A2 n cp n2 cp2 ka M M2 N (by omega) (by omega) (by omega) b2 b3 hin g1' g2' _ _ _ (rng_len _ _) (rng_len _ _) (Lib.hid rfl) (Lib.hid rfl) h1 h2 ht hs r1 r2 w
      · exact all_tf _ _ _ _ _ _ k a k2 a2 A A2 n cp n2 cp2 ka M M2 N (by omega) (by omega) (by omega) b2 b3 hin g1' g2' _ _ _ (rng_len _ _) (rng_len _ _) (Lib.hid rfl) (Lib.hid rfl) h1 h2 ht hs r1 r2 w
      · exact all_tt _ _ _ _ _ _ k a k2 a2 A A2 n cp n2 cp2 ka M M2 N (by omega) (by omega) (by omega) b2 b3 hin g1' g2' _ _ _ (rng_len _ _) (rng_len _ _) (Lib.hid rfl) (Lib.hid rfl) h1 h2 ht hs r1 r2 w
    · have eT : ∀ x l l2, touB (chkA c k a mn n) (chkA c k2 a2 mn2 n2) x l l2 = false := fun x l l2 => by unfold touB; rw [if_neg (fun q => e2 q.2)]
      have eE : touE (chkA c k a mn n) (chkA c k2 a2 mn2 n2) = chkA c k2 a2 mn2 n2 := by unfold touE; rw [if_pos e1]
      simp only [eT, eE] at ht
      rw [e1] at h1
      exact all_e2 _ _ _ _ _ _ k a mn k2 a2 mn2 A A2 n cp n2 cp2 ka g1' g2' _ _ _ (by simpa using e2) (by simpa using e2) h1 h2 ht w
  · have eT : ∀ x l l2, touB (chkA c k a mn n) (chkA c k2 a2 mn2 n2) x l l2 = false := fun x l l2 => by unfold touB; rw [if_neg (fun q => e1 q.1)]
    have eE : touE (chkA c k a mn n) (chkA c k2 a2 mn2 n2) = chkA c k a mn n := by unfold touE; rw [if_neg e1]
    simp only [eT, eE] at ht
    exact all_e1 _ _ _ _ _ _ k a mn k2 a2 mn2 A A2 n cp n2 cp2 ka g1' g2' _ _ _ _ (by simpa using e1) (by simpa using e1) h1 h2 ht w


namespace splitAll
set_option linter.unusedVariables false
set_option maxRecDepth 100000 in
theorem lifted (os : Os) (started : os.Started) (H : Type) (enc : TypeId × Value → H) :
    ReturnsInHanded {} Try.checked os 5 .any (Rows.splitAllSpec.pre6 enc Try.prog Try.f5 Rows.splitAllRow.domain false) (Rows.splitAllSpec.post enc Try.prog Try.f5 false true false false) := by
  refine returnsInHanded_of_change (C := Try.checked) Try.own started (by kernel_rfl) Try.func5
    (ChangeSpec.witness6 (enc := enc) (C := Try.checked) false ⟨#[], #[.agg #[.int .u32 0, .int .i64 0, .int .i64 0, .int .i64 0, .int .i64 0, .int .i64 0], .agg #[.int .u8 0, .int .i64 0, .int .i64 0, .slice none 0 0], .agg #[.int .u8 0, .int .i64 0, .int .i64 0, .slice none 0 0]], []⟩ 8 (by kernel_rfl) (by kernel_rfl) (by kernel_rfl) (by kernel_rfl)) ?_
  intro W base args ds gs before hval0 hW hcnd _
  have hval : ∀ (j : Nat) t v, Try.f5.params[j]? = some t → args[j]? = some v → Value.okWide Try.prog W .any base t v := hval0
  have hW' := hW
  obtain ⟨p, q, hA0, hV, rfl, hfz, hnd⟩ := hW
  have hA : DataW.TrodAll enc Try.prog W 0 (fun _ => true) true Try.f5.params.toList args.toList ds p := hA0
  rw [Try.params5] at hA hval
  obtain ⟨v0, vs0, d0, ds0, p0, q0, hargs, rfl, rfl, h0, r0⟩ := trodAll_cons hA
  obtain ⟨v1, vs1, d1, ds1, p1, q1, rfl, rfl, rfl, h1, r1⟩ := trodAll_cons r0
  obtain ⟨v2, vs2, d2, ds2, p2, q2, rfl, rfl, rfl, h2, r2⟩ := trodAll_cons r1
  obtain ⟨rfl, rfl, rfl⟩ := trodAll_nil r2
  obtain rfl : args = #[v0, v1, v2] := by cases args; simp_all
  obtain ⟨rfl, rfl⟩ := trodVars_none hV
  have k0 := h0
  have lt0 : ∀ x ∈ p0, x.block < W.heap.size := by obtain ⟨m, hm⟩ := k0; exact DataW.trod_lt m _ _ _ hm
  obtain ⟨z0, rfl, w0⟩ := cfg_in (hval 0 24 v0 rfl rfl) h0
  have k1 := h1
  have lt1 : ∀ x ∈ p1, x.block < W.heap.size := by obtain ⟨m, hm⟩ := k1; exact DataW.trod_lt m _ _ _ hm
  obtain ⟨kd1, at1, mn1, a1, len1, cap1, z1, rfl, wk1, wa1, wm1, w1, c1⟩ := ask_in (hval 1 32 v1 rfl rfl) h1
  have k2 := h2
  have lt2 : ∀ x ∈ p2, x.block < W.heap.size := by obtain ⟨m, hm⟩ := k2; exact DataW.trod_lt m _ _ _ hm
  obtain ⟨kd2, at2, mn2, a2, len2, cap2, z2, rfl, wk2, wa2, wm2, w2, c2⟩ := ask_in (hval 2 32 v2 rfl rfl) h2
  clear hA0 hval0
  refine (splitAll_walk W z0 w0 kd1 at1 mn1 a1 len1 cap1 z1 wk1 wa1 wm1 w1 c1 kd2 at2 mn2 a2 len2 cap2 z2 wk2 wa2 wm2 w2 c2).mono fun e W' ⟨he, bel⟩ => ?_
  subst he
  exact ⟨_, rfl, _, _, _, [], _, [], hW', trodAll_mk1 (shut_bool Try.underlying4 _), (trodAll_cons_mk (Below.trod Try.laidOut (by kernel_rfl) (of_decide_eq_true (by kernel_rfl)) k0 bel lt0) (trodAll_cons_mk (Below.trod Try.laidOut (by kernel_rfl) (of_decide_eq_true (by kernel_rfl)) k1 bel lt1) (trodAll_cons_mk (Below.trod Try.laidOut (by kernel_rfl) (of_decide_eq_true (by kernel_rfl)) k2 bel lt2) trodAll_mk0))), rfl, bel.frame _, fun h => by cases h⟩

theorem holds : Rows.SplitAllSaid :=
  OpenClaim.holds_of_wide 5 Try.f5 rfl rfl rfl rfl rfl rfl rfl ⟨rfl, rfl, rfl, rfl, rfl⟩ rfl rfl rfl rfl rfl (by kernel_rfl) Try.func5 (by kernel_rfl)
    (of_decide_eq_true (by kernel_rfl)) (by unfold Func.isWrapper; first | (rw [if_pos (by decide +kernel)]; kernel_rfl) | (rw [if_neg (by decide +kernel)]; exact ⟨rfl, rfl⟩))
    (fun os started H enc _ => lifted os started H enc)
end splitAll
end Go.Proofs.Ytkjgmopgibpkjaa
