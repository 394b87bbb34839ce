/- The walks of package split: traitsOf, placed, writes, Check. -/
import Derived.Test.YtkjgmopgibpkjaaSplitMath
import Derived.Test.YtkjgmopgibpkjaaShapeCheck
import Derived.Test.YtkjgmopgibpkjaaBoxes
import Derived.Test.YtkjgmopgibpkjaaAsk
import Derived.BigQuiet
namespace Go.Proofs.Ytkjgmopgibpkjaa
open Go.RowKit ShapeM SplitM
set_option linter.unusedVariables false

/-- A kind's traits as a value. -/
def trV (b : Bool) (y : Int) (w : Bool) : Value := .agg #[.bool b, .int .i64 y, .bool w]
set_option maxRecDepth 100000 in
set_option maxHeartbeats 4000000 in
theorem traits_calls (k : Int) (hk : 0 ≤ k) (w : World) : Calls Try.prog 24 #[.int .u8 k] w fun e w' => e = .returned (.tuple #[trV (kBlk k) (kByt k) (kWr k), .bool (kOk k)]) ∧ Below w.heap.size w w' := by
  have hb : Below w.heap.size w (w.alloc (.cells #[.bool false, .int .i64 0, .bool false] 54 (0, 0))) := (Below.refl _ _).alloc (Nat.le_refl _) _
  have D := CellsAt.new w [.bool false, .int .i64 0, .bool false] 54
  obtain ⟨d0, d1, d2⟩ := D.all3
  have df := D.fr
  rcases kinds k with rfl | rfl | rfl | rfl | rfl | rfl | ⟨k1, k2, k3, k4, k5, k6, q1, q2, q3, q4, q5, q6⟩
  iterate 6
    · go_enter Try.func24, Try.ntmps24
      go_wp2
      exact bodyPost_ret (v := .tuple #[.agg #[.bool (kBlk _), .int .i64 (kByt _), .bool (kWr _)], .bool (kOk _)]) (by simp [results, Try.results24, go_sem, d0, d1, d2, kBlk, kByt, kWr, kOk]) rfl ⟨rfl, (Below.refl _ _).alloc (Nat.le_refl _) _⟩
  · rw [q1, q2, q3, q6 hk]
    go_enter Try.func24, Try.ntmps24
    go_wp2
    exact bodyPost_ret (v := .tuple #[.agg #[.bool false, .int .i64 0, .bool false], .bool false]) (by simp [results, Try.results24, go_sem, d0, d1, d2]) rfl ⟨rfl, (Below.refl _ _).alloc (Nat.le_refl _) _⟩
set_option maxRecDepth 100000 in
set_option maxHeartbeats 4000000 in
theorem placed_calls (k a mn : Int) (A : Option Addr) (n cp : Nat) (N : Nat) (hN : N ≤ 960) (y : Int) (wr : Bool) (w : World) : Calls Try.prog 25 #[trV (kBlk k) y wr, askV k a mn A n cp, .int .i64 (N : Nat)] w fun e w' => e = .returned (.bool (plB k a mn N)) ∧ Below w.heap.size w w' := by
  have hp : plB k a mn N = if kBlk k then decide (1 ≤ mn ∧ mn ≤ 8 ∧ 0 ≤ a ∧ a ≤ (N : Int) - mn) else decide (a = 0 ∧ mn = 0) := rfl
  rw [hp]
  clear hp
  unfold trV askV
  generalize kBlk k = bb
  have D := (CellsAt.new w [.bool bb, .int .i64 y, .bool wr] 54).alloc (.cells #[.int .u8 k, .int .i64 a, .int .i64 mn, .slice A n cp] 32 (0, 0))
  have G := CellsAt.new (w.alloc (.cells #[.bool bb, .int .i64 y, .bool wr] 54 (0, 0))) [.int .u8 k, .int .i64 a, .int .i64 mn, .slice A n cp] 32
  simp only [World.size_alloc] at G
  have hb : Below w.heap.size w ((w.alloc (.cells #[.bool bb, .int .i64 y, .bool wr] 54 (0, 0))).alloc (.cells #[.int .u8 k, .int .i64 a, .int .i64 mn, .slice A n cp] 32 (0, 0))) := ((Below.refl _ _).alloc (Nat.le_refl _) _).alloc (by simp) _
  obtain ⟨d0, d1, d2⟩ := D.all3
  obtain ⟨g0, g1, g2, g3⟩ := G.all4
  cases bb
  · have hx : ((a == 0) = true ∧ (mn == 0) = true ∧ Hid (decide (a = 0 ∧ mn = 0) = true)) ∨ ((a == 0) = true ∧ (mn == 0) = false ∧ Hid (decide (a = 0 ∧ mn = 0) = false)) ∨ ((a == 0) = false ∧ Hid (decide (a = 0 ∧ mn = 0) = false)) := by
      by_cases q0 : a = 0
      · by_cases q1 : mn = 0
        · exact .inl ⟨by simpa using q0, by simpa using q1, Lib.hid (decide_eq_true ⟨q0, q1⟩)⟩
        · exact .inr (.inl ⟨by simpa using q0, by simpa using q1, Lib.hid (decide_eq_false fun h => q1 h.2)⟩)
      · exact .inr (.inr ⟨by simpa using q0, Lib.hid (decide_eq_false fun h => q0 h.1)⟩)
    rw [if_neg (by decide)]
    rcases hx with ⟨q0, q1, E⟩ | ⟨q0, q1, E⟩ | ⟨q0, E⟩
    all_goals
      rw [E.out]
      clear E
      go_enter Try.func25, Try.ntmps25
      go_wp2
      go_ret
      refine ⟨?_, hb⟩
      first
        | rfl
        | exact ret_bool (decide_eq_false (by omega))
        | exact ret_bool (decide_eq_true (by omega))
  · have hx : (mn < 1 ∧ Hid (decide (1 ≤ mn ∧ mn ≤ 8 ∧ 0 ≤ a ∧ a ≤ (N : Int) - mn) = false)) ∨ (1 ≤ mn ∧ 8 < mn ∧ Hid (decide (1 ≤ mn ∧ mn ≤ 8 ∧ 0 ≤ a ∧ a ≤ (N : Int) - mn) = false)) ∨ (1 ≤ mn ∧ mn ≤ 8 ∧ a < 0 ∧ Hid (decide (1 ≤ mn ∧ mn ≤ 8 ∧ 0 ≤ a ∧ a ≤ (N : Int) - mn) = false)) ∨ (1 ≤ mn ∧ mn ≤ 8 ∧ 0 ≤ a ∧ (N : Int) - mn < a ∧ Hid (decide (1 ≤ mn ∧ mn ≤ 8 ∧ 0 ≤ a ∧ a ≤ (N : Int) - mn) = false)) ∨ (1 ≤ mn ∧ mn ≤ 8 ∧ 0 ≤ a ∧ a ≤ (N : Int) - mn ∧ Hid (decide (1 ≤ mn ∧ mn ≤ 8 ∧ 0 ≤ a ∧ a ≤ (N : Int) - mn) = true)) := by
      by_cases q0 : mn < 1
      · exact .inl ⟨q0, Lib.hid (decide_eq_false (by omega))⟩
      by_cases q1 : 8 < mn
      · exact .inr (.inl ⟨by omega, q1, Lib.hid (decide_eq_false (by omega))⟩)
      by_cases q2 : a < 0
      · exact .inr (.inr (.inl ⟨by omega, by omega, q2, Lib.hid (decide_eq_false (by omega))⟩))
      by_cases q3 : (N : Int) - mn < a
      · exact .inr (.inr (.inr (.inl ⟨by omega, by omega, by omega, q3, Lib.hid (decide_eq_false (by omega))⟩)))
      · exact .inr (.inr (.inr (.inr ⟨by omega, by omega, by omega, by omega, Lib.hid (decide_eq_true (by omega))⟩)))
    rw [if_pos (by decide)]
    rcases hx with ⟨q0, E⟩ | ⟨q0, q1, E⟩ | ⟨q0, q1, q2, E⟩ | ⟨q0, q1, q2, q3, E⟩ | ⟨q0, q1, q2, q3, E⟩
    all_goals
      rw [E.out]
      clear E
      go_enter Try.func25, Try.ntmps25
      go_wp2
      go_ret
      refine ⟨?_, hb⟩
      first
        | rfl
        | exact ret_bool (decide_eq_false (by omega))
        | exact ret_bool (decide_eq_true (by omega))
set_option maxRecDepth 100000 in
set_option maxHeartbeats 4000000 in
theorem writes_calls (k a mn : Int) (hk : 0 ≤ k) (A : Option Addr) (n cp : Nat) (w : World) : Calls Try.prog 22 #[askV k a mn A n cp] w fun e w' => e = .returned (.bool (kWr k)) ∧ Below w.heap.size w w' := by
  have ht := fun W => traits_calls k hk W
  unfold trV askV at *
  generalize kBlk k = b1 at *
  generalize kByt k = y1 at *
  generalize kOk k = o1 at *
  generalize kWr k = w1 at *
  have G := CellsAt.new w [.int .u8 k, .int .i64 a, .int .i64 mn, .slice A n cp] 32
  have hb : Below w.heap.size w (w.alloc (.cells #[.int .u8 k, .int .i64 a, .int .i64 mn, .slice A n cp] 32 (0, 0))) := (Below.refl _ _).alloc (Nat.le_refl _) _
  obtain ⟨g0, g1, g2, g3⟩ := G.all4
  go_enter Try.func22, Try.ntmps22
  go_wp2_with (first
    | (go_at_call 24; refine (ht _).mono ?_; rintro e w2 ⟨rfl, hb2⟩; replace hb := hb.trans (hb2.mono hb.size)))
  go_ret
  exact ⟨rfl, hb.alloc hb.size _⟩
set_option maxRecDepth 100000 in
set_option maxHeartbeats 4000000 in
theorem check_bad (id m ch ro lo he k a mn : Int) (A : Option Addr) (n cp : Nat) (hs : ∀ W, Calls Try.prog 20 #[.agg #[.int .u32 id, .int .i64 m, .int .i64 ch, .int .i64 ro, .int .i64 lo, .int .i64 he]] W fun e w' => e = .returned (.tuple #[.int .i64 0, .int .i64 8]) ∧ Below W.heap.size W w') (w : World) : Calls Try.prog 13 #[.agg #[.int .u32 id, .int .i64 m, .int .i64 ch, .int .i64 ro, .int .i64 lo, .int .i64 he], .agg #[.int .u8 k, .int .i64 a, .int .i64 mn, .slice A n cp]] w fun e w' => e = .returned (.int .i64 8) ∧ Below w.heap.size w w' := by
  have B := (Box6.new w (.int .u32 id) (.int .i64 m) (.int .i64 ch) (.int .i64 ro) (.int .i64 lo) (.int .i64 he) 24).alloc (.cells #[.int .u8 k, .int .i64 a, .int .i64 mn, .slice A n cp] 32 (0, 0))
  have G := CellsAt.new (w.alloc (.cells #[.int .u32 id, .int .i64 m, .int .i64 ch, .int .i64 ro, .int .i64 lo, .int .i64 he] 24 (0, 0))) [.int .u8 k, .int .i64 a, .int .i64 mn, .slice A n cp] 32
  simp only [World.size_alloc] at G
  have hb : Below w.heap.size w ((w.alloc (.cells #[.int .u32 id, .int .i64 m, .int .i64 ch, .int .i64 ro, .int .i64 lo, .int .i64 he] 24 (0, 0))).alloc (.cells #[.int .u8 k, .int .i64 a, .int .i64 mn, .slice A n cp] 32 (0, 0))) := ((Below.refl _ _).alloc (Nat.le_refl _) _).alloc (by simp) _
  obtain ⟨c0, c1, c2, c3, c4, c5⟩ := B.all
  obtain ⟨g0, g1, g2, g3⟩ := G.all4
  go_enter Try.func13, Try.ntmps13
  go_wp2_with (first
    | (go_at_call 20; refine (hs _).mono ?_; rintro e w2 ⟨rfl, hb2⟩; replace hb := hb.trans (hb2.mono hb.size); clear c0 c1 c2 c3 c4 c5 g0 g1 g2 g3; replace B := B.below hb2 (Nat.le_refl _); replace G := G.below hb2 (Nat.le_refl _); clear hb2; obtain ⟨c0, c1, c2, c3, c4, c5⟩ := B.all; obtain ⟨g0, g1, g2, g3⟩ := G.all4; have glt := G.lt; have blt := B.lt))
  go_ret
  exact ⟨rfl, hb⟩
set_option maxRecDepth 100000 in
set_option maxHeartbeats 4000000 in
theorem check_kind (id m ch ro lo he k a mn : Int) (A : Option Addr) (n cp : Nat) (N : Nat) (bb wr : Bool) (y : Int) (hs : ∀ W, Calls Try.prog 20 #[.agg #[.int .u32 id, .int .i64 m, .int .i64 ch, .int .i64 ro, .int .i64 lo, .int .i64 he]] W fun e w' => e = .returned (.tuple #[.int .i64 (N : Nat), .int .i64 0]) ∧ Below W.heap.size W w') (ht : ∀ W, Calls Try.prog 24 #[.int .u8 k] W fun e w' => e = .returned (.tuple #[.agg #[.bool bb, .int .i64 y, .bool wr], .bool false]) ∧ Below W.heap.size W w') (w : World) : Calls Try.prog 13 #[.agg #[.int .u32 id, .int .i64 m, .int .i64 ch, .int .i64 ro, .int .i64 lo, .int .i64 he], .agg #[.int .u8 k, .int .i64 a, .int .i64 mn, .slice A n cp]] w fun e w' => e = .returned (.int .i64 2) ∧ Below w.heap.size w w' := by
  have B := (Box6.new w (.int .u32 id) (.int .i64 m) (.int .i64 ch) (.int .i64 ro) (.int .i64 lo) (.int .i64 he) 24).alloc (.cells #[.int .u8 k, .int .i64 a, .int .i64 mn, .slice A n cp] 32 (0, 0))
  have G := CellsAt.new (w.alloc (.cells #[.int .u32 id, .int .i64 m, .int .i64 ch, .int .i64 ro, .int .i64 lo, .int .i64 he] 24 (0, 0))) [.int .u8 k, .int .i64 a, .int .i64 mn, .slice A n cp] 32
  simp only [World.size_alloc] at G
  have hb : Below w.heap.size w ((w.alloc (.cells #[.int .u32 id, .int .i64 m, .int .i64 ch, .int .i64 ro, .int .i64 lo, .int .i64 he] 24 (0, 0))).alloc (.cells #[.int .u8 k, .int .i64 a, .int .i64 mn, .slice A n cp] 32 (0, 0))) := ((Below.refl _ _).alloc (Nat.le_refl _) _).alloc (by simp) _
  obtain ⟨c0, c1, c2, c3, c4, c5⟩ := B.all
  obtain ⟨g0, g1, g2, g3⟩ := G.all4
  go_enter Try.func13, Try.ntmps13
  go_wp2_with (first
    | (go_at_call 20; refine (hs _).mono ?_; rintro e w2 ⟨rfl, hb2⟩; replace hb := hb.trans (hb2.mono hb.size); clear c0 c1 c2 c3 c4 c5 g0 g1 g2 g3; replace B := B.below hb2 (Nat.le_refl _); replace G := G.below hb2 (Nat.le_refl _); clear hb2; obtain ⟨c0, c1, c2, c3, c4, c5⟩ := B.all; obtain ⟨g0, g1, g2, g3⟩ := G.all4; have glt := G.lt; have blt := B.lt)
    | (go_at_call 24; refine (ht _).mono ?_; rintro e w2 ⟨rfl, hb2⟩; replace hb := hb.trans (hb2.mono hb.size); clear c0 c1 c2 c3 c4 c5 g0 g1 g2 g3; replace B := B.below hb2 (Nat.le_refl _); replace G := G.below hb2 (Nat.le_refl _); clear hb2; obtain ⟨c0, c1, c2, c3, c4, c5⟩ := B.all; obtain ⟨g0, g1, g2, g3⟩ := G.all4; have glt := G.lt; have blt := B.lt; have T := CellsAt.new w2 [.bool bb, .int .i64 y, .bool wr] 54; replace hb := hb.alloc hb.size (.cells #[.bool bb, .int .i64 y, .bool wr] 54 (0, 0)); replace B := B.alloc (.cells #[.bool bb, .int .i64 y, .bool wr] 54 (0, 0)); replace G := G.alloc (.cells #[.bool bb, .int .i64 y, .bool wr] 54 (0, 0)); clear c0 c1 c2 c3 c4 c5 g0 g1 g2 g3; obtain ⟨c0, c1, c2, c3, c4, c5⟩ := B.all; obtain ⟨g0, g1, g2, g3⟩ := G.all4; obtain ⟨t0, t1, t2⟩ := T.all3))
  go_ret
  exact ⟨rfl, hb⟩
set_option maxRecDepth 100000 in
set_option maxHeartbeats 4000000 in
theorem check_arg (id m ch ro lo he k a mn : Int) (A : Option Addr) (n cp : Nat) (N : Nat) (bb wr : Bool) (y : Int) (hs : ∀ W, Calls Try.prog 20 #[.agg #[.int .u32 id, .int .i64 m, .int .i64 ch, .int .i64 ro, .int .i64 lo, .int .i64 he]] W fun e w' => e = .returned (.tuple #[.int .i64 (N : Nat), .int .i64 0]) ∧ Below W.heap.size W w') (ht : ∀ W, Calls Try.prog 24 #[.int .u8 k] W fun e w' => e = .returned (.tuple #[.agg #[.bool bb, .int .i64 y, .bool wr], .bool true]) ∧ Below W.heap.size W w') (hp : ∀ W, Calls Try.prog 25 #[.agg #[.bool bb, .int .i64 y, .bool wr], .agg #[.int .u8 k, .int .i64 a, .int .i64 mn, .slice A n cp], .int .i64 (N : Nat)] W fun e w' => e = .returned (.bool false) ∧ Below W.heap.size W w') (w : World) : Calls Try.prog 13 #[.agg #[.int .u32 id, .int .i64 m, .int .i64 ch, .int .i64 ro, .int .i64 lo, .int .i64 he], .agg #[.int .u8 k, .int .i64 a, .int .i64 mn, .slice A n cp]] w fun e w' => e = .returned (.int .i64 2) ∧ Below w.heap.size w w' := by
  have B := (Box6.new w (.int .u32 id) (.int .i64 m) (.int .i64 ch) (.int .i64 ro) (.int .i64 lo) (.int .i64 he) 24).alloc (.cells #[.int .u8 k, .int .i64 a, .int .i64 mn, .slice A n cp] 32 (0, 0))
  have G := CellsAt.new (w.alloc (.cells #[.int .u32 id, .int .i64 m, .int .i64 ch, .int .i64 ro, .int .i64 lo, .int .i64 he] 24 (0, 0))) [.int .u8 k, .int .i64 a, .int .i64 mn, .slice A n cp] 32
  simp only [World.size_alloc] at G
  have hb : Below w.heap.size w ((w.alloc (.cells #[.int .u32 id, .int .i64 m, .int .i64 ch, .int .i64 ro, .int .i64 lo, .int .i64 he] 24 (0, 0))).alloc (.cells #[.int .u8 k, .int .i64 a, .int .i64 mn, .slice A n cp] 32 (0, 0))) := ((Below.refl _ _).alloc (Nat.le_refl _) _).alloc (by simp) _
  obtain ⟨c0, c1, c2, c3, c4, c5⟩ := B.all
  obtain ⟨g0, g1, g2, g3⟩ := G.all4
  go_enter Try.func13, Try.ntmps13
  go_wp2_with (first
    | (go_at_call 20; refine (hs _).mono ?_; rintro e w2 ⟨rfl, hb2⟩; replace hb := hb.trans (hb2.mono hb.size); clear c0 c1 c2 c3 c4 c5 g0 g1 g2 g3; replace B := B.below hb2 (Nat.le_refl _); replace G := G.below hb2 (Nat.le_refl _); clear hb2; obtain ⟨c0, c1, c2, c3, c4, c5⟩ := B.all; obtain ⟨g0, g1, g2, g3⟩ := G.all4; have glt := G.lt; have blt := B.lt)
    | (go_at_call 24; refine (ht _).mono ?_; rintro e w2 ⟨rfl, hb2⟩; replace hb := hb.trans (hb2.mono hb.size); clear c0 c1 c2 c3 c4 c5 g0 g1 g2 g3; replace B := B.below hb2 (Nat.le_refl _); replace G := G.below hb2 (Nat.le_refl _); clear hb2; obtain ⟨c0, c1, c2, c3, c4, c5⟩ := B.all; obtain ⟨g0, g1, g2, g3⟩ := G.all4; have glt := G.lt; have blt := B.lt; have T := CellsAt.new w2 [.bool bb, .int .i64 y, .bool wr] 54; replace hb := hb.alloc hb.size (.cells #[.bool bb, .int .i64 y, .bool wr] 54 (0, 0)); replace B := B.alloc (.cells #[.bool bb, .int .i64 y, .bool wr] 54 (0, 0)); replace G := G.alloc (.cells #[.bool bb, .int .i64 y, .bool wr] 54 (0, 0)); clear c0 c1 c2 c3 c4 c5 g0 g1 g2 g3; obtain ⟨c0, c1, c2, c3, c4, c5⟩ := B.all; obtain ⟨g0, g1, g2, g3⟩ := G.all4; obtain ⟨t0, t1, t2⟩ := T.all3)
    | (go_at_call 25; refine (hp _).mono ?_; rintro e w3 ⟨rfl, hb3⟩; replace hb := hb.trans (hb3.mono hb.size); clear c0 c1 c2 c3 c4 c5 g0 g1 g2 g3 t0 t1 t2; replace T := T.below hb3 (Nat.le_refl _); replace G := G.below hb3 (Nat.le_refl _); clear hb3; obtain ⟨g0, g1, g2, g3⟩ := G.all4; obtain ⟨t0, t1, t2⟩ := T.all3))
  go_ret
  exact ⟨rfl, hb⟩
set_option maxRecDepth 100000 in
set_option maxHeartbeats 4000000 in
theorem check_text (id m ch ro lo he k a mn : Int) (A : Option Addr) (n cp : Nat) (N : Nat) (bb wr : Bool) (y : Int) (q : Nat) (hq : mn * y = q) (hq2 : q ≤ 1024) (hn : ((n : Int) == (q : Int)) = false) (hs : ∀ W, Calls Try.prog 20 #[.agg #[.int .u32 id, .int .i64 m, .int .i64 ch, .int .i64 ro, .int .i64 lo, .int .i64 he]] W fun e w' => e = .returned (.tuple #[.int .i64 (N : Nat), .int .i64 0]) ∧ Below W.heap.size W w') (ht : ∀ W, Calls Try.prog 24 #[.int .u8 k] W fun e w' => e = .returned (.tuple #[.agg #[.bool bb, .int .i64 y, .bool wr], .bool true]) ∧ Below W.heap.size W w') (hp : ∀ W, Calls Try.prog 25 #[.agg #[.bool bb, .int .i64 y, .bool wr], .agg #[.int .u8 k, .int .i64 a, .int .i64 mn, .slice A n cp], .int .i64 (N : Nat)] W fun e w' => e = .returned (.bool true) ∧ Below W.heap.size W w') (w : World) : Calls Try.prog 13 #[.agg #[.int .u32 id, .int .i64 m, .int .i64 ch, .int .i64 ro, .int .i64 lo, .int .i64 he], .agg #[.int .u8 k, .int .i64 a, .int .i64 mn, .slice A n cp]] w fun e w' => e = .returned (.int .i64 3) ∧ Below w.heap.size w w' := by
  have B := (Box6.new w (.int .u32 id) (.int .i64 m) (.int .i64 ch) (.int .i64 ro) (.int .i64 lo) (.int .i64 he) 24).alloc (.cells #[.int .u8 k, .int .i64 a, .int .i64 mn, .slice A n cp] 32 (0, 0))
  have G := CellsAt.new (w.alloc (.cells #[.int .u32 id, .int .i64 m, .int .i64 ch, .int .i64 ro, .int .i64 lo, .int .i64 he] 24 (0, 0))) [.int .u8 k, .int .i64 a, .int .i64 mn, .slice A n cp] 32
  simp only [World.size_alloc] at G
  have hb : Below w.heap.size w ((w.alloc (.cells #[.int .u32 id, .int .i64 m, .int .i64 ch, .int .i64 ro, .int .i64 lo, .int .i64 he] 24 (0, 0))).alloc (.cells #[.int .u8 k, .int .i64 a, .int .i64 mn, .slice A n cp] 32 (0, 0))) := ((Below.refl _ _).alloc (Nat.le_refl _) _).alloc (by simp) _
  obtain ⟨c0, c1, c2, c3, c4, c5⟩ := B.all
  obtain ⟨g0, g1, g2, g3⟩ := G.all4
  go_enter Try.func13, Try.ntmps13
  go_wp2_with (first
    | (go_at_call 20; refine (hs _).mono ?_; rintro e w2 ⟨rfl, hb2⟩; replace hb := hb.trans (hb2.mono hb.size); clear c0 c1 c2 c3 c4 c5 g0 g1 g2 g3; replace B := B.below hb2 (Nat.le_refl _); replace G := G.below hb2 (Nat.le_refl _); clear hb2; obtain ⟨c0, c1, c2, c3, c4, c5⟩ := B.all; obtain ⟨g0, g1, g2, g3⟩ := G.all4; have glt := G.lt; have blt := B.lt)
    | (go_at_call 24; refine (ht _).mono ?_; rintro e w2 ⟨rfl, hb2⟩; replace hb := hb.trans (hb2.mono hb.size); clear c0 c1 c2 c3 c4 c5 g0 g1 g2 g3; replace B := B.below hb2 (Nat.le_refl _); replace G := G.below hb2 (Nat.le_refl _); clear hb2; obtain ⟨c0, c1, c2, c3, c4, c5⟩ := B.all; obtain ⟨g0, g1, g2, g3⟩ := G.all4; have glt := G.lt; have blt := B.lt; have T := CellsAt.new w2 [.bool bb, .int .i64 y, .bool wr] 54; replace hb := hb.alloc hb.size (.cells #[.bool bb, .int .i64 y, .bool wr] 54 (0, 0)); replace B := B.alloc (.cells #[.bool bb, .int .i64 y, .bool wr] 54 (0, 0)); replace G := G.alloc (.cells #[.bool bb, .int .i64 y, .bool wr] 54 (0, 0)); clear c0 c1 c2 c3 c4 c5 g0 g1 g2 g3; obtain ⟨c0, c1, c2, c3, c4, c5⟩ := B.all; obtain ⟨g0, g1, g2, g3⟩ := G.all4; obtain ⟨t0, t1, t2⟩ := T.all3)
    | (go_at_call 25; refine (hp _).mono ?_; rintro e w3 ⟨rfl, hb3⟩; replace hb := hb.trans (hb3.mono hb.size); clear c0 c1 c2 c3 c4 c5 g0 g1 g2 g3 t0 t1 t2; replace T := T.below hb3 (Nat.le_refl _); replace G := G.below hb3 (Nat.le_refl _); clear hb3; obtain ⟨g0, g1, g2, g3⟩ := G.all4; obtain ⟨t0, t1, t2⟩ := T.all3))
  go_ret
  exact ⟨rfl, hb⟩
set_option maxRecDepth 100000 in
set_option maxHeartbeats 4000000 in
theorem check_ok (id m ch ro lo he k a mn : Int) (A : Option Addr) (n cp : Nat) (N : Nat) (bb wr : Bool) (y : Int) (q : Nat) (hq : mn * y = q) (hq2 : q ≤ 1024) (hn : n = q) (hs : ∀ W, Calls Try.prog 20 #[.agg #[.int .u32 id, .int .i64 m, .int .i64 ch, .int .i64 ro, .int .i64 lo, .int .i64 he]] W fun e w' => e = .returned (.tuple #[.int .i64 (N : Nat), .int .i64 0]) ∧ Below W.heap.size W w') (ht : ∀ W, Calls Try.prog 24 #[.int .u8 k] W fun e w' => e = .returned (.tuple #[.agg #[.bool bb, .int .i64 y, .bool wr], .bool true]) ∧ Below W.heap.size W w') (hp : ∀ W, Calls Try.prog 25 #[.agg #[.bool bb, .int .i64 y, .bool wr], .agg #[.int .u8 k, .int .i64 a, .int .i64 mn, .slice A n cp], .int .i64 (N : Nat)] W fun e w' => e = .returned (.bool true) ∧ Below W.heap.size W w') (w : World) : Calls Try.prog 13 #[.agg #[.int .u32 id, .int .i64 m, .int .i64 ch, .int .i64 ro, .int .i64 lo, .int .i64 he], .agg #[.int .u8 k, .int .i64 a, .int .i64 mn, .slice A n cp]] w fun e w' => e = .returned (.int .i64 0) ∧ Below w.heap.size w w' := by
  have B := (Box6.new w (.int .u32 id) (.int .i64 m) (.int .i64 ch) (.int .i64 ro) (.int .i64 lo) (.int .i64 he) 24).alloc (.cells #[.int .u8 k, .int .i64 a, .int .i64 mn, .slice A n cp] 32 (0, 0))
  have G := CellsAt.new (w.alloc (.cells #[.int .u32 id, .int .i64 m, .int .i64 ch, .int .i64 ro, .int .i64 lo, .int .i64 he] 24 (0, 0))) [.int .u8 k, .int .i64 a, .int .i64 mn, .slice A n cp] 32
  simp only [World.size_alloc] at G
  have hb : Below w.heap.size w ((w.alloc (.cells #[.int .u32 id, .int .i64 m, .int .i64 ch, .int .i64 ro, .int .i64 lo, .int .i64 he] 24 (0, 0))).alloc (.cells #[.int .u8 k, .int .i64 a, .int .i64 mn, .slice A n cp] 32 (0, 0))) := ((Below.refl _ _).alloc (Nat.le_refl _) _).alloc (by simp) _
  obtain ⟨c0, c1, c2, c3, c4, c5⟩ := B.all
  obtain ⟨g0, g1, g2, g3⟩ := G.all4
  subst hn
  go_enter Try.func13, Try.ntmps13
  go_wp2_with (first
    | (go_at_call 20; refine (hs _).mono ?_; rintro e w2 ⟨rfl, hb2⟩; replace hb := hb.trans (hb2.mono hb.size); clear c0 c1 c2 c3 c4 c5 g0 g1 g2 g3; replace B := B.below hb2 (Nat.le_refl _); replace G := G.below hb2 (Nat.le_refl _); clear hb2; obtain ⟨c0, c1, c2, c3, c4, c5⟩ := B.all; obtain ⟨g0, g1, g2, g3⟩ := G.all4; have glt := G.lt; have blt := B.lt)
    | (go_at_call 24; refine (ht _).mono ?_; rintro e w2 ⟨rfl, hb2⟩; replace hb := hb.trans (hb2.mono hb.size); clear c0 c1 c2 c3 c4 c5 g0 g1 g2 g3; replace B := B.below hb2 (Nat.le_refl _); replace G := G.below hb2 (Nat.le_refl _); clear hb2; obtain ⟨c0, c1, c2, c3, c4, c5⟩ := B.all; obtain ⟨g0, g1, g2, g3⟩ := G.all4; have glt := G.lt; have blt := B.lt; have T := CellsAt.new w2 [.bool bb, .int .i64 y, .bool wr] 54; replace hb := hb.alloc hb.size (.cells #[.bool bb, .int .i64 y, .bool wr] 54 (0, 0)); replace B := B.alloc (.cells #[.bool bb, .int .i64 y, .bool wr] 54 (0, 0)); replace G := G.alloc (.cells #[.bool bb, .int .i64 y, .bool wr] 54 (0, 0)); clear c0 c1 c2 c3 c4 c5 g0 g1 g2 g3; obtain ⟨c0, c1, c2, c3, c4, c5⟩ := B.all; obtain ⟨g0, g1, g2, g3⟩ := G.all4; obtain ⟨t0, t1, t2⟩ := T.all3)
    | (go_at_call 25; refine (hp _).mono ?_; rintro e w3 ⟨rfl, hb3⟩; replace hb := hb.trans (hb3.mono hb.size); clear c0 c1 c2 c3 c4 c5 g0 g1 g2 g3 t0 t1 t2; replace T := T.below hb3 (Nat.le_refl _); replace G := G.below hb3 (Nat.le_refl _); clear hb3; obtain ⟨g0, g1, g2, g3⟩ := G.all4; obtain ⟨t0, t1, t2⟩ := T.all3))
  go_ret
  exact ⟨rfl, hb⟩

theorem byt_num {k m : Int} (h0 : 0 ≤ m) (h1 : m ≤ 8) : ∃ q : Nat, m * kByt k = q ∧ q ≤ 1024 := by
  unfold kByt
  split
  · exact ⟨(m * 128).toNat, by omega, by omega⟩
  · exact ⟨0, by omega, by omega⟩
theorem splitCheck (c : Cfg) (k a mn : Int) (hk : 0 ≤ k) (A : Option Addr) (n cp : Nat) (w : World) : Calls Try.prog 13 #[cfgV c, askV k a mn A n cp] w fun e w' => e = .returned (.int .i64 (chkA c k a mn n)) ∧ Below w.heap.size w w' := by
  have hs := fun W => blocks_told c W
  have ht := fun W => traits_calls k hk W
  by_cases h : MayC c
  · simp only [numC_may h, chkC_may h] at hs
    have hN := blkC_box h
    obtain ⟨N, eN⟩ : ∃ N : Nat, blkC c = N := ⟨(blkC c).toNat, by omega⟩
    rw [eN] at hs hN
    have hp := fun y wr W => placed_calls k a mn A n cp N (by omega) y wr W
    cases ok : kOk k
    · rw [chkA_arg h (by rw [ok, Bool.false_and])]
      simp only [ok] at ht
      exact check_kind _ _ _ _ _ _ k a mn A n cp N _ _ _ hs ht w
    · simp only [ok] at ht
      cases pl : plB k a mn N
      · rw [chkA_arg h (by rw [eN, pl, Bool.and_false])]
        simp only [pl] at hp
        exact check_arg _ _ _ _ _ _ k a mn A n cp N _ _ _ hs ht (hp _ _) w
      · simp only [pl] at hp
        have q0 := plB_box pl
        obtain ⟨q, hq, hq2⟩ := byt_num (k := k) q0.1 q0.2.1
        have hpl : (kOk k && plB k a mn (blkC c)) = true := by rw [ok, eN, pl]; rfl
        by_cases hn : n = q
        · rw [chkA_ok h hpl (by rw [hq, hn])]
          exact check_ok _ _ _ _ _ _ k a mn A n cp N _ _ _ q hq hq2 hn hs ht (hp _ _) w
        · rw [chkA_text h hpl (by rw [hq]; omega)]
          exact check_text _ _ _ _ _ _ k a mn A n cp N _ _ _ q hq hq2 (by simpa using (show ¬ (n : Int) = q by omega)) hs ht (hp _ _) w
  · rw [chkA_no h]
    simp only [numC_not h, chkC_not h] at hs
    exact check_bad _ _ _ _ _ _ k a mn A n cp hs w
end Go.Proofs.Ytkjgmopgibpkjaa
