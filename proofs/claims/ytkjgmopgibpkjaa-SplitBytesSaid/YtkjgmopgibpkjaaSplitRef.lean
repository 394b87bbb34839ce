/- The walks of the reference of layer 8: Bytes, Writes, whole, placed, Check, Blocks, Meet, Touch, Twin, Same. -/
import Derived.Test.YtkjgmopgibpkjaaSplitMath
import Derived.Test.YtkjgmopgibpkjaaShapeRef
import Derived.Test.YtkjgmopgibpkjaaBoxes
import Derived.Test.YtkjgmopgibpkjaaAsk
import Derived.Test.YtkjgmopgibpkjaaIntRow
import Derived.BigQuiet
import Derived.Deep.LoopGhost
namespace Go.Proofs.Ytkjgmopgibpkjaa
open Go.RowKit ShapeM SplitM
set_option linter.unusedVariables false

/-- The row of blocks stays while others are made. -/
theorem ownI_below {w w' : World} {base : Nat} {e : TypeId} {size : Nat} {v : Value} {n : Nat} {xs : List Value} (h : w.ownsRow base e size v n xs) (hb : Below w.heap.size w w') : w'.ownsRow base e size v n xs := by
  obtain ⟨h1, h2 | ⟨g, cap, cur, rfl, q1, q2, q3⟩⟩ := h
  · exact ⟨h1, .inl h2⟩
  · have hlt : g < w.heap.size := by
      rcases Nat.lt_or_ge g w.heap.size with q | q
      · exact q
      · rw [Array.getElem?_eq_none q] at q2; cases q2
    exact ⟨h1, .inr ⟨g, cap, cur, rfl, q1, by rw [hb.block _ hlt]; exact q2, q3⟩⟩
theorem rng_wfR {a : Int} {n : Nat} (h0 : 0 ≤ a) (h1 : a ≤ 1000000) (h2 : n ≤ 1000) : ∀ z ∈ rng a n, (Lit.int .i64 z).wf = true := fun z hz => by
  rw [rng_mem] at hz
  exact WalkArith.wf_i64 (by omega)
theorem Ints.off {k : IntKind} {w : World} {A : Option Addr} {n : Nat} {zs : List Int} (h : Ints k w A n zs) {p : Addr} {u : Value} (hp : ∀ x, A = some x → x.block ≠ p.block) : Ints k (w.setCell p u) A n zs := by
  refine ⟨h.len, h.max, h.wf, h.row.imp id ?_⟩
  rintro ⟨b, off, e, hlt, hc⟩
  refine ⟨b, off, e, by simpa using hlt, fun i hi => ?_⟩
  rw [World.cell?_setCell_other _ _ _ _ (fun q => hp _ e (by rw [q]))]
  exact hc i hi

set_option maxRecDepth 100000 in
set_option maxHeartbeats 4000000 in
theorem refBytes8 (k : Int) (w : World) : Calls Try.prog 29 #[.int .u8 k] w fun e w' => e = .returned (.bool (kBytB k)) ∧ w = w' := by
  rcases kinds k with rfl | rfl | rfl | rfl | rfl | rfl | ⟨k1, k2, k3, k4, k5, k6, q1, q2, q3, q4, q5, q6⟩
  iterate 6
    · go_enter Try.func29, Try.ntmps29
      go_wp2
      go_ret
      exact ⟨rfl, rfl⟩
  · rw [q4]
    go_enter Try.func29, Try.ntmps29
    go_wp2
    go_ret
    exact ⟨rfl, rfl⟩

set_option maxRecDepth 100000 in
set_option maxHeartbeats 4000000 in
theorem refWrites8 (k : Int) (w : World) : Calls Try.prog 32 #[.int .u8 k] w fun e w' => e = .returned (.bool (kWr k)) ∧ w = w' := by
  rcases kinds k with rfl | rfl | rfl | rfl | rfl | rfl | ⟨k1, k2, k3, k4, k5, k6, q1, q2, q3, q4, q5, q6⟩
  iterate 6
    · go_enter Try.func32, Try.ntmps32
      go_wp2
      go_ret
      exact ⟨rfl, rfl⟩
  · rw [q1]
    go_enter Try.func32, Try.ntmps32
    go_wp2
    go_ret
    exact ⟨rfl, rfl⟩

set_option maxRecDepth 100000 in
set_option maxHeartbeats 4000000 in
theorem refwhole8 (k : Int) (w : World) : Calls Try.prog 35 #[.int .u8 k] w fun e w' => e = .returned (.bool (kWhole k)) ∧ w = w' := by
  rcases kinds k with rfl | rfl | rfl | rfl | rfl | rfl | ⟨k1, k2, k3, k4, k5, k6, q1, q2, q3, q4, q5, q6⟩
  iterate 6
    · go_enter Try.func35, Try.ntmps35
      go_wp2
      go_ret
      exact ⟨rfl, rfl⟩
  · rw [q5]
    go_enter Try.func35, Try.ntmps35
    go_wp2
    go_ret
    exact ⟨rfl, rfl⟩

set_option maxRecDepth 100000 in
set_option maxHeartbeats 4000000 in
theorem placed_k0 (id m ch ro lo he k a mn : Int) (A : Option Addr) (n cp : Nat) (h : k < 1) (w : World) : Calls Try.prog 28 #[.agg #[.int .u32 id, .int .i64 m, .int .i64 ch, .int .i64 ro, .int .i64 lo, .int .i64 he], .agg #[.int .u8 k, .int .i64 a, .int .i64 mn, .slice A n cp]] w fun e w' => e = .returned (.bool false) ∧ Below w.heap.size w w' := by
  have B := Box6.new w (.int .u32 id) (.int .i64 m) (.int .i64 ch) (.int .i64 ro) (.int .i64 lo) (.int .i64 he) 24
  have hb : Below w.heap.size w (w.alloc (.cells #[.int .u32 id, .int .i64 m, .int .i64 ch, .int .i64 ro, .int .i64 lo, .int .i64 he] 24 (0, 0))) := (Below.refl _ _).alloc (Nat.le_refl _) _
  replace B := B.alloc (.cells #[.int .u8 k, .int .i64 a, .int .i64 mn, .slice A n cp] 32 (0, 0))
  have G := CellsAt.new (w.alloc (.cells #[.int .u32 id, .int .i64 m, .int .i64 ch, .int .i64 ro, .int .i64 lo, .int .i64 he] 24 (0, 0))) [.int .u8 k, .int .i64 a, .int .i64 mn, .slice A n cp] 32
  replace hb := hb.alloc hb.size (.cells #[.int .u8 k, .int .i64 a, .int .i64 mn, .slice A n cp] 32 (0, 0))
  simp only [World.size_alloc] at G
  obtain ⟨c0, c1, c2, c3, c4, c5⟩ := B.all
  obtain ⟨g0, g1, g2, g3⟩ := G.all4
  go_enter Try.func28, Try.ntmps28
  go_wp2
  go_ret
  exact ⟨rfl, hb⟩

set_option maxRecDepth 100000 in
set_option maxHeartbeats 4000000 in
theorem placed_k7 (id m ch ro lo he k a mn : Int) (A : Option Addr) (n cp : Nat) (h : 1 ≤ k) (h2 : 6 < k) (w : World) : Calls Try.prog 28 #[.agg #[.int .u32 id, .int .i64 m, .int .i64 ch, .int .i64 ro, .int .i64 lo, .int .i64 he], .agg #[.int .u8 k, .int .i64 a, .int .i64 mn, .slice A n cp]] w fun e w' => e = .returned (.bool false) ∧ Below w.heap.size w w' := by
  have B := Box6.new w (.int .u32 id) (.int .i64 m) (.int .i64 ch) (.int .i64 ro) (.int .i64 lo) (.int .i64 he) 24
  have hb : Below w.heap.size w (w.alloc (.cells #[.int .u32 id, .int .i64 m, .int .i64 ch, .int .i64 ro, .int .i64 lo, .int .i64 he] 24 (0, 0))) := (Below.refl _ _).alloc (Nat.le_refl _) _
  replace B := B.alloc (.cells #[.int .u8 k, .int .i64 a, .int .i64 mn, .slice A n cp] 32 (0, 0))
  have G := CellsAt.new (w.alloc (.cells #[.int .u32 id, .int .i64 m, .int .i64 ch, .int .i64 ro, .int .i64 lo, .int .i64 he] 24 (0, 0))) [.int .u8 k, .int .i64 a, .int .i64 mn, .slice A n cp] 32
  replace hb := hb.alloc hb.size (.cells #[.int .u8 k, .int .i64 a, .int .i64 mn, .slice A n cp] 32 (0, 0))
  simp only [World.size_alloc] at G
  obtain ⟨c0, c1, c2, c3, c4, c5⟩ := B.all
  obtain ⟨g0, g1, g2, g3⟩ := G.all4
  go_enter Try.func28, Try.ntmps28
  go_wp2
  go_ret
  exact ⟨rfl, hb⟩

set_option maxRecDepth 100000 in
set_option maxHeartbeats 4000000 in
theorem placed_w1 (id m ch ro lo he k a mn : Int) (A : Option Addr) (n cp : Nat) (h : 1 ≤ k) (h2 : k ≤ 6) (q0 : (a == 0) = true) (q1 : (mn == 0) = true) (hwh : ∀ W, Calls Try.prog 35 #[.int .u8 k] W fun e w' => e = .returned (.bool true) ∧ W = w') (w : World) : Calls Try.prog 28 #[.agg #[.int .u32 id, .int .i64 m, .int .i64 ch, .int .i64 ro, .int .i64 lo, .int .i64 he], .agg #[.int .u8 k, .int .i64 a, .int .i64 mn, .slice A n cp]] w fun e w' => e = .returned (.bool true) ∧ Below w.heap.size w w' := by
  have B := Box6.new w (.int .u32 id) (.int .i64 m) (.int .i64 ch) (.int .i64 ro) (.int .i64 lo) (.int .i64 he) 24
  have hb : Below w.heap.size w (w.alloc (.cells #[.int .u32 id, .int .i64 m, .int .i64 ch, .int .i64 ro, .int .i64 lo, .int .i64 he] 24 (0, 0))) := (Below.refl _ _).alloc (Nat.le_refl _) _
  replace B := B.alloc (.cells #[.int .u8 k, .int .i64 a, .int .i64 mn, .slice A n cp] 32 (0, 0))
  have G := CellsAt.new (w.alloc (.cells #[.int .u32 id, .int .i64 m, .int .i64 ch, .int .i64 ro, .int .i64 lo, .int .i64 he] 24 (0, 0))) [.int .u8 k, .int .i64 a, .int .i64 mn, .slice A n cp] 32
  replace hb := hb.alloc hb.size (.cells #[.int .u8 k, .int .i64 a, .int .i64 mn, .slice A n cp] 32 (0, 0))
  simp only [World.size_alloc] at G
  obtain ⟨c0, c1, c2, c3, c4, c5⟩ := B.all
  obtain ⟨g0, g1, g2, g3⟩ := G.all4
  go_enter Try.func28, Try.ntmps28
  go_wp2_with (first
    | (go_at_call 35; refine (hwh _).mono ?_; rintro e w2 ⟨rfl, rfl⟩))
  go_ret
  exact ⟨rfl, hb⟩

set_option maxRecDepth 100000 in
set_option maxHeartbeats 4000000 in
theorem placed_w2 (id m ch ro lo he k a mn : Int) (A : Option Addr) (n cp : Nat) (h : 1 ≤ k) (h2 : k ≤ 6) (q0 : (a == 0) = true) (q1 : (mn == 0) = false) (hwh : ∀ W, Calls Try.prog 35 #[.int .u8 k] W fun e w' => e = .returned (.bool true) ∧ W = w') (w : World) : Calls Try.prog 28 #[.agg #[.int .u32 id, .int .i64 m, .int .i64 ch, .int .i64 ro, .int .i64 lo, .int .i64 he], .agg #[.int .u8 k, .int .i64 a, .int .i64 mn, .slice A n cp]] w fun e w' => e = .returned (.bool false) ∧ Below w.heap.size w w' := by
  have B := Box6.new w (.int .u32 id) (.int .i64 m) (.int .i64 ch) (.int .i64 ro) (.int .i64 lo) (.int .i64 he) 24
  have hb : Below w.heap.size w (w.alloc (.cells #[.int .u32 id, .int .i64 m, .int .i64 ch, .int .i64 ro, .int .i64 lo, .int .i64 he] 24 (0, 0))) := (Below.refl _ _).alloc (Nat.le_refl _) _
  replace B := B.alloc (.cells #[.int .u8 k, .int .i64 a, .int .i64 mn, .slice A n cp] 32 (0, 0))
  have G := CellsAt.new (w.alloc (.cells #[.int .u32 id, .int .i64 m, .int .i64 ch, .int .i64 ro, .int .i64 lo, .int .i64 he] 24 (0, 0))) [.int .u8 k, .int .i64 a, .int .i64 mn, .slice A n cp] 32
  replace hb := hb.alloc hb.size (.cells #[.int .u8 k, .int .i64 a, .int .i64 mn, .slice A n cp] 32 (0, 0))
  simp only [World.size_alloc] at G
  obtain ⟨c0, c1, c2, c3, c4, c5⟩ := B.all
  obtain ⟨g0, g1, g2, g3⟩ := G.all4
  go_enter Try.func28, Try.ntmps28
  go_wp2_with (first
    | (go_at_call 35; refine (hwh _).mono ?_; rintro e w2 ⟨rfl, rfl⟩))
  go_ret
  exact ⟨rfl, hb⟩

set_option maxRecDepth 100000 in
set_option maxHeartbeats 4000000 in
theorem placed_w3 (id m ch ro lo he k a mn : Int) (A : Option Addr) (n cp : Nat) (h : 1 ≤ k) (h2 : k ≤ 6) (q0 : (a == 0) = false) (hwh : ∀ W, Calls Try.prog 35 #[.int .u8 k] W fun e w' => e = .returned (.bool true) ∧ W = w') (w : World) : Calls Try.prog 28 #[.agg #[.int .u32 id, .int .i64 m, .int .i64 ch, .int .i64 ro, .int .i64 lo, .int .i64 he], .agg #[.int .u8 k, .int .i64 a, .int .i64 mn, .slice A n cp]] w fun e w' => e = .returned (.bool false) ∧ Below w.heap.size w w' := by
  have B := Box6.new w (.int .u32 id) (.int .i64 m) (.int .i64 ch) (.int .i64 ro) (.int .i64 lo) (.int .i64 he) 24
  have hb : Below w.heap.size w (w.alloc (.cells #[.int .u32 id, .int .i64 m, .int .i64 ch, .int .i64 ro, .int .i64 lo, .int .i64 he] 24 (0, 0))) := (Below.refl _ _).alloc (Nat.le_refl _) _
  replace B := B.alloc (.cells #[.int .u8 k, .int .i64 a, .int .i64 mn, .slice A n cp] 32 (0, 0))
  have G := CellsAt.new (w.alloc (.cells #[.int .u32 id, .int .i64 m, .int .i64 ch, .int .i64 ro, .int .i64 lo, .int .i64 he] 24 (0, 0))) [.int .u8 k, .int .i64 a, .int .i64 mn, .slice A n cp] 32
  replace hb := hb.alloc hb.size (.cells #[.int .u8 k, .int .i64 a, .int .i64 mn, .slice A n cp] 32 (0, 0))
  simp only [World.size_alloc] at G
  obtain ⟨c0, c1, c2, c3, c4, c5⟩ := B.all
  obtain ⟨g0, g1, g2, g3⟩ := G.all4
  go_enter Try.func28, Try.ntmps28
  go_wp2_with (first
    | (go_at_call 35; refine (hwh _).mono ?_; rintro e w2 ⟨rfl, rfl⟩))
  go_ret
  exact ⟨rfl, hb⟩

set_option maxRecDepth 100000 in
set_option maxHeartbeats 4000000 in
theorem placed_b0 (id m ch ro lo he k a mn : Int) (A : Option Addr) (n cp : Nat) (h : 1 ≤ k) (h2 : k ≤ 6) (q0 : decide (1 ≤ mn) = false) (hwh : ∀ W, Calls Try.prog 35 #[.int .u8 k] W fun e w' => e = .returned (.bool false) ∧ W = w') (w : World) : Calls Try.prog 28 #[.agg #[.int .u32 id, .int .i64 m, .int .i64 ch, .int .i64 ro, .int .i64 lo, .int .i64 he], .agg #[.int .u8 k, .int .i64 a, .int .i64 mn, .slice A n cp]] w fun e w' => e = .returned (.bool false) ∧ Below w.heap.size w w' := by
  have B := Box6.new w (.int .u32 id) (.int .i64 m) (.int .i64 ch) (.int .i64 ro) (.int .i64 lo) (.int .i64 he) 24
  have hb : Below w.heap.size w (w.alloc (.cells #[.int .u32 id, .int .i64 m, .int .i64 ch, .int .i64 ro, .int .i64 lo, .int .i64 he] 24 (0, 0))) := (Below.refl _ _).alloc (Nat.le_refl _) _
  replace B := B.alloc (.cells #[.int .u8 k, .int .i64 a, .int .i64 mn, .slice A n cp] 32 (0, 0))
  have G := CellsAt.new (w.alloc (.cells #[.int .u32 id, .int .i64 m, .int .i64 ch, .int .i64 ro, .int .i64 lo, .int .i64 he] 24 (0, 0))) [.int .u8 k, .int .i64 a, .int .i64 mn, .slice A n cp] 32
  replace hb := hb.alloc hb.size (.cells #[.int .u8 k, .int .i64 a, .int .i64 mn, .slice A n cp] 32 (0, 0))
  simp only [World.size_alloc] at G
  obtain ⟨c0, c1, c2, c3, c4, c5⟩ := B.all
  obtain ⟨g0, g1, g2, g3⟩ := G.all4
  go_enter Try.func28, Try.ntmps28
  go_wp2_with (first
    | (go_at_call 35; refine (hwh _).mono ?_; rintro e w2 ⟨rfl, rfl⟩))
  go_quiet (fail)
  go_wp2
  go_ret
  exact ⟨rfl, below_drewN hb _⟩

set_option maxRecDepth 100000 in
set_option maxHeartbeats 4000000 in
theorem placed_b1 (id m ch ro lo he k a mn : Int) (A : Option Addr) (n cp : Nat) (h : 1 ≤ k) (h2 : k ≤ 6) (q0 : 1 ≤ mn) (q1 : decide (mn ≤ 8) = false) (hwh : ∀ W, Calls Try.prog 35 #[.int .u8 k] W fun e w' => e = .returned (.bool false) ∧ W = w') (w : World) : Calls Try.prog 28 #[.agg #[.int .u32 id, .int .i64 m, .int .i64 ch, .int .i64 ro, .int .i64 lo, .int .i64 he], .agg #[.int .u8 k, .int .i64 a, .int .i64 mn, .slice A n cp]] w fun e w' => e = .returned (.bool false) ∧ Below w.heap.size w w' := by
  have B := Box6.new w (.int .u32 id) (.int .i64 m) (.int .i64 ch) (.int .i64 ro) (.int .i64 lo) (.int .i64 he) 24
  have hb : Below w.heap.size w (w.alloc (.cells #[.int .u32 id, .int .i64 m, .int .i64 ch, .int .i64 ro, .int .i64 lo, .int .i64 he] 24 (0, 0))) := (Below.refl _ _).alloc (Nat.le_refl _) _
  replace B := B.alloc (.cells #[.int .u8 k, .int .i64 a, .int .i64 mn, .slice A n cp] 32 (0, 0))
  have G := CellsAt.new (w.alloc (.cells #[.int .u32 id, .int .i64 m, .int .i64 ch, .int .i64 ro, .int .i64 lo, .int .i64 he] 24 (0, 0))) [.int .u8 k, .int .i64 a, .int .i64 mn, .slice A n cp] 32
  replace hb := hb.alloc hb.size (.cells #[.int .u8 k, .int .i64 a, .int .i64 mn, .slice A n cp] 32 (0, 0))
  simp only [World.size_alloc] at G
  obtain ⟨c0, c1, c2, c3, c4, c5⟩ := B.all
  obtain ⟨g0, g1, g2, g3⟩ := G.all4
  go_enter Try.func28, Try.ntmps28
  go_wp2_with (first
    | (go_at_call 35; refine (hwh _).mono ?_; rintro e w2 ⟨rfl, rfl⟩))
  go_quiet (fail)
  go_wp2
  go_ret
  exact ⟨rfl, below_drewN hb _⟩

set_option maxRecDepth 100000 in
set_option maxHeartbeats 4000000 in
theorem placed_b2 (id m ch ro lo he k a mn : Int) (A : Option Addr) (n cp : Nat) (h : 1 ≤ k) (h2 : k ≤ 6) (q0 : 1 ≤ mn) (q1 : mn ≤ 8) (q2 : decide (0 ≤ a) = false) (hwh : ∀ W, Calls Try.prog 35 #[.int .u8 k] W fun e w' => e = .returned (.bool false) ∧ W = w') (w : World) : Calls Try.prog 28 #[.agg #[.int .u32 id, .int .i64 m, .int .i64 ch, .int .i64 ro, .int .i64 lo, .int .i64 he], .agg #[.int .u8 k, .int .i64 a, .int .i64 mn, .slice A n cp]] w fun e w' => e = .returned (.bool false) ∧ Below w.heap.size w w' := by
  have B := Box6.new w (.int .u32 id) (.int .i64 m) (.int .i64 ch) (.int .i64 ro) (.int .i64 lo) (.int .i64 he) 24
  have hb : Below w.heap.size w (w.alloc (.cells #[.int .u32 id, .int .i64 m, .int .i64 ch, .int .i64 ro, .int .i64 lo, .int .i64 he] 24 (0, 0))) := (Below.refl _ _).alloc (Nat.le_refl _) _
  replace B := B.alloc (.cells #[.int .u8 k, .int .i64 a, .int .i64 mn, .slice A n cp] 32 (0, 0))
  have G := CellsAt.new (w.alloc (.cells #[.int .u32 id, .int .i64 m, .int .i64 ch, .int .i64 ro, .int .i64 lo, .int .i64 he] 24 (0, 0))) [.int .u8 k, .int .i64 a, .int .i64 mn, .slice A n cp] 32
  replace hb := hb.alloc hb.size (.cells #[.int .u8 k, .int .i64 a, .int .i64 mn, .slice A n cp] 32 (0, 0))
  simp only [World.size_alloc] at G
  obtain ⟨c0, c1, c2, c3, c4, c5⟩ := B.all
  obtain ⟨g0, g1, g2, g3⟩ := G.all4
  go_enter Try.func28, Try.ntmps28
  go_wp2_with (first
    | (go_at_call 35; refine (hwh _).mono ?_; rintro e w2 ⟨rfl, rfl⟩))
  go_quiet (fail)
  go_wp2
  go_ret
  exact ⟨rfl, below_drewN hb _⟩

set_option maxRecDepth 100000 in
set_option maxHeartbeats 4000000 in
theorem placed_in (id m ch ro lo he k a mn : Int) (A : Option Addr) (n cp : Nat) (h : 1 ≤ k) (h2 : k ≤ 6) (q0 : 1 ≤ mn) (q1 : mn ≤ 8) (q2 : 0 ≤ a) (N : Nat) (hN : N ≤ 960) (hwh : ∀ W, Calls Try.prog 35 #[.int .u8 k] W fun e w' => e = .returned (.bool false) ∧ W = w') (hbl : ∀ W, Calls Try.prog 36 #[.agg #[.int .u32 id, .int .i64 m, .int .i64 ch, .int .i64 ro, .int .i64 lo, .int .i64 he]] W fun e w' => e = .returned (.int .i64 (N : Nat)) ∧ Below W.heap.size W w') (w : World) : Calls Try.prog 28 #[.agg #[.int .u32 id, .int .i64 m, .int .i64 ch, .int .i64 ro, .int .i64 lo, .int .i64 he], .agg #[.int .u8 k, .int .i64 a, .int .i64 mn, .slice A n cp]] w fun e w' => e = .returned (.bool (decide (a ≤ (N : Int) - mn))) ∧ Below w.heap.size w w' := by
  have B := Box6.new w (.int .u32 id) (.int .i64 m) (.int .i64 ch) (.int .i64 ro) (.int .i64 lo) (.int .i64 he) 24
  have hb : Below w.heap.size w (w.alloc (.cells #[.int .u32 id, .int .i64 m, .int .i64 ch, .int .i64 ro, .int .i64 lo, .int .i64 he] 24 (0, 0))) := (Below.refl _ _).alloc (Nat.le_refl _) _
  replace B := B.alloc (.cells #[.int .u8 k, .int .i64 a, .int .i64 mn, .slice A n cp] 32 (0, 0))
  have G := CellsAt.new (w.alloc (.cells #[.int .u32 id, .int .i64 m, .int .i64 ch, .int .i64 ro, .int .i64 lo, .int .i64 he] 24 (0, 0))) [.int .u8 k, .int .i64 a, .int .i64 mn, .slice A n cp] 32
  replace hb := hb.alloc hb.size (.cells #[.int .u8 k, .int .i64 a, .int .i64 mn, .slice A n cp] 32 (0, 0))
  simp only [World.size_alloc] at G
  obtain ⟨c0, c1, c2, c3, c4, c5⟩ := B.all
  obtain ⟨g0, g1, g2, g3⟩ := G.all4
  go_enter Try.func28, Try.ntmps28
  go_wp2_with (first
    | (go_at_call 35; refine (hwh _).mono ?_; rintro e w2 ⟨rfl, rfl⟩))
  refine wp_region_held_drew (S := (fun W => (W.cell? ⟨w.heap.size, 0, none⟩ = some (.int .u32 id) ∧ W.cell? ⟨w.heap.size, 1, none⟩ = some (.int .i64 m) ∧ W.cell? ⟨w.heap.size, 2, none⟩ = some (.int .i64 ch) ∧ W.cell? ⟨w.heap.size, 3, none⟩ = some (.int .i64 ro) ∧ W.cell? ⟨w.heap.size, 4, none⟩ = some (.int .i64 lo) ∧ W.cell? ⟨w.heap.size, 5, none⟩ = some (.int .i64 he)) ∧ W.cell? ⟨w.heap.size + 1, 0, none⟩ = some (.int .u8 k) ∧ W.cell? ⟨w.heap.size + 1, 1, none⟩ = some (.int .i64 a) ∧ W.cell? ⟨w.heap.size + 1, 2, none⟩ = some (.int .i64 mn) ∧ W.cell? ⟨w.heap.size + 1, 3, none⟩ = some (.slice A n cp))) (by kernel_rfl) ?_ (fun hHeld => ?_)
  · exact ⟨(B.below ((Below.refl _ _).drew) (Nat.le_refl _)).all, (G.below ((Below.refl _ _).drew) (Nat.le_refl _)).all4⟩
  refine wpAnyH_take (i := 0) (v := ?_) rfl (by kernel_rfl) (by kernel_rfl) (by kernel_rfl) (fun _ _ _ h => h) (Or.inl ⟨by rfl, ?_⟩) hHeld ?_
  rotate_left
  · (intro w hSw; (try dsimp only at hSw); go_simp; try with_reducible rfl)
  try simp only [Act.put, List.getElem_toArray, List.getElem_cons_zero, List.setIfInBounds_toArray, List.set_cons_zero, List.set_cons_succ]
  refine wpAnyH_take (i := 1) (v := ?_) rfl (by kernel_rfl) (by kernel_rfl) (by kernel_rfl) (fun _ _ _ h => h) (Or.inl ⟨by rfl, ?_⟩) hHeld ?_
  rotate_left
  · (intro w hSw; (try dsimp only at hSw); go_simp; try with_reducible rfl)
  try simp only [Act.put, List.getElem_toArray, List.getElem_cons_zero, List.getElem_cons_succ, List.setIfInBounds_toArray, List.set_cons_zero, List.set_cons_succ]
  refine wpAnyH_take (i := 2) (v := ?_) rfl (by kernel_rfl) (by kernel_rfl) (by kernel_rfl) (fun _ _ _ h => h) (Or.inl ⟨by rfl, ?_⟩) hHeld ?_
  rotate_left
  · (intro w hSw; (try dsimp only at hSw); go_simp; try with_reducible rfl)
  try simp only [Act.put, List.getElem_toArray, List.getElem_cons_zero, List.getElem_cons_succ, List.setIfInBounds_toArray, List.set_cons_zero, List.set_cons_succ]
  refine wpAnyH_take (i := 3) (v := ?_) rfl (by kernel_rfl) (by kernel_rfl) (by kernel_rfl) (fun _ _ _ h => h) (Or.inl ⟨by rfl, ?_⟩) hHeld ?_
  rotate_left
  · (intro w hSw; (try dsimp only at hSw); go_simp; try with_reducible rfl)
  try simp only [Act.put, List.getElem_toArray, List.getElem_cons_zero, List.getElem_cons_succ, List.setIfInBounds_toArray, List.set_cons_zero, List.set_cons_succ]
  refine wpAnyH_take (i := 4) (v := ?_) rfl (by kernel_rfl) (by kernel_rfl) (by kernel_rfl) (fun _ _ _ h => h) (Or.inl ⟨by rfl, ?_⟩) hHeld ?_
  rotate_left
  · (intro w hSw; (try dsimp only at hSw); go_simp; try with_reducible rfl)
  try simp only [Act.put, List.getElem_toArray, List.getElem_cons_zero, List.getElem_cons_succ, List.setIfInBounds_toArray, List.set_cons_zero, List.set_cons_succ]
  refine wpAnyH_take (i := 5) (v := ?_) rfl (by kernel_rfl) (by kernel_rfl) (by kernel_rfl) (fun _ _ _ h => h) (Or.inl ⟨by rfl, ?_⟩) hHeld ?_
  rotate_left
  · (intro w hSw; (try dsimp only at hSw); go_simp; try with_reducible rfl)
  try simp only [Act.put, List.getElem_toArray, List.getElem_cons_zero, List.getElem_cons_succ, List.setIfInBounds_toArray, List.set_cons_zero, List.set_cons_succ]
  refine wpAnyH_take (i := 6) (v := ?_) rfl (by kernel_rfl) (by kernel_rfl) (by kernel_rfl) (fun _ _ _ h => h) (Or.inl ⟨by rfl, ?_⟩) hHeld ?_
  rotate_left
  · (intro w hSw; (try dsimp only at hSw); go_simp; try with_reducible rfl)
  try simp only [Act.put, List.getElem_toArray, List.getElem_cons_zero, List.getElem_cons_succ, List.setIfInBounds_toArray, List.set_cons_zero, List.set_cons_succ]
  refine wpAnyH_take (i := 7) (v := ?_) rfl (by kernel_rfl) (by kernel_rfl) (by kernel_rfl) (fun _ _ _ h => h) (Or.inl ⟨by rfl, ?_⟩) hHeld ?_
  rotate_left
  · (intro w hSw; (try dsimp only at hSw); go_simp; try with_reducible rfl)
  try simp only [Act.put, List.getElem_toArray, List.getElem_cons_zero, List.getElem_cons_succ, List.setIfInBounds_toArray, List.set_cons_zero, List.set_cons_succ]
  refine wpAnyH_take (i := 8) (v := ?_) rfl (by kernel_rfl) (by kernel_rfl) (by kernel_rfl) (fun _ _ _ h => h) (Or.inl ⟨by rfl, ?_⟩) hHeld ?_
  rotate_left
  · (intro w hSw; (try dsimp only at hSw); go_simp; try with_reducible rfl)
  try simp only [Act.put, List.getElem_toArray, List.getElem_cons_zero, List.getElem_cons_succ, List.setIfInBounds_toArray, List.set_cons_zero, List.set_cons_succ]
  refine wpAnyH_take (i := 9) (v := ?_) rfl (by kernel_rfl) (by kernel_rfl) (by kernel_rfl) (fun _ _ _ h => h) (Or.inl ⟨by rfl, ?_⟩) hHeld ?_
  rotate_left
  · (intro w hSw; (try dsimp only at hSw); go_simp; try with_reducible rfl)
  try simp only [Act.put, List.getElem_toArray, List.getElem_cons_zero, List.getElem_cons_succ, List.setIfInBounds_toArray, List.set_cons_zero, List.set_cons_succ]
  refine wpAnyH_take (i := 10) (v := ?_) rfl (by kernel_rfl) (by kernel_rfl) (by kernel_rfl) (fun _ _ _ h => h) (Or.inl ⟨by rfl, ?_⟩) hHeld ?_
  rotate_left
  · (intro w hSw; (try dsimp only at hSw); go_simp; try with_reducible rfl)
  try simp only [Act.put, List.getElem_toArray, List.getElem_cons_zero, List.getElem_cons_succ, List.setIfInBounds_toArray, List.set_cons_zero, List.set_cons_succ]
  refine wpAnyH_take (i := 11) (v := ?_) rfl (by kernel_rfl) (by kernel_rfl) (by kernel_rfl) (fun _ _ _ h => h) (Or.inl ⟨by rfl, ?_⟩) hHeld ?_
  rotate_left
  · (intro w hSw; (try dsimp only at hSw); go_simp; try with_reducible rfl)
  try simp only [Act.put, List.getElem_toArray, List.getElem_cons_zero, List.getElem_cons_succ, List.setIfInBounds_toArray, List.set_cons_zero, List.set_cons_succ]
  refine wpAnyH_take (i := 12) (v := ?_) rfl (by kernel_rfl) (by kernel_rfl) (by kernel_rfl) (fun _ _ _ h => h) (Or.inl ⟨by rfl, ?_⟩) hHeld ?_
  rotate_left
  · (intro w hSw; (try dsimp only at hSw); go_simp; try with_reducible rfl)
  try simp only [Act.put, List.getElem_toArray, List.getElem_cons_zero, List.getElem_cons_succ, List.setIfInBounds_toArray, List.set_cons_zero, List.set_cons_succ]
  refine wpAnyH_take (i := 13) (v := ?_) rfl (by kernel_rfl) (by kernel_rfl) (by kernel_rfl) (fun _ _ _ h => h) (Or.inl ⟨by rfl, ?_⟩) hHeld ?_
  rotate_left
  · (intro w hSw; (try dsimp only at hSw); go_simp; try with_reducible rfl)
  try simp only [Act.put, List.getElem_toArray, List.getElem_cons_zero, List.getElem_cons_succ, List.setIfInBounds_toArray, List.set_cons_zero, List.set_cons_succ]
  refine wpAnyH_take (i := 14) (v := ?_) rfl (by kernel_rfl) (by kernel_rfl) (by kernel_rfl) (fun _ _ _ h => h) (Or.inl ⟨by rfl, ?_⟩) hHeld ?_
  rotate_left
  · (intro w hSw; (try dsimp only at hSw); go_simp; try with_reducible rfl)
  try simp only [Act.put, List.getElem_toArray, List.getElem_cons_zero, List.getElem_cons_succ, List.setIfInBounds_toArray, List.set_cons_zero, List.set_cons_succ]
  refine wpAnyH_take (i := 15) (v := ?_) rfl (by kernel_rfl) (by kernel_rfl) (by kernel_rfl) (fun _ _ _ h => h) (Or.inl ⟨by rfl, ?_⟩) hHeld ?_
  rotate_left
  · (intro w hSw; (try dsimp only at hSw); go_simp; try with_reducible rfl)
  try simp only [Act.put, List.getElem_toArray, List.getElem_cons_zero, List.getElem_cons_succ, List.setIfInBounds_toArray, List.set_cons_zero, List.set_cons_succ]
  refine wpAnyH_take (i := 16) (v := ?_) rfl (by kernel_rfl) (by kernel_rfl) (by kernel_rfl) (fun _ _ _ h => h) (Or.inl ⟨by rfl, ?_⟩) hHeld ?_
  rotate_left
  · (intro w hSw; (try dsimp only at hSw); go_simp; try with_reducible rfl)
  try simp only [Act.put, List.getElem_toArray, List.getElem_cons_zero, List.getElem_cons_succ, List.setIfInBounds_toArray, List.set_cons_zero, List.set_cons_succ]
  refine wpAnyH_take (i := 18) (v := ?_) rfl (by kernel_rfl) (by kernel_rfl) (by kernel_rfl) (fun _ _ _ h => h) (Or.inl ⟨by rfl, ?_⟩) hHeld ?_
  rotate_left
  · (intro w hSw; (try dsimp only at hSw); go_simp; try with_reducible rfl)
  try simp only [Act.put, List.getElem_toArray, List.getElem_cons_zero, List.getElem_cons_succ, List.setIfInBounds_toArray, List.set_cons_zero, List.set_cons_succ]
  refine wpAnyH_take (i := 19) (v := ?_) rfl (by kernel_rfl) (by kernel_rfl) (by kernel_rfl) (fun _ _ _ h => h) (Or.inl ⟨by rfl, ?_⟩) hHeld ?_
  rotate_left
  · (intro w hSw; (try dsimp only at hSw); go_simp; try with_reducible rfl)
  try simp only [Act.put, List.getElem_toArray, List.getElem_cons_zero, List.getElem_cons_succ, List.setIfInBounds_toArray, List.set_cons_zero, List.set_cons_succ]
  refine wpAnyH_ready (rs := [17]) (by kernel_rfl) (by simp) ?_
  refine AllReadyH.cons rfl (fun K hK => ?_) AllReadyH.nil
  go_simp
  refine (hbl _).mono ?_
  rintro e w2 ⟨rfl, hb2⟩
  have hz : Below ((w.alloc (.cells #[.int .u32 id, .int .i64 m, .int .i64 ch, .int .i64 ro, .int .i64 lo, .int .i64 he] 24 (0, 0))).alloc (.cells #[.int .u8 k, .int .i64 a, .int .i64 mn, .slice A n cp] 32 (0, 0))).heap.size ((w.alloc (.cells #[.int .u32 id, .int .i64 m, .int .i64 ch, .int .i64 ro, .int .i64 lo, .int .i64 he] 24 (0, 0))).alloc (.cells #[.int .u8 k, .int .i64 a, .int .i64 mn, .slice A n cp] 32 (0, 0))) w2 := (Below.refl _ _).drew.trans (hb2.mono (by simp))
  have B2 := B.below hz (Nat.le_refl _)
  have G2 := G.below hz (Nat.le_refl _)
  have hb3 := hb.trans (hz.mono hb.size)
  go_wp2_with fail
  refine hK.out _ _ ?_ (fun hHeld2 => ?_)
  · exact ⟨B2.all, G2.all4⟩
  clear hK K hHeld
  have hHeld := hHeld2
  clear hHeld2
  try simp only [Act.put, List.setIfInBounds_toArray, List.set_cons_zero, List.set_cons_succ]
  refine wpAnyH_take (i := 20) (v := ?_) rfl (by kernel_rfl) (by kernel_rfl) (by kernel_rfl) (fun _ _ _ h => h) (Or.inl ⟨by rfl, ?_⟩) hHeld ?_
  rotate_left
  · (intro w hSw; (try dsimp only at hSw); go_simp; try with_reducible rfl)
  try simp only [Act.put, List.getElem_toArray, List.getElem_cons_zero, List.getElem_cons_succ, List.setIfInBounds_toArray, List.set_cons_zero, List.set_cons_succ]
  refine wpAnyH_take (i := 21) (v := ?_) rfl (by kernel_rfl) (by kernel_rfl) (by kernel_rfl) (fun _ _ _ h => h) (Or.inl ⟨by rfl, ?_⟩) hHeld ?_
  rotate_left
  · (intro w hSw; (try dsimp only at hSw); go_simp; try with_reducible rfl)
  try simp only [Act.put, List.getElem_toArray, List.getElem_cons_zero, List.getElem_cons_succ, List.setIfInBounds_toArray, List.set_cons_zero, List.set_cons_succ]
  refine wpAnyH_take (i := 22) (v := ?_) rfl (by kernel_rfl) (by kernel_rfl) (by kernel_rfl) (fun _ _ _ h => h) (Or.inl ⟨by rfl, ?_⟩) hHeld ?_
  rotate_left
  · (intro w hSw; (try dsimp only at hSw); go_simp; try with_reducible rfl)
  try simp only [Act.put, List.getElem_toArray, List.getElem_cons_zero, List.getElem_cons_succ, List.setIfInBounds_toArray, List.set_cons_zero, List.set_cons_succ]
  refine wpAnyH_take (i := 23) (v := ?_) rfl (by kernel_rfl) (by kernel_rfl) (by kernel_rfl) (fun _ _ _ h => h) (Or.inl ⟨by rfl, ?_⟩) hHeld ?_
  rotate_left
  · (intro w hSw; (try dsimp only at hSw); go_simp; try with_reducible rfl)
  try simp only [Act.put, List.getElem_toArray, List.getElem_cons_zero, List.getElem_cons_succ, List.setIfInBounds_toArray, List.set_cons_zero, List.set_cons_succ]
  refine wpAnyH_done (by kernel_rfl) ?_ _
  go_wp2
  go_ret
  exact ⟨ret_bool (by simp only [IntWalk.i64_left]; rw [wrap64_in (by omega) (by omega)]), hb3⟩


theorem whole_blk {k : Int} (h : kOk k = true) : kBlk k = !kWhole k := by
  have q := of_decide_eq_true (p := 1 ≤ k ∧ k ≤ 6) h
  obtain rfl | rfl | rfl | rfl | rfl | rfl : k = 1 ∨ k = 2 ∨ k = 3 ∨ k = 4 ∨ k = 5 ∨ k = 6 := by omega
  all_goals rfl
theorem refPlaced8 (c : Cfg) (h : MayC c) (k a mn : Int) (A : Option Addr) (n cp : Nat) (w : World) : Calls Try.prog 28 #[cfgV c, askV k a mn A n cp] w fun e w' => e = .returned (.bool (kOk k && plB k a mn (blkC c))) ∧ Below w.heap.size w w' := by
  have hwh := fun W => refwhole8 k W
  have hN := blkC_box h
  have hbl := fun W => blocks_ref c W
  have eb : wrap64 (wrap64 (c.chunk * c.rows) * wrap64 (c.mem - 1)) = blkC c := by
    have q1 := strC_box h
    have q2 := h.1
    have q3 := h.2.1
    unfold strC at q1
    unfold blkC strC at *
    rw [wrap64_in (n := c.chunk * c.rows) (by omega) (by omega), wrap64_in (n := c.mem - 1) (by omega) (by omega), Int.mul_comm]
    exact wrap64_in (by omega) (by omega)
  simp only [eb] at hbl
  obtain ⟨N, eN⟩ : ∃ N : Nat, blkC c = N := ⟨(blkC c).toNat, by omega⟩
  rw [eN] at hbl hN ⊢
  by_cases h1 : k < 1
  · rw [show kOk k = false from decide_eq_false (by omega), Bool.false_and]
    exact placed_k0 _ _ _ _ _ _ k a mn A n cp h1 w
  by_cases h6 : 6 < k
  · rw [show kOk k = false from decide_eq_false (by omega), Bool.false_and]
    exact placed_k7 _ _ _ _ _ _ k a mn A n cp (by omega) h6 w
  have ok : kOk k = true := decide_eq_true (by omega)
  have hp : plB k a mn N = if kBlk k then decide (1 ≤ mn ∧ mn ≤ 8 ∧ 0 ≤ a ∧ a ≤ (N : Int) - mn) else decide (a = 0 ∧ mn = 0) := rfl
  rw [ok, Bool.true_and, hp, whole_blk ok]
  clear hp ok
  generalize kWhole k = wb at *
  cases wb
  · rw [if_pos (by decide)]
    by_cases p0 : 1 ≤ mn
    · by_cases p1 : mn ≤ 8
      · by_cases p2 : 0 ≤ a
        · rw [show decide (1 ≤ mn ∧ mn ≤ 8 ∧ 0 ≤ a ∧ a ≤ (N : Int) - mn) = decide (a ≤ (N : Int) - mn) from decide_eq_decide.2 ⟨fun q => q.2.2.2, fun q => ⟨p0, p1, p2, q⟩⟩]
          exact placed_in _ _ _ _ _ _ k a mn A n cp (by omega) (by omega) p0 p1 p2 N (by omega) hwh hbl w
        · rw [show decide (1 ≤ mn ∧ mn ≤ 8 ∧ 0 ≤ a ∧ a ≤ (N : Int) - mn) = false from decide_eq_false (by omega)]
          exact placed_b2 _ _ _ _ _ _ k a mn A n cp (by omega) (by omega) p0 p1 (decide_eq_false p2) hwh w
      · rw [show decide (1 ≤ mn ∧ mn ≤ 8 ∧ 0 ≤ a ∧ a ≤ (N : Int) - mn) = false from decide_eq_false (by omega)]
        exact placed_b1 _ _ _ _ _ _ k a mn A n cp (by omega) (by omega) p0 (decide_eq_false p1) hwh w
    · rw [show decide (1 ≤ mn ∧ mn ≤ 8 ∧ 0 ≤ a ∧ a ≤ (N : Int) - mn) = false from decide_eq_false (by omega)]
      exact placed_b0 _ _ _ _ _ _ k a mn A n cp (by omega) (by omega) (decide_eq_false p0) hwh w
  · rw [if_neg (by decide)]
    by_cases p0 : a = 0
    · by_cases p1 : mn = 0
      · rw [decide_eq_true ⟨p0, p1⟩]
        exact placed_w1 _ _ _ _ _ _ k a mn A n cp (by omega) (by omega) (by simpa using p0) (by simpa using p1) hwh w
      · rw [decide_eq_false fun q => p1 q.2]
        exact placed_w2 _ _ _ _ _ _ k a mn A n cp (by omega) (by omega) (by simpa using p0) (by simpa using p1) hwh w
    · rw [decide_eq_false fun q => p0 q.1]
      exact placed_w3 _ _ _ _ _ _ k a mn A n cp (by omega) (by omega) (by simpa using p0) hwh w

set_option maxRecDepth 100000 in
set_option maxHeartbeats 4000000 in
theorem rcheck_bad (id m ch ro lo he k a mn : Int) (A : Option Addr) (n cp : Nat) (hm : ∀ W, Calls Try.prog 27 #[.agg #[.int .u32 id, .int .i64 m, .int .i64 ch, .int .i64 ro, .int .i64 lo, .int .i64 he]] W fun e w' => e = .returned (.bool false) ∧ Below W.heap.size W w') (w : World) : Calls Try.prog 18 #[.agg #[.int .u32 id, .int .i64 m, .int .i64 ch, .int .i64 ro, .int .i64 lo, .int .i64 he], .agg #[.int .u8 k, .int .i64 a, .int .i64 mn, .slice A n cp]] w fun e w' => e = .returned (.int .i64 8) ∧ Below w.heap.size w w' := by
  have B := Box6.new w (.int .u32 id) (.int .i64 m) (.int .i64 ch) (.int .i64 ro) (.int .i64 lo) (.int .i64 he) 24
  have hb : Below w.heap.size w (w.alloc (.cells #[.int .u32 id, .int .i64 m, .int .i64 ch, .int .i64 ro, .int .i64 lo, .int .i64 he] 24 (0, 0))) := (Below.refl _ _).alloc (Nat.le_refl _) _
  replace B := B.alloc (.cells #[.int .u8 k, .int .i64 a, .int .i64 mn, .slice A n cp] 32 (0, 0))
  have G := CellsAt.new (w.alloc (.cells #[.int .u32 id, .int .i64 m, .int .i64 ch, .int .i64 ro, .int .i64 lo, .int .i64 he] 24 (0, 0))) [.int .u8 k, .int .i64 a, .int .i64 mn, .slice A n cp] 32
  replace hb := hb.alloc hb.size (.cells #[.int .u8 k, .int .i64 a, .int .i64 mn, .slice A n cp] 32 (0, 0))
  simp only [World.size_alloc] at G
  obtain ⟨c0, c1, c2, c3, c4, c5⟩ := B.all
  obtain ⟨g0, g1, g2, g3⟩ := G.all4
  go_enter Try.func18, Try.ntmps18
  go_wp2_with (first
    | (go_at_call 27; refine (hm _).mono ?_; rintro e w2 ⟨rfl, hb2⟩; replace hb := hb.trans (hb2.mono hb.size); clear c0 c1 c2 c3 c4 c5 g0 g1 g2 g3; replace B := B.below hb2 (Nat.le_refl _); replace G := G.below hb2 (Nat.le_refl _); clear hb2; obtain ⟨c0, c1, c2, c3, c4, c5⟩ := B.all; obtain ⟨g0, g1, g2, g3⟩ := G.all4; have blt := B.lt; have glt := G.lt))
  all_goals first
    | (go_ret; exact ⟨rfl, hb⟩)
    | (exfalso; simp at hn; first | done | omega)

set_option maxRecDepth 100000 in
set_option maxHeartbeats 4000000 in
theorem rcheck_arg (id m ch ro lo he k a mn : Int) (A : Option Addr) (n cp : Nat) (hm : ∀ W, Calls Try.prog 27 #[.agg #[.int .u32 id, .int .i64 m, .int .i64 ch, .int .i64 ro, .int .i64 lo, .int .i64 he]] W fun e w' => e = .returned (.bool true) ∧ Below W.heap.size W w') (hp : ∀ W, Calls Try.prog 28 #[.agg #[.int .u32 id, .int .i64 m, .int .i64 ch, .int .i64 ro, .int .i64 lo, .int .i64 he], .agg #[.int .u8 k, .int .i64 a, .int .i64 mn, .slice A n cp]] W fun e w' => e = .returned (.bool false) ∧ Below W.heap.size W w') (w : World) : Calls Try.prog 18 #[.agg #[.int .u32 id, .int .i64 m, .int .i64 ch, .int .i64 ro, .int .i64 lo, .int .i64 he], .agg #[.int .u8 k, .int .i64 a, .int .i64 mn, .slice A n cp]] w fun e w' => e = .returned (.int .i64 2) ∧ Below w.heap.size w w' := by
  have B := Box6.new w (.int .u32 id) (.int .i64 m) (.int .i64 ch) (.int .i64 ro) (.int .i64 lo) (.int .i64 he) 24
  have hb : Below w.heap.size w (w.alloc (.cells #[.int .u32 id, .int .i64 m, .int .i64 ch, .int .i64 ro, .int .i64 lo, .int .i64 he] 24 (0, 0))) := (Below.refl _ _).alloc (Nat.le_refl _) _
  replace B := B.alloc (.cells #[.int .u8 k, .int .i64 a, .int .i64 mn, .slice A n cp] 32 (0, 0))
  have G := CellsAt.new (w.alloc (.cells #[.int .u32 id, .int .i64 m, .int .i64 ch, .int .i64 ro, .int .i64 lo, .int .i64 he] 24 (0, 0))) [.int .u8 k, .int .i64 a, .int .i64 mn, .slice A n cp] 32
  replace hb := hb.alloc hb.size (.cells #[.int .u8 k, .int .i64 a, .int .i64 mn, .slice A n cp] 32 (0, 0))
  simp only [World.size_alloc] at G
  obtain ⟨c0, c1, c2, c3, c4, c5⟩ := B.all
  obtain ⟨g0, g1, g2, g3⟩ := G.all4
  go_enter Try.func18, Try.ntmps18
  go_wp2_with (first
    | (go_at_call 27; refine (hm _).mono ?_; rintro e w2 ⟨rfl, hb2⟩; replace hb := hb.trans (hb2.mono hb.size); clear c0 c1 c2 c3 c4 c5 g0 g1 g2 g3; replace B := B.below hb2 (Nat.le_refl _); replace G := G.below hb2 (Nat.le_refl _); clear hb2; obtain ⟨c0, c1, c2, c3, c4, c5⟩ := B.all; obtain ⟨g0, g1, g2, g3⟩ := G.all4; have blt := B.lt; have glt := G.lt)
    | (go_at_call 28; refine (hp _).mono ?_; rintro e w3 ⟨rfl, hb2⟩; replace hb := hb.trans (hb2.mono hb.size); clear c0 c1 c2 c3 c4 c5 g0 g1 g2 g3; replace B := B.below hb2 (Nat.le_refl _); replace G := G.below hb2 (Nat.le_refl _); clear hb2; obtain ⟨c0, c1, c2, c3, c4, c5⟩ := B.all; obtain ⟨g0, g1, g2, g3⟩ := G.all4; have blt := B.lt; have glt := G.lt))
  all_goals first
    | (go_ret; exact ⟨rfl, hb⟩)
    | (exfalso; simp at hn; first | done | omega)

set_option maxRecDepth 100000 in
set_option maxHeartbeats 4000000 in
theorem rcheck_t1 (id m ch ro lo he k a mn : Int) (A : Option Addr) (n cp : Nat) (q : Nat) (hq : mn * 128 = q) (hq2 : q ≤ 1024) (hn : ((n : Int) == (q : Int)) = false) (hm : ∀ W, Calls Try.prog 27 #[.agg #[.int .u32 id, .int .i64 m, .int .i64 ch, .int .i64 ro, .int .i64 lo, .int .i64 he]] W fun e w' => e = .returned (.bool true) ∧ Below W.heap.size W w') (hp : ∀ W, Calls Try.prog 28 #[.agg #[.int .u32 id, .int .i64 m, .int .i64 ch, .int .i64 ro, .int .i64 lo, .int .i64 he], .agg #[.int .u8 k, .int .i64 a, .int .i64 mn, .slice A n cp]] W fun e w' => e = .returned (.bool true) ∧ Below W.heap.size W w') (hy : ∀ W, Calls Try.prog 29 #[.int .u8 k] W fun e w' => e = .returned (.bool true) ∧ W = w') (w : World) : Calls Try.prog 18 #[.agg #[.int .u32 id, .int .i64 m, .int .i64 ch, .int .i64 ro, .int .i64 lo, .int .i64 he], .agg #[.int .u8 k, .int .i64 a, .int .i64 mn, .slice A n cp]] w fun e w' => e = .returned (.int .i64 3) ∧ Below w.heap.size w w' := by
  have B := Box6.new w (.int .u32 id) (.int .i64 m) (.int .i64 ch) (.int .i64 ro) (.int .i64 lo) (.int .i64 he) 24
  have hb : Below w.heap.size w (w.alloc (.cells #[.int .u32 id, .int .i64 m, .int .i64 ch, .int .i64 ro, .int .i64 lo, .int .i64 he] 24 (0, 0))) := (Below.refl _ _).alloc (Nat.le_refl _) _
  replace B := B.alloc (.cells #[.int .u8 k, .int .i64 a, .int .i64 mn, .slice A n cp] 32 (0, 0))
  have G := CellsAt.new (w.alloc (.cells #[.int .u32 id, .int .i64 m, .int .i64 ch, .int .i64 ro, .int .i64 lo, .int .i64 he] 24 (0, 0))) [.int .u8 k, .int .i64 a, .int .i64 mn, .slice A n cp] 32
  replace hb := hb.alloc hb.size (.cells #[.int .u8 k, .int .i64 a, .int .i64 mn, .slice A n cp] 32 (0, 0))
  simp only [World.size_alloc] at G
  obtain ⟨c0, c1, c2, c3, c4, c5⟩ := B.all
  obtain ⟨g0, g1, g2, g3⟩ := G.all4
  go_enter Try.func18, Try.ntmps18
  go_wp2_with (first
    | (go_at_call 27; refine (hm _).mono ?_; rintro e w2 ⟨rfl, hb2⟩; replace hb := hb.trans (hb2.mono hb.size); clear c0 c1 c2 c3 c4 c5 g0 g1 g2 g3; replace B := B.below hb2 (Nat.le_refl _); replace G := G.below hb2 (Nat.le_refl _); clear hb2; obtain ⟨c0, c1, c2, c3, c4, c5⟩ := B.all; obtain ⟨g0, g1, g2, g3⟩ := G.all4; have blt := B.lt; have glt := G.lt)
    | (go_at_call 28; refine (hp _).mono ?_; rintro e w3 ⟨rfl, hb2⟩; replace hb := hb.trans (hb2.mono hb.size); clear c0 c1 c2 c3 c4 c5 g0 g1 g2 g3; replace B := B.below hb2 (Nat.le_refl _); replace G := G.below hb2 (Nat.le_refl _); clear hb2; obtain ⟨c0, c1, c2, c3, c4, c5⟩ := B.all; obtain ⟨g0, g1, g2, g3⟩ := G.all4; have blt := B.lt; have glt := G.lt)
    | (go_at_call 29; refine (hy _).mono ?_; rintro e w4 ⟨rfl, rfl⟩))
  all_goals first
    | (go_ret; exact ⟨rfl, hb⟩)
    | (exfalso; simp at hn; first | done | omega)

set_option maxRecDepth 100000 in
set_option maxHeartbeats 4000000 in
theorem rcheck_o1 (id m ch ro lo he k a mn : Int) (A : Option Addr) (n cp : Nat) (q : Nat) (hq : mn * 128 = q) (hq2 : q ≤ 1024) (hn : n = q) (hm : ∀ W, Calls Try.prog 27 #[.agg #[.int .u32 id, .int .i64 m, .int .i64 ch, .int .i64 ro, .int .i64 lo, .int .i64 he]] W fun e w' => e = .returned (.bool true) ∧ Below W.heap.size W w') (hp : ∀ W, Calls Try.prog 28 #[.agg #[.int .u32 id, .int .i64 m, .int .i64 ch, .int .i64 ro, .int .i64 lo, .int .i64 he], .agg #[.int .u8 k, .int .i64 a, .int .i64 mn, .slice A n cp]] W fun e w' => e = .returned (.bool true) ∧ Below W.heap.size W w') (hy : ∀ W, Calls Try.prog 29 #[.int .u8 k] W fun e w' => e = .returned (.bool true) ∧ W = w') (w : World) : Calls Try.prog 18 #[.agg #[.int .u32 id, .int .i64 m, .int .i64 ch, .int .i64 ro, .int .i64 lo, .int .i64 he], .agg #[.int .u8 k, .int .i64 a, .int .i64 mn, .slice A n cp]] w fun e w' => e = .returned (.int .i64 0) ∧ Below w.heap.size w w' := by
  have B := Box6.new w (.int .u32 id) (.int .i64 m) (.int .i64 ch) (.int .i64 ro) (.int .i64 lo) (.int .i64 he) 24
  have hb : Below w.heap.size w (w.alloc (.cells #[.int .u32 id, .int .i64 m, .int .i64 ch, .int .i64 ro, .int .i64 lo, .int .i64 he] 24 (0, 0))) := (Below.refl _ _).alloc (Nat.le_refl _) _
  replace B := B.alloc (.cells #[.int .u8 k, .int .i64 a, .int .i64 mn, .slice A n cp] 32 (0, 0))
  have G := CellsAt.new (w.alloc (.cells #[.int .u32 id, .int .i64 m, .int .i64 ch, .int .i64 ro, .int .i64 lo, .int .i64 he] 24 (0, 0))) [.int .u8 k, .int .i64 a, .int .i64 mn, .slice A n cp] 32
  replace hb := hb.alloc hb.size (.cells #[.int .u8 k, .int .i64 a, .int .i64 mn, .slice A n cp] 32 (0, 0))
  simp only [World.size_alloc] at G
  obtain ⟨c0, c1, c2, c3, c4, c5⟩ := B.all
  obtain ⟨g0, g1, g2, g3⟩ := G.all4
  subst hn
  go_enter Try.func18, Try.ntmps18
  go_wp2_with (first
    | (go_at_call 27; refine (hm _).mono ?_; rintro e w2 ⟨rfl, hb2⟩; replace hb := hb.trans (hb2.mono hb.size); clear c0 c1 c2 c3 c4 c5 g0 g1 g2 g3; replace B := B.below hb2 (Nat.le_refl _); replace G := G.below hb2 (Nat.le_refl _); clear hb2; obtain ⟨c0, c1, c2, c3, c4, c5⟩ := B.all; obtain ⟨g0, g1, g2, g3⟩ := G.all4; have blt := B.lt; have glt := G.lt)
    | (go_at_call 28; refine (hp _).mono ?_; rintro e w3 ⟨rfl, hb2⟩; replace hb := hb.trans (hb2.mono hb.size); clear c0 c1 c2 c3 c4 c5 g0 g1 g2 g3; replace B := B.below hb2 (Nat.le_refl _); replace G := G.below hb2 (Nat.le_refl _); clear hb2; obtain ⟨c0, c1, c2, c3, c4, c5⟩ := B.all; obtain ⟨g0, g1, g2, g3⟩ := G.all4; have blt := B.lt; have glt := G.lt)
    | (go_at_call 29; refine (hy _).mono ?_; rintro e w4 ⟨rfl, rfl⟩))
  all_goals first
    | (go_ret; exact ⟨rfl, hb⟩)
    | (exfalso; simp at hn; first | done | omega)

set_option maxRecDepth 100000 in
set_option maxHeartbeats 4000000 in
theorem rcheck_t0 (id m ch ro lo he k a mn : Int) (A : Option Addr) (n cp : Nat) (hn : ((n : Int) == 0) = false) (hm : ∀ W, Calls Try.prog 27 #[.agg #[.int .u32 id, .int .i64 m, .int .i64 ch, .int .i64 ro, .int .i64 lo, .int .i64 he]] W fun e w' => e = .returned (.bool true) ∧ Below W.heap.size W w') (hp : ∀ W, Calls Try.prog 28 #[.agg #[.int .u32 id, .int .i64 m, .int .i64 ch, .int .i64 ro, .int .i64 lo, .int .i64 he], .agg #[.int .u8 k, .int .i64 a, .int .i64 mn, .slice A n cp]] W fun e w' => e = .returned (.bool true) ∧ Below W.heap.size W w') (hy : ∀ W, Calls Try.prog 29 #[.int .u8 k] W fun e w' => e = .returned (.bool false) ∧ W = w') (w : World) : Calls Try.prog 18 #[.agg #[.int .u32 id, .int .i64 m, .int .i64 ch, .int .i64 ro, .int .i64 lo, .int .i64 he], .agg #[.int .u8 k, .int .i64 a, .int .i64 mn, .slice A n cp]] w fun e w' => e = .returned (.int .i64 3) ∧ Below w.heap.size w w' := by
  have B := Box6.new w (.int .u32 id) (.int .i64 m) (.int .i64 ch) (.int .i64 ro) (.int .i64 lo) (.int .i64 he) 24
  have hb : Below w.heap.size w (w.alloc (.cells #[.int .u32 id, .int .i64 m, .int .i64 ch, .int .i64 ro, .int .i64 lo, .int .i64 he] 24 (0, 0))) := (Below.refl _ _).alloc (Nat.le_refl _) _
  replace B := B.alloc (.cells #[.int .u8 k, .int .i64 a, .int .i64 mn, .slice A n cp] 32 (0, 0))
  have G := CellsAt.new (w.alloc (.cells #[.int .u32 id, .int .i64 m, .int .i64 ch, .int .i64 ro, .int .i64 lo, .int .i64 he] 24 (0, 0))) [.int .u8 k, .int .i64 a, .int .i64 mn, .slice A n cp] 32
  replace hb := hb.alloc hb.size (.cells #[.int .u8 k, .int .i64 a, .int .i64 mn, .slice A n cp] 32 (0, 0))
  simp only [World.size_alloc] at G
  obtain ⟨c0, c1, c2, c3, c4, c5⟩ := B.all
  obtain ⟨g0, g1, g2, g3⟩ := G.all4
  go_enter Try.func18, Try.ntmps18
  go_wp2_with (first
    | (go_at_call 27; refine (hm _).mono ?_; rintro e w2 ⟨rfl, hb2⟩; replace hb := hb.trans (hb2.mono hb.size); clear c0 c1 c2 c3 c4 c5 g0 g1 g2 g3; replace B := B.below hb2 (Nat.le_refl _); replace G := G.below hb2 (Nat.le_refl _); clear hb2; obtain ⟨c0, c1, c2, c3, c4, c5⟩ := B.all; obtain ⟨g0, g1, g2, g3⟩ := G.all4; have blt := B.lt; have glt := G.lt)
    | (go_at_call 28; refine (hp _).mono ?_; rintro e w3 ⟨rfl, hb2⟩; replace hb := hb.trans (hb2.mono hb.size); clear c0 c1 c2 c3 c4 c5 g0 g1 g2 g3; replace B := B.below hb2 (Nat.le_refl _); replace G := G.below hb2 (Nat.le_refl _); clear hb2; obtain ⟨c0, c1, c2, c3, c4, c5⟩ := B.all; obtain ⟨g0, g1, g2, g3⟩ := G.all4; have blt := B.lt; have glt := G.lt)
    | (go_at_call 29; refine (hy _).mono ?_; rintro e w4 ⟨rfl, rfl⟩))
  all_goals first
    | (go_ret; exact ⟨rfl, hb⟩)
    | (exfalso; simp at hn; first | done | omega)

set_option maxRecDepth 100000 in
set_option maxHeartbeats 4000000 in
theorem rcheck_o0 (id m ch ro lo he k a mn : Int) (A : Option Addr) (n cp : Nat) (hn : n = 0) (hm : ∀ W, Calls Try.prog 27 #[.agg #[.int .u32 id, .int .i64 m, .int .i64 ch, .int .i64 ro, .int .i64 lo, .int .i64 he]] W fun e w' => e = .returned (.bool true) ∧ Below W.heap.size W w') (hp : ∀ W, Calls Try.prog 28 #[.agg #[.int .u32 id, .int .i64 m, .int .i64 ch, .int .i64 ro, .int .i64 lo, .int .i64 he], .agg #[.int .u8 k, .int .i64 a, .int .i64 mn, .slice A n cp]] W fun e w' => e = .returned (.bool true) ∧ Below W.heap.size W w') (hy : ∀ W, Calls Try.prog 29 #[.int .u8 k] W fun e w' => e = .returned (.bool false) ∧ W = w') (w : World) : Calls Try.prog 18 #[.agg #[.int .u32 id, .int .i64 m, .int .i64 ch, .int .i64 ro, .int .i64 lo, .int .i64 he], .agg #[.int .u8 k, .int .i64 a, .int .i64 mn, .slice A n cp]] w fun e w' => e = .returned (.int .i64 0) ∧ Below w.heap.size w w' := by
  have B := Box6.new w (.int .u32 id) (.int .i64 m) (.int .i64 ch) (.int .i64 ro) (.int .i64 lo) (.int .i64 he) 24
  have hb : Below w.heap.size w (w.alloc (.cells #[.int .u32 id, .int .i64 m, .int .i64 ch, .int .i64 ro, .int .i64 lo, .int .i64 he] 24 (0, 0))) := (Below.refl _ _).alloc (Nat.le_refl _) _
  replace B := B.alloc (.cells #[.int .u8 k, .int .i64 a, .int .i64 mn, .slice A n cp] 32 (0, 0))
  have G := CellsAt.new (w.alloc (.cells #[.int .u32 id, .int .i64 m, .int .i64 ch, .int .i64 ro, .int .i64 lo, .int .i64 he] 24 (0, 0))) [.int .u8 k, .int .i64 a, .int .i64 mn, .slice A n cp] 32
  replace hb := hb.alloc hb.size (.cells #[.int .u8 k, .int .i64 a, .int .i64 mn, .slice A n cp] 32 (0, 0))
  simp only [World.size_alloc] at G
  obtain ⟨c0, c1, c2, c3, c4, c5⟩ := B.all
  obtain ⟨g0, g1, g2, g3⟩ := G.all4
  subst hn
  go_enter Try.func18, Try.ntmps18
  go_wp2_with (first
    | (go_at_call 27; refine (hm _).mono ?_; rintro e w2 ⟨rfl, hb2⟩; replace hb := hb.trans (hb2.mono hb.size); clear c0 c1 c2 c3 c4 c5 g0 g1 g2 g3; replace B := B.below hb2 (Nat.le_refl _); replace G := G.below hb2 (Nat.le_refl _); clear hb2; obtain ⟨c0, c1, c2, c3, c4, c5⟩ := B.all; obtain ⟨g0, g1, g2, g3⟩ := G.all4; have blt := B.lt; have glt := G.lt)
    | (go_at_call 28; refine (hp _).mono ?_; rintro e w3 ⟨rfl, hb2⟩; replace hb := hb.trans (hb2.mono hb.size); clear c0 c1 c2 c3 c4 c5 g0 g1 g2 g3; replace B := B.below hb2 (Nat.le_refl _); replace G := G.below hb2 (Nat.le_refl _); clear hb2; obtain ⟨c0, c1, c2, c3, c4, c5⟩ := B.all; obtain ⟨g0, g1, g2, g3⟩ := G.all4; have blt := B.lt; have glt := G.lt)
    | (go_at_call 29; refine (hy _).mono ?_; rintro e w4 ⟨rfl, rfl⟩))
  all_goals first
    | (go_ret; exact ⟨rfl, hb⟩)
    | (exfalso; simp at hn; first | done | omega)

theorem byt_is (k : Int) : kByt k = if kBytB k then 128 else 0 := by
  unfold kByt kBytB
  by_cases h2 : k = 2
  · subst h2; rfl
  · by_cases h3 : k = 3
    · subst h3; rfl
    · rw [if_neg (by omega), show (k == 2) = false by simpa using h2, show (k == 3) = false by simpa using h3]; rfl
theorem refCheck8 (c : Cfg) (k a mn : Int) (A : Option Addr) (n cp : Nat) (w : World) : Calls Try.prog 18 #[cfgV c, askV k a mn A n cp] w fun e w' => e = .returned (.int .i64 (chkA c k a mn n)) ∧ Below w.heap.size w w' := by
  have hm := fun W => may_ref c W
  by_cases h : MayC c
  · simp only [decide_eq_true h] at hm
    have hp := fun W => refPlaced8 c h k a mn A n cp W
    cases pl : (kOk k && plB k a mn (blkC c))
    · rw [chkA_arg h pl]
      simp only [pl] at hp
      exact rcheck_arg _ _ _ _ _ _ k a mn A n cp hm hp w
    · have hy := fun W => refBytes8 k W
      have eB := byt_is k
      have q0 := pl
      rw [Bool.and_eq_true] at q0
      obtain ⟨r0, r1, _⟩ := plB_box q0.2
      simp only [pl] at hp
      cases by' : kBytB k
      · simp only [by'] at hy
        rw [by', if_neg (by decide)] at eB
        by_cases hn : n = 0
        · rw [chkA_ok h pl (by rw [eB]; omega)]
          exact rcheck_o0 _ _ _ _ _ _ k a mn A n cp hn hm hp hy w
        · rw [chkA_text h pl (by rw [eB]; omega)]
          exact rcheck_t0 _ _ _ _ _ _ k a mn A n cp (by simpa using (show ¬ (n : Int) = 0 by omega)) hm hp hy w
      · simp only [by'] at hy
        rw [by', if_pos rfl] at eB
        obtain ⟨q, hq⟩ : ∃ q : Nat, mn * 128 = q := ⟨(mn * 128).toNat, by omega⟩
        by_cases hn : n = q
        · rw [chkA_ok h pl (by rw [eB, hq, hn])]
          exact rcheck_o1 _ _ _ _ _ _ k a mn A n cp q hq (by omega) hn hm hp hy w
        · rw [chkA_text h pl (by rw [eB, hq]; omega)]
          exact rcheck_t1 _ _ _ _ _ _ k a mn A n cp q hq (by omega) (by simpa using (show ¬ (n : Int) = q by omega)) hm hp hy w
  · rw [chkA_no h]
    simp only [decide_eq_false h] at hm
    exact rcheck_bad _ _ _ _ _ _ k a mn A n cp hm w

end Go.Proofs.Ytkjgmopgibpkjaa