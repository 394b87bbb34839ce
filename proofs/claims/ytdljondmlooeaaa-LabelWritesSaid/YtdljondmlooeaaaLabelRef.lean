/- The walks of the document's own answer for layer 9: May, Check, Four, Number, Sealed. -/
import Derived.Test.YtdljondmlooeaaaLabelWalk
import Derived.Test.YtdljondmlooeaaaShapeRef
import Derived.Test.YtdljondmlooeaaaPackRef
import Derived.Test.YtdljondmlooeaaaPolyRef
import Derived.Deep.RegionHeld3
import Derived.Deep.Cut
namespace Go.Proofs.Ytdljondmlooeaaa
open Go.RowKit PolyM PackM ShapeM SealM LabelM
set_option linter.unusedVariables false

set_option maxRecDepth 100000 in
set_option maxHeartbeats 4000000 in
theorem may9_cfg (id ev m ch ro lo me lst dn : Int) (op : Bool) (hm : ∀ W, Calls Try.prog 50 #[.agg #[.int .u32 id, .int .i64 m, .int .i64 ch, .int .i64 ro, .int .i64 lo, .int .i64 2]] W fun e w' => e = .returned (.bool false) ∧ Below W.heap.size W w') (w : World) : Calls Try.prog 28 #[.agg #[.int .u32 id, .int .u32 ev, .int .i64 m, .int .i64 ch, .int .i64 ro, .int .i64 lo, .int .i64 me, .int .i64 lst, .int .i64 dn, .bool op]] w fun e w' => e = .returned (.bool false) ∧ Below w.heap.size w w' := by
  have B := CellsAt.new w [.int .u32 id, .int .u32 ev, .int .i64 m, .int .i64 ch, .int .i64 ro, .int .i64 lo, .int .i64 me, .int .i64 lst, .int .i64 dn, .bool op] 28
  have hb : Below w.heap.size w (w.alloc (.cells #[.int .u32 id, .int .u32 ev, .int .i64 m, .int .i64 ch, .int .i64 ro, .int .i64 lo, .int .i64 me, .int .i64 lst, .int .i64 dn, .bool op] 28 (0, 0))) := (Below.refl _ _).alloc (Nat.le_refl _) _
  obtain ⟨c0, c1, c2, c3, c4, c5, c6, c7, c8, c9⟩ := B.all10
  go_enter Try.func28, Try.ntmps28
  go_wp2_with (go_at_call 50; refine (hm _).mono ?_; rintro e w2 ⟨rfl, hb2⟩; replace hb := (hb.alloc hb.size (.cells #[.int .u32 id, .int .i64 m, .int .i64 ch, .int .i64 ro, .int .i64 lo, .int .i64 2] 61 (0, 0))).trans (hb2.mono (by have := hb.size; simp; omega)); clear c0 c1 c2 c3 c4 c5 c6 c7 c8 c9; replace B := (B.alloc (.cells #[.int .u32 id, .int .i64 m, .int .i64 ch, .int .i64 ro, .int .i64 lo, .int .i64 2] 61 (0, 0))).below hb2 (Nat.le_refl _); obtain ⟨c0, c1, c2, c3, c4, c5, c6, c7, c8, c9⟩ := B.all10; clear hb2)
  go_ret
  exact ⟨rfl, hb⟩

set_option maxRecDepth 100000 in
set_option maxHeartbeats 4000000 in
theorem may9_ev (id ev m ch ro lo me lst dn : Int) (op : Bool) (hm : ∀ W, Calls Try.prog 50 #[.agg #[.int .u32 id, .int .i64 m, .int .i64 ch, .int .i64 ro, .int .i64 lo, .int .i64 2]] W fun e w' => e = .returned (.bool true) ∧ Below W.heap.size W w') (he : 2147483648 < ev) (w : World) : Calls Try.prog 28 #[.agg #[.int .u32 id, .int .u32 ev, .int .i64 m, .int .i64 ch, .int .i64 ro, .int .i64 lo, .int .i64 me, .int .i64 lst, .int .i64 dn, .bool op]] w fun e w' => e = .returned (.bool false) ∧ Below w.heap.size w w' := by
  have B := CellsAt.new w [.int .u32 id, .int .u32 ev, .int .i64 m, .int .i64 ch, .int .i64 ro, .int .i64 lo, .int .i64 me, .int .i64 lst, .int .i64 dn, .bool op] 28
  have hb : Below w.heap.size w (w.alloc (.cells #[.int .u32 id, .int .u32 ev, .int .i64 m, .int .i64 ch, .int .i64 ro, .int .i64 lo, .int .i64 me, .int .i64 lst, .int .i64 dn, .bool op] 28 (0, 0))) := (Below.refl _ _).alloc (Nat.le_refl _) _
  obtain ⟨c0, c1, c2, c3, c4, c5, c6, c7, c8, c9⟩ := B.all10
  go_enter Try.func28, Try.ntmps28
  go_wp2_with (go_at_call 50; refine (hm _).mono ?_; rintro e w2 ⟨rfl, hb2⟩; replace hb := (hb.alloc hb.size (.cells #[.int .u32 id, .int .i64 m, .int .i64 ch, .int .i64 ro, .int .i64 lo, .int .i64 2] 61 (0, 0))).trans (hb2.mono (by have := hb.size; simp; omega)); clear c0 c1 c2 c3 c4 c5 c6 c7 c8 c9; replace B := (B.alloc (.cells #[.int .u32 id, .int .i64 m, .int .i64 ch, .int .i64 ro, .int .i64 lo, .int .i64 2] 61 (0, 0))).below hb2 (Nat.le_refl _); obtain ⟨c0, c1, c2, c3, c4, c5, c6, c7, c8, c9⟩ := B.all10; clear hb2)
  go_ret
  exact ⟨rfl, hb⟩

set_option maxRecDepth 100000 in
set_option maxHeartbeats 4000000 in
theorem may9_me0 (id ev m ch ro lo me lst dn : Int) (op : Bool) (hm : ∀ W, Calls Try.prog 50 #[.agg #[.int .u32 id, .int .i64 m, .int .i64 ch, .int .i64 ro, .int .i64 lo, .int .i64 2]] W fun e w' => e = .returned (.bool true) ∧ Below W.heap.size W w') (he : ev ≤ 2147483648) (h0 : me < 0) (w : World) : Calls Try.prog 28 #[.agg #[.int .u32 id, .int .u32 ev, .int .i64 m, .int .i64 ch, .int .i64 ro, .int .i64 lo, .int .i64 me, .int .i64 lst, .int .i64 dn, .bool op]] w fun e w' => e = .returned (.bool false) ∧ Below w.heap.size w w' := by
  have B := CellsAt.new w [.int .u32 id, .int .u32 ev, .int .i64 m, .int .i64 ch, .int .i64 ro, .int .i64 lo, .int .i64 me, .int .i64 lst, .int .i64 dn, .bool op] 28
  have hb : Below w.heap.size w (w.alloc (.cells #[.int .u32 id, .int .u32 ev, .int .i64 m, .int .i64 ch, .int .i64 ro, .int .i64 lo, .int .i64 me, .int .i64 lst, .int .i64 dn, .bool op] 28 (0, 0))) := (Below.refl _ _).alloc (Nat.le_refl _) _
  obtain ⟨c0, c1, c2, c3, c4, c5, c6, c7, c8, c9⟩ := B.all10
  go_enter Try.func28, Try.ntmps28
  go_wp2_with (go_at_call 50; refine (hm _).mono ?_; rintro e w2 ⟨rfl, hb2⟩; replace hb := (hb.alloc hb.size (.cells #[.int .u32 id, .int .i64 m, .int .i64 ch, .int .i64 ro, .int .i64 lo, .int .i64 2] 61 (0, 0))).trans (hb2.mono (by have := hb.size; simp; omega)); clear c0 c1 c2 c3 c4 c5 c6 c7 c8 c9; replace B := (B.alloc (.cells #[.int .u32 id, .int .i64 m, .int .i64 ch, .int .i64 ro, .int .i64 lo, .int .i64 2] 61 (0, 0))).below hb2 (Nat.le_refl _); obtain ⟨c0, c1, c2, c3, c4, c5, c6, c7, c8, c9⟩ := B.all10; clear hb2)
  go_ret
  exact ⟨rfl, hb⟩

set_option maxRecDepth 100000 in
set_option maxHeartbeats 4000000 in
theorem may9_me1 (id ev m ch ro lo me lst dn : Int) (op : Bool) (hm : ∀ W, Calls Try.prog 50 #[.agg #[.int .u32 id, .int .i64 m, .int .i64 ch, .int .i64 ro, .int .i64 lo, .int .i64 2]] W fun e w' => e = .returned (.bool true) ∧ Below W.heap.size W w') (he : ev ≤ 2147483648) (h0 : 0 ≤ me) (h1 : decide (m ≤ me) = true) (w : World) : Calls Try.prog 28 #[.agg #[.int .u32 id, .int .u32 ev, .int .i64 m, .int .i64 ch, .int .i64 ro, .int .i64 lo, .int .i64 me, .int .i64 lst, .int .i64 dn, .bool op]] w fun e w' => e = .returned (.bool false) ∧ Below w.heap.size w w' := by
  have B := CellsAt.new w [.int .u32 id, .int .u32 ev, .int .i64 m, .int .i64 ch, .int .i64 ro, .int .i64 lo, .int .i64 me, .int .i64 lst, .int .i64 dn, .bool op] 28
  have hb : Below w.heap.size w (w.alloc (.cells #[.int .u32 id, .int .u32 ev, .int .i64 m, .int .i64 ch, .int .i64 ro, .int .i64 lo, .int .i64 me, .int .i64 lst, .int .i64 dn, .bool op] 28 (0, 0))) := (Below.refl _ _).alloc (Nat.le_refl _) _
  obtain ⟨c0, c1, c2, c3, c4, c5, c6, c7, c8, c9⟩ := B.all10
  go_enter Try.func28, Try.ntmps28
  go_wp2_with (go_at_call 50; refine (hm _).mono ?_; rintro e w2 ⟨rfl, hb2⟩; replace hb := (hb.alloc hb.size (.cells #[.int .u32 id, .int .i64 m, .int .i64 ch, .int .i64 ro, .int .i64 lo, .int .i64 2] 61 (0, 0))).trans (hb2.mono (by have := hb.size; simp; omega)); clear c0 c1 c2 c3 c4 c5 c6 c7 c8 c9; replace B := (B.alloc (.cells #[.int .u32 id, .int .i64 m, .int .i64 ch, .int .i64 ro, .int .i64 lo, .int .i64 2] 61 (0, 0))).below hb2 (Nat.le_refl _); obtain ⟨c0, c1, c2, c3, c4, c5, c6, c7, c8, c9⟩ := B.all10; clear hb2)
  go_ret
  exact ⟨rfl, hb⟩

set_option maxRecDepth 100000 in
set_option maxHeartbeats 4000000 in
theorem may9_none1 (id ev m ch ro lo me lst dn : Int) (op : Bool) (hm : ∀ W, Calls Try.prog 50 #[.agg #[.int .u32 id, .int .i64 m, .int .i64 ch, .int .i64 ro, .int .i64 lo, .int .i64 2]] W fun e w' => e = .returned (.bool true) ∧ Below W.heap.size W w') (he : ev ≤ 2147483648) (h0 : 0 ≤ me) (h1 : decide (m ≤ me) = false) (hl : (lst == -1) = true) (hd : (dn == 0) = true) (w : World) : Calls Try.prog 28 #[.agg #[.int .u32 id, .int .u32 ev, .int .i64 m, .int .i64 ch, .int .i64 ro, .int .i64 lo, .int .i64 me, .int .i64 lst, .int .i64 dn, .bool op]] w fun e w' => e = .returned (.bool true) ∧ Below w.heap.size w w' := by
  have B := CellsAt.new w [.int .u32 id, .int .u32 ev, .int .i64 m, .int .i64 ch, .int .i64 ro, .int .i64 lo, .int .i64 me, .int .i64 lst, .int .i64 dn, .bool op] 28
  have hb : Below w.heap.size w (w.alloc (.cells #[.int .u32 id, .int .u32 ev, .int .i64 m, .int .i64 ch, .int .i64 ro, .int .i64 lo, .int .i64 me, .int .i64 lst, .int .i64 dn, .bool op] 28 (0, 0))) := (Below.refl _ _).alloc (Nat.le_refl _) _
  obtain ⟨c0, c1, c2, c3, c4, c5, c6, c7, c8, c9⟩ := B.all10
  go_enter Try.func28, Try.ntmps28
  go_wp2_with (go_at_call 50; refine (hm _).mono ?_; rintro e w2 ⟨rfl, hb2⟩; replace hb := (hb.alloc hb.size (.cells #[.int .u32 id, .int .i64 m, .int .i64 ch, .int .i64 ro, .int .i64 lo, .int .i64 2] 61 (0, 0))).trans (hb2.mono (by have := hb.size; simp; omega)); clear c0 c1 c2 c3 c4 c5 c6 c7 c8 c9; replace B := (B.alloc (.cells #[.int .u32 id, .int .i64 m, .int .i64 ch, .int .i64 ro, .int .i64 lo, .int .i64 2] 61 (0, 0))).below hb2 (Nat.le_refl _); obtain ⟨c0, c1, c2, c3, c4, c5, c6, c7, c8, c9⟩ := B.all10; clear hb2)
  go_ret
  exact ⟨rfl, hb⟩

set_option maxRecDepth 100000 in
set_option maxHeartbeats 4000000 in
theorem may9_none0 (id ev m ch ro lo me lst dn : Int) (op : Bool) (hm : ∀ W, Calls Try.prog 50 #[.agg #[.int .u32 id, .int .i64 m, .int .i64 ch, .int .i64 ro, .int .i64 lo, .int .i64 2]] W fun e w' => e = .returned (.bool true) ∧ Below W.heap.size W w') (he : ev ≤ 2147483648) (h0 : 0 ≤ me) (h1 : decide (m ≤ me) = false) (hl : (lst == -1) = true) (hd : (dn == 0) = false) (w : World) : Calls Try.prog 28 #[.agg #[.int .u32 id, .int .u32 ev, .int .i64 m, .int .i64 ch, .int .i64 ro, .int .i64 lo, .int .i64 me, .int .i64 lst, .int .i64 dn, .bool op]] w fun e w' => e = .returned (.bool false) ∧ Below w.heap.size w w' := by
  have B := CellsAt.new w [.int .u32 id, .int .u32 ev, .int .i64 m, .int .i64 ch, .int .i64 ro, .int .i64 lo, .int .i64 me, .int .i64 lst, .int .i64 dn, .bool op] 28
  have hb : Below w.heap.size w (w.alloc (.cells #[.int .u32 id, .int .u32 ev, .int .i64 m, .int .i64 ch, .int .i64 ro, .int .i64 lo, .int .i64 me, .int .i64 lst, .int .i64 dn, .bool op] 28 (0, 0))) := (Below.refl _ _).alloc (Nat.le_refl _) _
  obtain ⟨c0, c1, c2, c3, c4, c5, c6, c7, c8, c9⟩ := B.all10
  go_enter Try.func28, Try.ntmps28
  go_wp2_with (go_at_call 50; refine (hm _).mono ?_; rintro e w2 ⟨rfl, hb2⟩; replace hb := (hb.alloc hb.size (.cells #[.int .u32 id, .int .i64 m, .int .i64 ch, .int .i64 ro, .int .i64 lo, .int .i64 2] 61 (0, 0))).trans (hb2.mono (by have := hb.size; simp; omega)); clear c0 c1 c2 c3 c4 c5 c6 c7 c8 c9; replace B := (B.alloc (.cells #[.int .u32 id, .int .i64 m, .int .i64 ch, .int .i64 ro, .int .i64 lo, .int .i64 2] 61 (0, 0))).below hb2 (Nat.le_refl _); obtain ⟨c0, c1, c2, c3, c4, c5, c6, c7, c8, c9⟩ := B.all10; clear hb2)
  go_ret
  exact ⟨rfl, hb⟩

set_option maxRecDepth 100000 in
set_option maxHeartbeats 4000000 in
theorem may9_lo (id ev m ch ro lo me lst dn : Int) (op : Bool) (hm : ∀ W, Calls Try.prog 50 #[.agg #[.int .u32 id, .int .i64 m, .int .i64 ch, .int .i64 ro, .int .i64 lo, .int .i64 2]] W fun e w' => e = .returned (.bool true) ∧ Below W.heap.size W w') (he : ev ≤ 2147483648) (h0 : 0 ≤ me) (h1 : decide (m ≤ me) = false) (hl : (lst == -1) = false) (h2 : decide (0 ≤ lst) = false) (w : World) : Calls Try.prog 28 #[.agg #[.int .u32 id, .int .u32 ev, .int .i64 m, .int .i64 ch, .int .i64 ro, .int .i64 lo, .int .i64 me, .int .i64 lst, .int .i64 dn, .bool op]] w fun e w' => e = .returned (.bool false) ∧ Below w.heap.size w w' := by
  have B := CellsAt.new w [.int .u32 id, .int .u32 ev, .int .i64 m, .int .i64 ch, .int .i64 ro, .int .i64 lo, .int .i64 me, .int .i64 lst, .int .i64 dn, .bool op] 28
  have hb : Below w.heap.size w (w.alloc (.cells #[.int .u32 id, .int .u32 ev, .int .i64 m, .int .i64 ch, .int .i64 ro, .int .i64 lo, .int .i64 me, .int .i64 lst, .int .i64 dn, .bool op] 28 (0, 0))) := (Below.refl _ _).alloc (Nat.le_refl _) _
  obtain ⟨c0, c1, c2, c3, c4, c5, c6, c7, c8, c9⟩ := B.all10
  go_enter Try.func28, Try.ntmps28
  go_upto_region 6 with (go_at_call 50; refine (hm _).mono ?_; rintro e w2 ⟨rfl, hb2⟩; replace hb := (hb.alloc hb.size (.cells #[.int .u32 id, .int .i64 m, .int .i64 ch, .int .i64 ro, .int .i64 lo, .int .i64 2] 61 (0, 0))).trans (hb2.mono (by have := hb.size; simp; omega)); clear c0 c1 c2 c3 c4 c5 c6 c7 c8 c9; replace B := (B.alloc (.cells #[.int .u32 id, .int .i64 m, .int .i64 ch, .int .i64 ro, .int .i64 lo, .int .i64 2] 61 (0, 0))).below hb2 (Nat.le_refl _); obtain ⟨c0, c1, c2, c3, c4, c5, c6, c7, c8, c9⟩ := B.all10; clear hb2)
  refine wp_region_held_drew (S := (fun W => W.cell? ⟨w.heap.size, 2, none⟩ = some (.int .i64 m) ∧ W.cell? ⟨w.heap.size, 7, none⟩ = some (.int .i64 lst) ∧ W.cell? ⟨w.heap.size, 8, none⟩ = some (.int .i64 dn))) (by kernel_rfl) ?_ (fun hHeld => ?_)
  · exact ⟨c2, c7, c8⟩
  refine wpAnyH_take (i := 0) (v := ?_) rfl (by kernel_rfl) (by kernel_rfl) (by kernel_rfl) (fun _ _ _ h => h) (Or.inl ⟨by rfl, ?_⟩) hHeld ?_
  rotate_left
  · (intro w hSw; (try dsimp only at hSw); go_simp; try with_reducible rfl)
  try simp only [Act.put, List.getElem_toArray, List.getElem_cons_zero, List.setIfInBounds_toArray, List.set_cons_zero, List.set_cons_succ]
  refine wpAnyH_take (i := 1) (v := ?_) rfl (by kernel_rfl) (by kernel_rfl) (by kernel_rfl) (fun _ _ _ h => h) (Or.inl ⟨by rfl, ?_⟩) hHeld ?_
  rotate_left
  · (intro w hSw; (try dsimp only at hSw); go_simp; try with_reducible rfl)
  try simp only [Act.put, List.getElem_toArray, List.getElem_cons_zero, List.getElem_cons_succ, List.setIfInBounds_toArray, List.set_cons_zero, List.set_cons_succ]
  refine wpAnyH_take (i := 2) (v := ?_) rfl (by kernel_rfl) (by kernel_rfl) (by kernel_rfl) (fun _ _ _ h => h) (Or.inl ⟨by rfl, ?_⟩) hHeld ?_
  rotate_left
  · (intro w hSw; (try dsimp only at hSw); go_simp; try with_reducible rfl)
  try simp only [Act.put, List.getElem_toArray, List.getElem_cons_zero, List.getElem_cons_succ, List.setIfInBounds_toArray, List.set_cons_zero, List.set_cons_succ]
  refine wpAnyH_take (i := 3) (v := ?_) rfl (by kernel_rfl) (by kernel_rfl) (by kernel_rfl) (fun _ _ _ h => h) (Or.inl ⟨by rfl, ?_⟩) hHeld ?_
  rotate_left
  · (intro w hSw; (try dsimp only at hSw); go_simp; try with_reducible rfl)
  try simp only [Act.put, List.getElem_toArray, List.getElem_cons_zero, List.getElem_cons_succ, List.setIfInBounds_toArray, List.set_cons_zero, List.set_cons_succ]
  refine wpAnyH_take (i := 4) (v := undef) rfl (by kernel_rfl) (by kernel_rfl) (by kernel_rfl) (fun _ _ _ h => h) (Or.inr ⟨by rfl, rfl⟩) hHeld ?_
  try simp only [Act.put, List.getElem_toArray, List.getElem_cons_zero, List.getElem_cons_succ, List.setIfInBounds_toArray, List.set_cons_zero, List.set_cons_succ]
  refine wpAnyH_take (i := 5) (v := undef) rfl (by kernel_rfl) (by kernel_rfl) (by kernel_rfl) (fun _ _ _ h => h) (Or.inr ⟨by rfl, rfl⟩) hHeld ?_
  try simp only [Act.put, List.getElem_toArray, List.getElem_cons_zero, List.getElem_cons_succ, List.setIfInBounds_toArray, List.set_cons_zero, List.set_cons_succ]
  refine wpAnyH_take (i := 6) (v := undef) rfl (by kernel_rfl) (by kernel_rfl) (by kernel_rfl) (fun _ _ _ h => h) (Or.inr ⟨by rfl, rfl⟩) hHeld ?_
  try simp only [Act.put, List.getElem_toArray, List.getElem_cons_zero, List.getElem_cons_succ, List.setIfInBounds_toArray, List.set_cons_zero, List.set_cons_succ]
  refine wpAnyH_take (i := 7) (v := undef) rfl (by kernel_rfl) (by kernel_rfl) (by kernel_rfl) (fun _ _ _ h => h) (Or.inr ⟨by rfl, rfl⟩) hHeld ?_
  try simp only [Act.put, List.getElem_toArray, List.getElem_cons_zero, List.getElem_cons_succ, List.setIfInBounds_toArray, List.set_cons_zero, List.set_cons_succ]
  refine wpAnyH_take (i := 8) (v := undef) rfl (by kernel_rfl) (by kernel_rfl) (by kernel_rfl) (fun _ _ _ h => h) (Or.inr ⟨by rfl, rfl⟩) hHeld ?_
  try simp only [Act.put, List.getElem_toArray, List.getElem_cons_zero, List.getElem_cons_succ, List.setIfInBounds_toArray, List.set_cons_zero, List.set_cons_succ]
  refine wpAnyH_take (i := 9) (v := ?_) rfl (by kernel_rfl) (by kernel_rfl) (by kernel_rfl) (fun _ _ _ h => h) (Or.inl ⟨by rfl, ?_⟩) hHeld ?_
  rotate_left
  · (intro w hSw; (try dsimp only at hSw); go_simp; try with_reducible rfl)
  try simp only [Act.put, List.getElem_toArray, List.getElem_cons_zero, List.getElem_cons_succ, List.setIfInBounds_toArray, List.set_cons_zero, List.set_cons_succ]
  refine wpAnyH_take (i := 10) (v := ?_) rfl (by kernel_rfl) (by kernel_rfl) (by kernel_rfl) (fun _ _ _ h => h) (Or.inl ⟨by rfl, ?_⟩) hHeld ?_
  rotate_left
  · (intro w hSw; (try dsimp only at hSw); go_simp; try with_reducible rfl)
  try simp only [Act.put, List.getElem_toArray, List.getElem_cons_zero, List.getElem_cons_succ, List.setIfInBounds_toArray, List.set_cons_zero, List.set_cons_succ]
  refine wpAnyH_take (i := 11) (v := undef) rfl (by kernel_rfl) (by kernel_rfl) (by kernel_rfl) (fun _ _ _ h => h) (Or.inr ⟨by rfl, rfl⟩) hHeld ?_
  try simp only [Act.put, List.getElem_toArray, List.getElem_cons_zero, List.getElem_cons_succ, List.setIfInBounds_toArray, List.set_cons_zero, List.set_cons_succ]
  refine wpAnyH_take (i := 12) (v := undef) rfl (by kernel_rfl) (by kernel_rfl) (by kernel_rfl) (fun _ _ _ h => h) (Or.inr ⟨by rfl, rfl⟩) hHeld ?_
  try simp only [Act.put, List.getElem_toArray, List.getElem_cons_zero, List.getElem_cons_succ, List.setIfInBounds_toArray, List.set_cons_zero, List.set_cons_succ]
  refine wpAnyH_take (i := 13) (v := undef) rfl (by kernel_rfl) (by kernel_rfl) (by kernel_rfl) (fun _ _ _ h => h) (Or.inr ⟨by rfl, rfl⟩) hHeld ?_
  try simp only [Act.put, List.getElem_toArray, List.getElem_cons_zero, List.getElem_cons_succ, List.setIfInBounds_toArray, List.set_cons_zero, List.set_cons_succ]
  refine wpAnyH_take (i := 14) (v := ?_) rfl (by kernel_rfl) (by kernel_rfl) (by kernel_rfl) (fun _ _ _ h => h) (Or.inl ⟨by rfl, ?_⟩) hHeld ?_
  rotate_left
  · (intro w hSw; (try dsimp only at hSw); go_simp; try with_reducible rfl)
  try simp only [Act.put, List.getElem_toArray, List.getElem_cons_zero, List.getElem_cons_succ, List.setIfInBounds_toArray, List.set_cons_zero, List.set_cons_succ]
  refine wpAnyH_take (i := 15) (v := ?_) rfl (by kernel_rfl) (by kernel_rfl) (by kernel_rfl) (fun _ _ _ h => h) (Or.inl ⟨by rfl, ?_⟩) hHeld ?_
  rotate_left
  · (intro w hSw; (try dsimp only at hSw); go_simp; try with_reducible rfl)
  try simp only [Act.put, List.getElem_toArray, List.getElem_cons_zero, List.getElem_cons_succ, List.setIfInBounds_toArray, List.set_cons_zero, List.set_cons_succ]
  refine wpAnyH_take (i := 16) (v := undef) rfl (by kernel_rfl) (by kernel_rfl) (by kernel_rfl) (fun _ _ _ h => h) (Or.inr ⟨by rfl, rfl⟩) hHeld ?_
  try simp only [Act.put, List.getElem_toArray, List.getElem_cons_zero, List.getElem_cons_succ, List.setIfInBounds_toArray, List.set_cons_zero, List.set_cons_succ]
  refine wpAnyH_take (i := 17) (v := undef) rfl (by kernel_rfl) (by kernel_rfl) (by kernel_rfl) (fun _ _ _ h => h) (Or.inr ⟨by rfl, rfl⟩) hHeld ?_
  try simp only [Act.put, List.getElem_toArray, List.getElem_cons_zero, List.getElem_cons_succ, List.setIfInBounds_toArray, List.set_cons_zero, List.set_cons_succ]
  refine wpAnyH_take (i := 18) (v := undef) rfl (by kernel_rfl) (by kernel_rfl) (by kernel_rfl) (fun _ _ _ h => h) (Or.inr ⟨by rfl, rfl⟩) hHeld ?_
  try simp only [Act.put, List.getElem_toArray, List.getElem_cons_zero, List.getElem_cons_succ, List.setIfInBounds_toArray, List.set_cons_zero, List.set_cons_succ]
  refine wpAnyH_take (i := 19) (v := undef) rfl (by kernel_rfl) (by kernel_rfl) (by kernel_rfl) (fun _ _ _ h => h) (Or.inr ⟨by rfl, rfl⟩) hHeld ?_
  try simp only [Act.put, List.getElem_toArray, List.getElem_cons_zero, List.getElem_cons_succ, List.setIfInBounds_toArray, List.set_cons_zero, List.set_cons_succ]
  refine wpAnyH_take (i := 20) (v := undef) rfl (by kernel_rfl) (by kernel_rfl) (by kernel_rfl) (fun _ _ _ h => h) (Or.inr ⟨by rfl, rfl⟩) hHeld ?_
  try simp only [Act.put, List.getElem_toArray, List.getElem_cons_zero, List.getElem_cons_succ, List.setIfInBounds_toArray, List.set_cons_zero, List.set_cons_succ]
  refine wpAnyH_take (i := 21) (v := ?_) rfl (by kernel_rfl) (by kernel_rfl) (by kernel_rfl) (fun _ _ _ h => h) (Or.inl ⟨by rfl, ?_⟩) hHeld ?_
  rotate_left
  · (intro w hSw; (try dsimp only at hSw); go_simp; try with_reducible rfl)
  try simp only [Act.put, List.getElem_toArray, List.getElem_cons_zero, List.getElem_cons_succ, List.setIfInBounds_toArray, List.set_cons_zero, List.set_cons_succ]
  refine wpAnyH_take (i := 22) (v := ?_) rfl (by kernel_rfl) (by kernel_rfl) (by kernel_rfl) (fun _ _ _ h => h) (Or.inl ⟨by rfl, ?_⟩) hHeld ?_
  rotate_left
  · (intro w hSw; (try dsimp only at hSw); go_simp; try with_reducible rfl)
  try simp only [Act.put, List.getElem_toArray, List.getElem_cons_zero, List.getElem_cons_succ, List.setIfInBounds_toArray, List.set_cons_zero, List.set_cons_succ]
  refine wpAnyH_done (by kernel_rfl) ?_ _
  go_wp2
  go_ret
  exact ⟨rfl, hb.drew⟩

set_option maxRecDepth 100000 in
set_option maxHeartbeats 4000000 in
theorem may9_hi (id ev m ch ro lo me lst dn : Int) (op : Bool) (hm : ∀ W, Calls Try.prog 50 #[.agg #[.int .u32 id, .int .i64 m, .int .i64 ch, .int .i64 ro, .int .i64 lo, .int .i64 2]] W fun e w' => e = .returned (.bool true) ∧ Below W.heap.size W w') (he : ev ≤ 2147483648) (h0 : 0 ≤ me) (h1 : decide (m ≤ me) = false) (hl : (lst == -1) = false) (h2 : decide (0 ≤ lst) = true) (h3 : decide (lst < m) = false) (w : World) : Calls Try.prog 28 #[.agg #[.int .u32 id, .int .u32 ev, .int .i64 m, .int .i64 ch, .int .i64 ro, .int .i64 lo, .int .i64 me, .int .i64 lst, .int .i64 dn, .bool op]] w fun e w' => e = .returned (.bool false) ∧ Below w.heap.size w w' := by
  have B := CellsAt.new w [.int .u32 id, .int .u32 ev, .int .i64 m, .int .i64 ch, .int .i64 ro, .int .i64 lo, .int .i64 me, .int .i64 lst, .int .i64 dn, .bool op] 28
  have hb : Below w.heap.size w (w.alloc (.cells #[.int .u32 id, .int .u32 ev, .int .i64 m, .int .i64 ch, .int .i64 ro, .int .i64 lo, .int .i64 me, .int .i64 lst, .int .i64 dn, .bool op] 28 (0, 0))) := (Below.refl _ _).alloc (Nat.le_refl _) _
  obtain ⟨c0, c1, c2, c3, c4, c5, c6, c7, c8, c9⟩ := B.all10
  go_enter Try.func28, Try.ntmps28
  go_upto_region 6 with (go_at_call 50; refine (hm _).mono ?_; rintro e w2 ⟨rfl, hb2⟩; replace hb := (hb.alloc hb.size (.cells #[.int .u32 id, .int .i64 m, .int .i64 ch, .int .i64 ro, .int .i64 lo, .int .i64 2] 61 (0, 0))).trans (hb2.mono (by have := hb.size; simp; omega)); clear c0 c1 c2 c3 c4 c5 c6 c7 c8 c9; replace B := (B.alloc (.cells #[.int .u32 id, .int .i64 m, .int .i64 ch, .int .i64 ro, .int .i64 lo, .int .i64 2] 61 (0, 0))).below hb2 (Nat.le_refl _); obtain ⟨c0, c1, c2, c3, c4, c5, c6, c7, c8, c9⟩ := B.all10; clear hb2)
  refine wp_region_held_drew (S := (fun W => W.cell? ⟨w.heap.size, 2, none⟩ = some (.int .i64 m) ∧ W.cell? ⟨w.heap.size, 7, none⟩ = some (.int .i64 lst) ∧ W.cell? ⟨w.heap.size, 8, none⟩ = some (.int .i64 dn))) (by kernel_rfl) ?_ (fun hHeld => ?_)
  · exact ⟨c2, c7, c8⟩
  refine wpAnyH_take (i := 0) (v := ?_) rfl (by kernel_rfl) (by kernel_rfl) (by kernel_rfl) (fun _ _ _ h => h) (Or.inl ⟨by rfl, ?_⟩) hHeld ?_
  rotate_left
  · (intro w hSw; (try dsimp only at hSw); go_simp; try with_reducible rfl)
  try simp only [Act.put, List.getElem_toArray, List.getElem_cons_zero, List.setIfInBounds_toArray, List.set_cons_zero, List.set_cons_succ]
  refine wpAnyH_take (i := 1) (v := ?_) rfl (by kernel_rfl) (by kernel_rfl) (by kernel_rfl) (fun _ _ _ h => h) (Or.inl ⟨by rfl, ?_⟩) hHeld ?_
  rotate_left
  · (intro w hSw; (try dsimp only at hSw); go_simp; try with_reducible rfl)
  try simp only [Act.put, List.getElem_toArray, List.getElem_cons_zero, List.getElem_cons_succ, List.setIfInBounds_toArray, List.set_cons_zero, List.set_cons_succ]
  refine wpAnyH_take (i := 2) (v := ?_) rfl (by kernel_rfl) (by kernel_rfl) (by kernel_rfl) (fun _ _ _ h => h) (Or.inl ⟨by rfl, ?_⟩) hHeld ?_
  rotate_left
  · (intro w hSw; (try dsimp only at hSw); go_simp; try with_reducible rfl)
  try simp only [Act.put, List.getElem_toArray, List.getElem_cons_zero, List.getElem_cons_succ, List.setIfInBounds_toArray, List.set_cons_zero, List.set_cons_succ]
  refine wpAnyH_take (i := 3) (v := ?_) rfl (by kernel_rfl) (by kernel_rfl) (by kernel_rfl) (fun _ _ _ h => h) (Or.inl ⟨by rfl, ?_⟩) hHeld ?_
  rotate_left
  · (intro w hSw; (try dsimp only at hSw); go_simp; try with_reducible rfl)
  try simp only [Act.put, List.getElem_toArray, List.getElem_cons_zero, List.getElem_cons_succ, List.setIfInBounds_toArray, List.set_cons_zero, List.set_cons_succ]
  refine wpAnyH_take (i := 4) (v := ?_) rfl (by kernel_rfl) (by kernel_rfl) (by kernel_rfl) (fun _ _ _ h => h) (Or.inl ⟨by rfl, ?_⟩) hHeld ?_
  rotate_left
  · (intro w hSw; (try dsimp only at hSw); go_simp; try with_reducible rfl)
  try simp only [Act.put, List.getElem_toArray, List.getElem_cons_zero, List.getElem_cons_succ, List.setIfInBounds_toArray, List.set_cons_zero, List.set_cons_succ]
  refine wpAnyH_take (i := 5) (v := ?_) rfl (by kernel_rfl) (by kernel_rfl) (by kernel_rfl) (fun _ _ _ h => h) (Or.inl ⟨by rfl, ?_⟩) hHeld ?_
  rotate_left
  · (intro w hSw; (try dsimp only at hSw); go_simp; try with_reducible rfl)
  try simp only [Act.put, List.getElem_toArray, List.getElem_cons_zero, List.getElem_cons_succ, List.setIfInBounds_toArray, List.set_cons_zero, List.set_cons_succ]
  refine wpAnyH_take (i := 6) (v := ?_) rfl (by kernel_rfl) (by kernel_rfl) (by kernel_rfl) (fun _ _ _ h => h) (Or.inl ⟨by rfl, ?_⟩) hHeld ?_
  rotate_left
  · (intro w hSw; (try dsimp only at hSw); go_simp; try with_reducible rfl)
  try simp only [Act.put, List.getElem_toArray, List.getElem_cons_zero, List.getElem_cons_succ, List.setIfInBounds_toArray, List.set_cons_zero, List.set_cons_succ]
  refine wpAnyH_take (i := 7) (v := ?_) rfl (by kernel_rfl) (by kernel_rfl) (by kernel_rfl) (fun _ _ _ h => h) (Or.inl ⟨by rfl, ?_⟩) hHeld ?_
  rotate_left
  · (intro w hSw; (try dsimp only at hSw); go_simp; try with_reducible rfl)
  try simp only [Act.put, List.getElem_toArray, List.getElem_cons_zero, List.getElem_cons_succ, List.setIfInBounds_toArray, List.set_cons_zero, List.set_cons_succ]
  refine wpAnyH_take (i := 8) (v := ?_) rfl (by kernel_rfl) (by kernel_rfl) (by kernel_rfl) (fun _ _ _ h => h) (Or.inl ⟨by rfl, ?_⟩) hHeld ?_
  rotate_left
  · (intro w hSw; (try dsimp only at hSw); go_simp; try with_reducible rfl)
  try simp only [Act.put, List.getElem_toArray, List.getElem_cons_zero, List.getElem_cons_succ, List.setIfInBounds_toArray, List.set_cons_zero, List.set_cons_succ]
  refine wpAnyH_take (i := 9) (v := ?_) rfl (by kernel_rfl) (by kernel_rfl) (by kernel_rfl) (fun _ _ _ h => h) (Or.inl ⟨by rfl, ?_⟩) hHeld ?_
  rotate_left
  · (intro w hSw; (try dsimp only at hSw); go_simp; try with_reducible rfl)
  try simp only [Act.put, List.getElem_toArray, List.getElem_cons_zero, List.getElem_cons_succ, List.setIfInBounds_toArray, List.set_cons_zero, List.set_cons_succ]
  refine wpAnyH_take (i := 10) (v := ?_) rfl (by kernel_rfl) (by kernel_rfl) (by kernel_rfl) (fun _ _ _ h => h) (Or.inl ⟨by rfl, ?_⟩) hHeld ?_
  rotate_left
  · (intro w hSw; (try dsimp only at hSw); go_simp; try with_reducible rfl)
  try simp only [Act.put, List.getElem_toArray, List.getElem_cons_zero, List.getElem_cons_succ, List.setIfInBounds_toArray, List.set_cons_zero, List.set_cons_succ]
  refine wpAnyH_take (i := 11) (v := undef) rfl (by kernel_rfl) (by kernel_rfl) (by kernel_rfl) (fun _ _ _ h => h) (Or.inr ⟨by rfl, rfl⟩) hHeld ?_
  try simp only [Act.put, List.getElem_toArray, List.getElem_cons_zero, List.getElem_cons_succ, List.setIfInBounds_toArray, List.set_cons_zero, List.set_cons_succ]
  refine wpAnyH_take (i := 12) (v := undef) rfl (by kernel_rfl) (by kernel_rfl) (by kernel_rfl) (fun _ _ _ h => h) (Or.inr ⟨by rfl, rfl⟩) hHeld ?_
  try simp only [Act.put, List.getElem_toArray, List.getElem_cons_zero, List.getElem_cons_succ, List.setIfInBounds_toArray, List.set_cons_zero, List.set_cons_succ]
  refine wpAnyH_take (i := 13) (v := undef) rfl (by kernel_rfl) (by kernel_rfl) (by kernel_rfl) (fun _ _ _ h => h) (Or.inr ⟨by rfl, rfl⟩) hHeld ?_
  try simp only [Act.put, List.getElem_toArray, List.getElem_cons_zero, List.getElem_cons_succ, List.setIfInBounds_toArray, List.set_cons_zero, List.set_cons_succ]
  refine wpAnyH_take (i := 14) (v := ?_) rfl (by kernel_rfl) (by kernel_rfl) (by kernel_rfl) (fun _ _ _ h => h) (Or.inl ⟨by rfl, ?_⟩) hHeld ?_
  rotate_left
  · (intro w hSw; (try dsimp only at hSw); go_simp; try with_reducible rfl)
  try simp only [Act.put, List.getElem_toArray, List.getElem_cons_zero, List.getElem_cons_succ, List.setIfInBounds_toArray, List.set_cons_zero, List.set_cons_succ]
  refine wpAnyH_take (i := 15) (v := ?_) rfl (by kernel_rfl) (by kernel_rfl) (by kernel_rfl) (fun _ _ _ h => h) (Or.inl ⟨by rfl, ?_⟩) hHeld ?_
  rotate_left
  · (intro w hSw; (try dsimp only at hSw); go_simp; try with_reducible rfl)
  try simp only [Act.put, List.getElem_toArray, List.getElem_cons_zero, List.getElem_cons_succ, List.setIfInBounds_toArray, List.set_cons_zero, List.set_cons_succ]
  refine wpAnyH_take (i := 16) (v := undef) rfl (by kernel_rfl) (by kernel_rfl) (by kernel_rfl) (fun _ _ _ h => h) (Or.inr ⟨by rfl, rfl⟩) hHeld ?_
  try simp only [Act.put, List.getElem_toArray, List.getElem_cons_zero, List.getElem_cons_succ, List.setIfInBounds_toArray, List.set_cons_zero, List.set_cons_succ]
  refine wpAnyH_take (i := 17) (v := undef) rfl (by kernel_rfl) (by kernel_rfl) (by kernel_rfl) (fun _ _ _ h => h) (Or.inr ⟨by rfl, rfl⟩) hHeld ?_
  try simp only [Act.put, List.getElem_toArray, List.getElem_cons_zero, List.getElem_cons_succ, List.setIfInBounds_toArray, List.set_cons_zero, List.set_cons_succ]
  refine wpAnyH_take (i := 18) (v := undef) rfl (by kernel_rfl) (by kernel_rfl) (by kernel_rfl) (fun _ _ _ h => h) (Or.inr ⟨by rfl, rfl⟩) hHeld ?_
  try simp only [Act.put, List.getElem_toArray, List.getElem_cons_zero, List.getElem_cons_succ, List.setIfInBounds_toArray, List.set_cons_zero, List.set_cons_succ]
  refine wpAnyH_take (i := 19) (v := undef) rfl (by kernel_rfl) (by kernel_rfl) (by kernel_rfl) (fun _ _ _ h => h) (Or.inr ⟨by rfl, rfl⟩) hHeld ?_
  try simp only [Act.put, List.getElem_toArray, List.getElem_cons_zero, List.getElem_cons_succ, List.setIfInBounds_toArray, List.set_cons_zero, List.set_cons_succ]
  refine wpAnyH_take (i := 20) (v := undef) rfl (by kernel_rfl) (by kernel_rfl) (by kernel_rfl) (fun _ _ _ h => h) (Or.inr ⟨by rfl, rfl⟩) hHeld ?_
  try simp only [Act.put, List.getElem_toArray, List.getElem_cons_zero, List.getElem_cons_succ, List.setIfInBounds_toArray, List.set_cons_zero, List.set_cons_succ]
  refine wpAnyH_take (i := 21) (v := ?_) rfl (by kernel_rfl) (by kernel_rfl) (by kernel_rfl) (fun _ _ _ h => h) (Or.inl ⟨by rfl, ?_⟩) hHeld ?_
  rotate_left
  · (intro w hSw; (try dsimp only at hSw); go_simp; try with_reducible rfl)
  try simp only [Act.put, List.getElem_toArray, List.getElem_cons_zero, List.getElem_cons_succ, List.setIfInBounds_toArray, List.set_cons_zero, List.set_cons_succ]
  refine wpAnyH_take (i := 22) (v := ?_) rfl (by kernel_rfl) (by kernel_rfl) (by kernel_rfl) (fun _ _ _ h => h) (Or.inl ⟨by rfl, ?_⟩) hHeld ?_
  rotate_left
  · (intro w hSw; (try dsimp only at hSw); go_simp; try with_reducible rfl)
  try simp only [Act.put, List.getElem_toArray, List.getElem_cons_zero, List.getElem_cons_succ, List.setIfInBounds_toArray, List.set_cons_zero, List.set_cons_succ]
  refine wpAnyH_done (by kernel_rfl) ?_ _
  go_wp2
  go_ret
  exact ⟨rfl, hb.drew⟩

set_option maxRecDepth 100000 in
set_option maxHeartbeats 4000000 in
theorem may9_d0 (id ev m ch ro lo me lst dn : Int) (op : Bool) (hm : ∀ W, Calls Try.prog 50 #[.agg #[.int .u32 id, .int .i64 m, .int .i64 ch, .int .i64 ro, .int .i64 lo, .int .i64 2]] W fun e w' => e = .returned (.bool true) ∧ Below W.heap.size W w') (he : ev ≤ 2147483648) (h0 : 0 ≤ me) (h1 : decide (m ≤ me) = false) (hl : (lst == -1) = false) (h2 : decide (0 ≤ lst) = true) (h3 : decide (lst < m) = true) (h4 : decide (0 ≤ dn) = false) (w : World) : Calls Try.prog 28 #[.agg #[.int .u32 id, .int .u32 ev, .int .i64 m, .int .i64 ch, .int .i64 ro, .int .i64 lo, .int .i64 me, .int .i64 lst, .int .i64 dn, .bool op]] w fun e w' => e = .returned (.bool false) ∧ Below w.heap.size w w' := by
  have B := CellsAt.new w [.int .u32 id, .int .u32 ev, .int .i64 m, .int .i64 ch, .int .i64 ro, .int .i64 lo, .int .i64 me, .int .i64 lst, .int .i64 dn, .bool op] 28
  have hb : Below w.heap.size w (w.alloc (.cells #[.int .u32 id, .int .u32 ev, .int .i64 m, .int .i64 ch, .int .i64 ro, .int .i64 lo, .int .i64 me, .int .i64 lst, .int .i64 dn, .bool op] 28 (0, 0))) := (Below.refl _ _).alloc (Nat.le_refl _) _
  obtain ⟨c0, c1, c2, c3, c4, c5, c6, c7, c8, c9⟩ := B.all10
  go_enter Try.func28, Try.ntmps28
  go_upto_region 6 with (go_at_call 50; refine (hm _).mono ?_; rintro e w2 ⟨rfl, hb2⟩; replace hb := (hb.alloc hb.size (.cells #[.int .u32 id, .int .i64 m, .int .i64 ch, .int .i64 ro, .int .i64 lo, .int .i64 2] 61 (0, 0))).trans (hb2.mono (by have := hb.size; simp; omega)); clear c0 c1 c2 c3 c4 c5 c6 c7 c8 c9; replace B := (B.alloc (.cells #[.int .u32 id, .int .i64 m, .int .i64 ch, .int .i64 ro, .int .i64 lo, .int .i64 2] 61 (0, 0))).below hb2 (Nat.le_refl _); obtain ⟨c0, c1, c2, c3, c4, c5, c6, c7, c8, c9⟩ := B.all10; clear hb2)
  refine wp_region_held_drew (S := (fun W => W.cell? ⟨w.heap.size, 2, none⟩ = some (.int .i64 m) ∧ W.cell? ⟨w.heap.size, 7, none⟩ = some (.int .i64 lst) ∧ W.cell? ⟨w.heap.size, 8, none⟩ = some (.int .i64 dn))) (by kernel_rfl) ?_ (fun hHeld => ?_)
  · exact ⟨c2, c7, c8⟩
  refine wpAnyH_take (i := 0) (v := ?_) rfl (by kernel_rfl) (by kernel_rfl) (by kernel_rfl) (fun _ _ _ h => h) (Or.inl ⟨by rfl, ?_⟩) hHeld ?_
  rotate_left
  · (intro w hSw; (try dsimp only at hSw); go_simp; try with_reducible rfl)
  try simp only [Act.put, List.getElem_toArray, List.getElem_cons_zero, List.setIfInBounds_toArray, List.set_cons_zero, List.set_cons_succ]
  refine wpAnyH_take (i := 1) (v := ?_) rfl (by kernel_rfl) (by kernel_rfl) (by kernel_rfl) (fun _ _ _ h => h) (Or.inl ⟨by rfl, ?_⟩) hHeld ?_
  rotate_left
  · (intro w hSw; (try dsimp only at hSw); go_simp; try with_reducible rfl)
  try simp only [Act.put, List.getElem_toArray, List.getElem_cons_zero, List.getElem_cons_succ, List.setIfInBounds_toArray, List.set_cons_zero, List.set_cons_succ]
  refine wpAnyH_take (i := 2) (v := ?_) rfl (by kernel_rfl) (by kernel_rfl) (by kernel_rfl) (fun _ _ _ h => h) (Or.inl ⟨by rfl, ?_⟩) hHeld ?_
  rotate_left
  · (intro w hSw; (try dsimp only at hSw); go_simp; try with_reducible rfl)
  try simp only [Act.put, List.getElem_toArray, List.getElem_cons_zero, List.getElem_cons_succ, List.setIfInBounds_toArray, List.set_cons_zero, List.set_cons_succ]
  refine wpAnyH_take (i := 3) (v := ?_) rfl (by kernel_rfl) (by kernel_rfl) (by kernel_rfl) (fun _ _ _ h => h) (Or.inl ⟨by rfl, ?_⟩) hHeld ?_
  rotate_left
  · (intro w hSw; (try dsimp only at hSw); go_simp; try with_reducible rfl)
  try simp only [Act.put, List.getElem_toArray, List.getElem_cons_zero, List.getElem_cons_succ, List.setIfInBounds_toArray, List.set_cons_zero, List.set_cons_succ]
  refine wpAnyH_take (i := 4) (v := ?_) rfl (by kernel_rfl) (by kernel_rfl) (by kernel_rfl) (fun _ _ _ h => h) (Or.inl ⟨by rfl, ?_⟩) hHeld ?_
  rotate_left
  · (intro w hSw; (try dsimp only at hSw); go_simp; try with_reducible rfl)
  try simp only [Act.put, List.getElem_toArray, List.getElem_cons_zero, List.getElem_cons_succ, List.setIfInBounds_toArray, List.set_cons_zero, List.set_cons_succ]
  refine wpAnyH_take (i := 5) (v := ?_) rfl (by kernel_rfl) (by kernel_rfl) (by kernel_rfl) (fun _ _ _ h => h) (Or.inl ⟨by rfl, ?_⟩) hHeld ?_
  rotate_left
  · (intro w hSw; (try dsimp only at hSw); go_simp; try with_reducible rfl)
  try simp only [Act.put, List.getElem_toArray, List.getElem_cons_zero, List.getElem_cons_succ, List.setIfInBounds_toArray, List.set_cons_zero, List.set_cons_succ]
  refine wpAnyH_take (i := 6) (v := ?_) rfl (by kernel_rfl) (by kernel_rfl) (by kernel_rfl) (fun _ _ _ h => h) (Or.inl ⟨by rfl, ?_⟩) hHeld ?_
  rotate_left
  · (intro w hSw; (try dsimp only at hSw); go_simp; try with_reducible rfl)
  try simp only [Act.put, List.getElem_toArray, List.getElem_cons_zero, List.getElem_cons_succ, List.setIfInBounds_toArray, List.set_cons_zero, List.set_cons_succ]
  refine wpAnyH_take (i := 7) (v := ?_) rfl (by kernel_rfl) (by kernel_rfl) (by kernel_rfl) (fun _ _ _ h => h) (Or.inl ⟨by rfl, ?_⟩) hHeld ?_
  rotate_left
  · (intro w hSw; (try dsimp only at hSw); go_simp; try with_reducible rfl)
  try simp only [Act.put, List.getElem_toArray, List.getElem_cons_zero, List.getElem_cons_succ, List.setIfInBounds_toArray, List.set_cons_zero, List.set_cons_succ]
  refine wpAnyH_take (i := 8) (v := ?_) rfl (by kernel_rfl) (by kernel_rfl) (by kernel_rfl) (fun _ _ _ h => h) (Or.inl ⟨by rfl, ?_⟩) hHeld ?_
  rotate_left
  · (intro w hSw; (try dsimp only at hSw); go_simp; try with_reducible rfl)
  try simp only [Act.put, List.getElem_toArray, List.getElem_cons_zero, List.getElem_cons_succ, List.setIfInBounds_toArray, List.set_cons_zero, List.set_cons_succ]
  refine wpAnyH_take (i := 9) (v := ?_) rfl (by kernel_rfl) (by kernel_rfl) (by kernel_rfl) (fun _ _ _ h => h) (Or.inl ⟨by rfl, ?_⟩) hHeld ?_
  rotate_left
  · (intro w hSw; (try dsimp only at hSw); go_simp; try with_reducible rfl)
  try simp only [Act.put, List.getElem_toArray, List.getElem_cons_zero, List.getElem_cons_succ, List.setIfInBounds_toArray, List.set_cons_zero, List.set_cons_succ]
  refine wpAnyH_take (i := 10) (v := ?_) rfl (by kernel_rfl) (by kernel_rfl) (by kernel_rfl) (fun _ _ _ h => h) (Or.inl ⟨by rfl, ?_⟩) hHeld ?_
  rotate_left
  · (intro w hSw; (try dsimp only at hSw); go_simp; try with_reducible rfl)
  try simp only [Act.put, List.getElem_toArray, List.getElem_cons_zero, List.getElem_cons_succ, List.setIfInBounds_toArray, List.set_cons_zero, List.set_cons_succ]
  refine wpAnyH_take (i := 11) (v := ?_) rfl (by kernel_rfl) (by kernel_rfl) (by kernel_rfl) (fun _ _ _ h => h) (Or.inl ⟨by rfl, ?_⟩) hHeld ?_
  rotate_left
  · (intro w hSw; (try dsimp only at hSw); go_simp; try with_reducible rfl)
  try simp only [Act.put, List.getElem_toArray, List.getElem_cons_zero, List.getElem_cons_succ, List.setIfInBounds_toArray, List.set_cons_zero, List.set_cons_succ]
  refine wpAnyH_take (i := 12) (v := ?_) rfl (by kernel_rfl) (by kernel_rfl) (by kernel_rfl) (fun _ _ _ h => h) (Or.inl ⟨by rfl, ?_⟩) hHeld ?_
  rotate_left
  · (intro w hSw; (try dsimp only at hSw); go_simp; try with_reducible rfl)
  try simp only [Act.put, List.getElem_toArray, List.getElem_cons_zero, List.getElem_cons_succ, List.setIfInBounds_toArray, List.set_cons_zero, List.set_cons_succ]
  refine wpAnyH_take (i := 13) (v := ?_) rfl (by kernel_rfl) (by kernel_rfl) (by kernel_rfl) (fun _ _ _ h => h) (Or.inl ⟨by rfl, ?_⟩) hHeld ?_
  rotate_left
  · (intro w hSw; (try dsimp only at hSw); go_simp; try with_reducible rfl)
  try simp only [Act.put, List.getElem_toArray, List.getElem_cons_zero, List.getElem_cons_succ, List.setIfInBounds_toArray, List.set_cons_zero, List.set_cons_succ]
  refine wpAnyH_take (i := 14) (v := ?_) rfl (by kernel_rfl) (by kernel_rfl) (by kernel_rfl) (fun _ _ _ h => h) (Or.inl ⟨by rfl, ?_⟩) hHeld ?_
  rotate_left
  · (intro w hSw; (try dsimp only at hSw); go_simp; try with_reducible rfl)
  try simp only [Act.put, List.getElem_toArray, List.getElem_cons_zero, List.getElem_cons_succ, List.setIfInBounds_toArray, List.set_cons_zero, List.set_cons_succ]
  refine wpAnyH_take (i := 15) (v := ?_) rfl (by kernel_rfl) (by kernel_rfl) (by kernel_rfl) (fun _ _ _ h => h) (Or.inl ⟨by rfl, ?_⟩) hHeld ?_
  rotate_left
  · (intro w hSw; (try dsimp only at hSw); go_simp; try with_reducible rfl)
  try simp only [Act.put, List.getElem_toArray, List.getElem_cons_zero, List.getElem_cons_succ, List.setIfInBounds_toArray, List.set_cons_zero, List.set_cons_succ]
  refine wpAnyH_take (i := 16) (v := undef) rfl (by kernel_rfl) (by kernel_rfl) (by kernel_rfl) (fun _ _ _ h => h) (Or.inr ⟨by rfl, rfl⟩) hHeld ?_
  try simp only [Act.put, List.getElem_toArray, List.getElem_cons_zero, List.getElem_cons_succ, List.setIfInBounds_toArray, List.set_cons_zero, List.set_cons_succ]
  refine wpAnyH_take (i := 17) (v := undef) rfl (by kernel_rfl) (by kernel_rfl) (by kernel_rfl) (fun _ _ _ h => h) (Or.inr ⟨by rfl, rfl⟩) hHeld ?_
  try simp only [Act.put, List.getElem_toArray, List.getElem_cons_zero, List.getElem_cons_succ, List.setIfInBounds_toArray, List.set_cons_zero, List.set_cons_succ]
  refine wpAnyH_take (i := 18) (v := undef) rfl (by kernel_rfl) (by kernel_rfl) (by kernel_rfl) (fun _ _ _ h => h) (Or.inr ⟨by rfl, rfl⟩) hHeld ?_
  try simp only [Act.put, List.getElem_toArray, List.getElem_cons_zero, List.getElem_cons_succ, List.setIfInBounds_toArray, List.set_cons_zero, List.set_cons_succ]
  refine wpAnyH_take (i := 19) (v := undef) rfl (by kernel_rfl) (by kernel_rfl) (by kernel_rfl) (fun _ _ _ h => h) (Or.inr ⟨by rfl, rfl⟩) hHeld ?_
  try simp only [Act.put, List.getElem_toArray, List.getElem_cons_zero, List.getElem_cons_succ, List.setIfInBounds_toArray, List.set_cons_zero, List.set_cons_succ]
  refine wpAnyH_take (i := 20) (v := undef) rfl (by kernel_rfl) (by kernel_rfl) (by kernel_rfl) (fun _ _ _ h => h) (Or.inr ⟨by rfl, rfl⟩) hHeld ?_
  try simp only [Act.put, List.getElem_toArray, List.getElem_cons_zero, List.getElem_cons_succ, List.setIfInBounds_toArray, List.set_cons_zero, List.set_cons_succ]
  refine wpAnyH_take (i := 21) (v := ?_) rfl (by kernel_rfl) (by kernel_rfl) (by kernel_rfl) (fun _ _ _ h => h) (Or.inl ⟨by rfl, ?_⟩) hHeld ?_
  rotate_left
  · (intro w hSw; (try dsimp only at hSw); go_simp; try with_reducible rfl)
  try simp only [Act.put, List.getElem_toArray, List.getElem_cons_zero, List.getElem_cons_succ, List.setIfInBounds_toArray, List.set_cons_zero, List.set_cons_succ]
  refine wpAnyH_take (i := 22) (v := ?_) rfl (by kernel_rfl) (by kernel_rfl) (by kernel_rfl) (fun _ _ _ h => h) (Or.inl ⟨by rfl, ?_⟩) hHeld ?_
  rotate_left
  · (intro w hSw; (try dsimp only at hSw); go_simp; try with_reducible rfl)
  try simp only [Act.put, List.getElem_toArray, List.getElem_cons_zero, List.getElem_cons_succ, List.setIfInBounds_toArray, List.set_cons_zero, List.set_cons_succ]
  refine wpAnyH_done (by kernel_rfl) ?_ _
  go_wp2
  go_ret
  exact ⟨rfl, hb.drew⟩

set_option maxRecDepth 100000 in
set_option maxHeartbeats 4000000 in
theorem may9_call (id ev m ch ro lo me lst dn : Int) (op : Bool) (hm : ∀ W, Calls Try.prog 50 #[.agg #[.int .u32 id, .int .i64 m, .int .i64 ch, .int .i64 ro, .int .i64 lo, .int .i64 2]] W fun e w' => e = .returned (.bool true) ∧ Below W.heap.size W w') (he : ev ≤ 2147483648) (h0 : 0 ≤ me) (h1 : decide (m ≤ me) = false) (hl : (lst == -1) = false) (h2 : decide (0 ≤ lst) = true) (h3 : decide (lst < m) = true) (h4 : decide (0 ≤ dn) = true) (s : Int) (t : Bool) (h5 : decide (dn ≤ s) = t) (hs : ∀ W, Calls Try.prog 51 #[.agg #[.int .u32 id, .int .i64 m, .int .i64 ch, .int .i64 ro, .int .i64 lo, .int .i64 2]] W fun e w' => e = .returned (.int .i64 s) ∧ Below W.heap.size W w') (w : World) : Calls Try.prog 28 #[.agg #[.int .u32 id, .int .u32 ev, .int .i64 m, .int .i64 ch, .int .i64 ro, .int .i64 lo, .int .i64 me, .int .i64 lst, .int .i64 dn, .bool op]] w fun e w' => e = .returned (.bool t) ∧ Below w.heap.size w w' := by
  have B := CellsAt.new w [.int .u32 id, .int .u32 ev, .int .i64 m, .int .i64 ch, .int .i64 ro, .int .i64 lo, .int .i64 me, .int .i64 lst, .int .i64 dn, .bool op] 28
  have hb : Below w.heap.size w (w.alloc (.cells #[.int .u32 id, .int .u32 ev, .int .i64 m, .int .i64 ch, .int .i64 ro, .int .i64 lo, .int .i64 me, .int .i64 lst, .int .i64 dn, .bool op] 28 (0, 0))) := (Below.refl _ _).alloc (Nat.le_refl _) _
  obtain ⟨c0, c1, c2, c3, c4, c5, c6, c7, c8, c9⟩ := B.all10
  go_enter Try.func28, Try.ntmps28
  go_upto_region 6 with (go_at_call 50; refine (hm _).mono ?_; rintro e w2 ⟨rfl, hb2⟩; replace hb := (hb.alloc hb.size (.cells #[.int .u32 id, .int .i64 m, .int .i64 ch, .int .i64 ro, .int .i64 lo, .int .i64 2] 61 (0, 0))).trans (hb2.mono (by have := hb.size; simp; omega)); clear c0 c1 c2 c3 c4 c5 c6 c7 c8 c9; replace B := (B.alloc (.cells #[.int .u32 id, .int .i64 m, .int .i64 ch, .int .i64 ro, .int .i64 lo, .int .i64 2] 61 (0, 0))).below hb2 (Nat.le_refl _); have G := (BlkAt.new (w.alloc (.cells #[.int .u32 id, .int .u32 ev, .int .i64 m, .int .i64 ch, .int .i64 ro, .int .i64 lo, .int .i64 me, .int .i64 lst, .int .i64 dn, .bool op] 28)) #[.int .u32 id, .int .i64 m, .int .i64 ch, .int .i64 ro, .int .i64 lo, .int .i64 2] 61).below hb2 (Nat.le_refl _); rw [World.size_alloc] at G; obtain ⟨c0, c1, c2, c3, c4, c5, c6, c7, c8, c9⟩ := B.all10; clear hb2)
  refine wp_region_held_drew (S := (fun W => W.cell? ⟨w.heap.size, 2, none⟩ = some (.int .i64 m) ∧ W.cell? ⟨w.heap.size, 7, none⟩ = some (.int .i64 lst) ∧ W.cell? ⟨w.heap.size, 8, none⟩ = some (.int .i64 dn) ∧ W.cell? ⟨w.heap.size + 1, 0, none⟩ = some (.int .u32 id) ∧ W.cell? ⟨w.heap.size + 1, 1, none⟩ = some (.int .i64 m) ∧ W.cell? ⟨w.heap.size + 1, 2, none⟩ = some (.int .i64 ch) ∧ W.cell? ⟨w.heap.size + 1, 3, none⟩ = some (.int .i64 ro) ∧ W.cell? ⟨w.heap.size + 1, 4, none⟩ = some (.int .i64 lo) ∧ W.cell? ⟨w.heap.size + 1, 5, none⟩ = some (.int .i64 2))) (by kernel_rfl) ?_ (fun hHeld => ?_)
  · exact ⟨c2, c7, c8, G.cell 0, G.cell 1, G.cell 2, G.cell 3, G.cell 4, G.cell 5⟩
  refine wpAnyH_take (i := 0) (v := ?_) rfl (by kernel_rfl) (by kernel_rfl) (by kernel_rfl) (fun _ _ _ h => h) (Or.inl ⟨by rfl, ?_⟩) hHeld ?_
  rotate_left
  · (intro w hSw; (try dsimp only at hSw); go_simp; try with_reducible rfl)
  try simp only [Act.put, List.getElem_toArray, List.getElem_cons_zero, List.setIfInBounds_toArray, List.set_cons_zero, List.set_cons_succ]
  refine wpAnyH_take (i := 1) (v := ?_) rfl (by kernel_rfl) (by kernel_rfl) (by kernel_rfl) (fun _ _ _ h => h) (Or.inl ⟨by rfl, ?_⟩) hHeld ?_
  rotate_left
  · (intro w hSw; (try dsimp only at hSw); go_simp; try with_reducible rfl)
  try simp only [Act.put, List.getElem_toArray, List.getElem_cons_zero, List.getElem_cons_succ, List.setIfInBounds_toArray, List.set_cons_zero, List.set_cons_succ]
  refine wpAnyH_take (i := 2) (v := ?_) rfl (by kernel_rfl) (by kernel_rfl) (by kernel_rfl) (fun _ _ _ h => h) (Or.inl ⟨by rfl, ?_⟩) hHeld ?_
  rotate_left
  · (intro w hSw; (try dsimp only at hSw); go_simp; try with_reducible rfl)
  try simp only [Act.put, List.getElem_toArray, List.getElem_cons_zero, List.getElem_cons_succ, List.setIfInBounds_toArray, List.set_cons_zero, List.set_cons_succ]
  refine wpAnyH_take (i := 3) (v := ?_) rfl (by kernel_rfl) (by kernel_rfl) (by kernel_rfl) (fun _ _ _ h => h) (Or.inl ⟨by rfl, ?_⟩) hHeld ?_
  rotate_left
  · (intro w hSw; (try dsimp only at hSw); go_simp; try with_reducible rfl)
  try simp only [Act.put, List.getElem_toArray, List.getElem_cons_zero, List.getElem_cons_succ, List.setIfInBounds_toArray, List.set_cons_zero, List.set_cons_succ]
  refine wpAnyH_take (i := 4) (v := ?_) rfl (by kernel_rfl) (by kernel_rfl) (by kernel_rfl) (fun _ _ _ h => h) (Or.inl ⟨by rfl, ?_⟩) hHeld ?_
  rotate_left
  · (intro w hSw; (try dsimp only at hSw); go_simp; try with_reducible rfl)
  try simp only [Act.put, List.getElem_toArray, List.getElem_cons_zero, List.getElem_cons_succ, List.setIfInBounds_toArray, List.set_cons_zero, List.set_cons_succ]
  refine wpAnyH_take (i := 5) (v := ?_) rfl (by kernel_rfl) (by kernel_rfl) (by kernel_rfl) (fun _ _ _ h => h) (Or.inl ⟨by rfl, ?_⟩) hHeld ?_
  rotate_left
  · (intro w hSw; (try dsimp only at hSw); go_simp; try with_reducible rfl)
  try simp only [Act.put, List.getElem_toArray, List.getElem_cons_zero, List.getElem_cons_succ, List.setIfInBounds_toArray, List.set_cons_zero, List.set_cons_succ]
  refine wpAnyH_take (i := 6) (v := ?_) rfl (by kernel_rfl) (by kernel_rfl) (by kernel_rfl) (fun _ _ _ h => h) (Or.inl ⟨by rfl, ?_⟩) hHeld ?_
  rotate_left
  · (intro w hSw; (try dsimp only at hSw); go_simp; try with_reducible rfl)
  try simp only [Act.put, List.getElem_toArray, List.getElem_cons_zero, List.getElem_cons_succ, List.setIfInBounds_toArray, List.set_cons_zero, List.set_cons_succ]
  refine wpAnyH_take (i := 7) (v := ?_) rfl (by kernel_rfl) (by kernel_rfl) (by kernel_rfl) (fun _ _ _ h => h) (Or.inl ⟨by rfl, ?_⟩) hHeld ?_
  rotate_left
  · (intro w hSw; (try dsimp only at hSw); go_simp; try with_reducible rfl)
  try simp only [Act.put, List.getElem_toArray, List.getElem_cons_zero, List.getElem_cons_succ, List.setIfInBounds_toArray, List.set_cons_zero, List.set_cons_succ]
  refine wpAnyH_take (i := 8) (v := ?_) rfl (by kernel_rfl) (by kernel_rfl) (by kernel_rfl) (fun _ _ _ h => h) (Or.inl ⟨by rfl, ?_⟩) hHeld ?_
  rotate_left
  · (intro w hSw; (try dsimp only at hSw); go_simp; try with_reducible rfl)
  try simp only [Act.put, List.getElem_toArray, List.getElem_cons_zero, List.getElem_cons_succ, List.setIfInBounds_toArray, List.set_cons_zero, List.set_cons_succ]
  refine wpAnyH_take (i := 9) (v := ?_) rfl (by kernel_rfl) (by kernel_rfl) (by kernel_rfl) (fun _ _ _ h => h) (Or.inl ⟨by rfl, ?_⟩) hHeld ?_
  rotate_left
  · (intro w hSw; (try dsimp only at hSw); go_simp; try with_reducible rfl)
  try simp only [Act.put, List.getElem_toArray, List.getElem_cons_zero, List.getElem_cons_succ, List.setIfInBounds_toArray, List.set_cons_zero, List.set_cons_succ]
  refine wpAnyH_take (i := 10) (v := ?_) rfl (by kernel_rfl) (by kernel_rfl) (by kernel_rfl) (fun _ _ _ h => h) (Or.inl ⟨by rfl, ?_⟩) hHeld ?_
  rotate_left
  · (intro w hSw; (try dsimp only at hSw); go_simp; try with_reducible rfl)
  try simp only [Act.put, List.getElem_toArray, List.getElem_cons_zero, List.getElem_cons_succ, List.setIfInBounds_toArray, List.set_cons_zero, List.set_cons_succ]
  refine wpAnyH_take (i := 11) (v := ?_) rfl (by kernel_rfl) (by kernel_rfl) (by kernel_rfl) (fun _ _ _ h => h) (Or.inl ⟨by rfl, ?_⟩) hHeld ?_
  rotate_left
  · (intro w hSw; (try dsimp only at hSw); go_simp; try with_reducible rfl)
  try simp only [Act.put, List.getElem_toArray, List.getElem_cons_zero, List.getElem_cons_succ, List.setIfInBounds_toArray, List.set_cons_zero, List.set_cons_succ]
  refine wpAnyH_take (i := 12) (v := ?_) rfl (by kernel_rfl) (by kernel_rfl) (by kernel_rfl) (fun _ _ _ h => h) (Or.inl ⟨by rfl, ?_⟩) hHeld ?_
  rotate_left
  · (intro w hSw; (try dsimp only at hSw); go_simp; try with_reducible rfl)
  try simp only [Act.put, List.getElem_toArray, List.getElem_cons_zero, List.getElem_cons_succ, List.setIfInBounds_toArray, List.set_cons_zero, List.set_cons_succ]
  refine wpAnyH_take (i := 13) (v := ?_) rfl (by kernel_rfl) (by kernel_rfl) (by kernel_rfl) (fun _ _ _ h => h) (Or.inl ⟨by rfl, ?_⟩) hHeld ?_
  rotate_left
  · (intro w hSw; (try dsimp only at hSw); go_simp; try with_reducible rfl)
  try simp only [Act.put, List.getElem_toArray, List.getElem_cons_zero, List.getElem_cons_succ, List.setIfInBounds_toArray, List.set_cons_zero, List.set_cons_succ]
  refine wpAnyH_take (i := 14) (v := ?_) rfl (by kernel_rfl) (by kernel_rfl) (by kernel_rfl) (fun _ _ _ h => h) (Or.inl ⟨by rfl, ?_⟩) hHeld ?_
  rotate_left
  · (intro w hSw; (try dsimp only at hSw); go_simp; try with_reducible rfl)
  try simp only [Act.put, List.getElem_toArray, List.getElem_cons_zero, List.getElem_cons_succ, List.setIfInBounds_toArray, List.set_cons_zero, List.set_cons_succ]
  refine wpAnyH_take (i := 15) (v := ?_) rfl (by kernel_rfl) (by kernel_rfl) (by kernel_rfl) (fun _ _ _ h => h) (Or.inl ⟨by rfl, ?_⟩) hHeld ?_
  rotate_left
  · (intro w hSw; (try dsimp only at hSw); go_simp; try with_reducible rfl)
  try simp only [Act.put, List.getElem_toArray, List.getElem_cons_zero, List.getElem_cons_succ, List.setIfInBounds_toArray, List.set_cons_zero, List.set_cons_succ]
  refine wpAnyH_take (i := 16) (v := ?_) rfl (by kernel_rfl) (by kernel_rfl) (by kernel_rfl) (fun _ _ _ h => h) (Or.inl ⟨by rfl, ?_⟩) hHeld ?_
  rotate_left
  · (intro w hSw; (try dsimp only at hSw); go_simp; try with_reducible rfl)
  try simp only [Act.put, List.getElem_toArray, List.getElem_cons_zero, List.getElem_cons_succ, List.setIfInBounds_toArray, List.set_cons_zero, List.set_cons_succ]
  refine wpAnyH_take (i := 17) (v := ?_) rfl (by kernel_rfl) (by kernel_rfl) (by kernel_rfl) (fun _ _ _ h => h) (Or.inl ⟨by rfl, ?_⟩) hHeld ?_
  rotate_left
  · (intro w hSw; (try dsimp only at hSw); go_simp; try with_reducible rfl)
  try simp only [Act.put, List.getElem_toArray, List.getElem_cons_zero, List.getElem_cons_succ, List.setIfInBounds_toArray, List.set_cons_zero, List.set_cons_succ]
  refine wpAnyH_take (i := 18) (v := ?_) rfl (by kernel_rfl) (by kernel_rfl) (by kernel_rfl) (fun _ _ _ h => h) (Or.inl ⟨by rfl, ?_⟩) hHeld ?_
  rotate_left
  · (intro w hSw; (try dsimp only at hSw); go_simp; try with_reducible rfl)
  try simp only [Act.put, List.getElem_toArray, List.getElem_cons_zero, List.getElem_cons_succ, List.setIfInBounds_toArray, List.set_cons_zero, List.set_cons_succ]
  refine wpAnyH_ready (rs := [19]) (by kernel_rfl) (by simp) ?_
  refine AllReadyH.cons rfl (fun K hK => ?_) AllReadyH.nil
  go_simp
  refine (hs _).mono ?_
  rintro e w3 ⟨rfl, hb3⟩
  have hd : Below w.heap.size w w2.drew := hb.drew
  have hb4 := hd.trans (hb3.mono hd.size)
  clear c0 c1 c2 c3 c4 c5 c6 c7 c8 c9
  replace B := B.drew.below hb3 (Nat.le_refl _)
  replace G := G.drew.below hb3 (Nat.le_refl _)
  obtain ⟨c0, c1, c2, c3, c4, c5, c6, c7, c8, c9⟩ := B.all10
  go_wp2_with fail
  refine hK.out _ _ ?_ (fun hHeld2 => ?_)
  · exact ⟨c2, c7, c8, G.cell 0, G.cell 1, G.cell 2, G.cell 3, G.cell 4, G.cell 5⟩
  clear hK K hHeld
  have hHeld := hHeld2
  clear hHeld2
  try simp only [Act.put, List.setIfInBounds_toArray, List.set_cons_zero, List.set_cons_succ]
  refine wpAnyH_take (i := 20) (v := ?_) rfl (by kernel_rfl) (by kernel_rfl) (by kernel_rfl) (fun _ _ _ h => h) (Or.inl ⟨by rfl, ?_⟩) hHeld ?_
  rotate_left
  · (intro w hSw; (try dsimp only at hSw); go_simp; try with_reducible rfl)
  try simp only [Act.put, List.getElem_toArray, List.getElem_cons_zero, List.getElem_cons_succ, List.setIfInBounds_toArray, List.set_cons_zero, List.set_cons_succ]
  refine wpAnyH_take (i := 21) (v := ?_) rfl (by kernel_rfl) (by kernel_rfl) (by kernel_rfl) (fun _ _ _ h => h) (Or.inl ⟨by rfl, ?_⟩) hHeld ?_
  rotate_left
  · (intro w hSw; (try dsimp only at hSw); go_simp; try with_reducible rfl)
  try simp only [Act.put, List.getElem_toArray, List.getElem_cons_zero, List.getElem_cons_succ, List.setIfInBounds_toArray, List.set_cons_zero, List.set_cons_succ]
  refine wpAnyH_take (i := 22) (v := ?_) rfl (by kernel_rfl) (by kernel_rfl) (by kernel_rfl) (fun _ _ _ h => h) (Or.inl ⟨by rfl, ?_⟩) hHeld ?_
  rotate_left
  · (intro w hSw; (try dsimp only at hSw); go_simp; try with_reducible rfl)
  try simp only [Act.put, List.getElem_toArray, List.getElem_cons_zero, List.getElem_cons_succ, List.setIfInBounds_toArray, List.set_cons_zero, List.set_cons_succ]
  refine wpAnyH_done (by kernel_rfl) ?_ _
  go_wp2
  go_ret
  exact ⟨by subst h5; rfl, hb4⟩

theorem labMay (l : Lab) (w : World) : Calls Try.prog 28 #[labV l] w fun e w' => e = .returned (.bool (decide (MayL l))) ∧ Below w.heap.size w w' := by
  have hm := fun W => may_ref (cfgL l) W
  have hs : ∀ W, Calls Try.prog 51 #[cfgV (cfgL l)] W fun e w' => e = .returned (.int .i64 (wrap64 (l.chunk * l.rows))) ∧ Below W.heap.size W w' := fun W => stripes_ref (cfgL l) W
  have no : ∀ (h : ¬ MayL l), decide (MayL l) = false := fun h => decide_eq_false h
  by_cases h1 : MayC (cfgL l)
  · rw [decide_eq_true h1] at hm
    have hst : wrap64 (l.chunk * l.rows) = strC (cfgL l) := by
      have q := strC_box h1
      have e : strC (cfgL l) = l.chunk * l.rows := rfl
      rw [e] at q ⊢
      exact wrap64_in (by omega) (by omega)
    rw [hst] at hs
    by_cases h2 : l.ev ≤ 2147483648
    · by_cases h3 : l.me < 0
      · rw [no fun q => by have := q.2.2.1.1; omega]
        exact may9_me0 _ _ _ _ _ _ _ _ _ _ hm h2 h3 w
      by_cases h4 : l.mem ≤ l.me
      · rw [no fun q => by have := q.2.2.1.2; omega]
        exact may9_me1 _ _ _ _ _ _ _ _ _ _ hm h2 (by omega) (decide_eq_true h4) w
      have m0 : 0 ≤ l.me := by omega
      have m1 := decide_eq_false h4
      have yes : ∀ t : Bool, (LostOk l.mem l.lost l.done (strC (cfgL l)) ↔ t = true) → decide (MayL l) = t := fun t h => by
        rw [Bool.eq_iff_iff, decide_eq_true_iff, ← h]
        exact ⟨fun q => q.2.2.2, fun q => ⟨h1, h2, ⟨m0, by omega⟩, q⟩⟩
      by_cases h5 : l.lost = -1
      · have b5 : (l.lost == -1) = true := by simpa using h5
        by_cases h6 : l.done = 0
        · rw [yes true ⟨fun _ => rfl, fun _ => .inl ⟨h5, h6⟩⟩]
          exact may9_none1 _ _ _ _ _ _ _ _ _ _ hm h2 m0 m1 b5 (by simpa using h6) w
        · rw [yes false ⟨fun q => by unfold LostOk at q; omega, fun q => by cases q⟩]
          exact may9_none0 _ _ _ _ _ _ _ _ _ _ hm h2 m0 m1 b5 (by simpa using h6) w
      · have b5 : (l.lost == -1) = false := by simpa using h5
        by_cases h6 : 0 ≤ l.lost
        · by_cases h7 : l.lost < l.mem
          · by_cases h8 : 0 ≤ l.done
            · rw [yes (decide (l.done ≤ strC (cfgL l))) ⟨fun q => decide_eq_true (by unfold LostOk at q; omega), fun q => .inr ⟨h5, h6, h7, h8, of_decide_eq_true q⟩⟩]
              exact may9_call _ _ _ _ _ _ _ _ _ _ hm h2 m0 m1 b5 (decide_eq_true h6) (decide_eq_true h7) (decide_eq_true h8) _ _ rfl hs w
            · rw [yes false ⟨fun q => by unfold LostOk at q; omega, fun q => by cases q⟩]
              exact may9_d0 _ _ _ _ _ _ _ _ _ _ hm h2 m0 m1 b5 (decide_eq_true h6) (decide_eq_true h7) (decide_eq_false h8) w
          · rw [yes false ⟨fun q => by unfold LostOk at q; omega, fun q => by cases q⟩]
            exact may9_hi _ _ _ _ _ _ _ _ _ _ hm h2 m0 m1 b5 (decide_eq_true h6) (decide_eq_false h7) w
        · rw [yes false ⟨fun q => by unfold LostOk at q; omega, fun q => by cases q⟩]
          exact may9_lo _ _ _ _ _ _ _ _ _ _ hm h2 m0 m1 b5 (decide_eq_false h6) w
    · rw [no fun q => by have := q.2.1; omega]
      exact may9_ev _ _ _ _ _ _ _ _ _ _ hm (by omega) w
  · rw [decide_eq_false h1] at hm
    rw [no fun q => h1 q.1]
    exact may9_cfg _ _ _ _ _ _ _ _ _ _ hm w

set_option maxRecDepth 100000 in
set_option maxHeartbeats 4000000 in
theorem check9_gen (cs : Array Value) (hcs : cs.size = 10) (t : Bool) (E : Int) (hE : t = true ∧ E = 0 ∨ t = false ∧ E = 8) (hm : ∀ W, Calls Try.prog 28 #[.agg cs] W fun e w' => e = .returned (.bool t) ∧ Below W.heap.size W w') (w : World) : Calls Try.prog 16 #[.agg cs] w fun e w' => e = .returned (.int .i64 E) ∧ Below w.heap.size w w' := by
  have B := BlkAt.new w cs 28
  have hb : Below w.heap.size w (w.alloc (.cells cs 28 (0, 0))) := (Below.refl _ _).alloc (Nat.le_refl _) _
  have hi10 := (zero_of_info label_size).2
  rcases hE with ⟨rfl, rfl⟩ | ⟨rfl, rfl⟩
  all_goals
    go_enter Try.func16, Try.ntmps16
    go_wp2_with (first
      | refine wpList_load_row rfl 28 _ rfl w.heap.size rfl _ _ _ _ B Try.underlying28 rfl (by rw [hi10, hcs]) ?_
      | (go_at_call 28; refine (hm _).mono ?_; rintro e w2 ⟨rfl, hb2⟩; replace hb := hb.trans (hb2.mono hb.size)))
    go_ret
    exact ⟨rfl, hb⟩
theorem labCheckR (l : Lab) (w : World) : Calls Try.prog 16 #[labV l] w fun e w' => e = .returned (.int .i64 (chkL l)) ∧ Below w.heap.size w w' := by
  have hm := fun W => labMay l W
  by_cases h : MayL l
  · rw [decide_eq_true h] at hm
    rw [chkL_may h]
    exact check9_gen _ rfl true 0 (.inl ⟨rfl, rfl⟩) hm w
  · rw [decide_eq_false h] at hm
    rw [chkL_not h]
    exact check9_gen _ rfl false 8 (.inr ⟨rfl, rfl⟩) hm w

/-- A new block that reads as these bytes: what Four leaves. -/
theorem four_calls (n : Int) (h0 : 0 ≤ n) (h1 : n ≤ 4294967295) (w : World) : Calls Try.prog 52 #[.int .u32 n] w fun e w' => ∃ g, w.heap.size ≤ g ∧ e = .returned (.slice (some ⟨g, 0, none⟩) 4 4) ∧ w'.heap[g]? = some (.cells (cells (fourL n)) 5 (0, 0)) ∧ Below w.heap.size w w' := by
  have e1 : IntKind.u8.wrap (n % 256) = n % 256 := IntWalk.u8_in _ (by omega)
  have e2 : IntKind.u8.wrap (n / 256 % 256) = n / 256 % 256 := IntWalk.u8_in _ (by omega)
  have e3 : IntKind.u8.wrap (n / 65536 % 256) = n / 65536 % 256 := IntWalk.u8_in _ (by omega)
  have e4 : IntKind.u8.wrap (n / 16777216) = n / 16777216 := IntWalk.u8_in _ (by omega)
  go_enter Try.func52, Try.ntmps52
  go_wp2
  go_ret
  exact ⟨_, Nat.le_refl _, rfl, heap_alloc_new _ _, (Below.refl _ _).alloc (Nat.le_refl _) _⟩
theorem number_calls (a : Option Addr) (n c : Nat) (zs : List Int) (p : Nat) (w : World) (hi : Ints .u8 w a n zs) (hn : n ≤ 128) (hp : p + 4 ≤ 128) :
    Calls Try.prog 32 #[.slice a n c, .int .i64 p] w fun e w' => e = .returned (.int .u32 (takeN zs p 4)) ∧ Below w.heap.size w w' := by
  have hB := bytes_of hi
  have hT := takeN_in hB p 4
  rw [pow_256.2.2.2.2] at hT
  have ka := fun W h => at_calls a n c zs p 4 W h hn (by omega) (by omega) hp
  generalize takeN zs p 4 = v at *
  have e1 : IntKind.u32.wrap v = v := IntWalk.u32_in _ (by omega)
  go_enter Try.func32, Try.ntmps32
  go_wp2_with (go_at_call 54; refine (ka _ hi).mono ?_; rintro e w2 ⟨rfl, hb2⟩)
  go_ret
  exact ⟨rfl, hb2⟩
set_option maxRecDepth 100000 in
set_option maxHeartbeats 4000000 in
theorem sealed_calls (a : Option Addr) (n c : Nat) (zs : List Int) (w : World) (hi : Ints .u8 w a n zs) (hn : n ≤ 128) :
    Calls Try.prog 53 #[.slice a n c] w (NewBlk w (sealL (pad zs))) := by
  have hl := hi.len
  have hB := pad_bytes (bytes_of hi)
  have hpl : (pad zs).length = 128 := pad_len (by omega)
  have hsum := overI_in 0 ((pad zs).take 124)
  have hsl := fun g W => slice_to (some ⟨g, 0, none⟩) 128 128 124 (by omega) W
  have kw : ∀ (g : Nat) (W : World), Ints .u8 W (some ⟨g, 0, none⟩) 128 (pad zs) → Calls Try.prog 59 #[.slice (some ⟨g, 0, none⟩) 128 128, .int .i64 124, .int .i64 4, .int .i64 (overI 0 ((pad zs).take 124))] W (NewBlk W (putL (pad zs) 124 4 (overI 0 ((pad zs).take 124)))) := fun g (W : World) h => with_calls (some ⟨g, 0, none⟩) 128 128 (pad zs) 124 4 (overI 0 ((pad zs).take 124)) W h (by omega) (by omega) (by omega) hsum.1 hsum.2
  have ks := fun g (W : World) h => rsum_calls (some ⟨g, 0, none⟩) 124 128 ((pad zs).take 124) W h
  have F : Hid (sealL (pad zs) = putL (pad zs) 124 4 (overI 0 ((pad zs).take 124))) := rfl
  generalize overI 0 ((pad zs).take 124) = S at *
  go_enter Try.func53, Try.ntmps53
  go_upto_region 2 with (go_at_call 31; refine (rwhole_calls _ _ _ _ _ hi hn).mono ?_; rintro e w2 ⟨g, hg, rfl, hc, hb⟩)
  have hI := Ints.ofCells hc hpl (by omega) hB
  have hT := hI.take (N := 124) (by omega)
  go_wp2_with (first
    | (go_at_call 60; (with_reducible refine (ks g _ hT).mono ?_); rintro e w3 ⟨rfl, rfl⟩)
    | (go_at_call 59; (with_reducible refine (kw g _ hI).mono ?_); rintro e w4 ⟨g4, hg4, rfl, hc4, hb4⟩))
  go_ret
  have hg5 : w.heap.size ≤ g4 := Nat.le_trans hb.size hg4
  have hb5 := hb.trans (hb4.mono hb.size)
  exact ⟨g4, hg5, rfl, by rw [F.out]; exact hc4, hb5⟩

end Go.Proofs.Ytdljondmlooeaaa
