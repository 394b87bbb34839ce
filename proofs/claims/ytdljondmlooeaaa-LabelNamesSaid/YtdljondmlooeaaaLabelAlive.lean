/- The laws' own helpers of layer 9: one, alive. -/
import Derived.Test.YtdljondmlooeaaaLabelRead
import Derived.Deep.RegionHeld3
import Derived.Deep.Cut
namespace Go.Proofs.Ytdljondmlooeaaa
open Go.RowKit PolyM PackM ShapeM SealM LabelM
set_option linter.unusedVariables false

/-- The chapter's label. -/
def oneL : Lab := ⟨7, 2, 3, 1, 1, 12, 1, -1, 0, true⟩
theorem oneL_may : MayL oneL := by decide
theorem oneL_wide : WideL oneL := ⟨by decide, by decide, by decide, by decide, by decide, by decide, by decide, by decide, by decide⟩
/-- What is written is read, by both calls. -/
theorem readL_block {l : Lab} (hw : WideL l) (h : MayL l) : readL (blockL l) = l := by
  have := reads_block hw h
  unfold readL
  rw [if_pos this, took_block hw h]
theorem readE_block {l : Lab} (hw : WideL l) (h : MayL l) : readE (blockL l) = 0 := by
  have := reads_block hw h
  unfold readE
  rw [if_pos this]
/-- Read of a block that Write answered. -/
theorem labRead_block {l : Lab} (hw : WideL l) (h : MayL l) (g : Nat) (c : Nat) (W : World) (hI : Ints .u8 W (some ⟨g, 0, none⟩) 128 (blockL l)) : Calls Try.prog 12 #[.slice (some ⟨g, 0, none⟩) 128 c] W fun e w' => e = .returned (.tuple #[labV l, .int .i64 0]) ∧ Below W.heap.size W w' := by
  have := labRead (some ⟨g, 0, none⟩) 128 c (blockL l) W hI (.inr rfl)
  rw [pad_whole (block_len l), readL_block hw h, readE_block hw h] at this
  exact this
theorem block_ints {l : Lab} {w : World} {g : Nat} {t : TypeId} (h : w.heap[g]? = some (.cells (cells (blockL l)) t (0, 0))) : Ints .u8 w (some ⟨g, 0, none⟩) 128 (blockL l) :=
  Ints.ofCells h (block_len l) (by omega) (block_bytes l)

set_option maxRecDepth 100000 in
set_option maxHeartbeats 4000000 in
theorem one_calls (w : World) : Calls Try.prog 11 #[] w fun e w' => e = .returned (.agg #[.int .u32 7, .int .u32 2, .int .i64 3, .int .i64 1, .int .i64 1, .int .i64 12, .int .i64 1, .int .i64 (-1), .int .i64 0, .bool true]) ∧ Below w.heap.size w w' := by
  go_enter Try.func11, Try.ntmps11
  go_wp2
  exact bodyPost_ret (v := .agg #[.int .u32 7, .int .u32 2, .int .i64 3, .int .i64 1, .int .i64 1, .int .i64 12, .int .i64 1, .int .i64 (-1), .int .i64 0, .bool true]) (by simp [results, Try.results11, go_sem]) rfl ⟨rfl, (Below.refl _ _).alloc (Nat.le_refl _) _⟩

set_option maxRecDepth 100000 in
set_option maxHeartbeats 4000000 in
theorem alive9_calls (w : World) : Calls Try.prog 13 #[] w fun e w' => e = .returned (.bool true) ∧ Below w.heap.size w w' := by
  have kw := fun W => labWrite_ok oneL_wide oneL_may W
  have kr := fun g W h => labRead_block oneL_wide oneL_may g 128 W h
  have he : ∀ W, (binOp .eql 28 (.agg #[.int .u32 7, .int .u32 2, .int .i64 3, .int .i64 1, .int .i64 1, .int .i64 12, .int .i64 1, .int .i64 (-1), .int .i64 0, .bool true]) (.agg #[.int .u32 7, .int .u32 2, .int .i64 3, .int .i64 1, .int .i64 1, .int .i64 12, .int .i64 1, .int .i64 (-1), .int .i64 0, .bool true])).run Try.prog W = .ok (.bool true) W := fun W => by rw [lab_eql]; simp
  unfold labV oneL at kw kr
  dsimp only at kw kr
  have hb := Below.refl w.heap.size w
  go_enter Try.func13, Try.ntmps13
  go_upto_region 2 with (first
    | (go_at_call 11; refine (one_calls _).mono ?_; rintro e w2 ⟨rfl, hb2⟩; replace hb := hb.trans (hb2.mono hb.size); clear hb2)
    | (go_at_call 10; (with_reducible refine (kw _).mono ?_); rintro e w3 ⟨g, hg, rfl, hc, hb3⟩; replace hb := hb.trans (hb3.mono hb.size); clear hb3))
  have hI := block_ints hc
  go_upto_region 3 with (go_at_call 12; (with_reducible refine (kr g _ hI).mono ?_); rintro e w4 ⟨rfl, hb4⟩)
  have B := BlkAt.new w4 #[.int .u32 7, .int .u32 2, .int .i64 3, .int .i64 1, .int .i64 1, .int .i64 12, .int .i64 1, .int .i64 (-1), .int .i64 0, .bool true] 28
  replace hb := (hb.trans (hb4.mono hb.size)).alloc (Nat.le_trans hb.size hb4.size) (.cells #[.int .u32 7, .int .u32 2, .int .i64 3, .int .i64 1, .int .i64 1, .int .i64 12, .int .i64 1, .int .i64 (-1), .int .i64 0, .bool true] 28)
  clear hI hc hb4 hg kw kr
  generalize World.alloc _ _ = v1 at *
  generalize w4.heap.size = t at *
  have hd := hb.drew
  replace B := B.drew
  refine wp_region_held_drew (S := (fun W => W.cell? ⟨t, 0, none⟩ = some (.int .u32 7) ∧ W.cell? ⟨t, 1, none⟩ = some (.int .u32 2) ∧ W.cell? ⟨t, 2, none⟩ = some (.int .i64 3) ∧ W.cell? ⟨t, 3, none⟩ = some (.int .i64 1) ∧ W.cell? ⟨t, 4, none⟩ = some (.int .i64 1) ∧ W.cell? ⟨t, 5, none⟩ = some (.int .i64 12) ∧ W.cell? ⟨t, 6, none⟩ = some (.int .i64 1) ∧ W.cell? ⟨t, 7, none⟩ = some (.int .i64 (-1)) ∧ W.cell? ⟨t, 8, none⟩ = some (.int .i64 0) ∧ W.cell? ⟨t, 9, none⟩ = some (.bool true))) (by kernel_rfl) ?_ (fun hHeld => ?_)
  · exact ⟨B.cell 0, B.cell 1, B.cell 2, B.cell 3, B.cell 4, B.cell 5, B.cell 6, B.cell 7, B.cell 8, B.cell 9⟩
  refine wpAnyH_take (i := 0) (v := ?_) rfl (by kernel_rfl) (by kernel_rfl) (by kernel_rfl) (fun _ _ _ h => h) (Or.inl ⟨by rfl, ?_⟩) hHeld ?_
  rotate_left
  · (intro w hSw; (try dsimp only at hSw); go_simp; try with_reducible rfl)
  try simp only [Act.put, List.getElem_toArray, List.getElem_cons_zero, List.setIfInBounds_toArray, List.set_cons_zero, List.set_cons_succ]
  refine wpAnyH_take (i := 1) (v := ?_) rfl (by kernel_rfl) (by kernel_rfl) (by kernel_rfl) (fun _ _ _ h => h) (Or.inl ⟨by rfl, ?_⟩) hHeld ?_
  rotate_left
  · (intro w hSw; (try dsimp only at hSw); go_simp; try with_reducible rfl)
  try simp only [Act.put, List.getElem_toArray, List.getElem_cons_zero, List.getElem_cons_succ, List.setIfInBounds_toArray, List.set_cons_zero, List.set_cons_succ]
  refine wpAnyH_take (i := 2) (v := ?_) rfl (by kernel_rfl) (by kernel_rfl) (by kernel_rfl) (fun _ _ _ h => h) (Or.inl ⟨by rfl, ?_⟩) hHeld ?_
  rotate_left
  · (intro w hSw; (try dsimp only at hSw); go_simp; try with_reducible rfl)
  try simp only [Act.put, List.getElem_toArray, List.getElem_cons_zero, List.getElem_cons_succ, List.setIfInBounds_toArray, List.set_cons_zero, List.set_cons_succ]
  refine wpAnyH_take (i := 3) (v := ?_) rfl (by kernel_rfl) (by kernel_rfl) (by kernel_rfl) (fun _ _ _ h => h) (Or.inl ⟨by rfl, ?_⟩) hHeld ?_
  rotate_left
  · (intro w hSw; (try dsimp only at hSw); go_simp; try with_reducible rfl)
  try simp only [Act.put, List.getElem_toArray, List.getElem_cons_zero, List.getElem_cons_succ, List.setIfInBounds_toArray, List.set_cons_zero, List.set_cons_succ]
  refine wpAnyH_take (i := 4) (v := ?_) rfl (by kernel_rfl) (by kernel_rfl) (by kernel_rfl) (fun _ _ _ h => h) (Or.inl ⟨by rfl, ?_⟩) hHeld ?_
  rotate_left
  · (intro w hSw; (try dsimp only at hSw); go_simp; try with_reducible rfl)
  try simp only [Act.put, List.getElem_toArray, List.getElem_cons_zero, List.getElem_cons_succ, List.setIfInBounds_toArray, List.set_cons_zero, List.set_cons_succ]
  refine wpAnyH_take (i := 5) (v := ?_) rfl (by kernel_rfl) (by kernel_rfl) (by kernel_rfl) (fun _ _ _ h => h) (Or.inl ⟨by rfl, ?_⟩) hHeld ?_
  rotate_left
  · (intro w hSw; (try dsimp only at hSw); go_simp; try with_reducible rfl)
  try simp only [Act.put, List.getElem_toArray, List.getElem_cons_zero, List.getElem_cons_succ, List.setIfInBounds_toArray, List.set_cons_zero, List.set_cons_succ]
  refine wpAnyH_take (i := 6) (v := ?_) rfl (by kernel_rfl) (by kernel_rfl) (by kernel_rfl) (fun _ _ _ h => h) (Or.inl ⟨by rfl, ?_⟩) hHeld ?_
  rotate_left
  · (intro w hSw; (try dsimp only at hSw); go_simp; try with_reducible rfl)
  try simp only [Act.put, List.getElem_toArray, List.getElem_cons_zero, List.getElem_cons_succ, List.setIfInBounds_toArray, List.set_cons_zero, List.set_cons_succ]
  refine wpAnyH_take (i := 7) (v := ?_) rfl (by kernel_rfl) (by kernel_rfl) (by kernel_rfl) (fun _ _ _ h => h) (Or.inl ⟨by rfl, ?_⟩) hHeld ?_
  rotate_left
  · (intro w hSw; (try dsimp only at hSw); go_simp; try with_reducible rfl)
  try simp only [Act.put, List.getElem_toArray, List.getElem_cons_zero, List.getElem_cons_succ, List.setIfInBounds_toArray, List.set_cons_zero, List.set_cons_succ]
  refine wpAnyH_take (i := 8) (v := ?_) rfl (by kernel_rfl) (by kernel_rfl) (by kernel_rfl) (fun _ _ _ h => h) (Or.inl ⟨by rfl, ?_⟩) hHeld ?_
  rotate_left
  · (intro w hSw; (try dsimp only at hSw); go_simp; try with_reducible rfl)
  try simp only [Act.put, List.getElem_toArray, List.getElem_cons_zero, List.getElem_cons_succ, List.setIfInBounds_toArray, List.set_cons_zero, List.set_cons_succ]
  refine wpAnyH_take (i := 9) (v := ?_) rfl (by kernel_rfl) (by kernel_rfl) (by kernel_rfl) (fun _ _ _ h => h) (Or.inl ⟨by rfl, ?_⟩) hHeld ?_
  rotate_left
  · (intro w hSw; (try dsimp only at hSw); go_simp; try with_reducible rfl)
  try simp only [Act.put, List.getElem_toArray, List.getElem_cons_zero, List.getElem_cons_succ, List.setIfInBounds_toArray, List.set_cons_zero, List.set_cons_succ]
  refine wpAnyH_take (i := 10) (v := ?_) rfl (by kernel_rfl) (by kernel_rfl) (by kernel_rfl) (fun _ _ _ h => h) (Or.inl ⟨by rfl, ?_⟩) hHeld ?_
  rotate_left
  · (intro w hSw; (try dsimp only at hSw); go_simp; try with_reducible rfl)
  try simp only [Act.put, List.getElem_toArray, List.getElem_cons_zero, List.getElem_cons_succ, List.setIfInBounds_toArray, List.set_cons_zero, List.set_cons_succ]
  refine wpAnyH_take (i := 11) (v := ?_) rfl (by kernel_rfl) (by kernel_rfl) (by kernel_rfl) (fun _ _ _ h => h) (Or.inl ⟨by rfl, ?_⟩) hHeld ?_
  rotate_left
  · (intro w hSw; (try dsimp only at hSw); go_simp; try with_reducible rfl)
  try simp only [Act.put, List.getElem_toArray, List.getElem_cons_zero, List.getElem_cons_succ, List.setIfInBounds_toArray, List.set_cons_zero, List.set_cons_succ]
  refine wpAnyH_take (i := 12) (v := ?_) rfl (by kernel_rfl) (by kernel_rfl) (by kernel_rfl) (fun _ _ _ h => h) (Or.inl ⟨by rfl, ?_⟩) hHeld ?_
  rotate_left
  · (intro w hSw; (try dsimp only at hSw); go_simp; try with_reducible rfl)
  try simp only [Act.put, List.getElem_toArray, List.getElem_cons_zero, List.getElem_cons_succ, List.setIfInBounds_toArray, List.set_cons_zero, List.set_cons_succ]
  refine wpAnyH_ready (rs := [13]) (by kernel_rfl) (by simp) ?_
  refine AllReadyH.cons rfl (fun K hK => ?_) AllReadyH.nil
  go_simp
  refine (one_calls _).mono ?_
  rintro e w5 ⟨rfl, hb5⟩
  replace B := B.below hb5 (Nat.le_refl _)
  replace hd := hd.trans (hb5.mono hd.size)
  clear hb5
  go_wp2_with fail
  refine hK.out _ _ ?_ (fun hHeld2 => ?_)
  · exact ⟨B.cell 0, B.cell 1, B.cell 2, B.cell 3, B.cell 4, B.cell 5, B.cell 6, B.cell 7, B.cell 8, B.cell 9⟩
  clear hK K hHeld
  have hHeld := hHeld2
  clear hHeld2
  try simp only [Act.put, List.setIfInBounds_toArray, List.set_cons_zero, List.set_cons_succ]
  refine wpAnyH_take (i := 14) (v := ?_) rfl (by kernel_rfl) (by kernel_rfl) (by kernel_rfl) (fun _ _ _ h => h) (Or.inl ⟨by rfl, ?_⟩) hHeld ?_
  rotate_left
  · (intro w hSw; (try dsimp only at hSw); go_simp; try with_reducible rfl)
  try simp only [Act.put, List.getElem_toArray, List.getElem_cons_zero, List.getElem_cons_succ, List.setIfInBounds_toArray, List.set_cons_zero, List.set_cons_succ]
  refine wpAnyH_take (i := 15) (v := ?_) rfl (by kernel_rfl) (by kernel_rfl) (by kernel_rfl) (fun _ _ _ h => h) (Or.inl ⟨by rfl, ?_⟩) hHeld ?_
  rotate_left
  · (intro w hSw; (try dsimp only at hSw); go_simp; try with_reducible rfl)
  try simp only [Act.put, List.getElem_toArray, List.getElem_cons_zero, List.getElem_cons_succ, List.setIfInBounds_toArray, List.set_cons_zero, List.set_cons_succ]
  refine wpAnyH_take (i := 16) (v := ?_) rfl (by kernel_rfl) (by kernel_rfl) (by kernel_rfl) (fun _ _ _ h => h) (Or.inl ⟨by rfl, ?_⟩) hHeld ?_
  rotate_left
  · (intro w hSw; (try dsimp only at hSw); go_simp; try with_reducible rfl)
  try simp only [Act.put, List.getElem_toArray, List.getElem_cons_zero, List.getElem_cons_succ, List.setIfInBounds_toArray, List.set_cons_zero]
  refine wpAnyH_done (by kernel_rfl) ?_ _
  go_wp2
  go_ret
  exact ⟨rfl, hd⟩

end Go.Proofs.Ytdljondmlooeaaa
