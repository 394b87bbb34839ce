/- freeboardlaw08.SplitKinds: for every input the law answers true, and what is handed in reads as it did. Conditions: none. -/
import Derived.Test.YtkjgmopgibpkjaaSplitAlive
namespace Go.Proofs.Ytkjgmopgibpkjaa
open Go.ChangeShapes Go.WideShapes Go.ChangeAt Go.RowKit ShapeM SplitM
set_option linter.unusedVariables false
set_option maxRecDepth 100000 in
set_option maxHeartbeats 4000000 in
theorem kinds_lo (id m ch ro lo he k a : Int) (mn N E F : Int) (ka : ∀ W, Calls Try.prog 14 #[] W fun e w' => e = .returned (.bool true) ∧ Below W.heap.size W w') (q : mn < 0) (hF : (F == 0) = false) (hF2 : (F != 0) = true) (hs : ∀ W, Calls Try.prog 20 #[.agg #[.int .u32 id, .int .i64 m, .int .i64 ch, .int .i64 ro, .int .i64 lo, .int .i64 he]] W fun e w' => e = .returned (.tuple #[.int .i64 N, .int .i64 E]) ∧ Below W.heap.size W w') (hc : ∀ W, Calls Try.prog 13 #[.agg #[.int .u32 id, .int .i64 m, .int .i64 ch, .int .i64 ro, .int .i64 lo, .int .i64 he], .agg #[.int .u8 k, .int .i64 a, .int .i64 mn, .slice none 0 0]] W fun e w' => e = .returned (.int .i64 F) ∧ Below W.heap.size W w') (w : World) : Calls Try.prog 7 #[.agg #[.int .u32 id, .int .i64 m, .int .i64 ch, .int .i64 ro, .int .i64 lo, .int .i64 he], .int .u8 k, .int .i64 a, .int .i64 mn] w fun e w' => e = .returned (.bool true) ∧ Below w.heap.size w w' := by
  have B := Box6.new w (.int .u32 id) (.int .i64 m) (.int .i64 ch) (.int .i64 ro) (.int .i64 lo) (.int .i64 he) 24
  have hb : Below w.heap.size w (w.alloc (.cells #[.int .u32 id, .int .i64 m, .int .i64 ch, .int .i64 ro, .int .i64 lo, .int .i64 he] 24 (0, 0))) := (Below.refl _ _).alloc (Nat.le_refl _) _
  obtain ⟨c0, c1, c2, c3, c4, c5⟩ := B.all
  go_enter Try.func7, Try.ntmps7
  go_wp2_with (first
    | (go_at_call 14; refine (ka _).mono ?_; rintro e w2 ⟨rfl, hb2⟩; replace hb := hb.trans (hb2.mono hb.size); clear c0 c1 c2 c3 c4 c5; replace B := B.below hb2 (Nat.le_refl _); clear hb2; obtain ⟨c0, c1, c2, c3, c4, c5⟩ := B.all)
    | (go_at_call 20; refine (hs _).mono ?_; rintro e w3 ⟨rfl, hb2⟩; replace hb := hb.trans (hb2.mono hb.size); clear c0 c1 c2 c3 c4 c5; replace B := B.below hb2 (Nat.le_refl _); clear hb2; obtain ⟨c0, c1, c2, c3, c4, c5⟩ := B.all)
    | (go_at_call 13; refine (hc _).mono ?_; rintro e w4 ⟨rfl, hb2⟩; replace hb := hb.trans (hb2.mono hb.size); clear c0 c1 c2 c3 c4 c5; replace B := B.below hb2 (Nat.le_refl _); clear hb2; obtain ⟨c0, c1, c2, c3, c4, c5⟩ := B.all))
  go_ret
  exact ⟨rfl, hb⟩
set_option maxRecDepth 100000 in
set_option maxHeartbeats 4000000 in
theorem kinds_hi (id m ch ro lo he k a : Int) (mn N E F : Int) (ka : ∀ W, Calls Try.prog 14 #[] W fun e w' => e = .returned (.bool true) ∧ Below W.heap.size W w') (q0 : 0 ≤ mn) (q : 8 < mn) (hF : (F == 0) = false) (hF2 : (F != 0) = true) (hs : ∀ W, Calls Try.prog 20 #[.agg #[.int .u32 id, .int .i64 m, .int .i64 ch, .int .i64 ro, .int .i64 lo, .int .i64 he]] W fun e w' => e = .returned (.tuple #[.int .i64 N, .int .i64 E]) ∧ Below W.heap.size W w') (hc : ∀ W, Calls Try.prog 13 #[.agg #[.int .u32 id, .int .i64 m, .int .i64 ch, .int .i64 ro, .int .i64 lo, .int .i64 he], .agg #[.int .u8 k, .int .i64 a, .int .i64 mn, .slice none 0 0]] W fun e w' => e = .returned (.int .i64 F) ∧ Below W.heap.size W w') (w : World) : Calls Try.prog 7 #[.agg #[.int .u32 id, .int .i64 m, .int .i64 ch, .int .i64 ro, .int .i64 lo, .int .i64 he], .int .u8 k, .int .i64 a, .int .i64 mn] w fun e w' => e = .returned (.bool true) ∧ Below w.heap.size w w' := by
  have B := Box6.new w (.int .u32 id) (.int .i64 m) (.int .i64 ch) (.int .i64 ro) (.int .i64 lo) (.int .i64 he) 24
  have hb : Below w.heap.size w (w.alloc (.cells #[.int .u32 id, .int .i64 m, .int .i64 ch, .int .i64 ro, .int .i64 lo, .int .i64 he] 24 (0, 0))) := (Below.refl _ _).alloc (Nat.le_refl _) _
  obtain ⟨c0, c1, c2, c3, c4, c5⟩ := B.all
  go_enter Try.func7, Try.ntmps7
  go_wp2_with (first
    | (go_at_call 14; refine (ka _).mono ?_; rintro e w2 ⟨rfl, hb2⟩; replace hb := hb.trans (hb2.mono hb.size); clear c0 c1 c2 c3 c4 c5; replace B := B.below hb2 (Nat.le_refl _); clear hb2; obtain ⟨c0, c1, c2, c3, c4, c5⟩ := B.all)
    | (go_at_call 20; refine (hs _).mono ?_; rintro e w3 ⟨rfl, hb2⟩; replace hb := hb.trans (hb2.mono hb.size); clear c0 c1 c2 c3 c4 c5; replace B := B.below hb2 (Nat.le_refl _); clear hb2; obtain ⟨c0, c1, c2, c3, c4, c5⟩ := B.all)
    | (go_at_call 13; refine (hc _).mono ?_; rintro e w4 ⟨rfl, hb2⟩; replace hb := hb.trans (hb2.mono hb.size); clear c0 c1 c2 c3 c4 c5; replace B := B.below hb2 (Nat.le_refl _); clear hb2; obtain ⟨c0, c1, c2, c3, c4, c5⟩ := B.all))
  go_ret
  exact ⟨rfl, hb⟩
set_option maxRecDepth 100000 in
set_option maxHeartbeats 4000000 in
theorem kinds_bad (id m ch ro lo he k a : Int) (M n : Nat) (hM : M ≤ 8) (N F : Int) (ka : ∀ W, Calls Try.prog 14 #[] W fun e w' => e = .returned (.bool true) ∧ Below W.heap.size W w') (hF : (F == 0) = false) (hs : ∀ W, Calls Try.prog 20 #[.agg #[.int .u32 id, .int .i64 m, .int .i64 ch, .int .i64 ro, .int .i64 lo, .int .i64 he]] W fun e w' => e = .returned (.tuple #[.int .i64 N, .int .i64 F]) ∧ Below W.heap.size W w') (ha : ∀ W, Calls Try.prog 11 #[.int .u8 k, .int .i64 a, .int .i64 (M : Nat)] W fun e w' => ∃ A' c', e = .returned (.agg #[.int .u8 k, .int .i64 a, .int .i64 (M : Nat), .slice A' n c']) ∧ Below W.heap.size W w') (hc : ∀ A' c' W, Calls Try.prog 13 #[.agg #[.int .u32 id, .int .i64 m, .int .i64 ch, .int .i64 ro, .int .i64 lo, .int .i64 he], .agg #[.int .u8 k, .int .i64 a, .int .i64 (M : Nat), .slice A' n c']] W fun e w' => e = .returned (.int .i64 F) ∧ Below W.heap.size W w') (w : World) : Calls Try.prog 7 #[.agg #[.int .u32 id, .int .i64 m, .int .i64 ch, .int .i64 ro, .int .i64 lo, .int .i64 he], .int .u8 k, .int .i64 a, .int .i64 (M : Nat)] w fun e w' => e = .returned (.bool true) ∧ Below w.heap.size w w' := by
  have B := Box6.new w (.int .u32 id) (.int .i64 m) (.int .i64 ch) (.int .i64 ro) (.int .i64 lo) (.int .i64 he) 24
  have hb : Below w.heap.size w (w.alloc (.cells #[.int .u32 id, .int .i64 m, .int .i64 ch, .int .i64 ro, .int .i64 lo, .int .i64 he] 24 (0, 0))) := (Below.refl _ _).alloc (Nat.le_refl _) _
  obtain ⟨c0, c1, c2, c3, c4, c5⟩ := B.all
  go_enter Try.func7, Try.ntmps7
  go_wp2_with (first
    | (go_at_call 14; refine (ka _).mono ?_; rintro e w2 ⟨rfl, hb2⟩; replace hb := hb.trans (hb2.mono hb.size); clear c0 c1 c2 c3 c4 c5; replace B := B.below hb2 (Nat.le_refl _); clear hb2; obtain ⟨c0, c1, c2, c3, c4, c5⟩ := B.all)
    | (go_at_call 20; refine (hs _).mono ?_; rintro e w3 ⟨rfl, hb2⟩; replace hb := hb.trans (hb2.mono hb.size); clear c0 c1 c2 c3 c4 c5; replace B := B.below hb2 (Nat.le_refl _); clear hb2; obtain ⟨c0, c1, c2, c3, c4, c5⟩ := B.all))
  clear c0 c1 c2 c3 c4 c5
  have B0 := B.below ((Below.refl _ _).drew) (Nat.le_refl _)
  refine wp_region_held_drew (S := (fun W => W.cell? ⟨w.heap.size, 0, none⟩ = some (.int .u32 id) ∧ W.cell? ⟨w.heap.size, 1, none⟩ = some (.int .i64 m) ∧ W.cell? ⟨w.heap.size, 2, none⟩ = some (.int .i64 ch) ∧ W.cell? ⟨w.heap.size, 3, none⟩ = some (.int .i64 ro) ∧ W.cell? ⟨w.heap.size, 4, none⟩ = some (.int .i64 lo) ∧ W.cell? ⟨w.heap.size, 5, none⟩ = some (.int .i64 he))) (by kernel_rfl) ?_ (fun hHeld => ?_)
  · exact B0.all
  refine wpAnyH_take (i := 0) (v := ?_) rfl (by kernel_rfl) (by kernel_rfl) (by kernel_rfl) (fun _ _ _ h => h) (Or.inl ⟨by rfl, ?_⟩) hHeld ?_
  rotate_left
  · (intro w hSw; (try dsimp only at hSw); go_simp; try with_reducible rfl)
  try simp only [Act.put, List.getElem_toArray, List.getElem_cons_zero, List.setIfInBounds_toArray, List.set_cons_zero, List.set_cons_succ]
  refine wpAnyH_take (i := 1) (v := ?_) rfl (by kernel_rfl) (by kernel_rfl) (by kernel_rfl) (fun _ _ _ h => h) (Or.inl ⟨by rfl, ?_⟩) hHeld ?_
  rotate_left
  · (intro w hSw; (try dsimp only at hSw); go_simp; try with_reducible rfl)
  try simp only [Act.put, List.getElem_toArray, List.getElem_cons_zero, List.getElem_cons_succ, List.setIfInBounds_toArray, List.set_cons_zero, List.set_cons_succ]
  refine wpAnyH_take (i := 2) (v := ?_) rfl (by kernel_rfl) (by kernel_rfl) (by kernel_rfl) (fun _ _ _ h => h) (Or.inl ⟨by rfl, ?_⟩) hHeld ?_
  rotate_left
  · (intro w hSw; (try dsimp only at hSw); go_simp; try with_reducible rfl)
  try simp only [Act.put, List.getElem_toArray, List.getElem_cons_zero, List.getElem_cons_succ, List.setIfInBounds_toArray, List.set_cons_zero, List.set_cons_succ]
  refine wpAnyH_take (i := 3) (v := ?_) rfl (by kernel_rfl) (by kernel_rfl) (by kernel_rfl) (fun _ _ _ h => h) (Or.inl ⟨by rfl, ?_⟩) hHeld ?_
  rotate_left
  · (intro w hSw; (try dsimp only at hSw); go_simp; try with_reducible rfl)
  try simp only [Act.put, List.getElem_toArray, List.getElem_cons_zero, List.getElem_cons_succ, List.setIfInBounds_toArray, List.set_cons_zero, List.set_cons_succ]
  refine wpAnyH_ready (rs := [4]) (by kernel_rfl) (by simp) ?_
  refine AllReadyH.cons rfl (fun K hK => ?_) AllReadyH.nil
  go_simp
  refine (ha _).mono ?_
  rintro e w4 ⟨A0, cp0, rfl, hb2⟩
  have hz := (Below.refl _ _).drew.trans hb2
  replace hb := hb.trans (hz.mono hb.size)
  replace B := B.below hz (Nat.le_refl _)
  clear hz hb2
  go_wp2_with fail
  refine hK.out _ _ ?_ (fun hHeld2 => ?_)
  · exact B.all
  clear hK K hHeld
  have hHeld := hHeld2
  clear hHeld2
  try simp only [Act.put, List.setIfInBounds_toArray, List.set_cons_zero, List.set_cons_succ]
  refine wpAnyH_ready (rs := [5]) (by kernel_rfl) (by simp) ?_
  refine AllReadyH.cons rfl (fun K hK => ?_) AllReadyH.nil
  go_simp
  refine (hc _ _ _).mono ?_
  rintro e w5 ⟨rfl, hb2⟩
  replace hb := hb.trans (hb2.mono hb.size)
  replace B := B.below hb2 (Nat.le_refl _)
  clear hb2
  go_wp2_with fail
  refine hK.out _ _ ?_ (fun hHeld2 => ?_)
  · exact B.all
  clear hK K hHeld
  have hHeld := hHeld2
  clear hHeld2
  try simp only [Act.put, List.setIfInBounds_toArray, List.set_cons_zero, List.set_cons_succ]
  refine wpAnyH_take (i := 6) (v := ?_) rfl (by kernel_rfl) (by kernel_rfl) (by kernel_rfl) (fun _ _ _ h => h) (Or.inl ⟨by rfl, ?_⟩) hHeld ?_
  rotate_left
  · (intro w hSw; (try dsimp only at hSw); go_simp; try with_reducible rfl)
  try simp only [Act.put, List.getElem_toArray, List.getElem_cons_zero, List.getElem_cons_succ, List.setIfInBounds_toArray, List.set_cons_zero, List.set_cons_succ]
  refine wpAnyH_done (by kernel_rfl) ?_ _
  obtain ⟨c0, c1, c2, c3, c4, c5⟩ := B.all
  go_wp2
  go_ret
  exact ⟨rfl, hb⟩
set_option maxRecDepth 100000 in
set_option maxHeartbeats 4000000 in
theorem kinds_0 (id m ch ro lo he k a : Int) (M n N : Nat) (hM : M ≤ 8) (hN : N ≤ 960) (ka : ∀ W, Calls Try.prog 14 #[] W fun e w' => e = .returned (.bool true) ∧ Below W.heap.size W w') (q0 : k < 1) (hs : ∀ W, Calls Try.prog 20 #[.agg #[.int .u32 id, .int .i64 m, .int .i64 ch, .int .i64 ro, .int .i64 lo, .int .i64 he]] W fun e w' => e = .returned (.tuple #[.int .i64 (N : Nat), .int .i64 0]) ∧ Below W.heap.size W w') (ha : ∀ W, Calls Try.prog 11 #[.int .u8 k, .int .i64 a, .int .i64 (M : Nat)] W fun e w' => ∃ A' c', e = .returned (.agg #[.int .u8 k, .int .i64 a, .int .i64 (M : Nat), .slice A' n c']) ∧ Below W.heap.size W w') (hc : ∀ A' c' W, Calls Try.prog 13 #[.agg #[.int .u32 id, .int .i64 m, .int .i64 ch, .int .i64 ro, .int .i64 lo, .int .i64 he], .agg #[.int .u8 k, .int .i64 a, .int .i64 (M : Nat), .slice A' n c']] W fun e w' => e = .returned (.int .i64 2) ∧ Below W.heap.size W w') (w : World) : Calls Try.prog 7 #[.agg #[.int .u32 id, .int .i64 m, .int .i64 ch, .int .i64 ro, .int .i64 lo, .int .i64 he], .int .u8 k, .int .i64 a, .int .i64 (M : Nat)] w fun e w' => e = .returned (.bool true) ∧ Below w.heap.size w w' := by
  have B := Box6.new w (.int .u32 id) (.int .i64 m) (.int .i64 ch) (.int .i64 ro) (.int .i64 lo) (.int .i64 he) 24
  have hb : Below w.heap.size w (w.alloc (.cells #[.int .u32 id, .int .i64 m, .int .i64 ch, .int .i64 ro, .int .i64 lo, .int .i64 he] 24 (0, 0))) := (Below.refl _ _).alloc (Nat.le_refl _) _
  obtain ⟨c0, c1, c2, c3, c4, c5⟩ := B.all
  go_enter Try.func7, Try.ntmps7
  go_wp2_with (first
    | (go_at_call 14; refine (ka _).mono ?_; rintro e w2 ⟨rfl, hb2⟩; replace hb := hb.trans (hb2.mono hb.size); clear c0 c1 c2 c3 c4 c5; replace B := B.below hb2 (Nat.le_refl _); clear hb2; obtain ⟨c0, c1, c2, c3, c4, c5⟩ := B.all)
    | (go_at_call 20; refine (hs _).mono ?_; rintro e w3 ⟨rfl, hb2⟩; replace hb := hb.trans (hb2.mono hb.size); clear c0 c1 c2 c3 c4 c5; replace B := B.below hb2 (Nat.le_refl _); clear hb2; obtain ⟨c0, c1, c2, c3, c4, c5⟩ := B.all))
  clear c0 c1 c2 c3 c4 c5
  have B0 := B.below ((Below.refl _ _).drew) (Nat.le_refl _)
  refine wp_region_held_drew (S := (fun W => W.cell? ⟨w.heap.size, 0, none⟩ = some (.int .u32 id) ∧ W.cell? ⟨w.heap.size, 1, none⟩ = some (.int .i64 m) ∧ W.cell? ⟨w.heap.size, 2, none⟩ = some (.int .i64 ch) ∧ W.cell? ⟨w.heap.size, 3, none⟩ = some (.int .i64 ro) ∧ W.cell? ⟨w.heap.size, 4, none⟩ = some (.int .i64 lo) ∧ W.cell? ⟨w.heap.size, 5, none⟩ = some (.int .i64 he))) (by kernel_rfl) ?_ (fun hHeld => ?_)
  · exact B0.all
  refine wpAnyH_take (i := 0) (v := ?_) rfl (by kernel_rfl) (by kernel_rfl) (by kernel_rfl) (fun _ _ _ h => h) (Or.inl ⟨by rfl, ?_⟩) hHeld ?_
  rotate_left
  · (intro w hSw; (try dsimp only at hSw); go_simp; try with_reducible rfl)
  try simp only [Act.put, List.getElem_toArray, List.getElem_cons_zero, List.setIfInBounds_toArray, List.set_cons_zero, List.set_cons_succ]
  refine wpAnyH_take (i := 1) (v := ?_) rfl (by kernel_rfl) (by kernel_rfl) (by kernel_rfl) (fun _ _ _ h => h) (Or.inl ⟨by rfl, ?_⟩) hHeld ?_
  rotate_left
  · (intro w hSw; (try dsimp only at hSw); go_simp; try with_reducible rfl)
  try simp only [Act.put, List.getElem_toArray, List.getElem_cons_zero, List.getElem_cons_succ, List.setIfInBounds_toArray, List.set_cons_zero, List.set_cons_succ]
  refine wpAnyH_take (i := 2) (v := ?_) rfl (by kernel_rfl) (by kernel_rfl) (by kernel_rfl) (fun _ _ _ h => h) (Or.inl ⟨by rfl, ?_⟩) hHeld ?_
  rotate_left
  · (intro w hSw; (try dsimp only at hSw); go_simp; try with_reducible rfl)
  try simp only [Act.put, List.getElem_toArray, List.getElem_cons_zero, List.getElem_cons_succ, List.setIfInBounds_toArray, List.set_cons_zero, List.set_cons_succ]
  refine wpAnyH_take (i := 3) (v := ?_) rfl (by kernel_rfl) (by kernel_rfl) (by kernel_rfl) (fun _ _ _ h => h) (Or.inl ⟨by rfl, ?_⟩) hHeld ?_
  rotate_left
  · (intro w hSw; (try dsimp only at hSw); go_simp; try with_reducible rfl)
  try simp only [Act.put, List.getElem_toArray, List.getElem_cons_zero, List.getElem_cons_succ, List.setIfInBounds_toArray, List.set_cons_zero, List.set_cons_succ]
  refine wpAnyH_ready (rs := [4]) (by kernel_rfl) (by simp) ?_
  refine AllReadyH.cons rfl (fun K hK => ?_) AllReadyH.nil
  go_simp
  refine (ha _).mono ?_
  rintro e w4 ⟨A0, cp0, rfl, hb2⟩
  have hz := (Below.refl _ _).drew.trans hb2
  replace hb := hb.trans (hz.mono hb.size)
  replace B := B.below hz (Nat.le_refl _)
  clear hz hb2
  go_wp2_with fail
  refine hK.out _ _ ?_ (fun hHeld2 => ?_)
  · exact B.all
  clear hK K hHeld
  have hHeld := hHeld2
  clear hHeld2
  try simp only [Act.put, List.setIfInBounds_toArray, List.set_cons_zero, List.set_cons_succ]
  refine wpAnyH_ready (rs := [5]) (by kernel_rfl) (by simp) ?_
  refine AllReadyH.cons rfl (fun K hK => ?_) AllReadyH.nil
  go_simp
  refine (hc _ _ _).mono ?_
  rintro e w5 ⟨rfl, hb2⟩
  replace hb := hb.trans (hb2.mono hb.size)
  replace B := B.below hb2 (Nat.le_refl _)
  clear hb2
  go_wp2_with fail
  refine hK.out _ _ ?_ (fun hHeld2 => ?_)
  · exact B.all
  clear hK K hHeld
  have hHeld := hHeld2
  clear hHeld2
  try simp only [Act.put, List.setIfInBounds_toArray, List.set_cons_zero, List.set_cons_succ]
  refine wpAnyH_take (i := 6) (v := ?_) rfl (by kernel_rfl) (by kernel_rfl) (by kernel_rfl) (fun _ _ _ h => h) (Or.inl ⟨by rfl, ?_⟩) hHeld ?_
  rotate_left
  · (intro w hSw; (try dsimp only at hSw); go_simp; try with_reducible rfl)
  try simp only [Act.put, List.getElem_toArray, List.getElem_cons_zero, List.getElem_cons_succ, List.setIfInBounds_toArray, List.set_cons_zero, List.set_cons_succ]
  refine wpAnyH_done (by kernel_rfl) ?_ _
  obtain ⟨c0, c1, c2, c3, c4, c5⟩ := B.all
  go_wp2
  all_goals first
    | (go_ret; exact ⟨rfl, hb⟩)
    | (exfalso; omega)
    | (exfalso; simp_all; done)
set_option maxRecDepth 100000 in
set_option maxHeartbeats 4000000 in
theorem kinds_7 (id m ch ro lo he k a : Int) (M n N : Nat) (hM : M ≤ 8) (hN : N ≤ 960) (ka : ∀ W, Calls Try.prog 14 #[] W fun e w' => e = .returned (.bool true) ∧ Below W.heap.size W w') (q0 : 1 ≤ k) (q1 : 6 < k) (hs : ∀ W, Calls Try.prog 20 #[.agg #[.int .u32 id, .int .i64 m, .int .i64 ch, .int .i64 ro, .int .i64 lo, .int .i64 he]] W fun e w' => e = .returned (.tuple #[.int .i64 (N : Nat), .int .i64 0]) ∧ Below W.heap.size W w') (ha : ∀ W, Calls Try.prog 11 #[.int .u8 k, .int .i64 a, .int .i64 (M : Nat)] W fun e w' => ∃ A' c', e = .returned (.agg #[.int .u8 k, .int .i64 a, .int .i64 (M : Nat), .slice A' n c']) ∧ Below W.heap.size W w') (hc : ∀ A' c' W, Calls Try.prog 13 #[.agg #[.int .u32 id, .int .i64 m, .int .i64 ch, .int .i64 ro, .int .i64 lo, .int .i64 he], .agg #[.int .u8 k, .int .i64 a, .int .i64 (M : Nat), .slice A' n c']] W fun e w' => e = .returned (.int .i64 2) ∧ Below W.heap.size W w') (w : World) : Calls Try.prog 7 #[.agg #[.int .u32 id, .int .i64 m, .int .i64 ch, .int .i64 ro, .int .i64 lo, .int .i64 he], .int .u8 k, .int .i64 a, .int .i64 (M : Nat)] w fun e w' => e = .returned (.bool true) ∧ Below w.heap.size w w' := by
  have B := Box6.new w (.int .u32 id) (.int .i64 m) (.int .i64 ch) (.int .i64 ro) (.int .i64 lo) (.int .i64 he) 24
  have hb : Below w.heap.size w (w.alloc (.cells #[.int .u32 id, .int .i64 m, .int .i64 ch, .int .i64 ro, .int .i64 lo, .int .i64 he] 24 (0, 0))) := (Below.refl _ _).alloc (Nat.le_refl _) _
  obtain ⟨c0, c1, c2, c3, c4, c5⟩ := B.all
  go_enter Try.func7, Try.ntmps7
  go_wp2_with (first
    | (go_at_call 14; refine (ka _).mono ?_; rintro e w2 ⟨rfl, hb2⟩; replace hb := hb.trans (hb2.mono hb.size); clear c0 c1 c2 c3 c4 c5; replace B := B.below hb2 (Nat.le_refl _); clear hb2; obtain ⟨c0, c1, c2, c3, c4, c5⟩ := B.all)
    | (go_at_call 20; refine (hs _).mono ?_; rintro e w3 ⟨rfl, hb2⟩; replace hb := hb.trans (hb2.mono hb.size); clear c0 c1 c2 c3 c4 c5; replace B := B.below hb2 (Nat.le_refl _); clear hb2; obtain ⟨c0, c1, c2, c3, c4, c5⟩ := B.all))
  clear c0 c1 c2 c3 c4 c5
  have B0 := B.below ((Below.refl _ _).drew) (Nat.le_refl _)
  refine wp_region_held_drew (S := (fun W => W.cell? ⟨w.heap.size, 0, none⟩ = some (.int .u32 id) ∧ W.cell? ⟨w.heap.size, 1, none⟩ = some (.int .i64 m) ∧ W.cell? ⟨w.heap.size, 2, none⟩ = some (.int .i64 ch) ∧ W.cell? ⟨w.heap.size, 3, none⟩ = some (.int .i64 ro) ∧ W.cell? ⟨w.heap.size, 4, none⟩ = some (.int .i64 lo) ∧ W.cell? ⟨w.heap.size, 5, none⟩ = some (.int .i64 he))) (by kernel_rfl) ?_ (fun hHeld => ?_)
  · exact B0.all
  refine wpAnyH_take (i := 0) (v := ?_) rfl (by kernel_rfl) (by kernel_rfl) (by kernel_rfl) (fun _ _ _ h => h) (Or.inl ⟨by rfl, ?_⟩) hHeld ?_
  rotate_left
  · (intro w hSw; (try dsimp only at hSw); go_simp; try with_reducible rfl)
  try simp only [Act.put, List.getElem_toArray, List.getElem_cons_zero, List.setIfInBounds_toArray, List.set_cons_zero, List.set_cons_succ]
  refine wpAnyH_take (i := 1) (v := ?_) rfl (by kernel_rfl) (by kernel_rfl) (by kernel_rfl) (fun _ _ _ h => h) (Or.inl ⟨by rfl, ?_⟩) hHeld ?_
  rotate_left
  · (intro w hSw; (try dsimp only at hSw); go_simp; try with_reducible rfl)
  try simp only [Act.put, List.getElem_toArray, List.getElem_cons_zero, List.getElem_cons_succ, List.setIfInBounds_toArray, List.set_cons_zero, List.set_cons_succ]
  refine wpAnyH_take (i := 2) (v := ?_) rfl (by kernel_rfl) (by kernel_rfl) (by kernel_rfl) (fun _ _ _ h => h) (Or.inl ⟨by rfl, ?_⟩) hHeld ?_
  rotate_left
  · (intro w hSw; (try dsimp only at hSw); go_simp; try with_reducible rfl)
  try simp only [Act.put, List.getElem_toArray, List.getElem_cons_zero, List.getElem_cons_succ, List.setIfInBounds_toArray, List.set_cons_zero, List.set_cons_succ]
  refine wpAnyH_take (i := 3) (v := ?_) rfl (by kernel_rfl) (by kernel_rfl) (by kernel_rfl) (fun _ _ _ h => h) (Or.inl ⟨by rfl, ?_⟩) hHeld ?_
  rotate_left
  · (intro w hSw; (try dsimp only at hSw); go_simp; try with_reducible rfl)
  try simp only [Act.put, List.getElem_toArray, List.getElem_cons_zero, List.getElem_cons_succ, List.setIfInBounds_toArray, List.set_cons_zero, List.set_cons_succ]
  refine wpAnyH_ready (rs := [4]) (by kernel_rfl) (by simp) ?_
  refine AllReadyH.cons rfl (fun K hK => ?_) AllReadyH.nil
  go_simp
  refine (ha _).mono ?_
  rintro e w4 ⟨A0, cp0, rfl, hb2⟩
  have hz := (Below.refl _ _).drew.trans hb2
  replace hb := hb.trans (hz.mono hb.size)
  replace B := B.below hz (Nat.le_refl _)
  clear hz hb2
  go_wp2_with fail
  refine hK.out _ _ ?_ (fun hHeld2 => ?_)
  · exact B.all
  clear hK K hHeld
  have hHeld := hHeld2
  clear hHeld2
  try simp only [Act.put, List.setIfInBounds_toArray, List.set_cons_zero, List.set_cons_succ]
  refine wpAnyH_ready (rs := [5]) (by kernel_rfl) (by simp) ?_
  refine AllReadyH.cons rfl (fun K hK => ?_) AllReadyH.nil
  go_simp
  refine (hc _ _ _).mono ?_
  rintro e w5 ⟨rfl, hb2⟩
  replace hb := hb.trans (hb2.mono hb.size)
  replace B := B.below hb2 (Nat.le_refl _)
  clear hb2
  go_wp2_with fail
  refine hK.out _ _ ?_ (fun hHeld2 => ?_)
  · exact B.all
  clear hK K hHeld
  have hHeld := hHeld2
  clear hHeld2
  try simp only [Act.put, List.setIfInBounds_toArray, List.set_cons_zero, List.set_cons_succ]
  refine wpAnyH_take (i := 6) (v := ?_) rfl (by kernel_rfl) (by kernel_rfl) (by kernel_rfl) (fun _ _ _ h => h) (Or.inl ⟨by rfl, ?_⟩) hHeld ?_
  rotate_left
  · (intro w hSw; (try dsimp only at hSw); go_simp; try with_reducible rfl)
  try simp only [Act.put, List.getElem_toArray, List.getElem_cons_zero, List.getElem_cons_succ, List.setIfInBounds_toArray, List.set_cons_zero, List.set_cons_succ]
  refine wpAnyH_done (by kernel_rfl) ?_ _
  obtain ⟨c0, c1, c2, c3, c4, c5⟩ := B.all
  go_wp2
  all_goals first
    | (go_ret; exact ⟨rfl, hb⟩)
    | (exfalso; omega)
    | (exfalso; simp_all; done)
set_option maxRecDepth 100000 in
set_option maxHeartbeats 4000000 in
theorem kinds_4a (id m ch ro lo he k a : Int) (M n N : Nat) (hM : M ≤ 8) (hN : N ≤ 960) (ka : ∀ W, Calls Try.prog 14 #[] W fun e w' => e = .returned (.bool true) ∧ Below W.heap.size W w') (q0 : 1 ≤ k) (q1 : k ≤ 6) (q2 : (k == 4) = true) (p0 : (a == 0) = true) (p1 : (((M : Nat) : Int) == 0) = true) (hs : ∀ W, Calls Try.prog 20 #[.agg #[.int .u32 id, .int .i64 m, .int .i64 ch, .int .i64 ro, .int .i64 lo, .int .i64 he]] W fun e w' => e = .returned (.tuple #[.int .i64 (N : Nat), .int .i64 0]) ∧ Below W.heap.size W w') (ha : ∀ W, Calls Try.prog 11 #[.int .u8 k, .int .i64 a, .int .i64 (M : Nat)] W fun e w' => ∃ A' c', e = .returned (.agg #[.int .u8 k, .int .i64 a, .int .i64 (M : Nat), .slice A' n c']) ∧ Below W.heap.size W w') (hc : ∀ A' c' W, Calls Try.prog 13 #[.agg #[.int .u32 id, .int .i64 m, .int .i64 ch, .int .i64 ro, .int .i64 lo, .int .i64 he], .agg #[.int .u8 k, .int .i64 a, .int .i64 (M : Nat), .slice A' n c']] W fun e w' => e = .returned (.int .i64 0) ∧ Below W.heap.size W w') (w : World) : Calls Try.prog 7 #[.agg #[.int .u32 id, .int .i64 m, .int .i64 ch, .int .i64 ro, .int .i64 lo, .int .i64 he], .int .u8 k, .int .i64 a, .int .i64 (M : Nat)] w fun e w' => e = .returned (.bool true) ∧ Below w.heap.size w w' := by
  have B := Box6.new w (.int .u32 id) (.int .i64 m) (.int .i64 ch) (.int .i64 ro) (.int .i64 lo) (.int .i64 he) 24
  have hb : Below w.heap.size w (w.alloc (.cells #[.int .u32 id, .int .i64 m, .int .i64 ch, .int .i64 ro, .int .i64 lo, .int .i64 he] 24 (0, 0))) := (Below.refl _ _).alloc (Nat.le_refl _) _
  obtain ⟨c0, c1, c2, c3, c4, c5⟩ := B.all
  go_enter Try.func7, Try.ntmps7
  go_wp2_with (first
    | (go_at_call 14; refine (ka _).mono ?_; rintro e w2 ⟨rfl, hb2⟩; replace hb := hb.trans (hb2.mono hb.size); clear c0 c1 c2 c3 c4 c5; replace B := B.below hb2 (Nat.le_refl _); clear hb2; obtain ⟨c0, c1, c2, c3, c4, c5⟩ := B.all)
    | (go_at_call 20; refine (hs _).mono ?_; rintro e w3 ⟨rfl, hb2⟩; replace hb := hb.trans (hb2.mono hb.size); clear c0 c1 c2 c3 c4 c5; replace B := B.below hb2 (Nat.le_refl _); clear hb2; obtain ⟨c0, c1, c2, c3, c4, c5⟩ := B.all))
  clear c0 c1 c2 c3 c4 c5
  have B0 := B.below ((Below.refl _ _).drew) (Nat.le_refl _)
  refine wp_region_held_drew (S := (fun W => W.cell? ⟨w.heap.size, 0, none⟩ = some (.int .u32 id) ∧ W.cell? ⟨w.heap.size, 1, none⟩ = some (.int .i64 m) ∧ W.cell? ⟨w.heap.size, 2, none⟩ = some (.int .i64 ch) ∧ W.cell? ⟨w.heap.size, 3, none⟩ = some (.int .i64 ro) ∧ W.cell? ⟨w.heap.size, 4, none⟩ = some (.int .i64 lo) ∧ W.cell? ⟨w.heap.size, 5, none⟩ = some (.int .i64 he))) (by kernel_rfl) ?_ (fun hHeld => ?_)
  · exact B0.all
  refine wpAnyH_take (i := 0) (v := ?_) rfl (by kernel_rfl) (by kernel_rfl) (by kernel_rfl) (fun _ _ _ h => h) (Or.inl ⟨by rfl, ?_⟩) hHeld ?_
  rotate_left
  · (intro w hSw; (try dsimp only at hSw); go_simp; try with_reducible rfl)
  try simp only [Act.put, List.getElem_toArray, List.getElem_cons_zero, List.setIfInBounds_toArray, List.set_cons_zero, List.set_cons_succ]
  refine wpAnyH_take (i := 1) (v := ?_) rfl (by kernel_rfl) (by kernel_rfl) (by kernel_rfl) (fun _ _ _ h => h) (Or.inl ⟨by rfl, ?_⟩) hHeld ?_
  rotate_left
  · (intro w hSw; (try dsimp only at hSw); go_simp; try with_reducible rfl)
  try simp only [Act.put, List.getElem_toArray, List.getElem_cons_zero, List.getElem_cons_succ, List.setIfInBounds_toArray, List.set_cons_zero, List.set_cons_succ]
  refine wpAnyH_take (i := 2) (v := ?_) rfl (by kernel_rfl) (by kernel_rfl) (by kernel_rfl) (fun _ _ _ h => h) (Or.inl ⟨by rfl, ?_⟩) hHeld ?_
  rotate_left
  · (intro w hSw; (try dsimp only at hSw); go_simp; try with_reducible rfl)
  try simp only [Act.put, List.getElem_toArray, List.getElem_cons_zero, List.getElem_cons_succ, List.setIfInBounds_toArray, List.set_cons_zero, List.set_cons_succ]
  refine wpAnyH_take (i := 3) (v := ?_) rfl (by kernel_rfl) (by kernel_rfl) (by kernel_rfl) (fun _ _ _ h => h) (Or.inl ⟨by rfl, ?_⟩) hHeld ?_
  rotate_left
  · (intro w hSw; (try dsimp only at hSw); go_simp; try with_reducible rfl)
  try simp only [Act.put, List.getElem_toArray, List.getElem_cons_zero, List.getElem_cons_succ, List.setIfInBounds_toArray, List.set_cons_zero, List.set_cons_succ]
  refine wpAnyH_ready (rs := [4]) (by kernel_rfl) (by simp) ?_
  refine AllReadyH.cons rfl (fun K hK => ?_) AllReadyH.nil
  go_simp
  refine (ha _).mono ?_
  rintro e w4 ⟨A0, cp0, rfl, hb2⟩
  have hz := (Below.refl _ _).drew.trans hb2
  replace hb := hb.trans (hz.mono hb.size)
  replace B := B.below hz (Nat.le_refl _)
  clear hz hb2
  go_wp2_with fail
  refine hK.out _ _ ?_ (fun hHeld2 => ?_)
  · exact B.all
  clear hK K hHeld
  have hHeld := hHeld2
  clear hHeld2
  try simp only [Act.put, List.setIfInBounds_toArray, List.set_cons_zero, List.set_cons_succ]
  refine wpAnyH_ready (rs := [5]) (by kernel_rfl) (by simp) ?_
  refine AllReadyH.cons rfl (fun K hK => ?_) AllReadyH.nil
  go_simp
  refine (hc _ _ _).mono ?_
  rintro e w5 ⟨rfl, hb2⟩
  replace hb := hb.trans (hb2.mono hb.size)
  replace B := B.below hb2 (Nat.le_refl _)
  clear hb2
  go_wp2_with fail
  refine hK.out _ _ ?_ (fun hHeld2 => ?_)
  · exact B.all
  clear hK K hHeld
  have hHeld := hHeld2
  clear hHeld2
  try simp only [Act.put, List.setIfInBounds_toArray, List.set_cons_zero, List.set_cons_succ]
  refine wpAnyH_take (i := 6) (v := ?_) rfl (by kernel_rfl) (by kernel_rfl) (by kernel_rfl) (fun _ _ _ h => h) (Or.inl ⟨by rfl, ?_⟩) hHeld ?_
  rotate_left
  · (intro w hSw; (try dsimp only at hSw); go_simp; try with_reducible rfl)
  try simp only [Act.put, List.getElem_toArray, List.getElem_cons_zero, List.getElem_cons_succ, List.setIfInBounds_toArray, List.set_cons_zero, List.set_cons_succ]
  refine wpAnyH_done (by kernel_rfl) ?_ _
  obtain ⟨c0, c1, c2, c3, c4, c5⟩ := B.all
  go_wp2
  all_goals first
    | (go_ret; exact ⟨rfl, hb⟩)
    | (exfalso; omega)
    | (exfalso; simp_all; done)
set_option maxRecDepth 100000 in
set_option maxHeartbeats 4000000 in
theorem kinds_4b (id m ch ro lo he k a : Int) (M n N : Nat) (hM : M ≤ 8) (hN : N ≤ 960) (ka : ∀ W, Calls Try.prog 14 #[] W fun e w' => e = .returned (.bool true) ∧ Below W.heap.size W w') (q0 : 1 ≤ k) (q1 : k ≤ 6) (q2 : (k == 4) = true) (p0 : (a == 0) = true) (p1 : (((M : Nat) : Int) == 0) = false) (hs : ∀ W, Calls Try.prog 20 #[.agg #[.int .u32 id, .int .i64 m, .int .i64 ch, .int .i64 ro, .int .i64 lo, .int .i64 he]] W fun e w' => e = .returned (.tuple #[.int .i64 (N : Nat), .int .i64 0]) ∧ Below W.heap.size W w') (ha : ∀ W, Calls Try.prog 11 #[.int .u8 k, .int .i64 a, .int .i64 (M : Nat)] W fun e w' => ∃ A' c', e = .returned (.agg #[.int .u8 k, .int .i64 a, .int .i64 (M : Nat), .slice A' n c']) ∧ Below W.heap.size W w') (hc : ∀ A' c' W, Calls Try.prog 13 #[.agg #[.int .u32 id, .int .i64 m, .int .i64 ch, .int .i64 ro, .int .i64 lo, .int .i64 he], .agg #[.int .u8 k, .int .i64 a, .int .i64 (M : Nat), .slice A' n c']] W fun e w' => e = .returned (.int .i64 2) ∧ Below W.heap.size W w') (w : World) : Calls Try.prog 7 #[.agg #[.int .u32 id, .int .i64 m, .int .i64 ch, .int .i64 ro, .int .i64 lo, .int .i64 he], .int .u8 k, .int .i64 a, .int .i64 (M : Nat)] w fun e w' => e = .returned (.bool true) ∧ Below w.heap.size w w' := by
  have B := Box6.new w (.int .u32 id) (.int .i64 m) (.int .i64 ch) (.int .i64 ro) (.int .i64 lo) (.int .i64 he) 24
  have hb : Below w.heap.size w (w.alloc (.cells #[.int .u32 id, .int .i64 m, .int .i64 ch, .int .i64 ro, .int .i64 lo, .int .i64 he] 24 (0, 0))) := (Below.refl _ _).alloc (Nat.le_refl _) _
  obtain ⟨c0, c1, c2, c3, c4, c5⟩ := B.all
  go_enter Try.func7, Try.ntmps7
  go_wp2_with (first
    | (go_at_call 14; refine (ka _).mono ?_; rintro e w2 ⟨rfl, hb2⟩; replace hb := hb.trans (hb2.mono hb.size); clear c0 c1 c2 c3 c4 c5; replace B := B.below hb2 (Nat.le_refl _); clear hb2; obtain ⟨c0, c1, c2, c3, c4, c5⟩ := B.all)
    | (go_at_call 20; refine (hs _).mono ?_; rintro e w3 ⟨rfl, hb2⟩; replace hb := hb.trans (hb2.mono hb.size); clear c0 c1 c2 c3 c4 c5; replace B := B.below hb2 (Nat.le_refl _); clear hb2; obtain ⟨c0, c1, c2, c3, c4, c5⟩ := B.all))
  clear c0 c1 c2 c3 c4 c5
  have B0 := B.below ((Below.refl _ _).drew) (Nat.le_refl _)
  refine wp_region_held_drew (S := (fun W => W.cell? ⟨w.heap.size, 0, none⟩ = some (.int .u32 id) ∧ W.cell? ⟨w.heap.size, 1, none⟩ = some (.int .i64 m) ∧ W.cell? ⟨w.heap.size, 2, none⟩ = some (.int .i64 ch) ∧ W.cell? ⟨w.heap.size, 3, none⟩ = some (.int .i64 ro) ∧ W.cell? ⟨w.heap.size, 4, none⟩ = some (.int .i64 lo) ∧ W.cell? ⟨w.heap.size, 5, none⟩ = some (.int .i64 he))) (by kernel_rfl) ?_ (fun hHeld => ?_)
  · exact B0.all
  refine wpAnyH_take (i := 0) (v := ?_) rfl (by kernel_rfl) (by kernel_rfl) (by kernel_rfl) (fun _ _ _ h => h) (Or.inl ⟨by rfl, ?_⟩) hHeld ?_
  rotate_left
  · (intro w hSw; (try dsimp only at hSw); go_simp; try with_reducible rfl)
  try simp only [Act.put, List.getElem_toArray, List.getElem_cons_zero, List.setIfInBounds_toArray, List.set_cons_zero, List.set_cons_succ]
  refine wpAnyH_take (i := 1) (v := ?_) rfl (by kernel_rfl) (by kernel_rfl) (by kernel_rfl) (fun _ _ _ h => h) (Or.inl ⟨by rfl, ?_⟩) hHeld ?_
  rotate_left
  · (intro w hSw; (try dsimp only at hSw); go_simp; try with_reducible rfl)
  try simp only [Act.put, List.getElem_toArray, List.getElem_cons_zero, List.getElem_cons_succ, List.setIfInBounds_toArray, List.set_cons_zero, List.set_cons_succ]
  refine wpAnyH_take (i := 2) (v := ?_) rfl (by kernel_rfl) (by kernel_rfl) (by kernel_rfl) (fun _ _ _ h => h) (Or.inl ⟨by rfl, ?_⟩) hHeld ?_
  rotate_left
  · (intro w hSw; (try dsimp only at hSw); go_simp; try with_reducible rfl)
  try simp only [Act.put, List.getElem_toArray, List.getElem_cons_zero, List.getElem_cons_succ, List.setIfInBounds_toArray, List.set_cons_zero, List.set_cons_succ]
  refine wpAnyH_take (i := 3) (v := ?_) rfl (by kernel_rfl) (by kernel_rfl) (by kernel_rfl) (fun _ _ _ h => h) (Or.inl ⟨by rfl, ?_⟩) hHeld ?_
  rotate_left
  · (intro w hSw; (try dsimp only at hSw); go_simp; try with_reducible rfl)
  try simp only [Act.put, List.getElem_toArray, List.getElem_cons_zero, List.getElem_cons_succ, List.setIfInBounds_toArray, List.set_cons_zero, List.set_cons_succ]
  refine wpAnyH_ready (rs := [4]) (by kernel_rfl) (by simp) ?_
  refine AllReadyH.cons rfl (fun K hK => ?_) AllReadyH.nil
  go_simp
  refine (ha _).mono ?_
  rintro e w4 ⟨A0, cp0, rfl, hb2⟩
  have hz := (Below.refl _ _).drew.trans hb2
  replace hb := hb.trans (hz.mono hb.size)
  replace B := B.below hz (Nat.le_refl _)
  clear hz hb2
  go_wp2_with fail
  refine hK.out _ _ ?_ (fun hHeld2 => ?_)
  · exact B.all
  clear hK K hHeld
  have hHeld := hHeld2
  clear hHeld2
  try simp only [Act.put, List.setIfInBounds_toArray, List.set_cons_zero, List.set_cons_succ]
  refine wpAnyH_ready (rs := [5]) (by kernel_rfl) (by simp) ?_
  refine AllReadyH.cons rfl (fun K hK => ?_) AllReadyH.nil
  go_simp
  refine (hc _ _ _).mono ?_
  rintro e w5 ⟨rfl, hb2⟩
  replace hb := hb.trans (hb2.mono hb.size)
  replace B := B.below hb2 (Nat.le_refl _)
  clear hb2
  go_wp2_with fail
  refine hK.out _ _ ?_ (fun hHeld2 => ?_)
  · exact B.all
  clear hK K hHeld
  have hHeld := hHeld2
  clear hHeld2
  try simp only [Act.put, List.setIfInBounds_toArray, List.set_cons_zero, List.set_cons_succ]
  refine wpAnyH_take (i := 6) (v := ?_) rfl (by kernel_rfl) (by kernel_rfl) (by kernel_rfl) (fun _ _ _ h => h) (Or.inl ⟨by rfl, ?_⟩) hHeld ?_
  rotate_left
  · (intro w hSw; (try dsimp only at hSw); go_simp; try with_reducible rfl)
  try simp only [Act.put, List.getElem_toArray, List.getElem_cons_zero, List.getElem_cons_succ, List.setIfInBounds_toArray, List.set_cons_zero, List.set_cons_succ]
  refine wpAnyH_done (by kernel_rfl) ?_ _
  obtain ⟨c0, c1, c2, c3, c4, c5⟩ := B.all
  go_wp2
  all_goals first
    | (go_ret; exact ⟨rfl, hb⟩)
    | (exfalso; omega)
    | (exfalso; simp_all; done)
set_option maxRecDepth 100000 in
set_option maxHeartbeats 4000000 in
theorem kinds_4c (id m ch ro lo he k a : Int) (M n N : Nat) (hM : M ≤ 8) (hN : N ≤ 960) (ka : ∀ W, Calls Try.prog 14 #[] W fun e w' => e = .returned (.bool true) ∧ Below W.heap.size W w') (q0 : 1 ≤ k) (q1 : k ≤ 6) (q2 : (k == 4) = true) (p0 : (a == 0) = false) (hs : ∀ W, Calls Try.prog 20 #[.agg #[.int .u32 id, .int .i64 m, .int .i64 ch, .int .i64 ro, .int .i64 lo, .int .i64 he]] W fun e w' => e = .returned (.tuple #[.int .i64 (N : Nat), .int .i64 0]) ∧ Below W.heap.size W w') (ha : ∀ W, Calls Try.prog 11 #[.int .u8 k, .int .i64 a, .int .i64 (M : Nat)] W fun e w' => ∃ A' c', e = .returned (.agg #[.int .u8 k, .int .i64 a, .int .i64 (M : Nat), .slice A' n c']) ∧ Below W.heap.size W w') (hc : ∀ A' c' W, Calls Try.prog 13 #[.agg #[.int .u32 id, .int .i64 m, .int .i64 ch, .int .i64 ro, .int .i64 lo, .int .i64 he], .agg #[.int .u8 k, .int .i64 a, .int .i64 (M : Nat), .slice A' n c']] W fun e w' => e = .returned (.int .i64 2) ∧ Below W.heap.size W w') (w : World) : Calls Try.prog 7 #[.agg #[.int .u32 id, .int .i64 m, .int .i64 ch, .int .i64 ro, .int .i64 lo, .int .i64 he], .int .u8 k, .int .i64 a, .int .i64 (M : Nat)] w fun e w' => e = .returned (.bool true) ∧ Below w.heap.size w w' := by
  have B := Box6.new w (.int .u32 id) (.int .i64 m) (.int .i64 ch) (.int .i64 ro) (.int .i64 lo) (.int .i64 he) 24
  have hb : Below w.heap.size w (w.alloc (.cells #[.int .u32 id, .int .i64 m, .int .i64 ch, .int .i64 ro, .int .i64 lo, .int .i64 he] 24 (0, 0))) := (Below.refl _ _).alloc (Nat.le_refl _) _
  obtain ⟨c0, c1, c2, c3, c4, c5⟩ := B.all
  go_enter Try.func7, Try.ntmps7
  go_wp2_with (first
    | (go_at_call 14; refine (ka _).mono ?_; rintro e w2 ⟨rfl, hb2⟩; replace hb := hb.trans (hb2.mono hb.size); clear c0 c1 c2 c3 c4 c5; replace B := B.below hb2 (Nat.le_refl _); clear hb2; obtain ⟨c0, c1, c2, c3, c4, c5⟩ := B.all)
    | (go_at_call 20; refine (hs _).mono ?_; rintro e w3 ⟨rfl, hb2⟩; replace hb := hb.trans (hb2.mono hb.size); clear c0 c1 c2 c3 c4 c5; replace B := B.below hb2 (Nat.le_refl _); clear hb2; obtain ⟨c0, c1, c2, c3, c4, c5⟩ := B.all))
  clear c0 c1 c2 c3 c4 c5
  have B0 := B.below ((Below.refl _ _).drew) (Nat.le_refl _)
  refine wp_region_held_drew (S := (fun W => W.cell? ⟨w.heap.size, 0, none⟩ = some (.int .u32 id) ∧ W.cell? ⟨w.heap.size, 1, none⟩ = some (.int .i64 m) ∧ W.cell? ⟨w.heap.size, 2, none⟩ = some (.int .i64 ch) ∧ W.cell? ⟨w.heap.size, 3, none⟩ = some (.int .i64 ro) ∧ W.cell? ⟨w.heap.size, 4, none⟩ = some (.int .i64 lo) ∧ W.cell? ⟨w.heap.size, 5, none⟩ = some (.int .i64 he))) (by kernel_rfl) ?_ (fun hHeld => ?_)
  · exact B0.all
  refine wpAnyH_take (i := 0) (v := ?_) rfl (by kernel_rfl) (by kernel_rfl) (by kernel_rfl) (fun _ _ _ h => h) (Or.inl ⟨by rfl, ?_⟩) hHeld ?_
  rotate_left
  · (intro w hSw; (try dsimp only at hSw); go_simp; try with_reducible rfl)
  try simp only [Act.put, List.getElem_toArray, List.getElem_cons_zero, List.setIfInBounds_toArray, List.set_cons_zero, List.set_cons_succ]
  refine wpAnyH_take (i := 1) (v := ?_) rfl (by kernel_rfl) (by kernel_rfl) (by kernel_rfl) (fun _ _ _ h => h) (Or.inl ⟨by rfl, ?_⟩) hHeld ?_
  rotate_left
  · (intro w hSw; (try dsimp only at hSw); go_simp; try with_reducible rfl)
  try simp only [Act.put, List.getElem_toArray, List.getElem_cons_zero, List.getElem_cons_succ, List.setIfInBounds_toArray, List.set_cons_zero, List.set_cons_succ]
  refine wpAnyH_take (i := 2) (v := ?_) rfl (by kernel_rfl) (by kernel_rfl) (by kernel_rfl) (fun _ _ _ h => h) (Or.inl ⟨by rfl, ?_⟩) hHeld ?_
  rotate_left
  · (intro w hSw; (try dsimp only at hSw); go_simp; try with_reducible rfl)
  try simp only [Act.put, List.getElem_toArray, List.getElem_cons_zero, List.getElem_cons_succ, List.setIfInBounds_toArray, List.set_cons_zero, List.set_cons_succ]
  refine wpAnyH_take (i := 3) (v := ?_) rfl (by kernel_rfl) (by kernel_rfl) (by kernel_rfl) (fun _ _ _ h => h) (Or.inl ⟨by rfl, ?_⟩) hHeld ?_
  rotate_left
  · (intro w hSw; (try dsimp only at hSw); go_simp; try with_reducible rfl)
  try simp only [Act.put, List.getElem_toArray, List.getElem_cons_zero, List.getElem_cons_succ, List.setIfInBounds_toArray, List.set_cons_zero, List.set_cons_succ]
  refine wpAnyH_ready (rs := [4]) (by kernel_rfl) (by simp) ?_
  refine AllReadyH.cons rfl (fun K hK => ?_) AllReadyH.nil
  go_simp
  refine (ha _).mono ?_
  rintro e w4 ⟨A0, cp0, rfl, hb2⟩
  have hz := (Below.refl _ _).drew.trans hb2
  replace hb := hb.trans (hz.mono hb.size)
  replace B := B.below hz (Nat.le_refl _)
  clear hz hb2
  go_wp2_with fail
  refine hK.out _ _ ?_ (fun hHeld2 => ?_)
  · exact B.all
  clear hK K hHeld
  have hHeld := hHeld2
  clear hHeld2
  try simp only [Act.put, List.setIfInBounds_toArray, List.set_cons_zero, List.set_cons_succ]
  refine wpAnyH_ready (rs := [5]) (by kernel_rfl) (by simp) ?_
  refine AllReadyH.cons rfl (fun K hK => ?_) AllReadyH.nil
  go_simp
  refine (hc _ _ _).mono ?_
  rintro e w5 ⟨rfl, hb2⟩
  replace hb := hb.trans (hb2.mono hb.size)
  replace B := B.below hb2 (Nat.le_refl _)
  clear hb2
  go_wp2_with fail
  refine hK.out _ _ ?_ (fun hHeld2 => ?_)
  · exact B.all
  clear hK K hHeld
  have hHeld := hHeld2
  clear hHeld2
  try simp only [Act.put, List.setIfInBounds_toArray, List.set_cons_zero, List.set_cons_succ]
  refine wpAnyH_take (i := 6) (v := ?_) rfl (by kernel_rfl) (by kernel_rfl) (by kernel_rfl) (fun _ _ _ h => h) (Or.inl ⟨by rfl, ?_⟩) hHeld ?_
  rotate_left
  · (intro w hSw; (try dsimp only at hSw); go_simp; try with_reducible rfl)
  try simp only [Act.put, List.getElem_toArray, List.getElem_cons_zero, List.getElem_cons_succ, List.setIfInBounds_toArray, List.set_cons_zero, List.set_cons_succ]
  refine wpAnyH_done (by kernel_rfl) ?_ _
  obtain ⟨c0, c1, c2, c3, c4, c5⟩ := B.all
  go_wp2
  all_goals first
    | (go_ret; exact ⟨rfl, hb⟩)
    | (exfalso; omega)
    | (exfalso; simp_all; done)
set_option maxRecDepth 100000 in
set_option maxHeartbeats 4000000 in
theorem kinds_6a (id m ch ro lo he k a : Int) (M n N : Nat) (hM : M ≤ 8) (hN : N ≤ 960) (ka : ∀ W, Calls Try.prog 14 #[] W fun e w' => e = .returned (.bool true) ∧ Below W.heap.size W w') (q0 : 1 ≤ k) (q1 : k ≤ 6) (q2 : (k == 4) = false) (q3 : (k == 6) = true) (p0 : (a == 0) = true) (p1 : (((M : Nat) : Int) == 0) = true) (hs : ∀ W, Calls Try.prog 20 #[.agg #[.int .u32 id, .int .i64 m, .int .i64 ch, .int .i64 ro, .int .i64 lo, .int .i64 he]] W fun e w' => e = .returned (.tuple #[.int .i64 (N : Nat), .int .i64 0]) ∧ Below W.heap.size W w') (ha : ∀ W, Calls Try.prog 11 #[.int .u8 k, .int .i64 a, .int .i64 (M : Nat)] W fun e w' => ∃ A' c', e = .returned (.agg #[.int .u8 k, .int .i64 a, .int .i64 (M : Nat), .slice A' n c']) ∧ Below W.heap.size W w') (hc : ∀ A' c' W, Calls Try.prog 13 #[.agg #[.int .u32 id, .int .i64 m, .int .i64 ch, .int .i64 ro, .int .i64 lo, .int .i64 he], .agg #[.int .u8 k, .int .i64 a, .int .i64 (M : Nat), .slice A' n c']] W fun e w' => e = .returned (.int .i64 0) ∧ Below W.heap.size W w') (w : World) : Calls Try.prog 7 #[.agg #[.int .u32 id, .int .i64 m, .int .i64 ch, .int .i64 ro, .int .i64 lo, .int .i64 he], .int .u8 k, .int .i64 a, .int .i64 (M : Nat)] w fun e w' => e = .returned (.bool true) ∧ Below w.heap.size w w' := by
  have B := Box6.new w (.int .u32 id) (.int .i64 m) (.int .i64 ch) (.int .i64 ro) (.int .i64 lo) (.int .i64 he) 24
  have hb : Below w.heap.size w (w.alloc (.cells #[.int .u32 id, .int .i64 m, .int .i64 ch, .int .i64 ro, .int .i64 lo, .int .i64 he] 24 (0, 0))) := (Below.refl _ _).alloc (Nat.le_refl _) _
  obtain ⟨c0, c1, c2, c3, c4, c5⟩ := B.all
  go_enter Try.func7, Try.ntmps7
  go_wp2_with (first
    | (go_at_call 14; refine (ka _).mono ?_; rintro e w2 ⟨rfl, hb2⟩; replace hb := hb.trans (hb2.mono hb.size); clear c0 c1 c2 c3 c4 c5; replace B := B.below hb2 (Nat.le_refl _); clear hb2; obtain ⟨c0, c1, c2, c3, c4, c5⟩ := B.all)
    | (go_at_call 20; refine (hs _).mono ?_; rintro e w3 ⟨rfl, hb2⟩; replace hb := hb.trans (hb2.mono hb.size); clear c0 c1 c2 c3 c4 c5; replace B := B.below hb2 (Nat.le_refl _); clear hb2; obtain ⟨c0, c1, c2, c3, c4, c5⟩ := B.all))
  clear c0 c1 c2 c3 c4 c5
  have B0 := B.below ((Below.refl _ _).drew) (Nat.le_refl _)
  refine wp_region_held_drew (S := (fun W => W.cell? ⟨w.heap.size, 0, none⟩ = some (.int .u32 id) ∧ W.cell? ⟨w.heap.size, 1, none⟩ = some (.int .i64 m) ∧ W.cell? ⟨w.heap.size, 2, none⟩ = some (.int .i64 ch) ∧ W.cell? ⟨w.heap.size, 3, none⟩ = some (.int .i64 ro) ∧ W.cell? ⟨w.heap.size, 4, none⟩ = some (.int .i64 lo) ∧ W.cell? ⟨w.heap.size, 5, none⟩ = some (.int .i64 he))) (by kernel_rfl) ?_ (fun hHeld => ?_)
  · exact B0.all
  refine wpAnyH_take (i := 0) (v := ?_) rfl (by kernel_rfl) (by kernel_rfl) (by kernel_rfl) (fun _ _ _ h => h) (Or.inl ⟨by rfl, ?_⟩) hHeld ?_
  rotate_left
  · (intro w hSw; (try dsimp only at hSw); go_simp; try with_reducible rfl)
  try simp only [Act.put, List.getElem_toArray, List.getElem_cons_zero, List.setIfInBounds_toArray, List.set_cons_zero, List.set_cons_succ]
  refine wpAnyH_take (i := 1) (v := ?_) rfl (by kernel_rfl) (by kernel_rfl) (by kernel_rfl) (fun _ _ _ h => h) (Or.inl ⟨by rfl, ?_⟩) hHeld ?_
  rotate_left
  · (intro w hSw; (try dsimp only at hSw); go_simp; try with_reducible rfl)
  try simp only [Act.put, List.getElem_toArray, List.getElem_cons_zero, List.getElem_cons_succ, List.setIfInBounds_toArray, List.set_cons_zero, List.set_cons_succ]
  refine wpAnyH_take (i := 2) (v := ?_) rfl (by kernel_rfl) (by kernel_rfl) (by kernel_rfl) (fun _ _ _ h => h) (Or.inl ⟨by rfl, ?_⟩) hHeld ?_
  rotate_left
  · (intro w hSw; (try dsimp only at hSw); go_simp; try with_reducible rfl)
  try simp only [Act.put, List.getElem_toArray, List.getElem_cons_zero, List.getElem_cons_succ, List.setIfInBounds_toArray, List.set_cons_zero, List.set_cons_succ]
  refine wpAnyH_take (i := 3) (v := ?_) rfl (by kernel_rfl) (by kernel_rfl) (by kernel_rfl) (fun _ _ _ h => h) (Or.inl ⟨by rfl, ?_⟩) hHeld ?_
  rotate_left
  · (intro w hSw; (try dsimp only at hSw); go_simp; try with_reducible rfl)
  try simp only [Act.put, List.getElem_toArray, List.getElem_cons_zero, List.getElem_cons_succ, List.setIfInBounds_toArray, List.set_cons_zero, List.set_cons_succ]
  refine wpAnyH_ready (rs := [4]) (by kernel_rfl) (by simp) ?_
  refine AllReadyH.cons rfl (fun K hK => ?_) AllReadyH.nil
  go_simp
  refine (ha _).mono ?_
  rintro e w4 ⟨A0, cp0, rfl, hb2⟩
  have hz := (Below.refl _ _).drew.trans hb2
  replace hb := hb.trans (hz.mono hb.size)
  replace B := B.below hz (Nat.le_refl _)
  clear hz hb2
  go_wp2_with fail
  refine hK.out _ _ ?_ (fun hHeld2 => ?_)
  · exact B.all
  clear hK K hHeld
  have hHeld := hHeld2
  clear hHeld2
  try simp only [Act.put, List.setIfInBounds_toArray, List.set_cons_zero, List.set_cons_succ]
  refine wpAnyH_ready (rs := [5]) (by kernel_rfl) (by simp) ?_
  refine AllReadyH.cons rfl (fun K hK => ?_) AllReadyH.nil
  go_simp
  refine (hc _ _ _).mono ?_
  rintro e w5 ⟨rfl, hb2⟩
  replace hb := hb.trans (hb2.mono hb.size)
  replace B := B.below hb2 (Nat.le_refl _)
  clear hb2
  go_wp2_with fail
  refine hK.out _ _ ?_ (fun hHeld2 => ?_)
  · exact B.all
  clear hK K hHeld
  have hHeld := hHeld2
  clear hHeld2
  try simp only [Act.put, List.setIfInBounds_toArray, List.set_cons_zero, List.set_cons_succ]
  refine wpAnyH_take (i := 6) (v := ?_) rfl (by kernel_rfl) (by kernel_rfl) (by kernel_rfl) (fun _ _ _ h => h) (Or.inl ⟨by rfl, ?_⟩) hHeld ?_
  rotate_left
  · (intro w hSw; (try dsimp only at hSw); go_simp; try with_reducible rfl)
  try simp only [Act.put, List.getElem_toArray, List.getElem_cons_zero, List.getElem_cons_succ, List.setIfInBounds_toArray, List.set_cons_zero, List.set_cons_succ]
  refine wpAnyH_done (by kernel_rfl) ?_ _
  obtain ⟨c0, c1, c2, c3, c4, c5⟩ := B.all
  go_wp2
  all_goals first
    | (go_ret; exact ⟨rfl, hb⟩)
    | (exfalso; omega)
    | (exfalso; simp_all; done)
set_option maxRecDepth 100000 in
set_option maxHeartbeats 4000000 in
theorem kinds_6b (id m ch ro lo he k a : Int) (M n N : Nat) (hM : M ≤ 8) (hN : N ≤ 960) (ka : ∀ W, Calls Try.prog 14 #[] W fun e w' => e = .returned (.bool true) ∧ Below W.heap.size W w') (q0 : 1 ≤ k) (q1 : k ≤ 6) (q2 : (k == 4) = false) (q3 : (k == 6) = true) (p0 : (a == 0) = true) (p1 : (((M : Nat) : Int) == 0) = false) (hs : ∀ W, Calls Try.prog 20 #[.agg #[.int .u32 id, .int .i64 m, .int .i64 ch, .int .i64 ro, .int .i64 lo, .int .i64 he]] W fun e w' => e = .returned (.tuple #[.int .i64 (N : Nat), .int .i64 0]) ∧ Below W.heap.size W w') (ha : ∀ W, Calls Try.prog 11 #[.int .u8 k, .int .i64 a, .int .i64 (M : Nat)] W fun e w' => ∃ A' c', e = .returned (.agg #[.int .u8 k, .int .i64 a, .int .i64 (M : Nat), .slice A' n c']) ∧ Below W.heap.size W w') (hc : ∀ A' c' W, Calls Try.prog 13 #[.agg #[.int .u32 id, .int .i64 m, .int .i64 ch, .int .i64 ro, .int .i64 lo, .int .i64 he], .agg #[.int .u8 k, .int .i64 a, .int .i64 (M : Nat), .slice A' n c']] W fun e w' => e = .returned (.int .i64 2) ∧ Below W.heap.size W w') (w : World) : Calls Try.prog 7 #[.agg #[.int .u32 id, .int .i64 m, .int .i64 ch, .int .i64 ro, .int .i64 lo, .int .i64 he], .int .u8 k, .int .i64 a, .int .i64 (M : Nat)] w fun e w' => e = .returned (.bool true) ∧ Below w.heap.size w w' := by
  have B := Box6.new w (.int .u32 id) (.int .i64 m) (.int .i64 ch) (.int .i64 ro) (.int .i64 lo) (.int .i64 he) 24
  have hb : Below w.heap.size w (w.alloc (.cells #[.int .u32 id, .int .i64 m, .int .i64 ch, .int .i64 ro, .int .i64 lo, .int .i64 he] 24 (0, 0))) := (Below.refl _ _).alloc (Nat.le_refl _) _
  obtain ⟨c0, c1, c2, c3, c4, c5⟩ := B.all
  go_enter Try.func7, Try.ntmps7
  go_wp2_with (first
    | (go_at_call 14; refine (ka _).mono ?_; rintro e w2 ⟨rfl, hb2⟩; replace hb := hb.trans (hb2.mono hb.size); clear c0 c1 c2 c3 c4 c5; replace B := B.below hb2 (Nat.le_refl _); clear hb2; obtain ⟨c0, c1, c2, c3, c4, c5⟩ := B.all)
    | (go_at_call 20; refine (hs _).mono ?_; rintro e w3 ⟨rfl, hb2⟩; replace hb := hb.trans (hb2.mono hb.size); clear c0 c1 c2 c3 c4 c5; replace B := B.below hb2 (Nat.le_refl _); clear hb2; obtain ⟨c0, c1, c2, c3, c4, c5⟩ := B.all))
  clear c0 c1 c2 c3 c4 c5
  have B0 := B.below ((Below.refl _ _).drew) (Nat.le_refl _)
  refine wp_region_held_drew (S := (fun W => W.cell? ⟨w.heap.size, 0, none⟩ = some (.int .u32 id) ∧ W.cell? ⟨w.heap.size, 1, none⟩ = some (.int .i64 m) ∧ W.cell? ⟨w.heap.size, 2, none⟩ = some (.int .i64 ch) ∧ W.cell? ⟨w.heap.size, 3, none⟩ = some (.int .i64 ro) ∧ W.cell? ⟨w.heap.size, 4, none⟩ = some (.int .i64 lo) ∧ W.cell? ⟨w.heap.size, 5, none⟩ = some (.int .i64 he))) (by kernel_rfl) ?_ (fun hHeld => ?_)
  · exact B0.all
  refine wpAnyH_take (i := 0) (v := ?_) rfl (by kernel_rfl) (by kernel_rfl) (by kernel_rfl) (fun _ _ _ h => h) (Or.inl ⟨by rfl, ?_⟩) hHeld ?_
  rotate_left
  · (intro w hSw; (try dsimp only at hSw); go_simp; try with_reducible rfl)
  try simp only [Act.put, List.getElem_toArray, List.getElem_cons_zero, List.setIfInBounds_toArray, List.set_cons_zero, List.set_cons_succ]
  refine wpAnyH_take (i := 1) (v := ?_) rfl (by kernel_rfl) (by kernel_rfl) (by kernel_rfl) (fun _ _ _ h => h) (Or.inl ⟨by rfl, ?_⟩) hHeld ?_
  rotate_left
  · (intro w hSw; (try dsimp only at hSw); go_simp; try with_reducible rfl)
  try simp only [Act.put, List.getElem_toArray, List.getElem_cons_zero, List.getElem_cons_succ, List.setIfInBounds_toArray, List.set_cons_zero, List.set_cons_succ]
  refine wpAnyH_take (i := 2) (v := ?_) rfl (by kernel_rfl) (by kernel_rfl) (by kernel_rfl) (fun _ _ _ h => h) (Or.inl ⟨by rfl, ?_⟩) hHeld ?_
  rotate_left
  · (intro w hSw; (try dsimp only at hSw); go_simp; try with_reducible rfl)
  try simp only [Act.put, List.getElem_toArray, List.getElem_cons_zero, List.getElem_cons_succ, List.setIfInBounds_toArray, List.set_cons_zero, List.set_cons_succ]
  refine wpAnyH_take (i := 3) (v := ?_) rfl (by kernel_rfl) (by kernel_rfl) (by kernel_rfl) (fun _ _ _ h => h) (Or.inl ⟨by rfl, ?_⟩) hHeld ?_
  rotate_left
  · (intro w hSw; (try dsimp only at hSw); go_simp; try with_reducible rfl)
  try simp only [Act.put, List.getElem_toArray, List.getElem_cons_zero, List.getElem_cons_succ, List.setIfInBounds_toArray, List.set_cons_zero, List.set_cons_succ]
  refine wpAnyH_ready (rs := [4]) (by kernel_rfl) (by simp) ?_
  refine AllReadyH.cons rfl (fun K hK => ?_) AllReadyH.nil
  go_simp
  refine (ha _).mono ?_
  rintro e w4 ⟨A0, cp0, rfl, hb2⟩
  have hz := (Below.refl _ _).drew.trans hb2
  replace hb := hb.trans (hz.mono hb.size)
  replace B := B.below hz (Nat.le_refl _)
  clear hz hb2
  go_wp2_with fail
  refine hK.out _ _ ?_ (fun hHeld2 => ?_)
  · exact B.all
  clear hK K hHeld
  have hHeld := hHeld2
  clear hHeld2
  try simp only [Act.put, List.setIfInBounds_toArray, List.set_cons_zero, List.set_cons_succ]
  refine wpAnyH_ready (rs := [5]) (by kernel_rfl) (by simp) ?_
  refine AllReadyH.cons rfl (fun K hK => ?_) AllReadyH.nil
  go_simp
  refine (hc _ _ _).mono ?_
  rintro e w5 ⟨rfl, hb2⟩
  replace hb := hb.trans (hb2.mono hb.size)
  replace B := B.below hb2 (Nat.le_refl _)
  clear hb2
  go_wp2_with fail
  refine hK.out _ _ ?_ (fun hHeld2 => ?_)
  · exact B.all
  clear hK K hHeld
  have hHeld := hHeld2
  clear hHeld2
  try simp only [Act.put, List.setIfInBounds_toArray, List.set_cons_zero, List.set_cons_succ]
  refine wpAnyH_take (i := 6) (v := ?_) rfl (by kernel_rfl) (by kernel_rfl) (by kernel_rfl) (fun _ _ _ h => h) (Or.inl ⟨by rfl, ?_⟩) hHeld ?_
  rotate_left
  · (intro w hSw; (try dsimp only at hSw); go_simp; try with_reducible rfl)
  try simp only [Act.put, List.getElem_toArray, List.getElem_cons_zero, List.getElem_cons_succ, List.setIfInBounds_toArray, List.set_cons_zero, List.set_cons_succ]
  refine wpAnyH_done (by kernel_rfl) ?_ _
  obtain ⟨c0, c1, c2, c3, c4, c5⟩ := B.all
  go_wp2
  all_goals first
    | (go_ret; exact ⟨rfl, hb⟩)
    | (exfalso; omega)
    | (exfalso; simp_all; done)
set_option maxRecDepth 100000 in
set_option maxHeartbeats 4000000 in
theorem kinds_6c (id m ch ro lo he k a : Int) (M n N : Nat) (hM : M ≤ 8) (hN : N ≤ 960) (ka : ∀ W, Calls Try.prog 14 #[] W fun e w' => e = .returned (.bool true) ∧ Below W.heap.size W w') (q0 : 1 ≤ k) (q1 : k ≤ 6) (q2 : (k == 4) = false) (q3 : (k == 6) = true) (p0 : (a == 0) = false) (hs : ∀ W, Calls Try.prog 20 #[.agg #[.int .u32 id, .int .i64 m, .int .i64 ch, .int .i64 ro, .int .i64 lo, .int .i64 he]] W fun e w' => e = .returned (.tuple #[.int .i64 (N : Nat), .int .i64 0]) ∧ Below W.heap.size W w') (ha : ∀ W, Calls Try.prog 11 #[.int .u8 k, .int .i64 a, .int .i64 (M : Nat)] W fun e w' => ∃ A' c', e = .returned (.agg #[.int .u8 k, .int .i64 a, .int .i64 (M : Nat), .slice A' n c']) ∧ Below W.heap.size W w') (hc : ∀ A' c' W, Calls Try.prog 13 #[.agg #[.int .u32 id, .int .i64 m, .int .i64 ch, .int .i64 ro, .int .i64 lo, .int .i64 he], .agg #[.int .u8 k, .int .i64 a, .int .i64 (M : Nat), .slice A' n c']] W fun e w' => e = .returned (.int .i64 2) ∧ Below W.heap.size W w') (w : World) : Calls Try.prog 7 #[.agg #[.int .u32 id, .int .i64 m, .int .i64 ch, .int .i64 ro, .int .i64 lo, .int .i64 he], .int .u8 k, .int .i64 a, .int .i64 (M : Nat)] w fun e w' => e = .returned (.bool true) ∧ Below w.heap.size w w' := by
  have B := Box6.new w (.int .u32 id) (.int .i64 m) (.int .i64 ch) (.int .i64 ro) (.int .i64 lo) (.int .i64 he) 24
  have hb : Below w.heap.size w (w.alloc (.cells #[.int .u32 id, .int .i64 m, .int .i64 ch, .int .i64 ro, .int .i64 lo, .int .i64 he] 24 (0, 0))) := (Below.refl _ _).alloc (Nat.le_refl _) _
  obtain ⟨c0, c1, c2, c3, c4, c5⟩ := B.all
  go_enter Try.func7, Try.ntmps7
  go_wp2_with (first
    | (go_at_call 14; refine (ka _).mono ?_; rintro e w2 ⟨rfl, hb2⟩; replace hb := hb.trans (hb2.mono hb.size); clear c0 c1 c2 c3 c4 c5; replace B := B.below hb2 (Nat.le_refl _); clear hb2; obtain ⟨c0, c1, c2, c3, c4, c5⟩ := B.all)
    | (go_at_call 20; refine (hs _).mono ?_; rintro e w3 ⟨rfl, hb2⟩; replace hb := hb.trans (hb2.mono hb.size); clear c0 c1 c2 c3 c4 c5; replace B := B.below hb2 (Nat.le_refl _); clear hb2; obtain ⟨c0, c1, c2, c3, c4, c5⟩ := B.all))
  clear c0 c1 c2 c3 c4 c5
  have B0 := B.below ((Below.refl _ _).drew) (Nat.le_refl _)
  refine wp_region_held_drew (S := (fun W => W.cell? ⟨w.heap.size, 0, none⟩ = some (.int .u32 id) ∧ W.cell? ⟨w.heap.size, 1, none⟩ = some (.int .i64 m) ∧ W.cell? ⟨w.heap.size, 2, none⟩ = some (.int .i64 ch) ∧ W.cell? ⟨w.heap.size, 3, none⟩ = some (.int .i64 ro) ∧ W.cell? ⟨w.heap.size, 4, none⟩ = some (.int .i64 lo) ∧ W.cell? ⟨w.heap.size, 5, none⟩ = some (.int .i64 he))) (by kernel_rfl) ?_ (fun hHeld => ?_)
  · exact B0.all
  refine wpAnyH_take (i := 0) (v := ?_) rfl (by kernel_rfl) (by kernel_rfl) (by kernel_rfl) (fun _ _ _ h => h) (Or.inl ⟨by rfl, ?_⟩) hHeld ?_
  rotate_left
  · (intro w hSw; (try dsimp only at hSw); go_simp; try with_reducible rfl)
  try simp only [Act.put, List.getElem_toArray, List.getElem_cons_zero, List.setIfInBounds_toArray, List.set_cons_zero, List.set_cons_succ]
  refine wpAnyH_take (i := 1) (v := ?_) rfl (by kernel_rfl) (by kernel_rfl) (by kernel_rfl) (fun _ _ _ h => h) (Or.inl ⟨by rfl, ?_⟩) hHeld ?_
  rotate_left
  · (intro w hSw; (try dsimp only at hSw); go_simp; try with_reducible rfl)
  try simp only [Act.put, List.getElem_toArray, List.getElem_cons_zero, List.getElem_cons_succ, List.setIfInBounds_toArray, List.set_cons_zero, List.set_cons_succ]
  refine wpAnyH_take (i := 2) (v := ?_) rfl (by kernel_rfl) (by kernel_rfl) (by kernel_rfl) (fun _ _ _ h => h) (Or.inl ⟨by rfl, ?_⟩) hHeld ?_
  rotate_left
  · (intro w hSw; (try dsimp only at hSw); go_simp; try with_reducible rfl)
  try simp only [Act.put, List.getElem_toArray, List.getElem_cons_zero, List.getElem_cons_succ, List.setIfInBounds_toArray, List.set_cons_zero, List.set_cons_succ]
  refine wpAnyH_take (i := 3) (v := ?_) rfl (by kernel_rfl) (by kernel_rfl) (by kernel_rfl) (fun _ _ _ h => h) (Or.inl ⟨by rfl, ?_⟩) hHeld ?_
  rotate_left
  · (intro w hSw; (try dsimp only at hSw); go_simp; try with_reducible rfl)
  try simp only [Act.put, List.getElem_toArray, List.getElem_cons_zero, List.getElem_cons_succ, List.setIfInBounds_toArray, List.set_cons_zero, List.set_cons_succ]
  refine wpAnyH_ready (rs := [4]) (by kernel_rfl) (by simp) ?_
  refine AllReadyH.cons rfl (fun K hK => ?_) AllReadyH.nil
  go_simp
  refine (ha _).mono ?_
  rintro e w4 ⟨A0, cp0, rfl, hb2⟩
  have hz := (Below.refl _ _).drew.trans hb2
  replace hb := hb.trans (hz.mono hb.size)
  replace B := B.below hz (Nat.le_refl _)
  clear hz hb2
  go_wp2_with fail
  refine hK.out _ _ ?_ (fun hHeld2 => ?_)
  · exact B.all
  clear hK K hHeld
  have hHeld := hHeld2
  clear hHeld2
  try simp only [Act.put, List.setIfInBounds_toArray, List.set_cons_zero, List.set_cons_succ]
  refine wpAnyH_ready (rs := [5]) (by kernel_rfl) (by simp) ?_
  refine AllReadyH.cons rfl (fun K hK => ?_) AllReadyH.nil
  go_simp
  refine (hc _ _ _).mono ?_
  rintro e w5 ⟨rfl, hb2⟩
  replace hb := hb.trans (hb2.mono hb.size)
  replace B := B.below hb2 (Nat.le_refl _)
  clear hb2
  go_wp2_with fail
  refine hK.out _ _ ?_ (fun hHeld2 => ?_)
  · exact B.all
  clear hK K hHeld
  have hHeld := hHeld2
  clear hHeld2
  try simp only [Act.put, List.setIfInBounds_toArray, List.set_cons_zero, List.set_cons_succ]
  refine wpAnyH_take (i := 6) (v := ?_) rfl (by kernel_rfl) (by kernel_rfl) (by kernel_rfl) (fun _ _ _ h => h) (Or.inl ⟨by rfl, ?_⟩) hHeld ?_
  rotate_left
  · (intro w hSw; (try dsimp only at hSw); go_simp; try with_reducible rfl)
  try simp only [Act.put, List.getElem_toArray, List.getElem_cons_zero, List.getElem_cons_succ, List.setIfInBounds_toArray, List.set_cons_zero, List.set_cons_succ]
  refine wpAnyH_done (by kernel_rfl) ?_ _
  obtain ⟨c0, c1, c2, c3, c4, c5⟩ := B.all
  go_wp2
  all_goals first
    | (go_ret; exact ⟨rfl, hb⟩)
    | (exfalso; omega)
    | (exfalso; simp_all; done)
set_option maxRecDepth 100000 in
set_option maxHeartbeats 4000000 in
theorem kinds_ba (id m ch ro lo he k a : Int) (M n N : Nat) (hM : M ≤ 8) (hN : N ≤ 960) (ka : ∀ W, Calls Try.prog 14 #[] W fun e w' => e = .returned (.bool true) ∧ Below W.heap.size W w') (q0 : 1 ≤ k) (q1 : k ≤ 6) (q2 : (k == 4) = false) (q3 : (k == 6) = false) (p0 : a < 0) (hs : ∀ W, Calls Try.prog 20 #[.agg #[.int .u32 id, .int .i64 m, .int .i64 ch, .int .i64 ro, .int .i64 lo, .int .i64 he]] W fun e w' => e = .returned (.tuple #[.int .i64 (N : Nat), .int .i64 0]) ∧ Below W.heap.size W w') (ha : ∀ W, Calls Try.prog 11 #[.int .u8 k, .int .i64 a, .int .i64 (M : Nat)] W fun e w' => ∃ A' c', e = .returned (.agg #[.int .u8 k, .int .i64 a, .int .i64 (M : Nat), .slice A' n c']) ∧ Below W.heap.size W w') (hc : ∀ A' c' W, Calls Try.prog 13 #[.agg #[.int .u32 id, .int .i64 m, .int .i64 ch, .int .i64 ro, .int .i64 lo, .int .i64 he], .agg #[.int .u8 k, .int .i64 a, .int .i64 (M : Nat), .slice A' n c']] W fun e w' => e = .returned (.int .i64 2) ∧ Below W.heap.size W w') (w : World) : Calls Try.prog 7 #[.agg #[.int .u32 id, .int .i64 m, .int .i64 ch, .int .i64 ro, .int .i64 lo, .int .i64 he], .int .u8 k, .int .i64 a, .int .i64 (M : Nat)] w fun e w' => e = .returned (.bool true) ∧ Below w.heap.size w w' := by
  have B := Box6.new w (.int .u32 id) (.int .i64 m) (.int .i64 ch) (.int .i64 ro) (.int .i64 lo) (.int .i64 he) 24
  have hb : Below w.heap.size w (w.alloc (.cells #[.int .u32 id, .int .i64 m, .int .i64 ch, .int .i64 ro, .int .i64 lo, .int .i64 he] 24 (0, 0))) := (Below.refl _ _).alloc (Nat.le_refl _) _
  obtain ⟨c0, c1, c2, c3, c4, c5⟩ := B.all
  go_enter Try.func7, Try.ntmps7
  go_wp2_with (first
    | (go_at_call 14; refine (ka _).mono ?_; rintro e w2 ⟨rfl, hb2⟩; replace hb := hb.trans (hb2.mono hb.size); clear c0 c1 c2 c3 c4 c5; replace B := B.below hb2 (Nat.le_refl _); clear hb2; obtain ⟨c0, c1, c2, c3, c4, c5⟩ := B.all)
    | (go_at_call 20; refine (hs _).mono ?_; rintro e w3 ⟨rfl, hb2⟩; replace hb := hb.trans (hb2.mono hb.size); clear c0 c1 c2 c3 c4 c5; replace B := B.below hb2 (Nat.le_refl _); clear hb2; obtain ⟨c0, c1, c2, c3, c4, c5⟩ := B.all))
  clear c0 c1 c2 c3 c4 c5
  have B0 := B.below ((Below.refl _ _).drew) (Nat.le_refl _)
  refine wp_region_held_drew (S := (fun W => W.cell? ⟨w.heap.size, 0, none⟩ = some (.int .u32 id) ∧ W.cell? ⟨w.heap.size, 1, none⟩ = some (.int .i64 m) ∧ W.cell? ⟨w.heap.size, 2, none⟩ = some (.int .i64 ch) ∧ W.cell? ⟨w.heap.size, 3, none⟩ = some (.int .i64 ro) ∧ W.cell? ⟨w.heap.size, 4, none⟩ = some (.int .i64 lo) ∧ W.cell? ⟨w.heap.size, 5, none⟩ = some (.int .i64 he))) (by kernel_rfl) ?_ (fun hHeld => ?_)
  · exact B0.all
  refine wpAnyH_take (i := 0) (v := ?_) rfl (by kernel_rfl) (by kernel_rfl) (by kernel_rfl) (fun _ _ _ h => h) (Or.inl ⟨by rfl, ?_⟩) hHeld ?_
  rotate_left
  · (intro w hSw; (try dsimp only at hSw); go_simp; try with_reducible rfl)
  try simp only [Act.put, List.getElem_toArray, List.getElem_cons_zero, List.setIfInBounds_toArray, List.set_cons_zero, List.set_cons_succ]
  refine wpAnyH_take (i := 1) (v := ?_) rfl (by kernel_rfl) (by kernel_rfl) (by kernel_rfl) (fun _ _ _ h => h) (Or.inl ⟨by rfl, ?_⟩) hHeld ?_
  rotate_left
  · (intro w hSw; (try dsimp only at hSw); go_simp; try with_reducible rfl)
  try simp only [Act.put, List.getElem_toArray, List.getElem_cons_zero, List.getElem_cons_succ, List.setIfInBounds_toArray, List.set_cons_zero, List.set_cons_succ]
  refine wpAnyH_take (i := 2) (v := ?_) rfl (by kernel_rfl) (by kernel_rfl) (by kernel_rfl) (fun _ _ _ h => h) (Or.inl ⟨by rfl, ?_⟩) hHeld ?_
  rotate_left
  · (intro w hSw; (try dsimp only at hSw); go_simp; try with_reducible rfl)
  try simp only [Act.put, List.getElem_toArray, List.getElem_cons_zero, List.getElem_cons_succ, List.setIfInBounds_toArray, List.set_cons_zero, List.set_cons_succ]
  refine wpAnyH_take (i := 3) (v := ?_) rfl (by kernel_rfl) (by kernel_rfl) (by kernel_rfl) (fun _ _ _ h => h) (Or.inl ⟨by rfl, ?_⟩) hHeld ?_
  rotate_left
  · (intro w hSw; (try dsimp only at hSw); go_simp; try with_reducible rfl)
  try simp only [Act.put, List.getElem_toArray, List.getElem_cons_zero, List.getElem_cons_succ, List.setIfInBounds_toArray, List.set_cons_zero, List.set_cons_succ]
  refine wpAnyH_ready (rs := [4]) (by kernel_rfl) (by simp) ?_
  refine AllReadyH.cons rfl (fun K hK => ?_) AllReadyH.nil
  go_simp
  refine (ha _).mono ?_
  rintro e w4 ⟨A0, cp0, rfl, hb2⟩
  have hz := (Below.refl _ _).drew.trans hb2
  replace hb := hb.trans (hz.mono hb.size)
  replace B := B.below hz (Nat.le_refl _)
  clear hz hb2
  go_wp2_with fail
  refine hK.out _ _ ?_ (fun hHeld2 => ?_)
  · exact B.all
  clear hK K hHeld
  have hHeld := hHeld2
  clear hHeld2
  try simp only [Act.put, List.setIfInBounds_toArray, List.set_cons_zero, List.set_cons_succ]
  refine wpAnyH_ready (rs := [5]) (by kernel_rfl) (by simp) ?_
  refine AllReadyH.cons rfl (fun K hK => ?_) AllReadyH.nil
  go_simp
  refine (hc _ _ _).mono ?_
  rintro e w5 ⟨rfl, hb2⟩
  replace hb := hb.trans (hb2.mono hb.size)
  replace B := B.below hb2 (Nat.le_refl _)
  clear hb2
  go_wp2_with fail
  refine hK.out _ _ ?_ (fun hHeld2 => ?_)
  · exact B.all
  clear hK K hHeld
  have hHeld := hHeld2
  clear hHeld2
  try simp only [Act.put, List.setIfInBounds_toArray, List.set_cons_zero, List.set_cons_succ]
  refine wpAnyH_take (i := 6) (v := ?_) rfl (by kernel_rfl) (by kernel_rfl) (by kernel_rfl) (fun _ _ _ h => h) (Or.inl ⟨by rfl, ?_⟩) hHeld ?_
  rotate_left
  · (intro w hSw; (try dsimp only at hSw); go_simp; try with_reducible rfl)
  try simp only [Act.put, List.getElem_toArray, List.getElem_cons_zero, List.getElem_cons_succ, List.setIfInBounds_toArray, List.set_cons_zero, List.set_cons_succ]
  refine wpAnyH_done (by kernel_rfl) ?_ _
  obtain ⟨c0, c1, c2, c3, c4, c5⟩ := B.all
  go_wp2
  all_goals first
    | (go_ret; exact ⟨rfl, hb⟩)
    | (exfalso; omega)
    | (exfalso; simp_all; done)
set_option maxRecDepth 100000 in
set_option maxHeartbeats 4000000 in
theorem kinds_bb (id m ch ro lo he k a : Int) (M n N : Nat) (hM : M ≤ 8) (hN : N ≤ 960) (ka : ∀ W, Calls Try.prog 14 #[] W fun e w' => e = .returned (.bool true) ∧ Below W.heap.size W w') (q0 : 1 ≤ k) (q1 : k ≤ 6) (q2 : (k == 4) = false) (q3 : (k == 6) = false) (p0 : 0 ≤ a) (p1 : M < 1) (hs : ∀ W, Calls Try.prog 20 #[.agg #[.int .u32 id, .int .i64 m, .int .i64 ch, .int .i64 ro, .int .i64 lo, .int .i64 he]] W fun e w' => e = .returned (.tuple #[.int .i64 (N : Nat), .int .i64 0]) ∧ Below W.heap.size W w') (ha : ∀ W, Calls Try.prog 11 #[.int .u8 k, .int .i64 a, .int .i64 (M : Nat)] W fun e w' => ∃ A' c', e = .returned (.agg #[.int .u8 k, .int .i64 a, .int .i64 (M : Nat), .slice A' n c']) ∧ Below W.heap.size W w') (hc : ∀ A' c' W, Calls Try.prog 13 #[.agg #[.int .u32 id, .int .i64 m, .int .i64 ch, .int .i64 ro, .int .i64 lo, .int .i64 he], .agg #[.int .u8 k, .int .i64 a, .int .i64 (M : Nat), .slice A' n c']] W fun e w' => e = .returned (.int .i64 2) ∧ Below W.heap.size W w') (w : World) : Calls Try.prog 7 #[.agg #[.int .u32 id, .int .i64 m, .int .i64 ch, .int .i64 ro, .int .i64 lo, .int .i64 he], .int .u8 k, .int .i64 a, .int .i64 (M : Nat)] w fun e w' => e = .returned (.bool true) ∧ Below w.heap.size w w' := by
  have B := Box6.new w (.int .u32 id) (.int .i64 m) (.int .i64 ch) (.int .i64 ro) (.int .i64 lo) (.int .i64 he) 24
  have hb : Below w.heap.size w (w.alloc (.cells #[.int .u32 id, .int .i64 m, .int .i64 ch, .int .i64 ro, .int .i64 lo, .int .i64 he] 24 (0, 0))) := (Below.refl _ _).alloc (Nat.le_refl _) _
  obtain ⟨c0, c1, c2, c3, c4, c5⟩ := B.all
  go_enter Try.func7, Try.ntmps7
  go_wp2_with (first
    | (go_at_call 14; refine (ka _).mono ?_; rintro e w2 ⟨rfl, hb2⟩; replace hb := hb.trans (hb2.mono hb.size); clear c0 c1 c2 c3 c4 c5; replace B := B.below hb2 (Nat.le_refl _); clear hb2; obtain ⟨c0, c1, c2, c3, c4, c5⟩ := B.all)
    | (go_at_call 20; refine (hs _).mono ?_; rintro e w3 ⟨rfl, hb2⟩; replace hb := hb.trans (hb2.mono hb.size); clear c0 c1 c2 c3 c4 c5; replace B := B.below hb2 (Nat.le_refl _); clear hb2; obtain ⟨c0, c1, c2, c3, c4, c5⟩ := B.all))
  clear c0 c1 c2 c3 c4 c5
  have B0 := B.below ((Below.refl _ _).drew) (Nat.le_refl _)
  refine wp_region_held_drew (S := (fun W => W.cell? ⟨w.heap.size, 0, none⟩ = some (.int .u32 id) ∧ W.cell? ⟨w.heap.size, 1, none⟩ = some (.int .i64 m) ∧ W.cell? ⟨w.heap.size, 2, none⟩ = some (.int .i64 ch) ∧ W.cell? ⟨w.heap.size, 3, none⟩ = some (.int .i64 ro) ∧ W.cell? ⟨w.heap.size, 4, none⟩ = some (.int .i64 lo) ∧ W.cell? ⟨w.heap.size, 5, none⟩ = some (.int .i64 he))) (by kernel_rfl) ?_ (fun hHeld => ?_)
  · exact B0.all
  refine wpAnyH_take (i := 0) (v := ?_) rfl (by kernel_rfl) (by kernel_rfl) (by kernel_rfl) (fun _ _ _ h => h) (Or.inl ⟨by rfl, ?_⟩) hHeld ?_
  rotate_left
  · (intro w hSw; (try dsimp only at hSw); go_simp; try with_reducible rfl)
  try simp only [Act.put, List.getElem_toArray, List.getElem_cons_zero, List.setIfInBounds_toArray, List.set_cons_zero, List.set_cons_succ]
  refine wpAnyH_take (i := 1) (v := ?_) rfl (by kernel_rfl) (by kernel_rfl) (by kernel_rfl) (fun _ _ _ h => h) (Or.inl ⟨by rfl, ?_⟩) hHeld ?_
  rotate_left
  · (intro w hSw; (try dsimp only at hSw); go_simp; try with_reducible rfl)
  try simp only [Act.put, List.getElem_toArray, List.getElem_cons_zero, List.getElem_cons_succ, List.setIfInBounds_toArray, List.set_cons_zero, List.set_cons_succ]
  refine wpAnyH_take (i := 2) (v := ?_) rfl (by kernel_rfl) (by kernel_rfl) (by kernel_rfl) (fun _ _ _ h => h) (Or.inl ⟨by rfl, ?_⟩) hHeld ?_
  rotate_left
  · (intro w hSw; (try dsimp only at hSw); go_simp; try with_reducible rfl)
  try simp only [Act.put, List.getElem_toArray, List.getElem_cons_zero, List.getElem_cons_succ, List.setIfInBounds_toArray, List.set_cons_zero, List.set_cons_succ]
  refine wpAnyH_take (i := 3) (v := ?_) rfl (by kernel_rfl) (by kernel_rfl) (by kernel_rfl) (fun _ _ _ h => h) (Or.inl ⟨by rfl, ?_⟩) hHeld ?_
  rotate_left
  · (intro w hSw; (try dsimp only at hSw); go_simp; try with_reducible rfl)
  try simp only [Act.put, List.getElem_toArray, List.getElem_cons_zero, List.getElem_cons_succ, List.setIfInBounds_toArray, List.set_cons_zero, List.set_cons_succ]
  refine wpAnyH_ready (rs := [4]) (by kernel_rfl) (by simp) ?_
  refine AllReadyH.cons rfl (fun K hK => ?_) AllReadyH.nil
  go_simp
  refine (ha _).mono ?_
  rintro e w4 ⟨A0, cp0, rfl, hb2⟩
  have hz := (Below.refl _ _).drew.trans hb2
  replace hb := hb.trans (hz.mono hb.size)
  replace B := B.below hz (Nat.le_refl _)
  clear hz hb2
  go_wp2_with fail
  refine hK.out _ _ ?_ (fun hHeld2 => ?_)
  · exact B.all
  clear hK K hHeld
  have hHeld := hHeld2
  clear hHeld2
  try simp only [Act.put, List.setIfInBounds_toArray, List.set_cons_zero, List.set_cons_succ]
  refine wpAnyH_ready (rs := [5]) (by kernel_rfl) (by simp) ?_
  refine AllReadyH.cons rfl (fun K hK => ?_) AllReadyH.nil
  go_simp
  refine (hc _ _ _).mono ?_
  rintro e w5 ⟨rfl, hb2⟩
  replace hb := hb.trans (hb2.mono hb.size)
  replace B := B.below hb2 (Nat.le_refl _)
  clear hb2
  go_wp2_with fail
  refine hK.out _ _ ?_ (fun hHeld2 => ?_)
  · exact B.all
  clear hK K hHeld
  have hHeld := hHeld2
  clear hHeld2
  try simp only [Act.put, List.setIfInBounds_toArray, List.set_cons_zero, List.set_cons_succ]
  refine wpAnyH_take (i := 6) (v := ?_) rfl (by kernel_rfl) (by kernel_rfl) (by kernel_rfl) (fun _ _ _ h => h) (Or.inl ⟨by rfl, ?_⟩) hHeld ?_
  rotate_left
  · (intro w hSw; (try dsimp only at hSw); go_simp; try with_reducible rfl)
  try simp only [Act.put, List.getElem_toArray, List.getElem_cons_zero, List.getElem_cons_succ, List.setIfInBounds_toArray, List.set_cons_zero, List.set_cons_succ]
  refine wpAnyH_done (by kernel_rfl) ?_ _
  obtain ⟨c0, c1, c2, c3, c4, c5⟩ := B.all
  go_wp2
  all_goals first
    | (go_ret; exact ⟨rfl, hb⟩)
    | (exfalso; omega)
    | (exfalso; simp_all; done)
set_option maxRecDepth 100000 in
set_option maxHeartbeats 4000000 in
theorem kinds_bc (id m ch ro lo he k a : Int) (M n N : Nat) (hM : M ≤ 8) (hN : N ≤ 960) (ka : ∀ W, Calls Try.prog 14 #[] W fun e w' => e = .returned (.bool true) ∧ Below W.heap.size W w') (q0 : 1 ≤ k) (q1 : k ≤ 6) (q2 : (k == 4) = false) (q3 : (k == 6) = false) (p0 : 0 ≤ a) (p1 : 1 ≤ M) (p2 : (N : Int) - (M : Int) < a) (p3 : decide (a ≤ (N : Int) - (M : Int)) = false) (hs : ∀ W, Calls Try.prog 20 #[.agg #[.int .u32 id, .int .i64 m, .int .i64 ch, .int .i64 ro, .int .i64 lo, .int .i64 he]] W fun e w' => e = .returned (.tuple #[.int .i64 (N : Nat), .int .i64 0]) ∧ Below W.heap.size W w') (ha : ∀ W, Calls Try.prog 11 #[.int .u8 k, .int .i64 a, .int .i64 (M : Nat)] W fun e w' => ∃ A' c', e = .returned (.agg #[.int .u8 k, .int .i64 a, .int .i64 (M : Nat), .slice A' n c']) ∧ Below W.heap.size W w') (hc : ∀ A' c' W, Calls Try.prog 13 #[.agg #[.int .u32 id, .int .i64 m, .int .i64 ch, .int .i64 ro, .int .i64 lo, .int .i64 he], .agg #[.int .u8 k, .int .i64 a, .int .i64 (M : Nat), .slice A' n c']] W fun e w' => e = .returned (.int .i64 2) ∧ Below W.heap.size W w') (w : World) : Calls Try.prog 7 #[.agg #[.int .u32 id, .int .i64 m, .int .i64 ch, .int .i64 ro, .int .i64 lo, .int .i64 he], .int .u8 k, .int .i64 a, .int .i64 (M : Nat)] w fun e w' => e = .returned (.bool true) ∧ Below w.heap.size w w' := by
  have B := Box6.new w (.int .u32 id) (.int .i64 m) (.int .i64 ch) (.int .i64 ro) (.int .i64 lo) (.int .i64 he) 24
  have hb : Below w.heap.size w (w.alloc (.cells #[.int .u32 id, .int .i64 m, .int .i64 ch, .int .i64 ro, .int .i64 lo, .int .i64 he] 24 (0, 0))) := (Below.refl _ _).alloc (Nat.le_refl _) _
  obtain ⟨c0, c1, c2, c3, c4, c5⟩ := B.all
  go_enter Try.func7, Try.ntmps7
  go_wp2_with (first
    | (go_at_call 14; refine (ka _).mono ?_; rintro e w2 ⟨rfl, hb2⟩; replace hb := hb.trans (hb2.mono hb.size); clear c0 c1 c2 c3 c4 c5; replace B := B.below hb2 (Nat.le_refl _); clear hb2; obtain ⟨c0, c1, c2, c3, c4, c5⟩ := B.all)
    | (go_at_call 20; refine (hs _).mono ?_; rintro e w3 ⟨rfl, hb2⟩; replace hb := hb.trans (hb2.mono hb.size); clear c0 c1 c2 c3 c4 c5; replace B := B.below hb2 (Nat.le_refl _); clear hb2; obtain ⟨c0, c1, c2, c3, c4, c5⟩ := B.all))
  clear c0 c1 c2 c3 c4 c5
  have B0 := B.below ((Below.refl _ _).drew) (Nat.le_refl _)
  refine wp_region_held_drew (S := (fun W => W.cell? ⟨w.heap.size, 0, none⟩ = some (.int .u32 id) ∧ W.cell? ⟨w.heap.size, 1, none⟩ = some (.int .i64 m) ∧ W.cell? ⟨w.heap.size, 2, none⟩ = some (.int .i64 ch) ∧ W.cell? ⟨w.heap.size, 3, none⟩ = some (.int .i64 ro) ∧ W.cell? ⟨w.heap.size, 4, none⟩ = some (.int .i64 lo) ∧ W.cell? ⟨w.heap.size, 5, none⟩ = some (.int .i64 he))) (by kernel_rfl) ?_ (fun hHeld => ?_)
  · exact B0.all
  refine wpAnyH_take (i := 0) (v := ?_) rfl (by kernel_rfl) (by kernel_rfl) (by kernel_rfl) (fun _ _ _ h => h) (Or.inl ⟨by rfl, ?_⟩) hHeld ?_
  rotate_left
  · (intro w hSw; (try dsimp only at hSw); go_simp; try with_reducible rfl)
  try simp only [Act.put, List.getElem_toArray, List.getElem_cons_zero, List.setIfInBounds_toArray, List.set_cons_zero, List.set_cons_succ]
  refine wpAnyH_take (i := 1) (v := ?_) rfl (by kernel_rfl) (by kernel_rfl) (by kernel_rfl) (fun _ _ _ h => h) (Or.inl ⟨by rfl, ?_⟩) hHeld ?_
  rotate_left
  · (intro w hSw; (try dsimp only at hSw); go_simp; try with_reducible rfl)
  try simp only [Act.put, List.getElem_toArray, List.getElem_cons_zero, List.getElem_cons_succ, List.setIfInBounds_toArray, List.set_cons_zero, List.set_cons_succ]
  refine wpAnyH_take (i := 2) (v := ?_) rfl (by kernel_rfl) (by kernel_rfl) (by kernel_rfl) (fun _ _ _ h => h) (Or.inl ⟨by rfl, ?_⟩) hHeld ?_
  rotate_left
  · (intro w hSw; (try dsimp only at hSw); go_simp; try with_reducible rfl)
  try simp only [Act.put, List.getElem_toArray, List.getElem_cons_zero, List.getElem_cons_succ, List.setIfInBounds_toArray, List.set_cons_zero, List.set_cons_succ]
  refine wpAnyH_take (i := 3) (v := ?_) rfl (by kernel_rfl) (by kernel_rfl) (by kernel_rfl) (fun _ _ _ h => h) (Or.inl ⟨by rfl, ?_⟩) hHeld ?_
  rotate_left
  · (intro w hSw; (try dsimp only at hSw); go_simp; try with_reducible rfl)
  try simp only [Act.put, List.getElem_toArray, List.getElem_cons_zero, List.getElem_cons_succ, List.setIfInBounds_toArray, List.set_cons_zero, List.set_cons_succ]
  refine wpAnyH_ready (rs := [4]) (by kernel_rfl) (by simp) ?_
  refine AllReadyH.cons rfl (fun K hK => ?_) AllReadyH.nil
  go_simp
  refine (ha _).mono ?_
  rintro e w4 ⟨A0, cp0, rfl, hb2⟩
  have hz := (Below.refl _ _).drew.trans hb2
  replace hb := hb.trans (hz.mono hb.size)
  replace B := B.below hz (Nat.le_refl _)
  clear hz hb2
  go_wp2_with fail
  refine hK.out _ _ ?_ (fun hHeld2 => ?_)
  · exact B.all
  clear hK K hHeld
  have hHeld := hHeld2
  clear hHeld2
  try simp only [Act.put, List.setIfInBounds_toArray, List.set_cons_zero, List.set_cons_succ]
  refine wpAnyH_ready (rs := [5]) (by kernel_rfl) (by simp) ?_
  refine AllReadyH.cons rfl (fun K hK => ?_) AllReadyH.nil
  go_simp
  refine (hc _ _ _).mono ?_
  rintro e w5 ⟨rfl, hb2⟩
  replace hb := hb.trans (hb2.mono hb.size)
  replace B := B.below hb2 (Nat.le_refl _)
  clear hb2
  go_wp2_with fail
  refine hK.out _ _ ?_ (fun hHeld2 => ?_)
  · exact B.all
  clear hK K hHeld
  have hHeld := hHeld2
  clear hHeld2
  try simp only [Act.put, List.setIfInBounds_toArray, List.set_cons_zero, List.set_cons_succ]
  refine wpAnyH_take (i := 6) (v := ?_) rfl (by kernel_rfl) (by kernel_rfl) (by kernel_rfl) (fun _ _ _ h => h) (Or.inl ⟨by rfl, ?_⟩) hHeld ?_
  rotate_left
  · (intro w hSw; (try dsimp only at hSw); go_simp; try with_reducible rfl)
  try simp only [Act.put, List.getElem_toArray, List.getElem_cons_zero, List.getElem_cons_succ, List.setIfInBounds_toArray, List.set_cons_zero, List.set_cons_succ]
  refine wpAnyH_done (by kernel_rfl) ?_ _
  obtain ⟨c0, c1, c2, c3, c4, c5⟩ := B.all
  go_wp2
  all_goals first
    | (go_ret; exact ⟨rfl, hb⟩)
    | (exfalso; omega)
    | (exfalso; simp_all; done)
set_option maxRecDepth 100000 in
set_option maxHeartbeats 4000000 in
theorem kinds_bd (id m ch ro lo he k a : Int) (M n N : Nat) (hM : M ≤ 8) (hN : N ≤ 960) (ka : ∀ W, Calls Try.prog 14 #[] W fun e w' => e = .returned (.bool true) ∧ Below W.heap.size W w') (q0 : 1 ≤ k) (q1 : k ≤ 6) (q2 : (k == 4) = false) (q3 : (k == 6) = false) (p0 : 0 ≤ a) (p1 : 1 ≤ M) (p2 : a ≤ (N : Int) - (M : Int)) (hs : ∀ W, Calls Try.prog 20 #[.agg #[.int .u32 id, .int .i64 m, .int .i64 ch, .int .i64 ro, .int .i64 lo, .int .i64 he]] W fun e w' => e = .returned (.tuple #[.int .i64 (N : Nat), .int .i64 0]) ∧ Below W.heap.size W w') (ha : ∀ W, Calls Try.prog 11 #[.int .u8 k, .int .i64 a, .int .i64 (M : Nat)] W fun e w' => ∃ A' c', e = .returned (.agg #[.int .u8 k, .int .i64 a, .int .i64 (M : Nat), .slice A' n c']) ∧ Below W.heap.size W w') (hc : ∀ A' c' W, Calls Try.prog 13 #[.agg #[.int .u32 id, .int .i64 m, .int .i64 ch, .int .i64 ro, .int .i64 lo, .int .i64 he], .agg #[.int .u8 k, .int .i64 a, .int .i64 (M : Nat), .slice A' n c']] W fun e w' => e = .returned (.int .i64 0) ∧ Below W.heap.size W w') (w : World) : Calls Try.prog 7 #[.agg #[.int .u32 id, .int .i64 m, .int .i64 ch, .int .i64 ro, .int .i64 lo, .int .i64 he], .int .u8 k, .int .i64 a, .int .i64 (M : Nat)] w fun e w' => e = .returned (.bool true) ∧ Below w.heap.size w w' := by
  have B := Box6.new w (.int .u32 id) (.int .i64 m) (.int .i64 ch) (.int .i64 ro) (.int .i64 lo) (.int .i64 he) 24
  have hb : Below w.heap.size w (w.alloc (.cells #[.int .u32 id, .int .i64 m, .int .i64 ch, .int .i64 ro, .int .i64 lo, .int .i64 he] 24 (0, 0))) := (Below.refl _ _).alloc (Nat.le_refl _) _
  obtain ⟨c0, c1, c2, c3, c4, c5⟩ := B.all
  go_enter Try.func7, Try.ntmps7
  go_wp2_with (first
    | (go_at_call 14; refine (ka _).mono ?_; rintro e w2 ⟨rfl, hb2⟩; replace hb := hb.trans (hb2.mono hb.size); clear c0 c1 c2 c3 c4 c5; replace B := B.below hb2 (Nat.le_refl _); clear hb2; obtain ⟨c0, c1, c2, c3, c4, c5⟩ := B.all)
    | (go_at_call 20; refine (hs _).mono ?_; rintro e w3 ⟨rfl, hb2⟩; replace hb := hb.trans (hb2.mono hb.size); clear c0 c1 c2 c3 c4 c5; replace B := B.below hb2 (Nat.le_refl _); clear hb2; obtain ⟨c0, c1, c2, c3, c4, c5⟩ := B.all))
  clear c0 c1 c2 c3 c4 c5
  have B0 := B.below ((Below.refl _ _).drew) (Nat.le_refl _)
  refine wp_region_held_drew (S := (fun W => W.cell? ⟨w.heap.size, 0, none⟩ = some (.int .u32 id) ∧ W.cell? ⟨w.heap.size, 1, none⟩ = some (.int .i64 m) ∧ W.cell? ⟨w.heap.size, 2, none⟩ = some (.int .i64 ch) ∧ W.cell? ⟨w.heap.size, 3, none⟩ = some (.int .i64 ro) ∧ W.cell? ⟨w.heap.size, 4, none⟩ = some (.int .i64 lo) ∧ W.cell? ⟨w.heap.size, 5, none⟩ = some (.int .i64 he))) (by kernel_rfl) ?_ (fun hHeld => ?_)
  · exact B0.all
  refine wpAnyH_take (i := 0) (v := ?_) rfl (by kernel_rfl) (by kernel_rfl) (by kernel_rfl) (fun _ _ _ h => h) (Or.inl ⟨by rfl, ?_⟩) hHeld ?_
  rotate_left
  · (intro w hSw; (try dsimp only at hSw); go_simp; try with_reducible rfl)
  try simp only [Act.put, List.getElem_toArray, List.getElem_cons_zero, List.setIfInBounds_toArray, List.set_cons_zero, List.set_cons_succ]
  refine wpAnyH_take (i := 1) (v := ?_) rfl (by kernel_rfl) (by kernel_rfl) (by kernel_rfl) (fun _ _ _ h => h) (Or.inl ⟨by rfl, ?_⟩) hHeld ?_
  rotate_left
  · (intro w hSw; (try dsimp only at hSw); go_simp; try with_reducible rfl)
  try simp only [Act.put, List.getElem_toArray, List.getElem_cons_zero, List.getElem_cons_succ, List.setIfInBounds_toArray, List.set_cons_zero, List.set_cons_succ]
  refine wpAnyH_take (i := 2) (v := ?_) rfl (by kernel_rfl) (by kernel_rfl) (by kernel_rfl) (fun _ _ _ h => h) (Or.inl ⟨by rfl, ?_⟩) hHeld ?_
  rotate_left
  · (intro w hSw; (try dsimp only at hSw); go_simp; try with_reducible rfl)
  try simp only [Act.put, List.getElem_toArray, List.getElem_cons_zero, List.getElem_cons_succ, List.setIfInBounds_toArray, List.set_cons_zero, List.set_cons_succ]
  refine wpAnyH_take (i := 3) (v := ?_) rfl (by kernel_rfl) (by kernel_rfl) (by kernel_rfl) (fun _ _ _ h => h) (Or.inl ⟨by rfl, ?_⟩) hHeld ?_
  rotate_left
  · (intro w hSw; (try dsimp only at hSw); go_simp; try with_reducible rfl)
  try simp only [Act.put, List.getElem_toArray, List.getElem_cons_zero, List.getElem_cons_succ, List.setIfInBounds_toArray, List.set_cons_zero, List.set_cons_succ]
  refine wpAnyH_ready (rs := [4]) (by kernel_rfl) (by simp) ?_
  refine AllReadyH.cons rfl (fun K hK => ?_) AllReadyH.nil
  go_simp
  refine (ha _).mono ?_
  rintro e w4 ⟨A0, cp0, rfl, hb2⟩
  have hz := (Below.refl _ _).drew.trans hb2
  replace hb := hb.trans (hz.mono hb.size)
  replace B := B.below hz (Nat.le_refl _)
  clear hz hb2
  go_wp2_with fail
  refine hK.out _ _ ?_ (fun hHeld2 => ?_)
  · exact B.all
  clear hK K hHeld
  have hHeld := hHeld2
  clear hHeld2
  try simp only [Act.put, List.setIfInBounds_toArray, List.set_cons_zero, List.set_cons_succ]
  refine wpAnyH_ready (rs := [5]) (by kernel_rfl) (by simp) ?_
  refine AllReadyH.cons rfl (fun K hK => ?_) AllReadyH.nil
  go_simp
  refine (hc _ _ _).mono ?_
  rintro e w5 ⟨rfl, hb2⟩
  replace hb := hb.trans (hb2.mono hb.size)
  replace B := B.below hb2 (Nat.le_refl _)
  clear hb2
  go_wp2_with fail
  refine hK.out _ _ ?_ (fun hHeld2 => ?_)
  · exact B.all
  clear hK K hHeld
  have hHeld := hHeld2
  clear hHeld2
  try simp only [Act.put, List.setIfInBounds_toArray, List.set_cons_zero, List.set_cons_succ]
  refine wpAnyH_take (i := 6) (v := ?_) rfl (by kernel_rfl) (by kernel_rfl) (by kernel_rfl) (fun _ _ _ h => h) (Or.inl ⟨by rfl, ?_⟩) hHeld ?_
  rotate_left
  · (intro w hSw; (try dsimp only at hSw); go_simp; try with_reducible rfl)
  try simp only [Act.put, List.getElem_toArray, List.getElem_cons_zero, List.getElem_cons_succ, List.setIfInBounds_toArray, List.set_cons_zero, List.set_cons_succ]
  refine wpAnyH_done (by kernel_rfl) ?_ _
  obtain ⟨c0, c1, c2, c3, c4, c5⟩ := B.all
  go_wp2
  all_goals first
    | (go_ret; exact ⟨rfl, hb⟩)
    | (exfalso; omega)
    | (exfalso; simp_all; done)

theorem chk_len (c : Cfg) (h : MayC c) (k a : Int) (M : Nat) : chkA c k a M (lenA k M) = if (kOk k && plB k a M (blkC c)) = true then 0 else 2 := by
  unfold chkA
  rw [if_pos h, if_pos (lenA_is k M)]
theorem splitKinds_walk (w : World) (c : Cfg) (_hw : Wide c) (k : Int) (wk : (Lit.int .u8 k).wf = true) (a : Int) (wa : (Lit.int .i64 a).wf = true) (mn : Int) (wm : (Lit.int .i64 mn).wf = true) : Calls Try.prog 7 #[cfgV c, .int .u8 k, .int .i64 a, .int .i64 mn] w fun e w' => e = .returned (.bool true) ∧ Below w.heap.size w w' := by
  have ka := fun W => alive8_calls W
  have hk := (bounds_u8 wk).1
  have hs := fun W => blocks_told c W
  by_cases g0 : mn < 0
  · have hc := fun W => splitCheck c k a mn hk none 0 0 W
    have hF : chkA c k a mn 0 ≠ 0 := fun q => by have := (chkA_box q).1; omega
    exact kinds_lo _ _ _ _ _ _ k a mn _ _ _ ka g0 (by simpa using hF) (by simpa using hF) hs hc w
  by_cases g8 : 8 < mn
  · have hc := fun W => splitCheck c k a mn hk none 0 0 W
    have hF : chkA c k a mn 0 ≠ 0 := fun q => by have := (chkA_box q).2.1; omega
    exact kinds_hi _ _ _ _ _ _ k a mn _ _ _ ka (by omega) g8 (by simpa using hF) (by simpa using hF) hs hc w
  obtain ⟨M, rfl⟩ : ∃ M : Nat, mn = M := ⟨mn.toNat, by omega⟩
  have hM : M ≤ 8 := by omega
  have ha := fun W => ask8_calls k a M (by omega) W
  have hc := fun A' c' W => splitCheck c k a M hk A' (lenA k M) c' W
  by_cases h : MayC c
  · simp only [numC_may h, chkC_may h] at hs
    have hN := blkC_box h
    have eF := chk_len c h k a M
    obtain ⟨N, eN⟩ : ∃ N : Nat, blkC c = N := ⟨(blkC c).toNat, by omega⟩
    rw [eN] at hs hN eF
    have hp : plB k a M N = if kBlk k then decide (1 ≤ (M : Int) ∧ (M : Int) ≤ 8 ∧ 0 ≤ a ∧ a ≤ (N : Int) - (M : Int)) else decide (a = 0 ∧ (M : Int) = 0) := rfl
    by_cases h1 : k < 1
    · rw [show kOk k = false from decide_eq_false (by omega), Bool.false_and, if_neg (by decide)] at eF
      rw [eF] at hc
      exact kinds_0 _ _ _ _ _ _ k a M _ N hM (by omega) ka h1 hs ha hc w
    by_cases h6 : 6 < k
    · rw [show kOk k = false from decide_eq_false (by omega), Bool.false_and, if_neg (by decide)] at eF
      rw [eF] at hc
      exact kinds_7 _ _ _ _ _ _ k a M _ N hM (by omega) ka (by omega) h6 hs ha hc w
    rw [show kOk k = true from decide_eq_true (by omega), Bool.true_and] at eF
    have q1 : 1 ≤ k := by omega
    have q6 : k ≤ 6 := by omega
    by_cases k4 : k = 4 ∨ k = 6
    · rw [show kBlk k = false from by rcases k4 with rfl | rfl <;> rfl, if_neg (by decide)] at hp
      rw [hp] at eF
      clear hp
      have d0 : a = 0 ∨ a ≠ 0 := by omega
      rcases k4 with e4 | e6
      · have d4 : (k == 4) = true := by simpa using e4
        by_cases p0 : a = 0
        · by_cases p1 : (M : Int) = 0
          · rw [decide_eq_true ⟨p0, p1⟩, if_pos rfl] at eF
            rw [eF] at hc
            exact kinds_4a _ _ _ _ _ _ k a M _ N hM (by omega) ka q1 q6 d4 (by simpa using p0) (by simpa using p1) hs ha hc w
          · rw [decide_eq_false fun q => p1 q.2, if_neg (by decide)] at eF
            rw [eF] at hc
            exact kinds_4b _ _ _ _ _ _ k a M _ N hM (by omega) ka q1 q6 d4 (by simpa using p0) (by simpa using p1) hs ha hc w
        · rw [decide_eq_false fun q => p0 q.1, if_neg (by decide)] at eF
          rw [eF] at hc
          exact kinds_4c _ _ _ _ _ _ k a M _ N hM (by omega) ka q1 q6 d4 (by simpa using p0) hs ha hc w
      · have d4 : (k == 4) = false := by subst e6; rfl
        have d6 : (k == 6) = true := by simpa using e6
        by_cases p0 : a = 0
        · by_cases p1 : (M : Int) = 0
          · rw [decide_eq_true ⟨p0, p1⟩, if_pos rfl] at eF
            rw [eF] at hc
            exact kinds_6a _ _ _ _ _ _ k a M _ N hM (by omega) ka q1 q6 d4 d6 (by simpa using p0) (by simpa using p1) hs ha hc w
          · rw [decide_eq_false fun q => p1 q.2, if_neg (by decide)] at eF
            rw [eF] at hc
            exact kinds_6b _ _ _ _ _ _ k a M _ N hM (by omega) ka q1 q6 d4 d6 (by simpa using p0) (by simpa using p1) hs ha hc w
        · rw [decide_eq_false fun q => p0 q.1, if_neg (by decide)] at eF
          rw [eF] at hc
          exact kinds_6c _ _ _ _ _ _ k a M _ N hM (by omega) ka q1 q6 d4 d6 (by simpa using p0) hs ha hc w
    · have d4 : (k == 4) = false := by simpa using fun q => k4 (.inl q)
      have d6 : (k == 6) = false := by simpa using fun q => k4 (.inr q)
      have kb : kBlk k = true := by
        obtain rfl | rfl | rfl | rfl : k = 1 ∨ k = 2 ∨ k = 3 ∨ k = 5 := by omega
        all_goals rfl
      rw [kb, if_pos rfl] at hp
      rw [hp] at eF
      clear hp
      by_cases p0 : a < 0
      · rw [decide_eq_false (by omega), if_neg (by decide)] at eF
        rw [eF] at hc
        exact kinds_ba _ _ _ _ _ _ k a M _ N hM (by omega) ka q1 q6 d4 d6 p0 hs ha hc w
      by_cases p1 : M < 1
      · rw [decide_eq_false (by omega), if_neg (by decide)] at eF
        rw [eF] at hc
        exact kinds_bb _ _ _ _ _ _ k a M _ N hM (by omega) ka q1 q6 d4 d6 (by omega) p1 hs ha hc w
      by_cases p2 : (N : Int) - (M : Int) < a
      · rw [decide_eq_false (by omega), if_neg (by decide)] at eF
        rw [eF] at hc
        exact kinds_bc _ _ _ _ _ _ k a M _ N hM (by omega) ka q1 q6 d4 d6 (by omega) (by omega) p2 (decide_eq_false (by omega)) hs ha hc w
      · rw [decide_eq_true (by omega), if_pos rfl] at eF
        rw [eF] at hc
        exact kinds_bd _ _ _ _ _ _ k a M _ N hM (by omega) ka q1 q6 d4 d6 (by omega) (by omega) (by omega) hs ha hc w
  · rw [chkA_no h] at hc
    simp only [chkC_not h] at hs
    exact kinds_bad _ _ _ _ _ _ k a M _ hM _ _ ka (by decide) hs ha hc w


namespace splitKinds
set_option linter.unusedVariables false
set_option maxRecDepth 100000 in
theorem lifted (os : Os) (started : os.Started) (H : Type) (enc : TypeId × Value → H) :
    ReturnsInHanded {} Try.checked os 7 .any (Rows.splitKindsSpec.pre6 enc Try.prog Try.f7 Rows.splitKindsRow.domain false) (Rows.splitKindsSpec.post enc Try.prog Try.f7 false true false false) := by
  refine returnsInHanded_of_change (C := Try.checked) Try.own started (by kernel_rfl) Try.func7
    (ChangeSpec.witness6 (enc := enc) (C := Try.checked) false ⟨#[], #[.agg #[.int .u32 0, .int .i64 0, .int .i64 0, .int .i64 0, .int .i64 0, .int .i64 0], .int .u8 0, .int .i64 0, .int .i64 0], []⟩ 8 (by kernel_rfl) (by kernel_rfl) (by kernel_rfl) (by kernel_rfl)) ?_
  intro W base args ds gs before hval0 hW hcnd _
  have hval : ∀ (j : Nat) t v, Try.f7.params[j]? = some t → args[j]? = some v → Value.okWide Try.prog W .any base t v := hval0
  have hW' := hW
  obtain ⟨p, q, hA0, hV, rfl, hfz, hnd⟩ := hW
  have hA : DataW.TrodAll enc Try.prog W 0 (fun _ => true) true Try.f7.params.toList args.toList ds p := hA0
  rw [Try.params7] at hA hval
  obtain ⟨v0, vs0, d0, ds0, p0, q0, hargs, rfl, rfl, h0, r0⟩ := trodAll_cons hA
  obtain ⟨v1, vs1, d1, ds1, p1, q1, rfl, rfl, rfl, h1, r1⟩ := trodAll_cons r0
  obtain ⟨v2, vs2, d2, ds2, p2, q2, rfl, rfl, rfl, h2, r2⟩ := trodAll_cons r1
  obtain ⟨v3, vs3, d3, ds3, p3, q3, rfl, rfl, rfl, h3, r3⟩ := trodAll_cons r2
  obtain ⟨rfl, rfl, rfl⟩ := trodAll_nil r3
  obtain rfl : args = #[v0, v1, v2, v3] := by cases args; simp_all
  obtain ⟨rfl, rfl⟩ := trodVars_none hV
  have k0 := h0
  have lt0 : ∀ x ∈ p0, x.block < W.heap.size := by obtain ⟨m, hm⟩ := k0; exact DataW.trod_lt m _ _ _ hm
  obtain ⟨z0, rfl, w0⟩ := cfg_in (hval 0 24 v0 rfl rfl) h0
  obtain ⟨a1, rfl, rfl, rfl, w1⟩ := open_int Try.underlying5 (hval 1 5 v1 rfl rfl) h1
  obtain ⟨a2, rfl, rfl, rfl, w2⟩ := open_int Try.underlying3 (hval 2 3 v2 rfl rfl) h2
  obtain ⟨a3, rfl, rfl, rfl, w3⟩ := open_int Try.underlying3 (hval 3 3 v3 rfl rfl) h3
  clear hA0 hval0
  refine (splitKinds_walk W z0 w0 a1 w1 a2 w2 a3 w3).mono fun e W' ⟨he, bel⟩ => ?_
  subst he
  exact ⟨_, rfl, _, _, _, [], _, [], hW', trodAll_mk1 (shut_bool Try.underlying4 _), (trodAll_cons_mk (Below.trod Try.laidOut (by kernel_rfl) (of_decide_eq_true (by kernel_rfl)) k0 bel lt0) (trodAll_cons_mk (shut_int Try.underlying5 w1) (trodAll_cons_mk (shut_int Try.underlying3 w2) (trodAll_cons_mk (shut_int Try.underlying3 w3) trodAll_mk0)))), rfl, bel.frame _, fun h => by cases h⟩

theorem holds : Rows.SplitKindsSaid :=
  OpenClaim.holds_of_wide 7 Try.f7 rfl rfl rfl rfl rfl rfl rfl ⟨rfl, rfl, rfl, rfl, rfl⟩ rfl rfl rfl rfl rfl (by kernel_rfl) Try.func7 (by kernel_rfl)
    (of_decide_eq_true (by kernel_rfl)) (by unfold Func.isWrapper; first | (rw [if_pos (by decide +kernel)]; kernel_rfl) | (rw [if_neg (by decide +kernel)]; exact ⟨rfl, rfl⟩))
    (fun os started H enc _ => lifted os started H enc)
end splitKinds
end Go.Proofs.Ytkjgmopgibpkjaa
