/- freeboardlaw03.FoldNames: for every input the law answers true, and what is handed in reads as it did. Conditions: none. -/
import Derived.Test.YtdoafdgikmloiaaFoldLaws
namespace Go.Proofs.Ytdoafdgikmloiaa
open Go.ChangeShapes Go.WideShapes Go.ChangeAt Go.RowKit PolyM PackM FoldM
theorem made_17 : madeCells #[.slice none 0 0] 17 = (List.replicate 17 (Value.slice none 0 0)).toArray := by kernel_rfl
theorem makes_17 (W : World) : (Instr.makeSlice 27 (.int .i64 17) (.int .i64 17)).run Try.prog W = .ok (.slice (some ⟨W.heap.size, 0, none⟩) 17 17) (W.alloc (.cells (List.replicate 17 (Value.slice none 0 0)).toArray 22)) := by
  rw [← made_17]
  exact run_make_row' (P := Try.prog) 27 22 (.slice none 0 0) 24 Try.underlying27 (by kernel_rfl) rfl .i64 .i64 17 (by omega) (by omega) W
theorem hdrs_17 (w : World) : Hdrs w (List.replicate 17 (Value.slice none 0 0)) (List.replicate 17 []) := by
  refine ⟨by simp, fun i v hv => ⟨none, 0, 0, [], ?_, ?_, nil_ints _ _⟩⟩
  · rw [List.getElem?_replicate] at hv ⊢
    split at hv
    · rename_i q; rw [if_pos q]
    · cases hv
  · rw [List.getElem?_replicate] at hv
    split at hv
    · injection hv with hv; exact hv.symm
    · cases hv
theorem boxed (w : World) (vs : List Value) (ls : List (List Int)) (h : Hdrs w vs ls) {n : Nat} (hn : vs.length = n) (hm : n ≤ 9223372036854775807) : Slab (w.alloc (.cells vs.toArray 22)) (some ⟨w.heap.size, 0, none⟩) n vs ls ∧ Below w.heap.size w (w.alloc (.cells vs.toArray 22)) := by
  have hb : Below w.heap.size w (w.alloc (.cells vs.toArray 22)) := (Below.refl _ _).alloc (Nat.le_refl _) _
  exact ⟨slab_new w vs ls (h.below hb (Nat.le_refl _)) hm hn, hb⟩
theorem one_ints (w : World) : Ints .u8 (w.alloc (.cells #[.int .u8 1] 5)) (some ⟨w.heap.size, 0, none⟩) 1 [1] :=
  Ints.ofCells (zs := [1]) (heap_alloc_new _ _) rfl (by omega) (by intro z hz; simp at hz; omega)
/-- The strings of the four answers, and nothing below turned. -/
def NamesS (g1 g2 g3 g4 : Nat) (W : World) : Prop :=
  (convert 22 9 (.slice (some ⟨g1, 0, none⟩) 128 128)).run Try.prog W = .ok (.string (strOfNums (fullL 0))) W ∧
  (convert 22 9 (.slice (some ⟨g2, 0, none⟩) 128 128)).run Try.prog W = .ok (.string (strOfNums (fullL 5))) W ∧
  (convert 22 9 (.slice (some ⟨g3, 0, none⟩) 128 128)).run Try.prog W = .ok (.string (strOfNums (fullL 3))) W ∧
  (convert 22 9 (.slice (some ⟨g4, 0, none⟩) 128 128)).run Try.prog W = .ok (.string (strOfNums (fullL 5))) W
set_option maxRecDepth 100000 in
set_option maxHeartbeats 8000000 in
theorem foldNames_walk (w : World) : Calls Try.prog 3 #[] w fun e w' => e = .returned (.bool true) ∧ Below w.heap.size w w' := by
  have c1 : code [] = 0 := by decide +kernel
  have f1 : foldL [] = fullL 0 := by decide +kernel
  have c2 : code [fullL 5] = 0 := by decide +kernel
  have f2 : foldL [fullL 5] = fullL 5 := by decide +kernel
  have c3 : code [fullL 5, fullL 3, fullL 5] = 0 := by decide +kernel
  have f3 : foldL [fullL 5, fullL 3, fullL 5] = fullL 3 := by decide +kernel
  have c4 : code [[], fullL 5] = 0 := by decide +kernel
  have f4 : foldL [[], fullL 5] = fullL 5 := by decide +kernel
  have c5 : code [[1]] = 3 := by decide +kernel
  have c6 : code (List.replicate 17 []) = 4 := by decide +kernel
  have C := Lib.hid (And.intro c1 (And.intro c2 (And.intro c3 (And.intro c4 (And.intro c5 c6)))))
  have F := Lib.hid (And.intro f1 (And.intro f2 (And.intro f3 f4)))
  have hmk := makes_17
  clear c1 c2 c3 c4 c5 c6 f1 f2 f3 f4
  go_enter Try.func3, Try.ntmps3
  go_wp2_with fail
  refine (fold_ok (Slab.empty w) C.out.1).mono ?_
  rintro e w1 ⟨g1, -, rfl, hc1, hb1⟩
  rw [F.out.1] at hc1
  have T1 := Lib.hid (fun W => block_text (W := W) hc1 (fullL_len 0) (fullL_bytes (by omega)) (Nat.le_refl _))
  have B1 := Lib.hid hb1
  clear hc1 hb1
  go_wp2_with fail
  refine (full_calls 5 _ (by omega) (by omega)).mono ?_
  rintro e w2 ⟨h1, -, rfl, h1c, w2b⟩
  have i1 := Ints.ofCells h1c (fullL_len 5) (by omega) (fullL_bytes (by omega))
  clear h1c
  obtain ⟨s1, b1⟩ := boxed w2 [.slice (some ⟨h1, 0, none⟩) 128 128] [fullL 5] (Hdrs.one i1) (n := 1) rfl (by omega)
  have S1 := Lib.hid s1
  have D1 := Lib.hid (w2b.trans (b1.mono w2b.size))
  clear s1 b1 w2b i1
  go_wp2_with fail
  refine (fold_ok S1.out C.out.2.1).mono ?_
  rintro e w3 ⟨g2, -, rfl, hc2, hb3⟩
  rw [F.out.2.1] at hc2
  have T2 := Lib.hid (fun W => block_text (W := W) hc2 (fullL_len 5) (fullL_bytes (by omega)) (Nat.le_refl _))
  have B3 := Lib.hid (D1.out.trans (hb3.mono D1.out.size))
  clear hc2 hb3 S1 D1
  go_wp2_with fail
  refine (full_calls 5 _ (by omega) (by omega)).mono ?_
  rintro e w4 ⟨h2, -, rfl, h2c, w4b⟩
  have i2 := Ints.ofCells h2c (fullL_len 5) (by omega) (fullL_bytes (by omega))
  clear h2c
  go_wp2_with fail
  refine (full_calls 3 _ (by omega) (by omega)).mono ?_
  rintro e w5 ⟨h3, -, rfl, h3c, w5b⟩
  have i3 := Ints.ofCells h3c (fullL_len 3) (by omega) (fullL_bytes (by omega))
  clear h3c
  go_wp2_with fail
  refine (full_calls 5 _ (by omega) (by omega)).mono ?_
  rintro e w6 ⟨h4, -, rfl, h4c, w6b⟩
  have i4 := Ints.ofCells h4c (fullL_len 5) (by omega) (fullL_bytes (by omega))
  clear h4c
  have j2 := (i2.below w5b (Nat.le_refl _)).below w6b (Nat.le_refl _)
  have j3 := i3.below w6b (Nat.le_refl _)
  obtain ⟨s2, b2⟩ := boxed w6 [.slice (some ⟨h2, 0, none⟩) 128 128, .slice (some ⟨h3, 0, none⟩) 128 128, .slice (some ⟨h4, 0, none⟩) 128 128] [fullL 5, fullL 3, fullL 5] (((Hdrs.one j2).append (Hdrs.one j3)).append (Hdrs.one i4)) (n := 3) rfl (by omega)
  have S2 := Lib.hid s2
  have k5 := w4b.trans (w5b.mono w4b.size)
  have k6 := k5.trans (w6b.mono k5.size)
  have D2 := Lib.hid (k6.trans (b2.mono k6.size))
  clear s2 b2 w4b w5b w6b i2 i3 i4 j2 j3 k5 k6
  go_wp2_with fail
  refine (fold_ok S2.out C.out.2.2.1).mono ?_
  rintro e w7 ⟨g3, -, rfl, hc3, hb7⟩
  rw [F.out.2.2.1] at hc3
  have T3 := Lib.hid (fun W => block_text (W := W) hc3 (fullL_len 3) (fullL_bytes (by omega)) (Nat.le_refl _))
  have B7 := Lib.hid (D2.out.trans (hb7.mono D2.out.size))
  clear hc3 hb7 S2 D2
  go_wp2_with fail
  refine (full_calls 5 _ (by omega) (by omega)).mono ?_
  rintro e w8 ⟨h5, -, rfl, h5c, w8b⟩
  have i5 := Ints.ofCells h5c (fullL_len 5) (by omega) (fullL_bytes (by omega))
  clear h5c
  obtain ⟨s3, b3⟩ := boxed w8 [.slice none 0 0, .slice (some ⟨h5, 0, none⟩) 128 128] [[], fullL 5] ((Hdrs.one (nil_ints _ _)).append (Hdrs.one i5)) (n := 2) rfl (by omega)
  have S3 := Lib.hid s3
  have D3 := Lib.hid (w8b.trans (b3.mono w8b.size))
  clear s3 b3 w8b i5
  go_wp2_with fail
  refine (fold_ok S3.out C.out.2.2.2.1).mono ?_
  rintro e w9 ⟨g4, -, rfl, hc4, hb9⟩
  rw [F.out.2.2.2] at hc4
  have T4 := Lib.hid (fun W => block_text (W := W) hc4 (fullL_len 5) (fullL_bytes (by omega)) (Nat.le_refl _))
  have B9 := Lib.hid (D3.out.trans (hb9.mono D3.out.size))
  clear hc4 hb9 S3 D3
  have b4 : Below w9.heap.size w9 (w9.alloc (.cells #[.int .u8 1] 5)) := (Below.refl _ _).alloc (Nat.le_refl _) _
  obtain ⟨s4, b5⟩ := boxed (w9.alloc (.cells #[.int .u8 1] 5)) [.slice (some ⟨w9.heap.size, 0, none⟩) 1 1] [[1]] (Hdrs.one (one_ints w9)) (n := 1) rfl (by omega)
  rw [show (w9.alloc (.cells #[.int .u8 1] 5)).heap.size = w9.heap.size + 1 by simp] at s4
  have S4 := Lib.hid s4
  have D4 := Lib.hid (b4.trans (b5.mono b4.size))
  clear s4 b4 b5
  go_wp2_with fail
  refine (fold_no S4.out (by rw [C.out.2.2.2.2.1]; decide)).mono ?_
  rw [C.out.2.2.2.2.1]
  rintro e w10 ⟨rfl, hb10⟩
  have B10 := Lib.hid (D4.out.trans (hb10.mono D4.out.size))
  clear hb10 S4 D4
  obtain ⟨s5, b6⟩ := boxed w10 (List.replicate 17 (Value.slice none 0 0)) (List.replicate 17 []) (hdrs_17 _) (n := 17) (by simp) (by omega)
  have S5 := Lib.hid s5
  have D5 := Lib.hid b6
  clear s5 b6
  go_wp2_with fail
  refine (fold_no S5.out (by rw [C.out.2.2.2.2.2]; decide)).mono ?_
  rw [C.out.2.2.2.2.2]
  rintro e w11 ⟨rfl, hb11⟩
  have B11 := D5.out.trans (hb11.mono D5.out.size)
  clear hb11 S5 D5 hmk C F
  have A9 := B10.out.trans (B11.mono B10.out.size)
  have A7 := B9.out.trans (A9.mono B9.out.size)
  have A3 := B7.out.trans (A7.mono B7.out.size)
  have A1 := B3.out.trans (A3.mono B3.out.size)
  have A0 := Lib.hid (B1.out.trans (A1.mono B1.out.size))
  have htext : ∀ W, Below w11.heap.size w11 W → NamesS g1 g2 g3 g4 W := fun W hW =>
    ⟨T1.out W (A1.trans (hW.mono A1.size)), T2.out W (A3.trans (hW.mono A3.size)), T3.out W (A7.trans (hW.mono A7.size)), T4.out W (A9.trans (hW.mono A9.size))⟩
  clear T1 T2 T3 T4 B1 B3 B7 B9 B10 B11 A1 A3 A7 A9
  unfold NamesS at htext
  go_wp2_with fail
  refine wp_region_held_drew (S := (fun W => Below w11.heap.size w11 W ∧ (convert 22 9 (.slice (some ⟨g1, 0, none⟩) 128 128)).run Try.prog W = .ok (.string (strOfNums (fullL 0))) W ∧ (convert 22 9 (.slice (some ⟨g2, 0, none⟩) 128 128)).run Try.prog W = .ok (.string (strOfNums (fullL 5))) W ∧ (convert 22 9 (.slice (some ⟨g3, 0, none⟩) 128 128)).run Try.prog W = .ok (.string (strOfNums (fullL 3))) W ∧ (convert 22 9 (.slice (some ⟨g4, 0, none⟩) 128 128)).run Try.prog W = .ok (.string (strOfNums (fullL 5))) W)) (by kernel_rfl) ?_ (fun hHeld => ?_)
  · first | assumption | exact ⟨(Below.refl _ _).drew, htext _ (Below.refl _ _).drew⟩ | exact text_call htext (Nat.le_refl _) (by assumption) (by assumption)
  refine wpAnyH_ready (rs := [0]) (by kernel_rfl) (by simp) ?_
  refine AllReadyH.cons rfl (fun K hK => ?_) AllReadyH.nil
  go_simp
  refine hK.out _ _ ?_ (fun hHeld2 => ?_)
  · first | assumption | exact ⟨(Below.refl _ _).drew, htext _ (Below.refl _ _).drew⟩ | exact text_call htext (Nat.le_refl _) (by assumption) (by assumption)
  clear hK K hHeld
  have hHeld := hHeld2
  clear hHeld2
  try simp only [Act.put, List.setIfInBounds_toArray, List.set_cons_zero, List.set_cons_succ]
  refine wpAnyH_ready (rs := [1]) (by kernel_rfl) (by simp) ?_
  refine AllReadyH.cons rfl (fun K hK => ?_) AllReadyH.nil
  go_simp
  refine (alive_calls _).mono ?_
  rintro e w20 ⟨rfl, hb20⟩
  go_wp2_with fail
  refine hK.out _ _ ?_ (fun hHeld2 => ?_)
  · first | assumption | exact ⟨(Below.refl _ _).drew, htext _ (Below.refl _ _).drew⟩ | exact text_call htext (Nat.le_refl _) (by assumption) (by assumption)
  clear hK K hHeld
  have hHeld := hHeld2
  clear hHeld2
  try simp only [Act.put, List.setIfInBounds_toArray, List.set_cons_zero, List.set_cons_succ]
  refine wpAnyH_ready (rs := [2]) (by kernel_rfl) (by simp) ?_
  refine AllReadyH.cons rfl (fun K hK => ?_) AllReadyH.nil
  go_simp
  refine hK.out _ _ ?_ (fun hHeld2 => ?_)
  · first | assumption | exact ⟨(Below.refl _ _).drew, htext _ (Below.refl _ _).drew⟩ | exact text_call htext (Nat.le_refl _) (by assumption) (by assumption)
  clear hK K hHeld
  have hHeld := hHeld2
  clear hHeld2
  try simp only [Act.put, List.setIfInBounds_toArray, List.set_cons_zero, List.set_cons_succ]
  refine wpAnyH_ready (rs := [3]) (by kernel_rfl) (by simp) ?_
  refine AllReadyH.cons rfl (fun K hK => ?_) AllReadyH.nil
  go_simp
  refine hK.out _ _ ?_ (fun hHeld2 => ?_)
  · first | assumption | exact ⟨(Below.refl _ _).drew, htext _ (Below.refl _ _).drew⟩ | exact text_call htext (Nat.le_refl _) (by assumption) (by assumption)
  clear hK K hHeld
  have hHeld := hHeld2
  clear hHeld2
  try simp only [Act.put, List.setIfInBounds_toArray, List.set_cons_zero, List.set_cons_succ]
  refine wpAnyH_ready (rs := [4]) (by kernel_rfl) (by simp) ?_
  refine AllReadyH.cons rfl (fun K hK => ?_) AllReadyH.nil
  go_simp
  refine hK.out _ _ ?_ (fun hHeld2 => ?_)
  · first | assumption | exact ⟨(Below.refl _ _).drew, htext _ (Below.refl _ _).drew⟩ | exact text_call htext (Nat.le_refl _) (by assumption) (by assumption)
  clear hK K hHeld
  have hHeld := hHeld2
  clear hHeld2
  try simp only [Act.put, List.setIfInBounds_toArray, List.set_cons_zero, List.set_cons_succ]
  refine wpAnyH_ready (rs := [5]) (by kernel_rfl) (by simp) ?_
  refine AllReadyH.cons rfl (fun K hK => ?_) AllReadyH.nil
  go_simp
  refine hK.out _ _ ?_ (fun hHeld2 => ?_)
  · first | assumption | exact ⟨(Below.refl _ _).drew, htext _ (Below.refl _ _).drew⟩ | exact text_call htext (Nat.le_refl _) (by assumption) (by assumption)
  clear hK K hHeld
  have hHeld := hHeld2
  clear hHeld2
  try simp only [Act.put, List.setIfInBounds_toArray, List.set_cons_zero, List.set_cons_succ]
  refine wpAnyH_ready (rs := [6]) (by kernel_rfl) (by simp) ?_
  refine AllReadyH.cons rfl (fun K hK => ?_) AllReadyH.nil
  go_simp
  refine hK.out _ _ ?_ (fun hHeld2 => ?_)
  · first | assumption | exact ⟨(Below.refl _ _).drew, htext _ (Below.refl _ _).drew⟩ | exact text_call htext (Nat.le_refl _) (by assumption) (by assumption)
  clear hK K hHeld
  have hHeld := hHeld2
  clear hHeld2
  try simp only [Act.put, List.setIfInBounds_toArray, List.set_cons_zero, List.set_cons_succ]
  refine wpAnyH_ready (rs := [7]) (by kernel_rfl) (by simp) ?_
  refine AllReadyH.cons rfl (fun K hK => ?_) AllReadyH.nil
  go_simp
  refine hK.out _ _ ?_ (fun hHeld2 => ?_)
  · first | assumption | exact ⟨(Below.refl _ _).drew, htext _ (Below.refl _ _).drew⟩ | exact text_call htext (Nat.le_refl _) (by assumption) (by assumption)
  clear hK K hHeld
  have hHeld := hHeld2
  clear hHeld2
  try simp only [Act.put, List.setIfInBounds_toArray, List.set_cons_zero, List.set_cons_succ]
  refine wpAnyH_take (i := 8) (v := ?_) rfl (by kernel_rfl) (by kernel_rfl) (by kernel_rfl) (fun _ _ _ h => h) (Or.inl ⟨by rfl, ?_⟩) (by assumption) ?_
  rotate_left
  · (intro w hSw; (try dsimp only at hSw); go_simp; try with_reducible rfl)
  try simp only [Act.put, List.setIfInBounds_toArray, List.set_cons_zero, List.set_cons_succ]
  refine wpAnyH_take (i := 9) (v := ?_) rfl (by kernel_rfl) (by kernel_rfl) (by kernel_rfl) (fun _ _ _ h => h) (Or.inl ⟨by rfl, ?_⟩) (by assumption) ?_
  rotate_left
  · (intro w hSw; (try dsimp only at hSw); go_simp; try with_reducible rfl)
  try simp only [Act.put, List.setIfInBounds_toArray, List.set_cons_zero, List.set_cons_succ]
  refine wpAnyH_ready (rs := [10]) (by kernel_rfl) (by simp) ?_
  refine AllReadyH.cons rfl (fun K hK => ?_) AllReadyH.nil
  go_simp
  refine (full_calls 0 _ (by omega) (by omega)).mono ?_
  rintro e w21 ⟨g21, -, rfl, hc21, hb21⟩
  have ht21 := block_text hc21 (fullL_len 0) (fullL_bytes (by omega)) (Nat.le_refl _) (Below.refl _ _)
  clear hc21
  go_wp2_with fail
  refine hK.out _ _ ?_ (fun hHeld2 => ?_)
  · first | assumption | exact ⟨(Below.refl _ _).drew, htext _ (Below.refl _ _).drew⟩ | exact text_call htext (Nat.le_refl _) (by assumption) (by assumption)
  clear hK K hHeld
  have hHeld := hHeld2
  clear hHeld2
  try simp only [Act.put, List.setIfInBounds_toArray, List.set_cons_zero, List.set_cons_succ]
  refine wpAnyH_ready (rs := [11]) (by kernel_rfl) (by simp) ?_
  refine AllReadyH.cons rfl (fun K hK => ?_) AllReadyH.nil
  go_simp
  refine hK.out _ _ ?_ (fun hHeld2 => ?_)
  · first | assumption | exact ⟨(Below.refl _ _).drew, htext _ (Below.refl _ _).drew⟩ | exact text_call htext (Nat.le_refl _) (by assumption) (by assumption)
  clear hK K hHeld
  have hHeld := hHeld2
  clear hHeld2
  try simp only [Act.put, List.setIfInBounds_toArray, List.set_cons_zero, List.set_cons_succ]
  refine wpAnyH_ready (rs := [12]) (by kernel_rfl) (by simp) ?_
  refine AllReadyH.cons rfl (fun K hK => ?_) AllReadyH.nil
  go_simp
  refine hK.out _ _ ?_ (fun hHeld2 => ?_)
  · first | assumption | exact ⟨(Below.refl _ _).drew, htext _ (Below.refl _ _).drew⟩ | exact text_call htext (Nat.le_refl _) (by assumption) (by assumption)
  clear hK K hHeld
  have hHeld := hHeld2
  clear hHeld2
  try simp only [Act.put, List.setIfInBounds_toArray, List.set_cons_zero, List.set_cons_succ]
  refine wpAnyH_ready (rs := [13]) (by kernel_rfl) (by simp) ?_
  refine AllReadyH.cons rfl (fun K hK => ?_) AllReadyH.nil
  go_simp
  refine hK.out _ _ ?_ (fun hHeld2 => ?_)
  · first | assumption | exact ⟨(Below.refl _ _).drew, htext _ (Below.refl _ _).drew⟩ | exact text_call htext (Nat.le_refl _) (by assumption) (by assumption)
  clear hK K hHeld
  have hHeld := hHeld2
  clear hHeld2
  try simp only [Act.put, List.setIfInBounds_toArray, List.set_cons_zero, List.set_cons_succ]
  refine wpAnyH_ready (rs := [14]) (by kernel_rfl) (by simp) ?_
  refine AllReadyH.cons rfl (fun K hK => ?_) AllReadyH.nil
  go_simp
  refine hK.out _ _ ?_ (fun hHeld2 => ?_)
  · first | assumption | exact ⟨(Below.refl _ _).drew, htext _ (Below.refl _ _).drew⟩ | exact text_call htext (Nat.le_refl _) (by assumption) (by assumption)
  clear hK K hHeld
  have hHeld := hHeld2
  clear hHeld2
  try simp only [Act.put, List.setIfInBounds_toArray, List.set_cons_zero, List.set_cons_succ]
  refine wpAnyH_ready (rs := [15]) (by kernel_rfl) (by simp) ?_
  refine AllReadyH.cons rfl (fun K hK => ?_) AllReadyH.nil
  go_simp
  refine hK.out _ _ ?_ (fun hHeld2 => ?_)
  · first | assumption | exact ⟨(Below.refl _ _).drew, htext _ (Below.refl _ _).drew⟩ | exact text_call htext (Nat.le_refl _) (by assumption) (by assumption)
  clear hK K hHeld
  have hHeld := hHeld2
  clear hHeld2
  try simp only [Act.put, List.setIfInBounds_toArray, List.set_cons_zero, List.set_cons_succ]
  refine wpAnyH_ready (rs := [16]) (by kernel_rfl) (by simp) ?_
  refine AllReadyH.cons rfl (fun K hK => ?_) AllReadyH.nil
  go_simp
  refine hK.out _ _ ?_ (fun hHeld2 => ?_)
  · first | assumption | exact ⟨(Below.refl _ _).drew, htext _ (Below.refl _ _).drew⟩ | exact text_call htext (Nat.le_refl _) (by assumption) (by assumption)
  clear hK K hHeld
  have hHeld := hHeld2
  clear hHeld2
  try simp only [Act.put, List.setIfInBounds_toArray, List.set_cons_zero, List.set_cons_succ]
  refine wpAnyH_ready (rs := [17]) (by kernel_rfl) (by simp) ?_
  refine AllReadyH.cons rfl (fun K hK => ?_) AllReadyH.nil
  go_simp
  refine hK.out _ _ ?_ (fun hHeld2 => ?_)
  · first | assumption | exact ⟨(Below.refl _ _).drew, htext _ (Below.refl _ _).drew⟩ | exact text_call htext (Nat.le_refl _) (by assumption) (by assumption)
  clear hK K hHeld
  have hHeld := hHeld2
  clear hHeld2
  try simp only [Act.put, List.setIfInBounds_toArray, List.set_cons_zero, List.set_cons_succ]
  refine wpAnyH_ready (rs := [18]) (by kernel_rfl) (by simp) ?_
  refine AllReadyH.cons rfl (fun K hK => ?_) AllReadyH.nil
  go_simp
  refine hK.out _ _ ?_ (fun hHeld2 => ?_)
  · first | assumption | exact ⟨(Below.refl _ _).drew, htext _ (Below.refl _ _).drew⟩ | exact text_call htext (Nat.le_refl _) (by assumption) (by assumption)
  clear hK K hHeld
  have hHeld := hHeld2
  clear hHeld2
  try simp only [Act.put, List.setIfInBounds_toArray, List.set_cons_zero, List.set_cons_succ]
  refine wpAnyH_take (i := 19) (v := ?_) rfl (by kernel_rfl) (by kernel_rfl) (by kernel_rfl) (fun _ _ _ h => h) (Or.inl ⟨by rfl, ?_⟩) (by assumption) ?_
  rotate_left
  · (intro w hSw; (try dsimp only at hSw); go_simp; try with_reducible rfl)
  try simp only [Act.put, List.setIfInBounds_toArray, List.set_cons_zero, List.set_cons_succ]
  refine wpAnyH_take (i := 20) (v := ?_) rfl (by kernel_rfl) (by kernel_rfl) (by kernel_rfl) (fun _ _ _ h => h) (Or.inl ⟨by rfl, ?_⟩) (by assumption) ?_
  rotate_left
  · (intro w hSw; (try dsimp only at hSw); go_simp; try with_reducible rfl)
  try simp only [Act.put, List.setIfInBounds_toArray, List.set_cons_zero, List.set_cons_succ]
  refine wpAnyH_ready (rs := [21]) (by kernel_rfl) (by simp) ?_
  refine AllReadyH.cons rfl (fun K hK => ?_) AllReadyH.nil
  go_simp
  refine (full_calls 5 _ (by omega) (by omega)).mono ?_
  rintro e w22 ⟨g22, -, rfl, hc22, hb22⟩
  have ht22 := block_text hc22 (fullL_len 5) (fullL_bytes (by omega)) (Nat.le_refl _) (Below.refl _ _)
  clear hc22
  go_wp2_with fail
  refine hK.out _ _ ?_ (fun hHeld2 => ?_)
  · first | assumption | exact ⟨(Below.refl _ _).drew, htext _ (Below.refl _ _).drew⟩ | exact text_call htext (Nat.le_refl _) (by assumption) (by assumption)
  clear hK K hHeld
  have hHeld := hHeld2
  clear hHeld2
  try simp only [Act.put, List.setIfInBounds_toArray, List.set_cons_zero, List.set_cons_succ]
  refine wpAnyH_ready (rs := [22]) (by kernel_rfl) (by simp) ?_
  refine AllReadyH.cons rfl (fun K hK => ?_) AllReadyH.nil
  go_simp
  refine hK.out _ _ ?_ (fun hHeld2 => ?_)
  · first | assumption | exact ⟨(Below.refl _ _).drew, htext _ (Below.refl _ _).drew⟩ | exact text_call htext (Nat.le_refl _) (by assumption) (by assumption)
  clear hK K hHeld
  have hHeld := hHeld2
  clear hHeld2
  try simp only [Act.put, List.setIfInBounds_toArray, List.set_cons_zero, List.set_cons_succ]
  refine wpAnyH_ready (rs := [23]) (by kernel_rfl) (by simp) ?_
  refine AllReadyH.cons rfl (fun K hK => ?_) AllReadyH.nil
  go_simp
  refine hK.out _ _ ?_ (fun hHeld2 => ?_)
  · first | assumption | exact ⟨(Below.refl _ _).drew, htext _ (Below.refl _ _).drew⟩ | exact text_call htext (Nat.le_refl _) (by assumption) (by assumption)
  clear hK K hHeld
  have hHeld := hHeld2
  clear hHeld2
  try simp only [Act.put, List.setIfInBounds_toArray, List.set_cons_zero, List.set_cons_succ]
  refine wpAnyH_ready (rs := [24]) (by kernel_rfl) (by simp) ?_
  refine AllReadyH.cons rfl (fun K hK => ?_) AllReadyH.nil
  go_simp
  refine hK.out _ _ ?_ (fun hHeld2 => ?_)
  · first | assumption | exact ⟨(Below.refl _ _).drew, htext _ (Below.refl _ _).drew⟩ | exact text_call htext (Nat.le_refl _) (by assumption) (by assumption)
  clear hK K hHeld
  have hHeld := hHeld2
  clear hHeld2
  try simp only [Act.put, List.setIfInBounds_toArray, List.set_cons_zero, List.set_cons_succ]
  refine wpAnyH_ready (rs := [25]) (by kernel_rfl) (by simp) ?_
  refine AllReadyH.cons rfl (fun K hK => ?_) AllReadyH.nil
  go_simp
  refine hK.out _ _ ?_ (fun hHeld2 => ?_)
  · first | assumption | exact ⟨(Below.refl _ _).drew, htext _ (Below.refl _ _).drew⟩ | exact text_call htext (Nat.le_refl _) (by assumption) (by assumption)
  clear hK K hHeld
  have hHeld := hHeld2
  clear hHeld2
  try simp only [Act.put, List.setIfInBounds_toArray, List.set_cons_zero, List.set_cons_succ]
  refine wpAnyH_ready (rs := [26]) (by kernel_rfl) (by simp) ?_
  refine AllReadyH.cons rfl (fun K hK => ?_) AllReadyH.nil
  go_simp
  refine hK.out _ _ ?_ (fun hHeld2 => ?_)
  · first | assumption | exact ⟨(Below.refl _ _).drew, htext _ (Below.refl _ _).drew⟩ | exact text_call htext (Nat.le_refl _) (by assumption) (by assumption)
  clear hK K hHeld
  have hHeld := hHeld2
  clear hHeld2
  try simp only [Act.put, List.setIfInBounds_toArray, List.set_cons_zero, List.set_cons_succ]
  refine wpAnyH_ready (rs := [27]) (by kernel_rfl) (by simp) ?_
  refine AllReadyH.cons rfl (fun K hK => ?_) AllReadyH.nil
  go_simp
  refine hK.out _ _ ?_ (fun hHeld2 => ?_)
  · first | assumption | exact ⟨(Below.refl _ _).drew, htext _ (Below.refl _ _).drew⟩ | exact text_call htext (Nat.le_refl _) (by assumption) (by assumption)
  clear hK K hHeld
  have hHeld := hHeld2
  clear hHeld2
  try simp only [Act.put, List.setIfInBounds_toArray, List.set_cons_zero, List.set_cons_succ]
  refine wpAnyH_ready (rs := [28]) (by kernel_rfl) (by simp) ?_
  refine AllReadyH.cons rfl (fun K hK => ?_) AllReadyH.nil
  go_simp
  refine hK.out _ _ ?_ (fun hHeld2 => ?_)
  · first | assumption | exact ⟨(Below.refl _ _).drew, htext _ (Below.refl _ _).drew⟩ | exact text_call htext (Nat.le_refl _) (by assumption) (by assumption)
  clear hK K hHeld
  have hHeld := hHeld2
  clear hHeld2
  try simp only [Act.put, List.setIfInBounds_toArray, List.set_cons_zero, List.set_cons_succ]
  refine wpAnyH_ready (rs := [29]) (by kernel_rfl) (by simp) ?_
  refine AllReadyH.cons rfl (fun K hK => ?_) AllReadyH.nil
  go_simp
  refine hK.out _ _ ?_ (fun hHeld2 => ?_)
  · first | assumption | exact ⟨(Below.refl _ _).drew, htext _ (Below.refl _ _).drew⟩ | exact text_call htext (Nat.le_refl _) (by assumption) (by assumption)
  clear hK K hHeld
  have hHeld := hHeld2
  clear hHeld2
  try simp only [Act.put, List.setIfInBounds_toArray, List.set_cons_zero, List.set_cons_succ]
  refine wpAnyH_take (i := 30) (v := ?_) rfl (by kernel_rfl) (by kernel_rfl) (by kernel_rfl) (fun _ _ _ h => h) (Or.inl ⟨by rfl, ?_⟩) (by assumption) ?_
  rotate_left
  · (intro w hSw; (try dsimp only at hSw); go_simp; try with_reducible rfl)
  try simp only [Act.put, List.setIfInBounds_toArray, List.set_cons_zero, List.set_cons_succ]
  refine wpAnyH_take (i := 31) (v := ?_) rfl (by kernel_rfl) (by kernel_rfl) (by kernel_rfl) (fun _ _ _ h => h) (Or.inl ⟨by rfl, ?_⟩) (by assumption) ?_
  rotate_left
  · (intro w hSw; (try dsimp only at hSw); go_simp; try with_reducible rfl)
  try simp only [Act.put, List.setIfInBounds_toArray, List.set_cons_zero, List.set_cons_succ]
  refine wpAnyH_ready (rs := [32]) (by kernel_rfl) (by simp) ?_
  refine AllReadyH.cons rfl (fun K hK => ?_) AllReadyH.nil
  go_simp
  refine (full_calls 3 _ (by omega) (by omega)).mono ?_
  rintro e w23 ⟨g23, -, rfl, hc23, hb23⟩
  have ht23 := block_text hc23 (fullL_len 3) (fullL_bytes (by omega)) (Nat.le_refl _) (Below.refl _ _)
  clear hc23
  go_wp2_with fail
  refine hK.out _ _ ?_ (fun hHeld2 => ?_)
  · first | assumption | exact ⟨(Below.refl _ _).drew, htext _ (Below.refl _ _).drew⟩ | exact text_call htext (Nat.le_refl _) (by assumption) (by assumption)
  clear hK K hHeld
  have hHeld := hHeld2
  clear hHeld2
  try simp only [Act.put, List.setIfInBounds_toArray, List.set_cons_zero, List.set_cons_succ]
  refine wpAnyH_ready (rs := [33]) (by kernel_rfl) (by simp) ?_
  refine AllReadyH.cons rfl (fun K hK => ?_) AllReadyH.nil
  go_simp
  refine hK.out _ _ ?_ (fun hHeld2 => ?_)
  · first | assumption | exact ⟨(Below.refl _ _).drew, htext _ (Below.refl _ _).drew⟩ | exact text_call htext (Nat.le_refl _) (by assumption) (by assumption)
  clear hK K hHeld
  have hHeld := hHeld2
  clear hHeld2
  try simp only [Act.put, List.setIfInBounds_toArray, List.set_cons_zero, List.set_cons_succ]
  refine wpAnyH_ready (rs := [34]) (by kernel_rfl) (by simp) ?_
  refine AllReadyH.cons rfl (fun K hK => ?_) AllReadyH.nil
  go_simp
  refine hK.out _ _ ?_ (fun hHeld2 => ?_)
  · first | assumption | exact ⟨(Below.refl _ _).drew, htext _ (Below.refl _ _).drew⟩ | exact text_call htext (Nat.le_refl _) (by assumption) (by assumption)
  clear hK K hHeld
  have hHeld := hHeld2
  clear hHeld2
  try simp only [Act.put, List.setIfInBounds_toArray, List.set_cons_zero, List.set_cons_succ]
  refine wpAnyH_ready (rs := [35]) (by kernel_rfl) (by simp) ?_
  refine AllReadyH.cons rfl (fun K hK => ?_) AllReadyH.nil
  go_simp
  refine hK.out _ _ ?_ (fun hHeld2 => ?_)
  · first | assumption | exact ⟨(Below.refl _ _).drew, htext _ (Below.refl _ _).drew⟩ | exact text_call htext (Nat.le_refl _) (by assumption) (by assumption)
  clear hK K hHeld
  have hHeld := hHeld2
  clear hHeld2
  try simp only [Act.put, List.setIfInBounds_toArray, List.set_cons_zero, List.set_cons_succ]
  refine wpAnyH_ready (rs := [36]) (by kernel_rfl) (by simp) ?_
  refine AllReadyH.cons rfl (fun K hK => ?_) AllReadyH.nil
  go_simp
  refine hK.out _ _ ?_ (fun hHeld2 => ?_)
  · first | assumption | exact ⟨(Below.refl _ _).drew, htext _ (Below.refl _ _).drew⟩ | exact text_call htext (Nat.le_refl _) (by assumption) (by assumption)
  clear hK K hHeld
  have hHeld := hHeld2
  clear hHeld2
  try simp only [Act.put, List.setIfInBounds_toArray, List.set_cons_zero, List.set_cons_succ]
  refine wpAnyH_ready (rs := [37]) (by kernel_rfl) (by simp) ?_
  refine AllReadyH.cons rfl (fun K hK => ?_) AllReadyH.nil
  go_simp
  refine hK.out _ _ ?_ (fun hHeld2 => ?_)
  · first | assumption | exact ⟨(Below.refl _ _).drew, htext _ (Below.refl _ _).drew⟩ | exact text_call htext (Nat.le_refl _) (by assumption) (by assumption)
  clear hK K hHeld
  have hHeld := hHeld2
  clear hHeld2
  try simp only [Act.put, List.setIfInBounds_toArray, List.set_cons_zero, List.set_cons_succ]
  refine wpAnyH_ready (rs := [38]) (by kernel_rfl) (by simp) ?_
  refine AllReadyH.cons rfl (fun K hK => ?_) AllReadyH.nil
  go_simp
  refine hK.out _ _ ?_ (fun hHeld2 => ?_)
  · first | assumption | exact ⟨(Below.refl _ _).drew, htext _ (Below.refl _ _).drew⟩ | exact text_call htext (Nat.le_refl _) (by assumption) (by assumption)
  clear hK K hHeld
  have hHeld := hHeld2
  clear hHeld2
  try simp only [Act.put, List.setIfInBounds_toArray, List.set_cons_zero, List.set_cons_succ]
  refine wpAnyH_ready (rs := [39]) (by kernel_rfl) (by simp) ?_
  refine AllReadyH.cons rfl (fun K hK => ?_) AllReadyH.nil
  go_simp
  refine hK.out _ _ ?_ (fun hHeld2 => ?_)
  · first | assumption | exact ⟨(Below.refl _ _).drew, htext _ (Below.refl _ _).drew⟩ | exact text_call htext (Nat.le_refl _) (by assumption) (by assumption)
  clear hK K hHeld
  have hHeld := hHeld2
  clear hHeld2
  try simp only [Act.put, List.setIfInBounds_toArray, List.set_cons_zero, List.set_cons_succ]
  refine wpAnyH_ready (rs := [40]) (by kernel_rfl) (by simp) ?_
  refine AllReadyH.cons rfl (fun K hK => ?_) AllReadyH.nil
  go_simp
  refine hK.out _ _ ?_ (fun hHeld2 => ?_)
  · first | assumption | exact ⟨(Below.refl _ _).drew, htext _ (Below.refl _ _).drew⟩ | exact text_call htext (Nat.le_refl _) (by assumption) (by assumption)
  clear hK K hHeld
  have hHeld := hHeld2
  clear hHeld2
  try simp only [Act.put, List.setIfInBounds_toArray, List.set_cons_zero, List.set_cons_succ]
  refine wpAnyH_take (i := 41) (v := ?_) rfl (by kernel_rfl) (by kernel_rfl) (by kernel_rfl) (fun _ _ _ h => h) (Or.inl ⟨by rfl, ?_⟩) (by assumption) ?_
  rotate_left
  · (intro w hSw; (try dsimp only at hSw); go_simp; try with_reducible rfl)
  try simp only [Act.put, List.setIfInBounds_toArray, List.set_cons_zero, List.set_cons_succ]
  refine wpAnyH_take (i := 42) (v := ?_) rfl (by kernel_rfl) (by kernel_rfl) (by kernel_rfl) (fun _ _ _ h => h) (Or.inl ⟨by rfl, ?_⟩) (by assumption) ?_
  rotate_left
  · (intro w hSw; (try dsimp only at hSw); go_simp; try with_reducible rfl)
  try simp only [Act.put, List.setIfInBounds_toArray, List.set_cons_zero, List.set_cons_succ]
  refine wpAnyH_ready (rs := [43]) (by kernel_rfl) (by simp) ?_
  refine AllReadyH.cons rfl (fun K hK => ?_) AllReadyH.nil
  go_simp
  refine (full_calls 5 _ (by omega) (by omega)).mono ?_
  rintro e w24 ⟨g24, -, rfl, hc24, hb24⟩
  have ht24 := block_text hc24 (fullL_len 5) (fullL_bytes (by omega)) (Nat.le_refl _) (Below.refl _ _)
  clear hc24
  go_wp2_with fail
  refine hK.out _ _ ?_ (fun hHeld2 => ?_)
  · first | assumption | exact ⟨(Below.refl _ _).drew, htext _ (Below.refl _ _).drew⟩ | exact text_call htext (Nat.le_refl _) (by assumption) (by assumption)
  clear hK K hHeld
  have hHeld := hHeld2
  clear hHeld2
  try simp only [Act.put, List.setIfInBounds_toArray, List.set_cons_zero, List.set_cons_succ]
  refine wpAnyH_ready (rs := [44]) (by kernel_rfl) (by simp) ?_
  refine AllReadyH.cons rfl (fun K hK => ?_) AllReadyH.nil
  go_simp
  refine hK.out _ _ ?_ (fun hHeld2 => ?_)
  · first | assumption | exact ⟨(Below.refl _ _).drew, htext _ (Below.refl _ _).drew⟩ | exact text_call htext (Nat.le_refl _) (by assumption) (by assumption)
  clear hK K hHeld
  have hHeld := hHeld2
  clear hHeld2
  try simp only [Act.put, List.setIfInBounds_toArray, List.set_cons_zero, List.set_cons_succ]
  refine wpAnyH_ready (rs := [45]) (by kernel_rfl) (by simp) ?_
  refine AllReadyH.cons rfl (fun K hK => ?_) AllReadyH.nil
  go_simp
  refine hK.out _ _ ?_ (fun hHeld2 => ?_)
  · first | assumption | exact ⟨(Below.refl _ _).drew, htext _ (Below.refl _ _).drew⟩ | exact text_call htext (Nat.le_refl _) (by assumption) (by assumption)
  clear hK K hHeld
  have hHeld := hHeld2
  clear hHeld2
  try simp only [Act.put, List.setIfInBounds_toArray, List.set_cons_zero, List.set_cons_succ]
  refine wpAnyH_ready (rs := [46]) (by kernel_rfl) (by simp) ?_
  refine AllReadyH.cons rfl (fun K hK => ?_) AllReadyH.nil
  go_simp
  refine hK.out _ _ ?_ (fun hHeld2 => ?_)
  · first | assumption | exact ⟨(Below.refl _ _).drew, htext _ (Below.refl _ _).drew⟩ | exact text_call htext (Nat.le_refl _) (by assumption) (by assumption)
  clear hK K hHeld
  have hHeld := hHeld2
  clear hHeld2
  try simp only [Act.put, List.setIfInBounds_toArray, List.set_cons_zero, List.set_cons_succ]
  refine wpAnyH_ready (rs := [47]) (by kernel_rfl) (by simp) ?_
  refine AllReadyH.cons rfl (fun K hK => ?_) AllReadyH.nil
  go_simp
  refine hK.out _ _ ?_ (fun hHeld2 => ?_)
  · first | assumption | exact ⟨(Below.refl _ _).drew, htext _ (Below.refl _ _).drew⟩ | exact text_call htext (Nat.le_refl _) (by assumption) (by assumption)
  clear hK K hHeld
  have hHeld := hHeld2
  clear hHeld2
  try simp only [Act.put, List.setIfInBounds_toArray, List.set_cons_zero, List.set_cons_succ]
  refine wpAnyH_ready (rs := [48]) (by kernel_rfl) (by simp) ?_
  refine AllReadyH.cons rfl (fun K hK => ?_) AllReadyH.nil
  go_simp
  refine hK.out _ _ ?_ (fun hHeld2 => ?_)
  · first | assumption | exact ⟨(Below.refl _ _).drew, htext _ (Below.refl _ _).drew⟩ | exact text_call htext (Nat.le_refl _) (by assumption) (by assumption)
  clear hK K hHeld
  have hHeld := hHeld2
  clear hHeld2
  try simp only [Act.put, List.setIfInBounds_toArray, List.set_cons_zero, List.set_cons_succ]
  refine wpAnyH_ready (rs := [49]) (by kernel_rfl) (by simp) ?_
  refine AllReadyH.cons rfl (fun K hK => ?_) AllReadyH.nil
  go_simp
  refine hK.out _ _ ?_ (fun hHeld2 => ?_)
  · first | assumption | exact ⟨(Below.refl _ _).drew, htext _ (Below.refl _ _).drew⟩ | exact text_call htext (Nat.le_refl _) (by assumption) (by assumption)
  clear hK K hHeld
  have hHeld := hHeld2
  clear hHeld2
  try simp only [Act.put, List.setIfInBounds_toArray, List.set_cons_zero, List.set_cons_succ]
  refine wpAnyH_ready (rs := [50]) (by kernel_rfl) (by simp) ?_
  refine AllReadyH.cons rfl (fun K hK => ?_) AllReadyH.nil
  go_simp
  refine hK.out _ _ ?_ (fun hHeld2 => ?_)
  · first | assumption | exact ⟨(Below.refl _ _).drew, htext _ (Below.refl _ _).drew⟩ | exact text_call htext (Nat.le_refl _) (by assumption) (by assumption)
  clear hK K hHeld
  have hHeld := hHeld2
  clear hHeld2
  try simp only [Act.put, List.setIfInBounds_toArray, List.set_cons_zero, List.set_cons_succ]
  refine wpAnyH_ready (rs := [51]) (by kernel_rfl) (by simp) ?_
  refine AllReadyH.cons rfl (fun K hK => ?_) AllReadyH.nil
  go_simp
  refine hK.out _ _ ?_ (fun hHeld2 => ?_)
  · first | assumption | exact ⟨(Below.refl _ _).drew, htext _ (Below.refl _ _).drew⟩ | exact text_call htext (Nat.le_refl _) (by assumption) (by assumption)
  clear hK K hHeld
  have hHeld := hHeld2
  clear hHeld2
  try simp only [Act.put, List.setIfInBounds_toArray, List.set_cons_zero, List.set_cons_succ]
  refine wpAnyH_ready (rs := [52]) (by kernel_rfl) (by simp) ?_
  refine AllReadyH.cons rfl (fun K hK => ?_) AllReadyH.nil
  go_simp
  refine hK.out _ _ ?_ (fun hHeld2 => ?_)
  · first | assumption | exact ⟨(Below.refl _ _).drew, htext _ (Below.refl _ _).drew⟩ | exact text_call htext (Nat.le_refl _) (by assumption) (by assumption)
  clear hK K hHeld
  have hHeld := hHeld2
  clear hHeld2
  try simp only [Act.put, List.setIfInBounds_toArray, List.set_cons_zero, List.set_cons_succ]
  refine wpAnyH_ready (rs := [53]) (by kernel_rfl) (by simp) ?_
  refine AllReadyH.cons rfl (fun K hK => ?_) AllReadyH.nil
  go_simp
  refine hK.out _ _ ?_ (fun hHeld2 => ?_)
  · first | assumption | exact ⟨(Below.refl _ _).drew, htext _ (Below.refl _ _).drew⟩ | exact text_call htext (Nat.le_refl _) (by assumption) (by assumption)
  clear hK K hHeld
  have hHeld := hHeld2
  clear hHeld2
  try simp only [Act.put, List.setIfInBounds_toArray, List.set_cons_zero, List.set_cons_succ]
  refine wpAnyH_ready (rs := [54]) (by kernel_rfl) (by simp) ?_
  refine AllReadyH.cons rfl (fun K hK => ?_) AllReadyH.nil
  go_simp
  refine hK.out _ _ ?_ (fun hHeld2 => ?_)
  · first | assumption | exact ⟨(Below.refl _ _).drew, htext _ (Below.refl _ _).drew⟩ | exact text_call htext (Nat.le_refl _) (by assumption) (by assumption)
  clear hK K hHeld
  have hHeld := hHeld2
  clear hHeld2
  try simp only [Act.put, List.setIfInBounds_toArray, List.set_cons_zero, List.set_cons_succ]
  refine wpAnyH_ready (rs := [55]) (by kernel_rfl) (by simp) ?_
  refine AllReadyH.cons rfl (fun K hK => ?_) AllReadyH.nil
  go_simp
  refine hK.out _ _ ?_ (fun hHeld2 => ?_)
  · first | assumption | exact ⟨(Below.refl _ _).drew, htext _ (Below.refl _ _).drew⟩ | exact text_call htext (Nat.le_refl _) (by assumption) (by assumption)
  clear hK K hHeld
  have hHeld := hHeld2
  clear hHeld2
  try simp only [Act.put, List.setIfInBounds_toArray, List.set_cons_zero, List.set_cons_succ]
  refine wpAnyH_done (by kernel_rfl) ?_ _
  have hb4 := And.left (a := Below w11.heap.size w11 _) (by assumption)
  go_wp2
  go_ret
  exact ⟨rfl, A0.out.trans (hb4.mono A0.out.size)⟩

namespace foldNames
set_option linter.unusedVariables false
set_option maxRecDepth 100000 in
theorem lifted (os : Os) (started : os.Started) (H : Type) (enc : TypeId × Value → H) :
    ReturnsInHanded {} Try.checked os 3 .any (Rows.foldNamesSpec.pre6 enc Try.prog Try.f3 Rows.foldNamesRow.domain false) (Rows.foldNamesSpec.post enc Try.prog Try.f3 false true false false) := by
  refine returnsInHanded_of_change (C := Try.checked) Try.own started (by kernel_rfl) Try.func3
    (ChangeSpec.witness6 (enc := enc) (C := Try.checked) false ⟨#[], #[], []⟩ 8 (by kernel_rfl) (by kernel_rfl) (by kernel_rfl) (by kernel_rfl)) ?_
  intro W base args ds gs before hval0 hW hcnd _
  have hval : ∀ (j : Nat) t v, Try.f3.params[j]? = some t → args[j]? = some v → Value.okWide Try.prog W .any base t v := hval0
  have hW' := hW
  obtain ⟨p, q, hA0, hV, rfl, hfz, hnd⟩ := hW
  have hA : DataW.TrodAll enc Try.prog W 0 (fun _ => true) true Try.f3.params.toList args.toList ds p := hA0
  rw [Try.params3] at hA hval
  obtain ⟨hargs, rfl, rfl⟩ := trodAll_nil hA
  obtain rfl : args = #[] := by cases args; simp_all
  obtain ⟨rfl, rfl⟩ := trodVars_none hV
  clear hA0 hval0
  refine (foldNames_walk W).mono fun e W' ⟨he, bel⟩ => ?_
  subst he
  exact ⟨_, rfl, _, _, _, [], _, [], hW', trodAll_mk1 (shut_bool Try.underlying4 _), trodAll_mk0, rfl, bel.frame _, fun h => by cases h⟩

theorem holds : Rows.FoldNamesSaid :=
  OpenClaim.holds_of_wide 3 Try.f3 rfl rfl rfl rfl rfl rfl rfl ⟨rfl, rfl, rfl, rfl, rfl⟩ rfl rfl rfl rfl rfl (by kernel_rfl) Try.func3 (by kernel_rfl)
    (of_decide_eq_true (by kernel_rfl)) (by unfold Func.isWrapper; first | (rw [if_pos (by decide +kernel)]; kernel_rfl) | (rw [if_neg (by decide +kernel)]; exact ⟨rfl, rfl⟩))
    (fun os started H enc _ => lifted os started H enc)
end foldNames
end Go.Proofs.Ytdoafdgikmloiaa
