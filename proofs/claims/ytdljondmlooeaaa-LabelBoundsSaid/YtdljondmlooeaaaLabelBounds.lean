/- freeboardlaw09.LabelBounds: for every input the law answers true, and what is handed in reads as it did. Conditions: none. -/
import Derived.Test.YtdljondmlooeaaaLabelSays
import Derived.Deep.DeepCutAuto
namespace Go.Proofs.Ytdljondmlooeaaa
open Go.ChangeShapes Go.WideShapes Go.ChangeAt Go.RowKit PolyM PackM ShapeM SealM LabelM
set_option linter.unusedVariables false
set_option maxRecDepth 100000 in
set_option maxHeartbeats 4000000 in
theorem bounds_no (id ev m ch ro lo me lst dn : Int) (op : Bool) (a1 a2 a3 : Int) (E0 : Int) (hE : (E0 != 0) = true) (ka : ∀ W, Calls Try.prog 13 #[] W fun e w' => e = .returned (.bool true) ∧ Below W.heap.size W w') (k0 : ∀ W, Calls Try.prog 14 #[.agg #[.int .u32 id, .int .u32 ev, .int .i64 m, .int .i64 ch, .int .i64 ro, .int .i64 lo, .int .i64 0, .int .i64 (-1), .int .i64 0, .bool op]] W fun e w' => e = .returned (.int .i64 E0) ∧ Below W.heap.size W w') (w : World) : Calls Try.prog 9 #[.agg #[.int .u32 id, .int .u32 ev, .int .i64 m, .int .i64 ch, .int .i64 ro, .int .i64 lo, .int .i64 me, .int .i64 lst, .int .i64 dn, .bool op], .int .i64 a1, .int .i64 a2, .int .i64 a3] w fun e w' => e = .returned (.bool true) ∧ Below w.heap.size w w' := by
  have B := BlkAt.new w #[.int .u32 id, .int .u32 ev, .int .i64 m, .int .i64 ch, .int .i64 ro, .int .i64 lo, .int .i64 me, .int .i64 lst, .int .i64 dn, .bool op] 28
  have hb : Below w.heap.size w (w.alloc (.cells #[.int .u32 id, .int .u32 ev, .int .i64 m, .int .i64 ch, .int .i64 ro, .int .i64 lo, .int .i64 me, .int .i64 lst, .int .i64 dn, .bool op] 28 (0, 0))) := (Below.refl _ _).alloc (Nat.le_refl _) _
  have hi10 := (zero_of_info label_size).2
  go_enter Try.func9, Try.ntmps9
  go_upto_region 2 with (go_at_call 13; (with_reducible refine (ka _).mono ?_); rintro e w1 ⟨rfl, hb1⟩; replace hb := hb.trans (hb1.mono hb.size); replace B := B.below hb1 (Nat.le_refl _); clear hb1)
  have gf := B.free
  have g6 := B.cell 6
  have g7 := B.cell 7
  have g8 := B.cell 8
  go_upto_region 3 with fail
  replace hb := ((hb.setCell (p := ⟨w.heap.size, 6, none⟩) (Nat.le_refl _) (.int .i64 0)).setCell (p := ⟨w.heap.size, 7, none⟩) (Nat.le_refl _) (.int .i64 (-1))).setCell (p := ⟨w.heap.size, 8, none⟩) (Nat.le_refl _) (.int .i64 0)
  replace B := ((B.put 6 (.int .i64 0)).put 7 (.int .i64 (-1))).put 8 (.int .i64 0)
  simp only [List.setIfInBounds_toArray, List.set_cons_zero, List.set_cons_succ] at B
  clear gf g6 g7 g8
  generalize World.setCell _ _ _ = v2 at *
  go_wp2_with (first
    | refine wpList_load_row rfl 28 _ rfl w.heap.size rfl _ _ _ _ B Try.underlying28 rfl (by rw [hi10]; rfl) ?_
    | (go_at_call 14; (with_reducible refine (k0 _).mono ?_); rintro e w3 ⟨rfl, hb3⟩; replace hb := hb.trans (hb3.mono hb.size); replace B := B.below hb3 (Nat.le_refl _); clear hb3))
  go_ret
  exact ⟨rfl, hb⟩
set_option maxRecDepth 100000 in
set_option maxHeartbeats 4000000 in
theorem bounds_ok (id ev m ch ro lo me lst dn : Int) (op : Bool) (a1 a2 a3 : Int) (E1 E2 E3 s : Int) (hms : wrap64 (ch * ro) = s) (H1 : ((decide (0 ≤ a1) = false ∧ (E1 == 0) = false) ∨ (decide (0 ≤ a1) = true ∧ decide (a1 < m) = false ∧ (E1 == 0) = false) ∨ (decide (0 ≤ a1) = true ∧ decide (a1 < m) = true ∧ (E1 == 0) = true))) (H2 : ((decide (-1 ≤ a2) = false ∧ (E2 == 0) = false) ∨ (decide (-1 ≤ a2) = true ∧ decide (a2 < m) = false ∧ (E2 == 0) = false) ∨ (decide (-1 ≤ a2) = true ∧ decide (a2 < m) = true ∧ (E2 == 0) = true))) (H3 : ((decide (0 ≤ a3) = false ∧ (E3 == 0) = false) ∨ (decide (0 ≤ a3) = true ∧ decide (a3 ≤ s) = false ∧ (E3 == 0) = false) ∨ (decide (0 ≤ a3) = true ∧ decide (a3 ≤ s) = true ∧ (E3 == 0) = true))) (ka : ∀ W, Calls Try.prog 13 #[] W fun e w' => e = .returned (.bool true) ∧ Below W.heap.size W w') (k0 : ∀ W, Calls Try.prog 14 #[.agg #[.int .u32 id, .int .u32 ev, .int .i64 m, .int .i64 ch, .int .i64 ro, .int .i64 lo, .int .i64 0, .int .i64 (-1), .int .i64 0, .bool op]] W fun e w' => e = .returned (.int .i64 0) ∧ Below W.heap.size W w') (k1 : ∀ W, Calls Try.prog 14 #[.agg #[.int .u32 id, .int .u32 ev, .int .i64 m, .int .i64 ch, .int .i64 ro, .int .i64 lo, .int .i64 a1, .int .i64 (-1), .int .i64 0, .bool op]] W fun e w' => e = .returned (.int .i64 E1) ∧ Below W.heap.size W w') (k2 : ∀ W, Calls Try.prog 14 #[.agg #[.int .u32 id, .int .u32 ev, .int .i64 m, .int .i64 ch, .int .i64 ro, .int .i64 lo, .int .i64 0, .int .i64 a2, .int .i64 0, .bool op]] W fun e w' => e = .returned (.int .i64 E2) ∧ Below W.heap.size W w') (k3 : ∀ W, Calls Try.prog 14 #[.agg #[.int .u32 id, .int .u32 ev, .int .i64 m, .int .i64 ch, .int .i64 ro, .int .i64 lo, .int .i64 0, .int .i64 0, .int .i64 a3, .bool op]] W fun e w' => e = .returned (.int .i64 E3) ∧ Below W.heap.size W w') (w : World) : Calls Try.prog 9 #[.agg #[.int .u32 id, .int .u32 ev, .int .i64 m, .int .i64 ch, .int .i64 ro, .int .i64 lo, .int .i64 me, .int .i64 lst, .int .i64 dn, .bool op], .int .i64 a1, .int .i64 a2, .int .i64 a3] w fun e w' => e = .returned (.bool true) ∧ Below w.heap.size w w' := by
  have B := BlkAt.new w #[.int .u32 id, .int .u32 ev, .int .i64 m, .int .i64 ch, .int .i64 ro, .int .i64 lo, .int .i64 me, .int .i64 lst, .int .i64 dn, .bool op] 28
  have hb : Below w.heap.size w (w.alloc (.cells #[.int .u32 id, .int .u32 ev, .int .i64 m, .int .i64 ch, .int .i64 ro, .int .i64 lo, .int .i64 me, .int .i64 lst, .int .i64 dn, .bool op] 28 (0, 0))) := (Below.refl _ _).alloc (Nat.le_refl _) _
  have hi10 := (zero_of_info label_size).2
  go_enter Try.func9, Try.ntmps9
  go_upto_region 2 with (go_at_call 13; (with_reducible refine (ka _).mono ?_); rintro e w1 ⟨rfl, hb1⟩; replace hb := hb.trans (hb1.mono hb.size); replace B := B.below hb1 (Nat.le_refl _); clear hb1)
  have gf := B.free
  have g6 := B.cell 6
  have g7 := B.cell 7
  have g8 := B.cell 8
  go_upto_region 3 with fail
  replace hb := ((hb.setCell (p := ⟨w.heap.size, 6, none⟩) (Nat.le_refl _) (.int .i64 0)).setCell (p := ⟨w.heap.size, 7, none⟩) (Nat.le_refl _) (.int .i64 (-1))).setCell (p := ⟨w.heap.size, 8, none⟩) (Nat.le_refl _) (.int .i64 0)
  replace B := ((B.put 6 (.int .i64 0)).put 7 (.int .i64 (-1))).put 8 (.int .i64 0)
  simp only [List.setIfInBounds_toArray, List.set_cons_zero, List.set_cons_succ] at B
  clear gf g6 g7 g8
  generalize World.setCell _ _ _ = v2 at *
  go_upto_region 5 with (first
    | refine wpList_load_row rfl 28 _ rfl w.heap.size rfl _ _ _ _ B Try.underlying28 rfl (by rw [hi10]; rfl) ?_
    | (go_at_call 14; (with_reducible refine (k0 _).mono ?_); rintro e v3 ⟨rfl, hb3⟩; replace hb := hb.trans (hb3.mono hb.size); replace B := B.below hb3 (Nat.le_refl _); clear hb3))
  go_cut [10, 11, 12] (fun s10 s11 s12 wx => ∃ p q r : Nat, s10 = .pointer (some ⟨p, 0, none⟩) ∧ s11 = .pointer (some ⟨q, 0, none⟩) ∧ s12 = .pointer (some ⟨r, 0, none⟩) ∧ BlkAt wx p #[.int .u32 id, .int .u32 ev, .int .i64 m, .int .i64 ch, .int .i64 ro, .int .i64 lo, .int .i64 0, .int .i64 (-1), .int .i64 0, .bool op] 28 ∧ BlkAt wx q #[.int .u32 id, .int .u32 ev, .int .i64 m, .int .i64 ch, .int .i64 ro, .int .i64 lo, .int .i64 0, .int .i64 (-1), .int .i64 0, .bool op] 28 ∧ BlkAt wx r #[.int .u32 id, .int .u32 ev, .int .i64 m, .int .i64 ch, .int .i64 ro, .int .i64 lo, .int .i64 0, .int .i64 (-1), .int .i64 0, .bool op] 28 ∧ BlkAt wx w.heap.size #[.int .u32 id, .int .u32 ev, .int .i64 m, .int .i64 ch, .int .i64 ro, .int .i64 lo, .int .i64 0, .int .i64 (-1), .int .i64 0, .bool op] 28 ∧ Below w.heap.size w wx ∧ w.heap.size < p ∧ w.heap.size < q ∧ w.heap.size < r ∧ p ≠ q ∧ p ≠ r ∧ q ≠ r)
  case first =>
    clear H1 H2 H3 k0 k1 k2 k3 ka hms
    refine wp_region_held_drew (S := (fun W => W.cell? ⟨w.heap.size, 0, none⟩ = some (.int .u32 id) ∧ W.cell? ⟨w.heap.size, 1, none⟩ = some (.int .u32 ev) ∧ W.cell? ⟨w.heap.size, 2, none⟩ = some (.int .i64 m) ∧ W.cell? ⟨w.heap.size, 3, none⟩ = some (.int .i64 ch) ∧ W.cell? ⟨w.heap.size, 4, none⟩ = some (.int .i64 ro) ∧ W.cell? ⟨w.heap.size, 5, none⟩ = some (.int .i64 lo) ∧ W.cell? ⟨w.heap.size, 6, none⟩ = some (.int .i64 0) ∧ W.cell? ⟨w.heap.size, 7, none⟩ = some (.int .i64 (-1)) ∧ W.cell? ⟨w.heap.size, 8, none⟩ = some (.int .i64 0) ∧ W.cell? ⟨w.heap.size, 9, none⟩ = some (.bool op))) (by kernel_rfl) ?_ (fun hHeld => ?_)
    · exact ⟨B.drew.cell 0, B.drew.cell 1, B.drew.cell 2, B.drew.cell 3, B.drew.cell 4, B.drew.cell 5, B.drew.cell 6, B.drew.cell 7, B.drew.cell 8, B.drew.cell 9⟩
    refine wpAnyH_take (i := 0) (v := ?_) rfl (by kernel_rfl) (by kernel_rfl) (by kernel_rfl) (fun _ _ _ h => h) (Or.inl ⟨by rfl, ?_⟩) hHeld ?_
    rotate_left
    · (intro w hSw; (try dsimp only at hSw); go_simp; try with_reducible rfl)
    try simp only [Act.put, List.getElem_toArray, List.getElem_cons_zero, List.setIfInBounds_toArray, List.set_cons_zero, List.set_cons_succ]
    refine wpAnyH_take (i := 1) (v := ?_) rfl (by kernel_rfl) (by kernel_rfl) (by kernel_rfl) (fun _ _ _ h => h) (Or.inl ⟨by rfl, ?_⟩) hHeld ?_
    rotate_left
    · (intro w hSw; (try dsimp only at hSw); go_simp; try with_reducible rfl)
    try simp only [Act.put, List.getElem_toArray, List.getElem_cons_zero, List.getElem_cons_succ, List.setIfInBounds_toArray, List.set_cons_zero, List.set_cons_succ]
    refine wpAnyH_take (i := 2) (v := ?_) rfl (by kernel_rfl) (by kernel_rfl) (by kernel_rfl) (fun _ _ _ h => h) (Or.inl ⟨by rfl, ?_⟩) hHeld ?_
    rotate_left
    · (intro w hSw; (try dsimp only at hSw); go_simp; try with_reducible rfl)
    try simp only [Act.put, List.getElem_toArray, List.getElem_cons_zero, List.getElem_cons_succ, List.setIfInBounds_toArray, List.set_cons_zero, List.set_cons_succ]
    refine wpAnyH_ready (rs := [3, 4, 5]) (by kernel_rfl) (by simp) ?_
    refine AllReadyH.cons rfl (fun K hK => ?_) (AllReadyH.cons rfl (fun K hK => ?_) (AllReadyH.cons rfl (fun K hK => ?_) AllReadyH.nil))
    · go_simp
      have X3 := BlkAt.new v3 #[.int .u32 0, .int .u32 0, .int .i64 0, .int .i64 0, .int .i64 0, .int .i64 0, .int .i64 0, .int .i64 0, .int .i64 0, .bool false] 28
      have lB3 := B.lt
      replace B := B.alloc (.cells #[.int .u32 0, .int .u32 0, .int .i64 0, .int .i64 0, .int .i64 0, .int .i64 0, .int .i64 0, .int .i64 0, .int .i64 0, .bool false] 28)
      replace hb := hb.alloc hb.size (.cells #[.int .u32 0, .int .u32 0, .int .i64 0, .int .i64 0, .int .i64 0, .int .i64 0, .int .i64 0, .int .i64 0, .int .i64 0, .bool false] 28)
      generalize World.alloc _ _ = y0 at *
      generalize hhp : World.heap v3 = hp at *
      clear hhp
      generalize hp.size = p at *
      refine hK.out _ _ ?_ (fun hHeld2 => ?_)
      · exact ⟨B.drew.cell 0, B.drew.cell 1, B.drew.cell 2, B.drew.cell 3, B.drew.cell 4, B.drew.cell 5, B.drew.cell 6, B.drew.cell 7, B.drew.cell 8, B.drew.cell 9⟩
      clear hK K hHeld
      have hHeld := hHeld2
      clear hHeld2
      try simp only [Act.put, List.setIfInBounds_toArray, List.set_cons_zero, List.set_cons_succ]
      refine wpAnyH_ready (rs := [4, 5]) (by kernel_rfl) (by simp) ?_
      refine AllReadyH.cons rfl (fun K hK => ?_) (AllReadyH.cons rfl (fun K hK => ?_) AllReadyH.nil)
      · go_simp
        have X4 := BlkAt.new y0 #[.int .u32 0, .int .u32 0, .int .i64 0, .int .i64 0, .int .i64 0, .int .i64 0, .int .i64 0, .int .i64 0, .int .i64 0, .bool false] 28
        have lB4 := B.lt
        have l34 := X3.lt
        replace B := B.alloc (.cells #[.int .u32 0, .int .u32 0, .int .i64 0, .int .i64 0, .int .i64 0, .int .i64 0, .int .i64 0, .int .i64 0, .int .i64 0, .bool false] 28)
        replace X3 := X3.alloc (.cells #[.int .u32 0, .int .u32 0, .int .i64 0, .int .i64 0, .int .i64 0, .int .i64 0, .int .i64 0, .int .i64 0, .int .i64 0, .bool false] 28)
        replace hb := hb.alloc hb.size (.cells #[.int .u32 0, .int .u32 0, .int .i64 0, .int .i64 0, .int .i64 0, .int .i64 0, .int .i64 0, .int .i64 0, .int .i64 0, .bool false] 28)
        generalize World.alloc _ _ = y1 at *
        generalize hhp : World.heap y0 = hp at *
        clear hhp
        generalize hp.size = q at *
        refine hK.out _ _ ?_ (fun hHeld2 => ?_)
        · exact ⟨B.drew.cell 0, B.drew.cell 1, B.drew.cell 2, B.drew.cell 3, B.drew.cell 4, B.drew.cell 5, B.drew.cell 6, B.drew.cell 7, B.drew.cell 8, B.drew.cell 9⟩
        clear hK K hHeld
        have hHeld := hHeld2
        clear hHeld2
        try simp only [Act.put, List.setIfInBounds_toArray, List.set_cons_zero, List.set_cons_succ]
        refine wpAnyH_ready (rs := [5]) (by kernel_rfl) (by simp) ?_
        refine AllReadyH.cons rfl (fun K hK => ?_) AllReadyH.nil
        go_simp
        have X5 := BlkAt.new y1 #[.int .u32 0, .int .u32 0, .int .i64 0, .int .i64 0, .int .i64 0, .int .i64 0, .int .i64 0, .int .i64 0, .int .i64 0, .bool false] 28
        have lB5 := B.lt
        have l35 := X3.lt
        have l45 := X4.lt
        replace B := B.alloc (.cells #[.int .u32 0, .int .u32 0, .int .i64 0, .int .i64 0, .int .i64 0, .int .i64 0, .int .i64 0, .int .i64 0, .int .i64 0, .bool false] 28)
        replace X3 := X3.alloc (.cells #[.int .u32 0, .int .u32 0, .int .i64 0, .int .i64 0, .int .i64 0, .int .i64 0, .int .i64 0, .int .i64 0, .int .i64 0, .bool false] 28)
        replace X4 := X4.alloc (.cells #[.int .u32 0, .int .u32 0, .int .i64 0, .int .i64 0, .int .i64 0, .int .i64 0, .int .i64 0, .int .i64 0, .int .i64 0, .bool false] 28)
        replace hb := hb.alloc hb.size (.cells #[.int .u32 0, .int .u32 0, .int .i64 0, .int .i64 0, .int .i64 0, .int .i64 0, .int .i64 0, .int .i64 0, .int .i64 0, .bool false] 28)
        generalize World.alloc _ _ = y2 at *
        generalize hhp : World.heap y1 = hp at *
        clear hhp
        generalize hp.size = r at *
        refine hK.out _ _ ?_ (fun hHeld2 => ?_)
        · exact ⟨B.drew.cell 0, B.drew.cell 1, B.drew.cell 2, B.drew.cell 3, B.drew.cell 4, B.drew.cell 5, B.drew.cell 6, B.drew.cell 7, B.drew.cell 8, B.drew.cell 9⟩
        clear hK K hHeld
        have hHeld := hHeld2
        clear hHeld2
        try simp only [Act.put, List.setIfInBounds_toArray, List.set_cons_zero, List.set_cons_succ]
        refine wpAnyH_ready (rs := [6]) (by kernel_rfl) (by simp) ?_
        refine AllReadyH.cons rfl (fun K hK => ?_) AllReadyH.nil
        rw [if_pos (by rfl)]
        refine wp_store_row _ _ _ rfl p #[.int .u32 id, .int .u32 ev, .int .i64 m, .int .i64 ch, .int .i64 ro, .int .i64 lo, .int .i64 0, .int .i64 (-1), .int .i64 0, .bool op] rfl rfl _ _ X3.drew (by rw [hi10]; rfl) rfl (by simp [Value.oneCell']) ?_
        replace B := B.drew
        replace X3 := X3.drew
        replace X4 := X4.drew
        replace X5 := X5.drew
        replace hb := hb.drew
        replace hb := below_setRow hb (show w.heap.size ≤ p by omega) #[.int .u32 id, .int .u32 ev, .int .i64 m, .int .i64 ch, .int .i64 ro, .int .i64 lo, .int .i64 0, .int .i64 (-1), .int .i64 0, .bool op]
        replace B := B.setOther (q := p) (ds := #[.int .u32 id, .int .u32 ev, .int .i64 m, .int .i64 ch, .int .i64 ro, .int .i64 lo, .int .i64 0, .int .i64 (-1), .int .i64 0, .bool op]) (by omega)
        replace X4 := X4.setOther (q := p) (ds := #[.int .u32 id, .int .u32 ev, .int .i64 m, .int .i64 ch, .int .i64 ro, .int .i64 lo, .int .i64 0, .int .i64 (-1), .int .i64 0, .bool op]) (by omega)
        replace X5 := X5.setOther (q := p) (ds := #[.int .u32 id, .int .u32 ev, .int .i64 m, .int .i64 ch, .int .i64 ro, .int .i64 lo, .int .i64 0, .int .i64 (-1), .int .i64 0, .bool op]) (by omega)
        replace X3 := X3.setRow (cs := #[.int .u32 id, .int .u32 ev, .int .i64 m, .int .i64 ch, .int .i64 ro, .int .i64 lo, .int .i64 0, .int .i64 (-1), .int .i64 0, .bool op])
        generalize World.setRow _ _ _ = s0 at *
        refine hK.out _ _ ?_ (fun hHeld2 => ?_)
        · exact ⟨B.cell 0, B.cell 1, B.cell 2, B.cell 3, B.cell 4, B.cell 5, B.cell 6, B.cell 7, B.cell 8, B.cell 9⟩
        clear hK K hHeld
        have hHeld := hHeld2
        clear hHeld2
        try simp only [Act.put, List.setIfInBounds_toArray]
        try simp only [List.getElem_toArray, List.getElem_cons_zero, List.getElem_cons_succ]
        refine wpAnyH_ready (rs := [7]) (by kernel_rfl) (by simp) ?_
        refine AllReadyH.cons rfl (fun K hK => ?_) AllReadyH.nil
        rw [if_pos (by rfl)]
        refine wp_store_row _ _ _ rfl q #[.int .u32 id, .int .u32 ev, .int .i64 m, .int .i64 ch, .int .i64 ro, .int .i64 lo, .int .i64 0, .int .i64 (-1), .int .i64 0, .bool op] rfl rfl _ _ X4 (by rw [hi10]; rfl) rfl (by simp [Value.oneCell']) ?_
        replace hb := below_setRow hb (show w.heap.size ≤ q by omega) #[.int .u32 id, .int .u32 ev, .int .i64 m, .int .i64 ch, .int .i64 ro, .int .i64 lo, .int .i64 0, .int .i64 (-1), .int .i64 0, .bool op]
        replace B := B.setOther (q := q) (ds := #[.int .u32 id, .int .u32 ev, .int .i64 m, .int .i64 ch, .int .i64 ro, .int .i64 lo, .int .i64 0, .int .i64 (-1), .int .i64 0, .bool op]) (by omega)
        replace X3 := X3.setOther (q := q) (ds := #[.int .u32 id, .int .u32 ev, .int .i64 m, .int .i64 ch, .int .i64 ro, .int .i64 lo, .int .i64 0, .int .i64 (-1), .int .i64 0, .bool op]) (by omega)
        replace X5 := X5.setOther (q := q) (ds := #[.int .u32 id, .int .u32 ev, .int .i64 m, .int .i64 ch, .int .i64 ro, .int .i64 lo, .int .i64 0, .int .i64 (-1), .int .i64 0, .bool op]) (by omega)
        replace X4 := X4.setRow (cs := #[.int .u32 id, .int .u32 ev, .int .i64 m, .int .i64 ch, .int .i64 ro, .int .i64 lo, .int .i64 0, .int .i64 (-1), .int .i64 0, .bool op])
        generalize World.setRow _ _ _ = s1 at *
        refine hK.out _ _ ?_ (fun hHeld2 => ?_)
        · exact ⟨B.cell 0, B.cell 1, B.cell 2, B.cell 3, B.cell 4, B.cell 5, B.cell 6, B.cell 7, B.cell 8, B.cell 9⟩
        clear hK K hHeld
        have hHeld := hHeld2
        clear hHeld2
        try simp only [Act.put, List.setIfInBounds_toArray]
        try simp only [List.getElem_toArray, List.getElem_cons_zero, List.getElem_cons_succ]
        refine wpAnyH_ready (rs := [8]) (by kernel_rfl) (by simp) ?_
        refine AllReadyH.cons rfl (fun K hK => ?_) AllReadyH.nil
        rw [if_pos (by rfl)]
        refine wp_store_row _ _ _ rfl r #[.int .u32 id, .int .u32 ev, .int .i64 m, .int .i64 ch, .int .i64 ro, .int .i64 lo, .int .i64 0, .int .i64 (-1), .int .i64 0, .bool op] rfl rfl _ _ X5 (by rw [hi10]; rfl) rfl (by simp [Value.oneCell']) ?_
        replace hb := below_setRow hb (show w.heap.size ≤ r by omega) #[.int .u32 id, .int .u32 ev, .int .i64 m, .int .i64 ch, .int .i64 ro, .int .i64 lo, .int .i64 0, .int .i64 (-1), .int .i64 0, .bool op]
        replace B := B.setOther (q := r) (ds := #[.int .u32 id, .int .u32 ev, .int .i64 m, .int .i64 ch, .int .i64 ro, .int .i64 lo, .int .i64 0, .int .i64 (-1), .int .i64 0, .bool op]) (by omega)
        replace X3 := X3.setOther (q := r) (ds := #[.int .u32 id, .int .u32 ev, .int .i64 m, .int .i64 ch, .int .i64 ro, .int .i64 lo, .int .i64 0, .int .i64 (-1), .int .i64 0, .bool op]) (by omega)
        replace X4 := X4.setOther (q := r) (ds := #[.int .u32 id, .int .u32 ev, .int .i64 m, .int .i64 ch, .int .i64 ro, .int .i64 lo, .int .i64 0, .int .i64 (-1), .int .i64 0, .bool op]) (by omega)
        replace X5 := X5.setRow (cs := #[.int .u32 id, .int .u32 ev, .int .i64 m, .int .i64 ch, .int .i64 ro, .int .i64 lo, .int .i64 0, .int .i64 (-1), .int .i64 0, .bool op])
        generalize World.setRow _ _ _ = s2 at *
        refine hK.out _ _ ?_ (fun hHeld2 => ?_)
        · exact ⟨B.cell 0, B.cell 1, B.cell 2, B.cell 3, B.cell 4, B.cell 5, B.cell 6, B.cell 7, B.cell 8, B.cell 9⟩
        clear hK K hHeld
        have hHeld := hHeld2
        clear hHeld2
        try simp only [Act.put, List.setIfInBounds_toArray]
        try simp only [List.getElem_toArray, List.getElem_cons_zero, List.getElem_cons_succ]
        refine wpAnyH_done (by kernel_rfl) ?_ _
        go_wp2
        go_meet
        exact ⟨p, q, r, rfl, rfl, rfl, X3, X4, X5, B, hb, by omega, by omega, by omega, by omega, by omega, by omega⟩
      · go_simp
        have X5 := BlkAt.new y0 #[.int .u32 0, .int .u32 0, .int .i64 0, .int .i64 0, .int .i64 0, .int .i64 0, .int .i64 0, .int .i64 0, .int .i64 0, .bool false] 28
        have lB5 := B.lt
        have l35 := X3.lt
        replace B := B.alloc (.cells #[.int .u32 0, .int .u32 0, .int .i64 0, .int .i64 0, .int .i64 0, .int .i64 0, .int .i64 0, .int .i64 0, .int .i64 0, .bool false] 28)
        replace X3 := X3.alloc (.cells #[.int .u32 0, .int .u32 0, .int .i64 0, .int .i64 0, .int .i64 0, .int .i64 0, .int .i64 0, .int .i64 0, .int .i64 0, .bool false] 28)
        replace hb := hb.alloc hb.size (.cells #[.int .u32 0, .int .u32 0, .int .i64 0, .int .i64 0, .int .i64 0, .int .i64 0, .int .i64 0, .int .i64 0, .int .i64 0, .bool false] 28)
        generalize World.alloc _ _ = y1 at *
        generalize hhp : World.heap y0 = hp at *
        clear hhp
        generalize hp.size = r at *
        refine hK.out _ _ ?_ (fun hHeld2 => ?_)
        · exact ⟨B.drew.cell 0, B.drew.cell 1, B.drew.cell 2, B.drew.cell 3, B.drew.cell 4, B.drew.cell 5, B.drew.cell 6, B.drew.cell 7, B.drew.cell 8, B.drew.cell 9⟩
        clear hK K hHeld
        have hHeld := hHeld2
        clear hHeld2
        try simp only [Act.put, List.setIfInBounds_toArray, List.set_cons_zero, List.set_cons_succ]
        refine wpAnyH_ready (rs := [4]) (by kernel_rfl) (by simp) ?_
        refine AllReadyH.cons rfl (fun K hK => ?_) AllReadyH.nil
        go_simp
        have X4 := BlkAt.new y1 #[.int .u32 0, .int .u32 0, .int .i64 0, .int .i64 0, .int .i64 0, .int .i64 0, .int .i64 0, .int .i64 0, .int .i64 0, .bool false] 28
        have lB4 := B.lt
        have l34 := X3.lt
        have l54 := X5.lt
        replace B := B.alloc (.cells #[.int .u32 0, .int .u32 0, .int .i64 0, .int .i64 0, .int .i64 0, .int .i64 0, .int .i64 0, .int .i64 0, .int .i64 0, .bool false] 28)
        replace X3 := X3.alloc (.cells #[.int .u32 0, .int .u32 0, .int .i64 0, .int .i64 0, .int .i64 0, .int .i64 0, .int .i64 0, .int .i64 0, .int .i64 0, .bool false] 28)
        replace X5 := X5.alloc (.cells #[.int .u32 0, .int .u32 0, .int .i64 0, .int .i64 0, .int .i64 0, .int .i64 0, .int .i64 0, .int .i64 0, .int .i64 0, .bool false] 28)
        replace hb := hb.alloc hb.size (.cells #[.int .u32 0, .int .u32 0, .int .i64 0, .int .i64 0, .int .i64 0, .int .i64 0, .int .i64 0, .int .i64 0, .int .i64 0, .bool false] 28)
        generalize World.alloc _ _ = y2 at *
        generalize hhp : World.heap y1 = hp at *
        clear hhp
        generalize hp.size = q at *
        refine hK.out _ _ ?_ (fun hHeld2 => ?_)
        · exact ⟨B.drew.cell 0, B.drew.cell 1, B.drew.cell 2, B.drew.cell 3, B.drew.cell 4, B.drew.cell 5, B.drew.cell 6, B.drew.cell 7, B.drew.cell 8, B.drew.cell 9⟩
        clear hK K hHeld
        have hHeld := hHeld2
        clear hHeld2
        try simp only [Act.put, List.setIfInBounds_toArray, List.set_cons_zero, List.set_cons_succ]
        refine wpAnyH_ready (rs := [6]) (by kernel_rfl) (by simp) ?_
        refine AllReadyH.cons rfl (fun K hK => ?_) AllReadyH.nil
        rw [if_pos (by rfl)]
        refine wp_store_row _ _ _ rfl p #[.int .u32 id, .int .u32 ev, .int .i64 m, .int .i64 ch, .int .i64 ro, .int .i64 lo, .int .i64 0, .int .i64 (-1), .int .i64 0, .bool op] rfl rfl _ _ X3.drew (by rw [hi10]; rfl) rfl (by simp [Value.oneCell']) ?_
        replace B := B.drew
        replace X3 := X3.drew
        replace X4 := X4.drew
        replace X5 := X5.drew
        replace hb := hb.drew
        replace hb := below_setRow hb (show w.heap.size ≤ p by omega) #[.int .u32 id, .int .u32 ev, .int .i64 m, .int .i64 ch, .int .i64 ro, .int .i64 lo, .int .i64 0, .int .i64 (-1), .int .i64 0, .bool op]
        replace B := B.setOther (q := p) (ds := #[.int .u32 id, .int .u32 ev, .int .i64 m, .int .i64 ch, .int .i64 ro, .int .i64 lo, .int .i64 0, .int .i64 (-1), .int .i64 0, .bool op]) (by omega)
        replace X4 := X4.setOther (q := p) (ds := #[.int .u32 id, .int .u32 ev, .int .i64 m, .int .i64 ch, .int .i64 ro, .int .i64 lo, .int .i64 0, .int .i64 (-1), .int .i64 0, .bool op]) (by omega)
        replace X5 := X5.setOther (q := p) (ds := #[.int .u32 id, .int .u32 ev, .int .i64 m, .int .i64 ch, .int .i64 ro, .int .i64 lo, .int .i64 0, .int .i64 (-1), .int .i64 0, .bool op]) (by omega)
        replace X3 := X3.setRow (cs := #[.int .u32 id, .int .u32 ev, .int .i64 m, .int .i64 ch, .int .i64 ro, .int .i64 lo, .int .i64 0, .int .i64 (-1), .int .i64 0, .bool op])
        generalize World.setRow _ _ _ = s0 at *
        refine hK.out _ _ ?_ (fun hHeld2 => ?_)
        · exact ⟨B.cell 0, B.cell 1, B.cell 2, B.cell 3, B.cell 4, B.cell 5, B.cell 6, B.cell 7, B.cell 8, B.cell 9⟩
        clear hK K hHeld
        have hHeld := hHeld2
        clear hHeld2
        try simp only [Act.put, List.setIfInBounds_toArray]
        try simp only [List.getElem_toArray, List.getElem_cons_zero, List.getElem_cons_succ]
        refine wpAnyH_ready (rs := [7]) (by kernel_rfl) (by simp) ?_
        refine AllReadyH.cons rfl (fun K hK => ?_) AllReadyH.nil
        rw [if_pos (by rfl)]
        refine wp_store_row _ _ _ rfl q #[.int .u32 id, .int .u32 ev, .int .i64 m, .int .i64 ch, .int .i64 ro, .int .i64 lo, .int .i64 0, .int .i64 (-1), .int .i64 0, .bool op] rfl rfl _ _ X4 (by rw [hi10]; rfl) rfl (by simp [Value.oneCell']) ?_
        replace hb := below_setRow hb (show w.heap.size ≤ q by omega) #[.int .u32 id, .int .u32 ev, .int .i64 m, .int .i64 ch, .int .i64 ro, .int .i64 lo, .int .i64 0, .int .i64 (-1), .int .i64 0, .bool op]
        replace B := B.setOther (q := q) (ds := #[.int .u32 id, .int .u32 ev, .int .i64 m, .int .i64 ch, .int .i64 ro, .int .i64 lo, .int .i64 0, .int .i64 (-1), .int .i64 0, .bool op]) (by omega)
        replace X3 := X3.setOther (q := q) (ds := #[.int .u32 id, .int .u32 ev, .int .i64 m, .int .i64 ch, .int .i64 ro, .int .i64 lo, .int .i64 0, .int .i64 (-1), .int .i64 0, .bool op]) (by omega)
        replace X5 := X5.setOther (q := q) (ds := #[.int .u32 id, .int .u32 ev, .int .i64 m, .int .i64 ch, .int .i64 ro, .int .i64 lo, .int .i64 0, .int .i64 (-1), .int .i64 0, .bool op]) (by omega)
        replace X4 := X4.setRow (cs := #[.int .u32 id, .int .u32 ev, .int .i64 m, .int .i64 ch, .int .i64 ro, .int .i64 lo, .int .i64 0, .int .i64 (-1), .int .i64 0, .bool op])
        generalize World.setRow _ _ _ = s1 at *
        refine hK.out _ _ ?_ (fun hHeld2 => ?_)
        · exact ⟨B.cell 0, B.cell 1, B.cell 2, B.cell 3, B.cell 4, B.cell 5, B.cell 6, B.cell 7, B.cell 8, B.cell 9⟩
        clear hK K hHeld
        have hHeld := hHeld2
        clear hHeld2
        try simp only [Act.put, List.setIfInBounds_toArray]
        try simp only [List.getElem_toArray, List.getElem_cons_zero, List.getElem_cons_succ]
        refine wpAnyH_ready (rs := [8]) (by kernel_rfl) (by simp) ?_
        refine AllReadyH.cons rfl (fun K hK => ?_) AllReadyH.nil
        rw [if_pos (by rfl)]
        refine wp_store_row _ _ _ rfl r #[.int .u32 id, .int .u32 ev, .int .i64 m, .int .i64 ch, .int .i64 ro, .int .i64 lo, .int .i64 0, .int .i64 (-1), .int .i64 0, .bool op] rfl rfl _ _ X5 (by rw [hi10]; rfl) rfl (by simp [Value.oneCell']) ?_
        replace hb := below_setRow hb (show w.heap.size ≤ r by omega) #[.int .u32 id, .int .u32 ev, .int .i64 m, .int .i64 ch, .int .i64 ro, .int .i64 lo, .int .i64 0, .int .i64 (-1), .int .i64 0, .bool op]
        replace B := B.setOther (q := r) (ds := #[.int .u32 id, .int .u32 ev, .int .i64 m, .int .i64 ch, .int .i64 ro, .int .i64 lo, .int .i64 0, .int .i64 (-1), .int .i64 0, .bool op]) (by omega)
        replace X3 := X3.setOther (q := r) (ds := #[.int .u32 id, .int .u32 ev, .int .i64 m, .int .i64 ch, .int .i64 ro, .int .i64 lo, .int .i64 0, .int .i64 (-1), .int .i64 0, .bool op]) (by omega)
        replace X4 := X4.setOther (q := r) (ds := #[.int .u32 id, .int .u32 ev, .int .i64 m, .int .i64 ch, .int .i64 ro, .int .i64 lo, .int .i64 0, .int .i64 (-1), .int .i64 0, .bool op]) (by omega)
        replace X5 := X5.setRow (cs := #[.int .u32 id, .int .u32 ev, .int .i64 m, .int .i64 ch, .int .i64 ro, .int .i64 lo, .int .i64 0, .int .i64 (-1), .int .i64 0, .bool op])
        generalize World.setRow _ _ _ = s2 at *
        refine hK.out _ _ ?_ (fun hHeld2 => ?_)
        · exact ⟨B.cell 0, B.cell 1, B.cell 2, B.cell 3, B.cell 4, B.cell 5, B.cell 6, B.cell 7, B.cell 8, B.cell 9⟩
        clear hK K hHeld
        have hHeld := hHeld2
        clear hHeld2
        try simp only [Act.put, List.setIfInBounds_toArray]
        try simp only [List.getElem_toArray, List.getElem_cons_zero, List.getElem_cons_succ]
        refine wpAnyH_done (by kernel_rfl) ?_ _
        go_wp2
        go_meet
        exact ⟨p, q, r, rfl, rfl, rfl, X3, X4, X5, B, hb, by omega, by omega, by omega, by omega, by omega, by omega⟩
    · go_simp
      have X4 := BlkAt.new v3 #[.int .u32 0, .int .u32 0, .int .i64 0, .int .i64 0, .int .i64 0, .int .i64 0, .int .i64 0, .int .i64 0, .int .i64 0, .bool false] 28
      have lB4 := B.lt
      replace B := B.alloc (.cells #[.int .u32 0, .int .u32 0, .int .i64 0, .int .i64 0, .int .i64 0, .int .i64 0, .int .i64 0, .int .i64 0, .int .i64 0, .bool false] 28)
      replace hb := hb.alloc hb.size (.cells #[.int .u32 0, .int .u32 0, .int .i64 0, .int .i64 0, .int .i64 0, .int .i64 0, .int .i64 0, .int .i64 0, .int .i64 0, .bool false] 28)
      generalize World.alloc _ _ = y0 at *
      generalize hhp : World.heap v3 = hp at *
      clear hhp
      generalize hp.size = q at *
      refine hK.out _ _ ?_ (fun hHeld2 => ?_)
      · exact ⟨B.drew.cell 0, B.drew.cell 1, B.drew.cell 2, B.drew.cell 3, B.drew.cell 4, B.drew.cell 5, B.drew.cell 6, B.drew.cell 7, B.drew.cell 8, B.drew.cell 9⟩
      clear hK K hHeld
      have hHeld := hHeld2
      clear hHeld2
      try simp only [Act.put, List.setIfInBounds_toArray, List.set_cons_zero, List.set_cons_succ]
      refine wpAnyH_ready (rs := [3, 5]) (by kernel_rfl) (by simp) ?_
      refine AllReadyH.cons rfl (fun K hK => ?_) (AllReadyH.cons rfl (fun K hK => ?_) AllReadyH.nil)
      · go_simp
        have X3 := BlkAt.new y0 #[.int .u32 0, .int .u32 0, .int .i64 0, .int .i64 0, .int .i64 0, .int .i64 0, .int .i64 0, .int .i64 0, .int .i64 0, .bool false] 28
        have lB3 := B.lt
        have l43 := X4.lt
        replace B := B.alloc (.cells #[.int .u32 0, .int .u32 0, .int .i64 0, .int .i64 0, .int .i64 0, .int .i64 0, .int .i64 0, .int .i64 0, .int .i64 0, .bool false] 28)
        replace X4 := X4.alloc (.cells #[.int .u32 0, .int .u32 0, .int .i64 0, .int .i64 0, .int .i64 0, .int .i64 0, .int .i64 0, .int .i64 0, .int .i64 0, .bool false] 28)
        replace hb := hb.alloc hb.size (.cells #[.int .u32 0, .int .u32 0, .int .i64 0, .int .i64 0, .int .i64 0, .int .i64 0, .int .i64 0, .int .i64 0, .int .i64 0, .bool false] 28)
        generalize World.alloc _ _ = y1 at *
        generalize hhp : World.heap y0 = hp at *
        clear hhp
        generalize hp.size = p at *
        refine hK.out _ _ ?_ (fun hHeld2 => ?_)
        · exact ⟨B.drew.cell 0, B.drew.cell 1, B.drew.cell 2, B.drew.cell 3, B.drew.cell 4, B.drew.cell 5, B.drew.cell 6, B.drew.cell 7, B.drew.cell 8, B.drew.cell 9⟩
        clear hK K hHeld
        have hHeld := hHeld2
        clear hHeld2
        try simp only [Act.put, List.setIfInBounds_toArray, List.set_cons_zero, List.set_cons_succ]
        refine wpAnyH_ready (rs := [5]) (by kernel_rfl) (by simp) ?_
        refine AllReadyH.cons rfl (fun K hK => ?_) AllReadyH.nil
        go_simp
        have X5 := BlkAt.new y1 #[.int .u32 0, .int .u32 0, .int .i64 0, .int .i64 0, .int .i64 0, .int .i64 0, .int .i64 0, .int .i64 0, .int .i64 0, .bool false] 28
        have lB5 := B.lt
        have l45 := X4.lt
        have l35 := X3.lt
        replace B := B.alloc (.cells #[.int .u32 0, .int .u32 0, .int .i64 0, .int .i64 0, .int .i64 0, .int .i64 0, .int .i64 0, .int .i64 0, .int .i64 0, .bool false] 28)
        replace X4 := X4.alloc (.cells #[.int .u32 0, .int .u32 0, .int .i64 0, .int .i64 0, .int .i64 0, .int .i64 0, .int .i64 0, .int .i64 0, .int .i64 0, .bool false] 28)
        replace X3 := X3.alloc (.cells #[.int .u32 0, .int .u32 0, .int .i64 0, .int .i64 0, .int .i64 0, .int .i64 0, .int .i64 0, .int .i64 0, .int .i64 0, .bool false] 28)
        replace hb := hb.alloc hb.size (.cells #[.int .u32 0, .int .u32 0, .int .i64 0, .int .i64 0, .int .i64 0, .int .i64 0, .int .i64 0, .int .i64 0, .int .i64 0, .bool false] 28)
        generalize World.alloc _ _ = y2 at *
        generalize hhp : World.heap y1 = hp at *
        clear hhp
        generalize hp.size = r at *
        refine hK.out _ _ ?_ (fun hHeld2 => ?_)
        · exact ⟨B.drew.cell 0, B.drew.cell 1, B.drew.cell 2, B.drew.cell 3, B.drew.cell 4, B.drew.cell 5, B.drew.cell 6, B.drew.cell 7, B.drew.cell 8, B.drew.cell 9⟩
        clear hK K hHeld
        have hHeld := hHeld2
        clear hHeld2
        try simp only [Act.put, List.setIfInBounds_toArray, List.set_cons_zero, List.set_cons_succ]
        refine wpAnyH_ready (rs := [6]) (by kernel_rfl) (by simp) ?_
        refine AllReadyH.cons rfl (fun K hK => ?_) AllReadyH.nil
        rw [if_pos (by rfl)]
        refine wp_store_row _ _ _ rfl p #[.int .u32 id, .int .u32 ev, .int .i64 m, .int .i64 ch, .int .i64 ro, .int .i64 lo, .int .i64 0, .int .i64 (-1), .int .i64 0, .bool op] rfl rfl _ _ X3.drew (by rw [hi10]; rfl) rfl (by simp [Value.oneCell']) ?_
        replace B := B.drew
        replace X3 := X3.drew
        replace X4 := X4.drew
        replace X5 := X5.drew
        replace hb := hb.drew
        replace hb := below_setRow hb (show w.heap.size ≤ p by omega) #[.int .u32 id, .int .u32 ev, .int .i64 m, .int .i64 ch, .int .i64 ro, .int .i64 lo, .int .i64 0, .int .i64 (-1), .int .i64 0, .bool op]
        replace B := B.setOther (q := p) (ds := #[.int .u32 id, .int .u32 ev, .int .i64 m, .int .i64 ch, .int .i64 ro, .int .i64 lo, .int .i64 0, .int .i64 (-1), .int .i64 0, .bool op]) (by omega)
        replace X4 := X4.setOther (q := p) (ds := #[.int .u32 id, .int .u32 ev, .int .i64 m, .int .i64 ch, .int .i64 ro, .int .i64 lo, .int .i64 0, .int .i64 (-1), .int .i64 0, .bool op]) (by omega)
        replace X5 := X5.setOther (q := p) (ds := #[.int .u32 id, .int .u32 ev, .int .i64 m, .int .i64 ch, .int .i64 ro, .int .i64 lo, .int .i64 0, .int .i64 (-1), .int .i64 0, .bool op]) (by omega)
        replace X3 := X3.setRow (cs := #[.int .u32 id, .int .u32 ev, .int .i64 m, .int .i64 ch, .int .i64 ro, .int .i64 lo, .int .i64 0, .int .i64 (-1), .int .i64 0, .bool op])
        generalize World.setRow _ _ _ = s0 at *
        refine hK.out _ _ ?_ (fun hHeld2 => ?_)
        · exact ⟨B.cell 0, B.cell 1, B.cell 2, B.cell 3, B.cell 4, B.cell 5, B.cell 6, B.cell 7, B.cell 8, B.cell 9⟩
        clear hK K hHeld
        have hHeld := hHeld2
        clear hHeld2
        try simp only [Act.put, List.setIfInBounds_toArray]
        try simp only [List.getElem_toArray, List.getElem_cons_zero, List.getElem_cons_succ]
        refine wpAnyH_ready (rs := [7]) (by kernel_rfl) (by simp) ?_
        refine AllReadyH.cons rfl (fun K hK => ?_) AllReadyH.nil
        rw [if_pos (by rfl)]
        refine wp_store_row _ _ _ rfl q #[.int .u32 id, .int .u32 ev, .int .i64 m, .int .i64 ch, .int .i64 ro, .int .i64 lo, .int .i64 0, .int .i64 (-1), .int .i64 0, .bool op] rfl rfl _ _ X4 (by rw [hi10]; rfl) rfl (by simp [Value.oneCell']) ?_
        replace hb := below_setRow hb (show w.heap.size ≤ q by omega) #[.int .u32 id, .int .u32 ev, .int .i64 m, .int .i64 ch, .int .i64 ro, .int .i64 lo, .int .i64 0, .int .i64 (-1), .int .i64 0, .bool op]
        replace B := B.setOther (q := q) (ds := #[.int .u32 id, .int .u32 ev, .int .i64 m, .int .i64 ch, .int .i64 ro, .int .i64 lo, .int .i64 0, .int .i64 (-1), .int .i64 0, .bool op]) (by omega)
        replace X3 := X3.setOther (q := q) (ds := #[.int .u32 id, .int .u32 ev, .int .i64 m, .int .i64 ch, .int .i64 ro, .int .i64 lo, .int .i64 0, .int .i64 (-1), .int .i64 0, .bool op]) (by omega)
        replace X5 := X5.setOther (q := q) (ds := #[.int .u32 id, .int .u32 ev, .int .i64 m, .int .i64 ch, .int .i64 ro, .int .i64 lo, .int .i64 0, .int .i64 (-1), .int .i64 0, .bool op]) (by omega)
        replace X4 := X4.setRow (cs := #[.int .u32 id, .int .u32 ev, .int .i64 m, .int .i64 ch, .int .i64 ro, .int .i64 lo, .int .i64 0, .int .i64 (-1), .int .i64 0, .bool op])
        generalize World.setRow _ _ _ = s1 at *
        refine hK.out _ _ ?_ (fun hHeld2 => ?_)
        · exact ⟨B.cell 0, B.cell 1, B.cell 2, B.cell 3, B.cell 4, B.cell 5, B.cell 6, B.cell 7, B.cell 8, B.cell 9⟩
        clear hK K hHeld
        have hHeld := hHeld2
        clear hHeld2
        try simp only [Act.put, List.setIfInBounds_toArray]
        try simp only [List.getElem_toArray, List.getElem_cons_zero, List.getElem_cons_succ]
        refine wpAnyH_ready (rs := [8]) (by kernel_rfl) (by simp) ?_
        refine AllReadyH.cons rfl (fun K hK => ?_) AllReadyH.nil
        rw [if_pos (by rfl)]
        refine wp_store_row _ _ _ rfl r #[.int .u32 id, .int .u32 ev, .int .i64 m, .int .i64 ch, .int .i64 ro, .int .i64 lo, .int .i64 0, .int .i64 (-1), .int .i64 0, .bool op] rfl rfl _ _ X5 (by rw [hi10]; rfl) rfl (by simp [Value.oneCell']) ?_
        replace hb := below_setRow hb (show w.heap.size ≤ r by omega) #[.int .u32 id, .int .u32 ev, .int .i64 m, .int .i64 ch, .int .i64 ro, .int .i64 lo, .int .i64 0, .int .i64 (-1), .int .i64 0, .bool op]
        replace B := B.setOther (q := r) (ds := #[.int .u32 id, .int .u32 ev, .int .i64 m, .int .i64 ch, .int .i64 ro, .int .i64 lo, .int .i64 0, .int .i64 (-1), .int .i64 0, .bool op]) (by omega)
        replace X3 := X3.setOther (q := r) (ds := #[.int .u32 id, .int .u32 ev, .int .i64 m, .int .i64 ch, .int .i64 ro, .int .i64 lo, .int .i64 0, .int .i64 (-1), .int .i64 0, .bool op]) (by omega)
        replace X4 := X4.setOther (q := r) (ds := #[.int .u32 id, .int .u32 ev, .int .i64 m, .int .i64 ch, .int .i64 ro, .int .i64 lo, .int .i64 0, .int .i64 (-1), .int .i64 0, .bool op]) (by omega)
        replace X5 := X5.setRow (cs := #[.int .u32 id, .int .u32 ev, .int .i64 m, .int .i64 ch, .int .i64 ro, .int .i64 lo, .int .i64 0, .int .i64 (-1), .int .i64 0, .bool op])
        generalize World.setRow _ _ _ = s2 at *
        refine hK.out _ _ ?_ (fun hHeld2 => ?_)
        · exact ⟨B.cell 0, B.cell 1, B.cell 2, B.cell 3, B.cell 4, B.cell 5, B.cell 6, B.cell 7, B.cell 8, B.cell 9⟩
        clear hK K hHeld
        have hHeld := hHeld2
        clear hHeld2
        try simp only [Act.put, List.setIfInBounds_toArray]
        try simp only [List.getElem_toArray, List.getElem_cons_zero, List.getElem_cons_succ]
        refine wpAnyH_done (by kernel_rfl) ?_ _
        go_wp2
        go_meet
        exact ⟨p, q, r, rfl, rfl, rfl, X3, X4, X5, B, hb, by omega, by omega, by omega, by omega, by omega, by omega⟩
      · go_simp
        have X5 := BlkAt.new y0 #[.int .u32 0, .int .u32 0, .int .i64 0, .int .i64 0, .int .i64 0, .int .i64 0, .int .i64 0, .int .i64 0, .int .i64 0, .bool false] 28
        have lB5 := B.lt
        have l45 := X4.lt
        replace B := B.alloc (.cells #[.int .u32 0, .int .u32 0, .int .i64 0, .int .i64 0, .int .i64 0, .int .i64 0, .int .i64 0, .int .i64 0, .int .i64 0, .bool false] 28)
        replace X4 := X4.alloc (.cells #[.int .u32 0, .int .u32 0, .int .i64 0, .int .i64 0, .int .i64 0, .int .i64 0, .int .i64 0, .int .i64 0, .int .i64 0, .bool false] 28)
        replace hb := hb.alloc hb.size (.cells #[.int .u32 0, .int .u32 0, .int .i64 0, .int .i64 0, .int .i64 0, .int .i64 0, .int .i64 0, .int .i64 0, .int .i64 0, .bool false] 28)
        generalize World.alloc _ _ = y1 at *
        generalize hhp : World.heap y0 = hp at *
        clear hhp
        generalize hp.size = r at *
        refine hK.out _ _ ?_ (fun hHeld2 => ?_)
        · exact ⟨B.drew.cell 0, B.drew.cell 1, B.drew.cell 2, B.drew.cell 3, B.drew.cell 4, B.drew.cell 5, B.drew.cell 6, B.drew.cell 7, B.drew.cell 8, B.drew.cell 9⟩
        clear hK K hHeld
        have hHeld := hHeld2
        clear hHeld2
        try simp only [Act.put, List.setIfInBounds_toArray, List.set_cons_zero, List.set_cons_succ]
        refine wpAnyH_ready (rs := [3]) (by kernel_rfl) (by simp) ?_
        refine AllReadyH.cons rfl (fun K hK => ?_) AllReadyH.nil
        go_simp
        have X3 := BlkAt.new y1 #[.int .u32 0, .int .u32 0, .int .i64 0, .int .i64 0, .int .i64 0, .int .i64 0, .int .i64 0, .int .i64 0, .int .i64 0, .bool false] 28
        have lB3 := B.lt
        have l43 := X4.lt
        have l53 := X5.lt
        replace B := B.alloc (.cells #[.int .u32 0, .int .u32 0, .int .i64 0, .int .i64 0, .int .i64 0, .int .i64 0, .int .i64 0, .int .i64 0, .int .i64 0, .bool false] 28)
        replace X4 := X4.alloc (.cells #[.int .u32 0, .int .u32 0, .int .i64 0, .int .i64 0, .int .i64 0, .int .i64 0, .int .i64 0, .int .i64 0, .int .i64 0, .bool false] 28)
        replace X5 := X5.alloc (.cells #[.int .u32 0, .int .u32 0, .int .i64 0, .int .i64 0, .int .i64 0, .int .i64 0, .int .i64 0, .int .i64 0, .int .i64 0, .bool false] 28)
        replace hb := hb.alloc hb.size (.cells #[.int .u32 0, .int .u32 0, .int .i64 0, .int .i64 0, .int .i64 0, .int .i64 0, .int .i64 0, .int .i64 0, .int .i64 0, .bool false] 28)
        generalize World.alloc _ _ = y2 at *
        generalize hhp : World.heap y1 = hp at *
        clear hhp
        generalize hp.size = p at *
        refine hK.out _ _ ?_ (fun hHeld2 => ?_)
        · exact ⟨B.drew.cell 0, B.drew.cell 1, B.drew.cell 2, B.drew.cell 3, B.drew.cell 4, B.drew.cell 5, B.drew.cell 6, B.drew.cell 7, B.drew.cell 8, B.drew.cell 9⟩
        clear hK K hHeld
        have hHeld := hHeld2
        clear hHeld2
        try simp only [Act.put, List.setIfInBounds_toArray, List.set_cons_zero, List.set_cons_succ]
        refine wpAnyH_ready (rs := [6]) (by kernel_rfl) (by simp) ?_
        refine AllReadyH.cons rfl (fun K hK => ?_) AllReadyH.nil
        rw [if_pos (by rfl)]
        refine wp_store_row _ _ _ rfl p #[.int .u32 id, .int .u32 ev, .int .i64 m, .int .i64 ch, .int .i64 ro, .int .i64 lo, .int .i64 0, .int .i64 (-1), .int .i64 0, .bool op] rfl rfl _ _ X3.drew (by rw [hi10]; rfl) rfl (by simp [Value.oneCell']) ?_
        replace B := B.drew
        replace X3 := X3.drew
        replace X4 := X4.drew
        replace X5 := X5.drew
        replace hb := hb.drew
        replace hb := below_setRow hb (show w.heap.size ≤ p by omega) #[.int .u32 id, .int .u32 ev, .int .i64 m, .int .i64 ch, .int .i64 ro, .int .i64 lo, .int .i64 0, .int .i64 (-1), .int .i64 0, .bool op]
        replace B := B.setOther (q := p) (ds := #[.int .u32 id, .int .u32 ev, .int .i64 m, .int .i64 ch, .int .i64 ro, .int .i64 lo, .int .i64 0, .int .i64 (-1), .int .i64 0, .bool op]) (by omega)
        replace X4 := X4.setOther (q := p) (ds := #[.int .u32 id, .int .u32 ev, .int .i64 m, .int .i64 ch, .int .i64 ro, .int .i64 lo, .int .i64 0, .int .i64 (-1), .int .i64 0, .bool op]) (by omega)
        replace X5 := X5.setOther (q := p) (ds := #[.int .u32 id, .int .u32 ev, .int .i64 m, .int .i64 ch, .int .i64 ro, .int .i64 lo, .int .i64 0, .int .i64 (-1), .int .i64 0, .bool op]) (by omega)
        replace X3 := X3.setRow (cs := #[.int .u32 id, .int .u32 ev, .int .i64 m, .int .i64 ch, .int .i64 ro, .int .i64 lo, .int .i64 0, .int .i64 (-1), .int .i64 0, .bool op])
        generalize World.setRow _ _ _ = s0 at *
        refine hK.out _ _ ?_ (fun hHeld2 => ?_)
        · exact ⟨B.cell 0, B.cell 1, B.cell 2, B.cell 3, B.cell 4, B.cell 5, B.cell 6, B.cell 7, B.cell 8, B.cell 9⟩
        clear hK K hHeld
        have hHeld := hHeld2
        clear hHeld2
        try simp only [Act.put, List.setIfInBounds_toArray]
        try simp only [List.getElem_toArray, List.getElem_cons_zero, List.getElem_cons_succ]
        refine wpAnyH_ready (rs := [7]) (by kernel_rfl) (by simp) ?_
        refine AllReadyH.cons rfl (fun K hK => ?_) AllReadyH.nil
        rw [if_pos (by rfl)]
        refine wp_store_row _ _ _ rfl q #[.int .u32 id, .int .u32 ev, .int .i64 m, .int .i64 ch, .int .i64 ro, .int .i64 lo, .int .i64 0, .int .i64 (-1), .int .i64 0, .bool op] rfl rfl _ _ X4 (by rw [hi10]; rfl) rfl (by simp [Value.oneCell']) ?_
        replace hb := below_setRow hb (show w.heap.size ≤ q by omega) #[.int .u32 id, .int .u32 ev, .int .i64 m, .int .i64 ch, .int .i64 ro, .int .i64 lo, .int .i64 0, .int .i64 (-1), .int .i64 0, .bool op]
        replace B := B.setOther (q := q) (ds := #[.int .u32 id, .int .u32 ev, .int .i64 m, .int .i64 ch, .int .i64 ro, .int .i64 lo, .int .i64 0, .int .i64 (-1), .int .i64 0, .bool op]) (by omega)
        replace X3 := X3.setOther (q := q) (ds := #[.int .u32 id, .int .u32 ev, .int .i64 m, .int .i64 ch, .int .i64 ro, .int .i64 lo, .int .i64 0, .int .i64 (-1), .int .i64 0, .bool op]) (by omega)
        replace X5 := X5.setOther (q := q) (ds := #[.int .u32 id, .int .u32 ev, .int .i64 m, .int .i64 ch, .int .i64 ro, .int .i64 lo, .int .i64 0, .int .i64 (-1), .int .i64 0, .bool op]) (by omega)
        replace X4 := X4.setRow (cs := #[.int .u32 id, .int .u32 ev, .int .i64 m, .int .i64 ch, .int .i64 ro, .int .i64 lo, .int .i64 0, .int .i64 (-1), .int .i64 0, .bool op])
        generalize World.setRow _ _ _ = s1 at *
        refine hK.out _ _ ?_ (fun hHeld2 => ?_)
        · exact ⟨B.cell 0, B.cell 1, B.cell 2, B.cell 3, B.cell 4, B.cell 5, B.cell 6, B.cell 7, B.cell 8, B.cell 9⟩
        clear hK K hHeld
        have hHeld := hHeld2
        clear hHeld2
        try simp only [Act.put, List.setIfInBounds_toArray]
        try simp only [List.getElem_toArray, List.getElem_cons_zero, List.getElem_cons_succ]
        refine wpAnyH_ready (rs := [8]) (by kernel_rfl) (by simp) ?_
        refine AllReadyH.cons rfl (fun K hK => ?_) AllReadyH.nil
        rw [if_pos (by rfl)]
        refine wp_store_row _ _ _ rfl r #[.int .u32 id, .int .u32 ev, .int .i64 m, .int .i64 ch, .int .i64 ro, .int .i64 lo, .int .i64 0, .int .i64 (-1), .int .i64 0, .bool op] rfl rfl _ _ X5 (by rw [hi10]; rfl) rfl (by simp [Value.oneCell']) ?_
        replace hb := below_setRow hb (show w.heap.size ≤ r by omega) #[.int .u32 id, .int .u32 ev, .int .i64 m, .int .i64 ch, .int .i64 ro, .int .i64 lo, .int .i64 0, .int .i64 (-1), .int .i64 0, .bool op]
        replace B := B.setOther (q := r) (ds := #[.int .u32 id, .int .u32 ev, .int .i64 m, .int .i64 ch, .int .i64 ro, .int .i64 lo, .int .i64 0, .int .i64 (-1), .int .i64 0, .bool op]) (by omega)
        replace X3 := X3.setOther (q := r) (ds := #[.int .u32 id, .int .u32 ev, .int .i64 m, .int .i64 ch, .int .i64 ro, .int .i64 lo, .int .i64 0, .int .i64 (-1), .int .i64 0, .bool op]) (by omega)
        replace X4 := X4.setOther (q := r) (ds := #[.int .u32 id, .int .u32 ev, .int .i64 m, .int .i64 ch, .int .i64 ro, .int .i64 lo, .int .i64 0, .int .i64 (-1), .int .i64 0, .bool op]) (by omega)
        replace X5 := X5.setRow (cs := #[.int .u32 id, .int .u32 ev, .int .i64 m, .int .i64 ch, .int .i64 ro, .int .i64 lo, .int .i64 0, .int .i64 (-1), .int .i64 0, .bool op])
        generalize World.setRow _ _ _ = s2 at *
        refine hK.out _ _ ?_ (fun hHeld2 => ?_)
        · exact ⟨B.cell 0, B.cell 1, B.cell 2, B.cell 3, B.cell 4, B.cell 5, B.cell 6, B.cell 7, B.cell 8, B.cell 9⟩
        clear hK K hHeld
        have hHeld := hHeld2
        clear hHeld2
        try simp only [Act.put, List.setIfInBounds_toArray]
        try simp only [List.getElem_toArray, List.getElem_cons_zero, List.getElem_cons_succ]
        refine wpAnyH_done (by kernel_rfl) ?_ _
        go_wp2
        go_meet
        exact ⟨p, q, r, rfl, rfl, rfl, X3, X4, X5, B, hb, by omega, by omega, by omega, by omega, by omega, by omega⟩
    · go_simp
      have X5 := BlkAt.new v3 #[.int .u32 0, .int .u32 0, .int .i64 0, .int .i64 0, .int .i64 0, .int .i64 0, .int .i64 0, .int .i64 0, .int .i64 0, .bool false] 28
      have lB5 := B.lt
      replace B := B.alloc (.cells #[.int .u32 0, .int .u32 0, .int .i64 0, .int .i64 0, .int .i64 0, .int .i64 0, .int .i64 0, .int .i64 0, .int .i64 0, .bool false] 28)
      replace hb := hb.alloc hb.size (.cells #[.int .u32 0, .int .u32 0, .int .i64 0, .int .i64 0, .int .i64 0, .int .i64 0, .int .i64 0, .int .i64 0, .int .i64 0, .bool false] 28)
      generalize World.alloc _ _ = y0 at *
      generalize hhp : World.heap v3 = hp at *
      clear hhp
      generalize hp.size = r at *
      refine hK.out _ _ ?_ (fun hHeld2 => ?_)
      · exact ⟨B.drew.cell 0, B.drew.cell 1, B.drew.cell 2, B.drew.cell 3, B.drew.cell 4, B.drew.cell 5, B.drew.cell 6, B.drew.cell 7, B.drew.cell 8, B.drew.cell 9⟩
      clear hK K hHeld
      have hHeld := hHeld2
      clear hHeld2
      try simp only [Act.put, List.setIfInBounds_toArray, List.set_cons_zero, List.set_cons_succ]
      refine wpAnyH_ready (rs := [3, 4]) (by kernel_rfl) (by simp) ?_
      refine AllReadyH.cons rfl (fun K hK => ?_) (AllReadyH.cons rfl (fun K hK => ?_) AllReadyH.nil)
      · go_simp
        have X3 := BlkAt.new y0 #[.int .u32 0, .int .u32 0, .int .i64 0, .int .i64 0, .int .i64 0, .int .i64 0, .int .i64 0, .int .i64 0, .int .i64 0, .bool false] 28
        have lB3 := B.lt
        have l53 := X5.lt
        replace B := B.alloc (.cells #[.int .u32 0, .int .u32 0, .int .i64 0, .int .i64 0, .int .i64 0, .int .i64 0, .int .i64 0, .int .i64 0, .int .i64 0, .bool false] 28)
        replace X5 := X5.alloc (.cells #[.int .u32 0, .int .u32 0, .int .i64 0, .int .i64 0, .int .i64 0, .int .i64 0, .int .i64 0, .int .i64 0, .int .i64 0, .bool false] 28)
        replace hb := hb.alloc hb.size (.cells #[.int .u32 0, .int .u32 0, .int .i64 0, .int .i64 0, .int .i64 0, .int .i64 0, .int .i64 0, .int .i64 0, .int .i64 0, .bool false] 28)
        generalize World.alloc _ _ = y1 at *
        generalize hhp : World.heap y0 = hp at *
        clear hhp
        generalize hp.size = p at *
        refine hK.out _ _ ?_ (fun hHeld2 => ?_)
        · exact ⟨B.drew.cell 0, B.drew.cell 1, B.drew.cell 2, B.drew.cell 3, B.drew.cell 4, B.drew.cell 5, B.drew.cell 6, B.drew.cell 7, B.drew.cell 8, B.drew.cell 9⟩
        clear hK K hHeld
        have hHeld := hHeld2
        clear hHeld2
        try simp only [Act.put, List.setIfInBounds_toArray, List.set_cons_zero, List.set_cons_succ]
        refine wpAnyH_ready (rs := [4]) (by kernel_rfl) (by simp) ?_
        refine AllReadyH.cons rfl (fun K hK => ?_) AllReadyH.nil
        go_simp
        have X4 := BlkAt.new y1 #[.int .u32 0, .int .u32 0, .int .i64 0, .int .i64 0, .int .i64 0, .int .i64 0, .int .i64 0, .int .i64 0, .int .i64 0, .bool false] 28
        have lB4 := B.lt
        have l54 := X5.lt
        have l34 := X3.lt
        replace B := B.alloc (.cells #[.int .u32 0, .int .u32 0, .int .i64 0, .int .i64 0, .int .i64 0, .int .i64 0, .int .i64 0, .int .i64 0, .int .i64 0, .bool false] 28)
        replace X5 := X5.alloc (.cells #[.int .u32 0, .int .u32 0, .int .i64 0, .int .i64 0, .int .i64 0, .int .i64 0, .int .i64 0, .int .i64 0, .int .i64 0, .bool false] 28)
        replace X3 := X3.alloc (.cells #[.int .u32 0, .int .u32 0, .int .i64 0, .int .i64 0, .int .i64 0, .int .i64 0, .int .i64 0, .int .i64 0, .int .i64 0, .bool false] 28)
        replace hb := hb.alloc hb.size (.cells #[.int .u32 0, .int .u32 0, .int .i64 0, .int .i64 0, .int .i64 0, .int .i64 0, .int .i64 0, .int .i64 0, .int .i64 0, .bool false] 28)
        generalize World.alloc _ _ = y2 at *
        generalize hhp : World.heap y1 = hp at *
        clear hhp
        generalize hp.size = q at *
        refine hK.out _ _ ?_ (fun hHeld2 => ?_)
        · exact ⟨B.drew.cell 0, B.drew.cell 1, B.drew.cell 2, B.drew.cell 3, B.drew.cell 4, B.drew.cell 5, B.drew.cell 6, B.drew.cell 7, B.drew.cell 8, B.drew.cell 9⟩
        clear hK K hHeld
        have hHeld := hHeld2
        clear hHeld2
        try simp only [Act.put, List.setIfInBounds_toArray, List.set_cons_zero, List.set_cons_succ]
        refine wpAnyH_ready (rs := [6]) (by kernel_rfl) (by simp) ?_
        refine AllReadyH.cons rfl (fun K hK => ?_) AllReadyH.nil
        rw [if_pos (by rfl)]
        refine wp_store_row _ _ _ rfl p #[.int .u32 id, .int .u32 ev, .int .i64 m, .int .i64 ch, .int .i64 ro, .int .i64 lo, .int .i64 0, .int .i64 (-1), .int .i64 0, .bool op] rfl rfl _ _ X3.drew (by rw [hi10]; rfl) rfl (by simp [Value.oneCell']) ?_
        replace B := B.drew
        replace X3 := X3.drew
        replace X4 := X4.drew
        replace X5 := X5.drew
        replace hb := hb.drew
        replace hb := below_setRow hb (show w.heap.size ≤ p by omega) #[.int .u32 id, .int .u32 ev, .int .i64 m, .int .i64 ch, .int .i64 ro, .int .i64 lo, .int .i64 0, .int .i64 (-1), .int .i64 0, .bool op]
        replace B := B.setOther (q := p) (ds := #[.int .u32 id, .int .u32 ev, .int .i64 m, .int .i64 ch, .int .i64 ro, .int .i64 lo, .int .i64 0, .int .i64 (-1), .int .i64 0, .bool op]) (by omega)
        replace X4 := X4.setOther (q := p) (ds := #[.int .u32 id, .int .u32 ev, .int .i64 m, .int .i64 ch, .int .i64 ro, .int .i64 lo, .int .i64 0, .int .i64 (-1), .int .i64 0, .bool op]) (by omega)
        replace X5 := X5.setOther (q := p) (ds := #[.int .u32 id, .int .u32 ev, .int .i64 m, .int .i64 ch, .int .i64 ro, .int .i64 lo, .int .i64 0, .int .i64 (-1), .int .i64 0, .bool op]) (by omega)
        replace X3 := X3.setRow (cs := #[.int .u32 id, .int .u32 ev, .int .i64 m, .int .i64 ch, .int .i64 ro, .int .i64 lo, .int .i64 0, .int .i64 (-1), .int .i64 0, .bool op])
        generalize World.setRow _ _ _ = s0 at *
        refine hK.out _ _ ?_ (fun hHeld2 => ?_)
        · exact ⟨B.cell 0, B.cell 1, B.cell 2, B.cell 3, B.cell 4, B.cell 5, B.cell 6, B.cell 7, B.cell 8, B.cell 9⟩
        clear hK K hHeld
        have hHeld := hHeld2
        clear hHeld2
        try simp only [Act.put, List.setIfInBounds_toArray]
        try simp only [List.getElem_toArray, List.getElem_cons_zero, List.getElem_cons_succ]
        refine wpAnyH_ready (rs := [7]) (by kernel_rfl) (by simp) ?_
        refine AllReadyH.cons rfl (fun K hK => ?_) AllReadyH.nil
        rw [if_pos (by rfl)]
        refine wp_store_row _ _ _ rfl q #[.int .u32 id, .int .u32 ev, .int .i64 m, .int .i64 ch, .int .i64 ro, .int .i64 lo, .int .i64 0, .int .i64 (-1), .int .i64 0, .bool op] rfl rfl _ _ X4 (by rw [hi10]; rfl) rfl (by simp [Value.oneCell']) ?_
        replace hb := below_setRow hb (show w.heap.size ≤ q by omega) #[.int .u32 id, .int .u32 ev, .int .i64 m, .int .i64 ch, .int .i64 ro, .int .i64 lo, .int .i64 0, .int .i64 (-1), .int .i64 0, .bool op]
        replace B := B.setOther (q := q) (ds := #[.int .u32 id, .int .u32 ev, .int .i64 m, .int .i64 ch, .int .i64 ro, .int .i64 lo, .int .i64 0, .int .i64 (-1), .int .i64 0, .bool op]) (by omega)
        replace X3 := X3.setOther (q := q) (ds := #[.int .u32 id, .int .u32 ev, .int .i64 m, .int .i64 ch, .int .i64 ro, .int .i64 lo, .int .i64 0, .int .i64 (-1), .int .i64 0, .bool op]) (by omega)
        replace X5 := X5.setOther (q := q) (ds := #[.int .u32 id, .int .u32 ev, .int .i64 m, .int .i64 ch, .int .i64 ro, .int .i64 lo, .int .i64 0, .int .i64 (-1), .int .i64 0, .bool op]) (by omega)
        replace X4 := X4.setRow (cs := #[.int .u32 id, .int .u32 ev, .int .i64 m, .int .i64 ch, .int .i64 ro, .int .i64 lo, .int .i64 0, .int .i64 (-1), .int .i64 0, .bool op])
        generalize World.setRow _ _ _ = s1 at *
        refine hK.out _ _ ?_ (fun hHeld2 => ?_)
        · exact ⟨B.cell 0, B.cell 1, B.cell 2, B.cell 3, B.cell 4, B.cell 5, B.cell 6, B.cell 7, B.cell 8, B.cell 9⟩
        clear hK K hHeld
        have hHeld := hHeld2
        clear hHeld2
        try simp only [Act.put, List.setIfInBounds_toArray]
        try simp only [List.getElem_toArray, List.getElem_cons_zero, List.getElem_cons_succ]
        refine wpAnyH_ready (rs := [8]) (by kernel_rfl) (by simp) ?_
        refine AllReadyH.cons rfl (fun K hK => ?_) AllReadyH.nil
        rw [if_pos (by rfl)]
        refine wp_store_row _ _ _ rfl r #[.int .u32 id, .int .u32 ev, .int .i64 m, .int .i64 ch, .int .i64 ro, .int .i64 lo, .int .i64 0, .int .i64 (-1), .int .i64 0, .bool op] rfl rfl _ _ X5 (by rw [hi10]; rfl) rfl (by simp [Value.oneCell']) ?_
        replace hb := below_setRow hb (show w.heap.size ≤ r by omega) #[.int .u32 id, .int .u32 ev, .int .i64 m, .int .i64 ch, .int .i64 ro, .int .i64 lo, .int .i64 0, .int .i64 (-1), .int .i64 0, .bool op]
        replace B := B.setOther (q := r) (ds := #[.int .u32 id, .int .u32 ev, .int .i64 m, .int .i64 ch, .int .i64 ro, .int .i64 lo, .int .i64 0, .int .i64 (-1), .int .i64 0, .bool op]) (by omega)
        replace X3 := X3.setOther (q := r) (ds := #[.int .u32 id, .int .u32 ev, .int .i64 m, .int .i64 ch, .int .i64 ro, .int .i64 lo, .int .i64 0, .int .i64 (-1), .int .i64 0, .bool op]) (by omega)
        replace X4 := X4.setOther (q := r) (ds := #[.int .u32 id, .int .u32 ev, .int .i64 m, .int .i64 ch, .int .i64 ro, .int .i64 lo, .int .i64 0, .int .i64 (-1), .int .i64 0, .bool op]) (by omega)
        replace X5 := X5.setRow (cs := #[.int .u32 id, .int .u32 ev, .int .i64 m, .int .i64 ch, .int .i64 ro, .int .i64 lo, .int .i64 0, .int .i64 (-1), .int .i64 0, .bool op])
        generalize World.setRow _ _ _ = s2 at *
        refine hK.out _ _ ?_ (fun hHeld2 => ?_)
        · exact ⟨B.cell 0, B.cell 1, B.cell 2, B.cell 3, B.cell 4, B.cell 5, B.cell 6, B.cell 7, B.cell 8, B.cell 9⟩
        clear hK K hHeld
        have hHeld := hHeld2
        clear hHeld2
        try simp only [Act.put, List.setIfInBounds_toArray]
        try simp only [List.getElem_toArray, List.getElem_cons_zero, List.getElem_cons_succ]
        refine wpAnyH_done (by kernel_rfl) ?_ _
        go_wp2
        go_meet
        exact ⟨p, q, r, rfl, rfl, rfl, X3, X4, X5, B, hb, by omega, by omega, by omega, by omega, by omega, by omega⟩
      · go_simp
        have X4 := BlkAt.new y0 #[.int .u32 0, .int .u32 0, .int .i64 0, .int .i64 0, .int .i64 0, .int .i64 0, .int .i64 0, .int .i64 0, .int .i64 0, .bool false] 28
        have lB4 := B.lt
        have l54 := X5.lt
        replace B := B.alloc (.cells #[.int .u32 0, .int .u32 0, .int .i64 0, .int .i64 0, .int .i64 0, .int .i64 0, .int .i64 0, .int .i64 0, .int .i64 0, .bool false] 28)
        replace X5 := X5.alloc (.cells #[.int .u32 0, .int .u32 0, .int .i64 0, .int .i64 0, .int .i64 0, .int .i64 0, .int .i64 0, .int .i64 0, .int .i64 0, .bool false] 28)
        replace hb := hb.alloc hb.size (.cells #[.int .u32 0, .int .u32 0, .int .i64 0, .int .i64 0, .int .i64 0, .int .i64 0, .int .i64 0, .int .i64 0, .int .i64 0, .bool false] 28)
        generalize World.alloc _ _ = y1 at *
        generalize hhp : World.heap y0 = hp at *
        clear hhp
        generalize hp.size = q at *
        refine hK.out _ _ ?_ (fun hHeld2 => ?_)
        · exact ⟨B.drew.cell 0, B.drew.cell 1, B.drew.cell 2, B.drew.cell 3, B.drew.cell 4, B.drew.cell 5, B.drew.cell 6, B.drew.cell 7, B.drew.cell 8, B.drew.cell 9⟩
        clear hK K hHeld
        have hHeld := hHeld2
        clear hHeld2
        try simp only [Act.put, List.setIfInBounds_toArray, List.set_cons_zero, List.set_cons_succ]
        refine wpAnyH_ready (rs := [3]) (by kernel_rfl) (by simp) ?_
        refine AllReadyH.cons rfl (fun K hK => ?_) AllReadyH.nil
        go_simp
        have X3 := BlkAt.new y1 #[.int .u32 0, .int .u32 0, .int .i64 0, .int .i64 0, .int .i64 0, .int .i64 0, .int .i64 0, .int .i64 0, .int .i64 0, .bool false] 28
        have lB3 := B.lt
        have l53 := X5.lt
        have l43 := X4.lt
        replace B := B.alloc (.cells #[.int .u32 0, .int .u32 0, .int .i64 0, .int .i64 0, .int .i64 0, .int .i64 0, .int .i64 0, .int .i64 0, .int .i64 0, .bool false] 28)
        replace X5 := X5.alloc (.cells #[.int .u32 0, .int .u32 0, .int .i64 0, .int .i64 0, .int .i64 0, .int .i64 0, .int .i64 0, .int .i64 0, .int .i64 0, .bool false] 28)
        replace X4 := X4.alloc (.cells #[.int .u32 0, .int .u32 0, .int .i64 0, .int .i64 0, .int .i64 0, .int .i64 0, .int .i64 0, .int .i64 0, .int .i64 0, .bool false] 28)
        replace hb := hb.alloc hb.size (.cells #[.int .u32 0, .int .u32 0, .int .i64 0, .int .i64 0, .int .i64 0, .int .i64 0, .int .i64 0, .int .i64 0, .int .i64 0, .bool false] 28)
        generalize World.alloc _ _ = y2 at *
        generalize hhp : World.heap y1 = hp at *
        clear hhp
        generalize hp.size = p at *
        refine hK.out _ _ ?_ (fun hHeld2 => ?_)
        · exact ⟨B.drew.cell 0, B.drew.cell 1, B.drew.cell 2, B.drew.cell 3, B.drew.cell 4, B.drew.cell 5, B.drew.cell 6, B.drew.cell 7, B.drew.cell 8, B.drew.cell 9⟩
        clear hK K hHeld
        have hHeld := hHeld2
        clear hHeld2
        try simp only [Act.put, List.setIfInBounds_toArray, List.set_cons_zero, List.set_cons_succ]
        refine wpAnyH_ready (rs := [6]) (by kernel_rfl) (by simp) ?_
        refine AllReadyH.cons rfl (fun K hK => ?_) AllReadyH.nil
        rw [if_pos (by rfl)]
        refine wp_store_row _ _ _ rfl p #[.int .u32 id, .int .u32 ev, .int .i64 m, .int .i64 ch, .int .i64 ro, .int .i64 lo, .int .i64 0, .int .i64 (-1), .int .i64 0, .bool op] rfl rfl _ _ X3.drew (by rw [hi10]; rfl) rfl (by simp [Value.oneCell']) ?_
        replace B := B.drew
        replace X3 := X3.drew
        replace X4 := X4.drew
        replace X5 := X5.drew
        replace hb := hb.drew
        replace hb := below_setRow hb (show w.heap.size ≤ p by omega) #[.int .u32 id, .int .u32 ev, .int .i64 m, .int .i64 ch, .int .i64 ro, .int .i64 lo, .int .i64 0, .int .i64 (-1), .int .i64 0, .bool op]
        replace B := B.setOther (q := p) (ds := #[.int .u32 id, .int .u32 ev, .int .i64 m, .int .i64 ch, .int .i64 ro, .int .i64 lo, .int .i64 0, .int .i64 (-1), .int .i64 0, .bool op]) (by omega)
        replace X4 := X4.setOther (q := p) (ds := #[.int .u32 id, .int .u32 ev, .int .i64 m, .int .i64 ch, .int .i64 ro, .int .i64 lo, .int .i64 0, .int .i64 (-1), .int .i64 0, .bool op]) (by omega)
        replace X5 := X5.setOther (q := p) (ds := #[.int .u32 id, .int .u32 ev, .int .i64 m, .int .i64 ch, .int .i64 ro, .int .i64 lo, .int .i64 0, .int .i64 (-1), .int .i64 0, .bool op]) (by omega)
        replace X3 := X3.setRow (cs := #[.int .u32 id, .int .u32 ev, .int .i64 m, .int .i64 ch, .int .i64 ro, .int .i64 lo, .int .i64 0, .int .i64 (-1), .int .i64 0, .bool op])
        generalize World.setRow _ _ _ = s0 at *
        refine hK.out _ _ ?_ (fun hHeld2 => ?_)
        · exact ⟨B.cell 0, B.cell 1, B.cell 2, B.cell 3, B.cell 4, B.cell 5, B.cell 6, B.cell 7, B.cell 8, B.cell 9⟩
        clear hK K hHeld
        have hHeld := hHeld2
        clear hHeld2
        try simp only [Act.put, List.setIfInBounds_toArray]
        try simp only [List.getElem_toArray, List.getElem_cons_zero, List.getElem_cons_succ]
        refine wpAnyH_ready (rs := [7]) (by kernel_rfl) (by simp) ?_
        refine AllReadyH.cons rfl (fun K hK => ?_) AllReadyH.nil
        rw [if_pos (by rfl)]
        refine wp_store_row _ _ _ rfl q #[.int .u32 id, .int .u32 ev, .int .i64 m, .int .i64 ch, .int .i64 ro, .int .i64 lo, .int .i64 0, .int .i64 (-1), .int .i64 0, .bool op] rfl rfl _ _ X4 (by rw [hi10]; rfl) rfl (by simp [Value.oneCell']) ?_
        replace hb := below_setRow hb (show w.heap.size ≤ q by omega) #[.int .u32 id, .int .u32 ev, .int .i64 m, .int .i64 ch, .int .i64 ro, .int .i64 lo, .int .i64 0, .int .i64 (-1), .int .i64 0, .bool op]
        replace B := B.setOther (q := q) (ds := #[.int .u32 id, .int .u32 ev, .int .i64 m, .int .i64 ch, .int .i64 ro, .int .i64 lo, .int .i64 0, .int .i64 (-1), .int .i64 0, .bool op]) (by omega)
        replace X3 := X3.setOther (q := q) (ds := #[.int .u32 id, .int .u32 ev, .int .i64 m, .int .i64 ch, .int .i64 ro, .int .i64 lo, .int .i64 0, .int .i64 (-1), .int .i64 0, .bool op]) (by omega)
        replace X5 := X5.setOther (q := q) (ds := #[.int .u32 id, .int .u32 ev, .int .i64 m, .int .i64 ch, .int .i64 ro, .int .i64 lo, .int .i64 0, .int .i64 (-1), .int .i64 0, .bool op]) (by omega)
        replace X4 := X4.setRow (cs := #[.int .u32 id, .int .u32 ev, .int .i64 m, .int .i64 ch, .int .i64 ro, .int .i64 lo, .int .i64 0, .int .i64 (-1), .int .i64 0, .bool op])
        generalize World.setRow _ _ _ = s1 at *
        refine hK.out _ _ ?_ (fun hHeld2 => ?_)
        · exact ⟨B.cell 0, B.cell 1, B.cell 2, B.cell 3, B.cell 4, B.cell 5, B.cell 6, B.cell 7, B.cell 8, B.cell 9⟩
        clear hK K hHeld
        have hHeld := hHeld2
        clear hHeld2
        try simp only [Act.put, List.setIfInBounds_toArray]
        try simp only [List.getElem_toArray, List.getElem_cons_zero, List.getElem_cons_succ]
        refine wpAnyH_ready (rs := [8]) (by kernel_rfl) (by simp) ?_
        refine AllReadyH.cons rfl (fun K hK => ?_) AllReadyH.nil
        rw [if_pos (by rfl)]
        refine wp_store_row _ _ _ rfl r #[.int .u32 id, .int .u32 ev, .int .i64 m, .int .i64 ch, .int .i64 ro, .int .i64 lo, .int .i64 0, .int .i64 (-1), .int .i64 0, .bool op] rfl rfl _ _ X5 (by rw [hi10]; rfl) rfl (by simp [Value.oneCell']) ?_
        replace hb := below_setRow hb (show w.heap.size ≤ r by omega) #[.int .u32 id, .int .u32 ev, .int .i64 m, .int .i64 ch, .int .i64 ro, .int .i64 lo, .int .i64 0, .int .i64 (-1), .int .i64 0, .bool op]
        replace B := B.setOther (q := r) (ds := #[.int .u32 id, .int .u32 ev, .int .i64 m, .int .i64 ch, .int .i64 ro, .int .i64 lo, .int .i64 0, .int .i64 (-1), .int .i64 0, .bool op]) (by omega)
        replace X3 := X3.setOther (q := r) (ds := #[.int .u32 id, .int .u32 ev, .int .i64 m, .int .i64 ch, .int .i64 ro, .int .i64 lo, .int .i64 0, .int .i64 (-1), .int .i64 0, .bool op]) (by omega)
        replace X4 := X4.setOther (q := r) (ds := #[.int .u32 id, .int .u32 ev, .int .i64 m, .int .i64 ch, .int .i64 ro, .int .i64 lo, .int .i64 0, .int .i64 (-1), .int .i64 0, .bool op]) (by omega)
        replace X5 := X5.setRow (cs := #[.int .u32 id, .int .u32 ev, .int .i64 m, .int .i64 ch, .int .i64 ro, .int .i64 lo, .int .i64 0, .int .i64 (-1), .int .i64 0, .bool op])
        generalize World.setRow _ _ _ = s2 at *
        refine hK.out _ _ ?_ (fun hHeld2 => ?_)
        · exact ⟨B.cell 0, B.cell 1, B.cell 2, B.cell 3, B.cell 4, B.cell 5, B.cell 6, B.cell 7, B.cell 8, B.cell 9⟩
        clear hK K hHeld
        have hHeld := hHeld2
        clear hHeld2
        try simp only [Act.put, List.setIfInBounds_toArray]
        try simp only [List.getElem_toArray, List.getElem_cons_zero, List.getElem_cons_succ]
        refine wpAnyH_done (by kernel_rfl) ?_ _
        go_wp2
        go_meet
        exact ⟨p, q, r, rfl, rfl, rfl, X3, X4, X5, B, hb, by omega, by omega, by omega, by omega, by omega, by omega⟩
  case rest =>
    obtain ⟨p, q, r, rfl, rfl, rfl, X, Y, Z, Bc, hbc, lp, lq, lr, npq, npr, nqr⟩ := hcut
    clear B hb
    have B := Bc
    have hb := hbc
    clear Bc hbc
    have f1 := X.free
    have e1 := X.cell 6
    go_upto_region 7 with fail
    clear f1 e1
    replace B := B.other (p := ⟨p, 6, none⟩) (by dsimp only; omega) (.int .i64 a1)
    replace Y := Y.other (p := ⟨p, 6, none⟩) (by dsimp only; omega) (.int .i64 a1)
    replace Z := Z.other (p := ⟨p, 6, none⟩) (by dsimp only; omega) (.int .i64 a1)
    replace hb := hb.setCell (p := ⟨p, 6, none⟩) (by dsimp only; omega) (.int .i64 a1)
    replace X := X.put 6 (.int .i64 a1)
    generalize World.setCell _ _ _ = x1 at *
    have f2 := Y.free
    have e2 := Y.cell 7
    go_upto_region 8 with fail
    clear f2 e2
    replace B := B.other (p := ⟨q, 7, none⟩) (by dsimp only; omega) (.int .i64 a2)
    replace X := X.other (p := ⟨q, 7, none⟩) (by dsimp only; omega) (.int .i64 a2)
    replace Z := Z.other (p := ⟨q, 7, none⟩) (by dsimp only; omega) (.int .i64 a2)
    replace hb := hb.setCell (p := ⟨q, 7, none⟩) (by dsimp only; omega) (.int .i64 a2)
    replace Y := Y.put 7 (.int .i64 a2)
    generalize World.setCell _ _ _ = x2 at *
    have f3 := Z.free
    have e3 := Z.cell 7
    go_upto_region 9 with fail
    clear f3 e3
    replace B := B.other (p := ⟨r, 7, none⟩) (by dsimp only; omega) (.int .i64 0)
    replace X := X.other (p := ⟨r, 7, none⟩) (by dsimp only; omega) (.int .i64 0)
    replace Y := Y.other (p := ⟨r, 7, none⟩) (by dsimp only; omega) (.int .i64 0)
    replace hb := hb.setCell (p := ⟨r, 7, none⟩) (by dsimp only; omega) (.int .i64 0)
    replace Z := Z.put 7 (.int .i64 0)
    generalize World.setCell _ _ _ = x3 at *
    simp only [List.setIfInBounds_toArray, List.set_cons_zero, List.set_cons_succ] at Z
    have f4 := Z.free
    have e4 := Z.cell 8
    go_upto_region 10 with fail
    clear f4 e4
    replace B := B.other (p := ⟨r, 8, none⟩) (by dsimp only; omega) (.int .i64 a3)
    replace X := X.other (p := ⟨r, 8, none⟩) (by dsimp only; omega) (.int .i64 a3)
    replace Y := Y.other (p := ⟨r, 8, none⟩) (by dsimp only; omega) (.int .i64 a3)
    replace hb := hb.setCell (p := ⟨r, 8, none⟩) (by dsimp only; omega) (.int .i64 a3)
    replace Z := Z.put 8 (.int .i64 a3)
    generalize World.setCell _ _ _ = x4 at *
    simp only [List.setIfInBounds_toArray, List.set_cons_zero, List.set_cons_succ] at X Y Z
    go_upto_region 13 with (first
      | refine wpList_load_row rfl 28 _ rfl p rfl _ _ _ _ X Try.underlying28 rfl (by rw [hi10]; rfl) ?_
      | refine wpList_load_row rfl 28 _ rfl q rfl _ _ _ _ Y Try.underlying28 rfl (by rw [hi10]; rfl) ?_
      | refine wpList_load_row rfl 28 _ rfl r rfl _ _ _ _ Z Try.underlying28 rfl (by rw [hi10]; rfl) ?_
      | (go_at_call 14; (with_reducible refine (k1 _).mono ?_); rintro e w5 ⟨rfl, hb5⟩; replace hb := hb.trans (hb5.mono hb.size); replace B := B.below hb5 (Nat.le_refl _); replace X := X.below hb5 (Nat.le_refl _); replace Y := Y.below hb5 (Nat.le_refl _); replace Z := Z.below hb5 (Nat.le_refl _); clear hb5)
      | (go_at_call 14; (with_reducible refine (k2 _).mono ?_); rintro e w6 ⟨rfl, hb6⟩; replace hb := hb.trans (hb6.mono hb.size); replace B := B.below hb6 (Nat.le_refl _); replace X := X.below hb6 (Nat.le_refl _); replace Y := Y.below hb6 (Nat.le_refl _); replace Z := Z.below hb6 (Nat.le_refl _); clear hb6)
      | (go_at_call 14; (with_reducible refine (k3 _).mono ?_); rintro e w7 ⟨rfl, hb7⟩; replace hb := hb.trans (hb7.mono hb.size); replace B := B.below hb7 (Nat.le_refl _); replace X := X.below hb7 (Nat.le_refl _); replace Y := Y.below hb7 (Nat.le_refl _); replace Z := Z.below hb7 (Nat.le_refl _); clear hb7))
    have b2 := B.cell 2
    have b3 := B.cell 3
    have b4 := B.cell 4
    clear k1 k2 k3 k0 ka X Y Z B lp lq lr npq npr nqr
    rcases H1 with ⟨h1, h2⟩ | ⟨h1, h2, h3⟩ | ⟨h1, h2, h3⟩ <;> rcases H2 with ⟨i1, i2⟩ | ⟨i1, i2, i3⟩ | ⟨i1, i2, i3⟩ <;> rcases H3 with ⟨j1, j2⟩ | ⟨j1, j2, j3⟩ | ⟨j1, j2, j3⟩
    all_goals
      go_wp2
      go_ret
      exact ⟨rfl, hb⟩
theorem three {n lo : Int} {hi : Prop} [Decidable hi] {E : Int} (h : E = 0 ↔ lo ≤ n ∧ hi) : (decide (lo ≤ n) = false ∧ (E == 0) = false) ∨ (decide (lo ≤ n) = true ∧ decide hi = false ∧ (E == 0) = false) ∨ (decide (lo ≤ n) = true ∧ decide hi = true ∧ (E == 0) = true) := by
  by_cases a : lo ≤ n
  · by_cases b : hi
    · exact .inr (.inr ⟨decide_eq_true a, decide_eq_true b, by simpa using h.2 ⟨a, b⟩⟩)
    · exact .inr (.inl ⟨decide_eq_true a, decide_eq_false b, by simpa using fun q => b (h.1 q).2⟩)
  · exact .inl ⟨decide_eq_false a, by simpa using fun q => a (h.1 q).1⟩
theorem chk_zero (l : Lab) : chkL l = 0 ↔ MayL l := by
  unfold chkL
  by_cases h : MayL l
  · rw [if_pos h]; exact ⟨fun _ => h, fun _ => rfl⟩
  · rw [if_neg h]; exact ⟨fun q => by omega, fun q => absurd q h⟩
theorem labelBounds_walk (w : World) (l : Lab) (hw : WideL l) (a1 : Int) (_w1 : (Lit.int .i64 a1).wf = true) (a2 : Int) (_w2 : (Lit.int .i64 a2).wf = true) (a3 : Int) (_w3 : (Lit.int .i64 a3).wf = true) : Calls Try.prog 9 #[labV l, .int .i64 a1, .int .i64 a2, .int .i64 a3] w fun e w' => e = .returned (.bool true) ∧ Below w.heap.size w w' := by
  have ka := fun W => alive9_calls W
  obtain ⟨id, ev, m, ch, ro, lo, me, lst, dn, op⟩ := l
  have k0 := fun W => labCheck ⟨id, ev, m, ch, ro, lo, 0, -1, 0, op⟩ W
  have k1 := fun W => labCheck ⟨id, ev, m, ch, ro, lo, a1, -1, 0, op⟩ W
  have k2 := fun W => labCheck ⟨id, ev, m, ch, ro, lo, 0, a2, 0, op⟩ W
  have k3 := fun W => labCheck ⟨id, ev, m, ch, ro, lo, 0, 0, a3, op⟩ W
  by_cases h : MayL ⟨id, ev, m, ch, ro, lo, 0, -1, 0, op⟩
  · rw [chkL_may h] at k0
    obtain ⟨hc, he, hme, hlo⟩ := h
    have hcc := hc
    have q := strC_box hc
    have qe : strC (cfgL ⟨id, ev, m, ch, ro, lo, 0, -1, 0, op⟩) = ch * ro := rfl
    have h3 : 3 ≤ m := hcc.1
    simp only [cfgL] at *
    rw [qe] at q
    refine bounds_ok id ev m ch ro lo me lst dn op a1 a2 a3 (chkL ⟨id, ev, m, ch, ro, lo, a1, -1, 0, op⟩) (chkL ⟨id, ev, m, ch, ro, lo, 0, a2, 0, op⟩) (chkL ⟨id, ev, m, ch, ro, lo, 0, 0, a3, op⟩) (ch * ro) (wrap64_in (by omega) (by omega)) (three ?_) (three ?_) (three ?_) ka k0 k1 k2 k3 w
    · rw [chk_zero]
      exact ⟨fun h => h.2.2.1, fun h => ⟨hc, he, h, .inl ⟨rfl, rfl⟩⟩⟩
    · rw [chk_zero]
      constructor
      · intro h
        have hh : LostOk m a2 0 (ch * ro) := h.2.2.2
        unfold LostOk at hh
        omega
      · intro h
        have hh : LostOk m a2 0 (ch * ro) := by unfold LostOk; omega
        exact ⟨hc, he, hme, hh⟩
    · rw [chk_zero]
      constructor
      · intro h
        have hh : LostOk m 0 a3 (ch * ro) := h.2.2.2
        unfold LostOk at hh
        omega
      · intro h
        have hh : LostOk m 0 a3 (ch * ro) := by unfold LostOk; omega
        exact ⟨hc, he, hme, hh⟩
  · rw [chkL_not h] at k0
    exact bounds_no id ev m ch ro lo me lst dn op a1 a2 a3 8 (by decide) ka k0 w


namespace labelBounds
set_option linter.unusedVariables false
set_option maxRecDepth 100000 in
theorem lifted (os : Os) (started : os.Started) (H : Type) (enc : TypeId × Value → H) :
    ReturnsInHanded {} Try.checked os 9 .any (Rows.labelBoundsSpec.pre6 enc Try.prog Try.f9 Rows.labelBoundsRow.domain false) (Rows.labelBoundsSpec.post enc Try.prog Try.f9 false true false false) := by
  refine returnsInHanded_of_change (C := Try.checked) Try.own started (by kernel_rfl) Try.func9
    (ChangeSpec.witness6 (enc := enc) (C := Try.checked) false ⟨#[], #[.agg #[.int .u32 0, .int .u32 0, .int .i64 0, .int .i64 0, .int .i64 0, .int .i64 0, .int .i64 0, .int .i64 0, .int .i64 0, .bool false], .int .i64 0, .int .i64 0, .int .i64 0], []⟩ 8 (by kernel_rfl) (by kernel_rfl) (by kernel_rfl) (by kernel_rfl)) ?_
  intro W base args ds gs before hval0 hW hcnd _
  have hval : ∀ (j : Nat) t v, Try.f9.params[j]? = some t → args[j]? = some v → Value.okWide Try.prog W .any base t v := hval0
  have hW' := hW
  obtain ⟨p, q, hA0, hV, rfl, hfz, hnd⟩ := hW
  have hA : DataW.TrodAll enc Try.prog W 0 (fun _ => true) true Try.f9.params.toList args.toList ds p := hA0
  rw [Try.params9] at hA hval
  obtain ⟨v0, vs0, d0, ds0, p0, q0, hargs, rfl, rfl, h0, r0⟩ := trodAll_cons hA
  obtain ⟨v1, vs1, d1, ds1, p1, q1, rfl, rfl, rfl, h1, r1⟩ := trodAll_cons r0
  obtain ⟨v2, vs2, d2, ds2, p2, q2, rfl, rfl, rfl, h2, r2⟩ := trodAll_cons r1
  obtain ⟨v3, vs3, d3, ds3, p3, q3, rfl, rfl, rfl, h3, r3⟩ := trodAll_cons r2
  obtain ⟨rfl, rfl, rfl⟩ := trodAll_nil r3
  obtain rfl : args = #[v0, v1, v2, v3] := by cases args; simp_all
  obtain ⟨rfl, rfl⟩ := trodVars_none hV
  have k0 := h0
  have lt0 : ∀ x ∈ p0, x.block < W.heap.size := by obtain ⟨m, hm⟩ := k0; exact DataW.trod_lt m _ _ _ hm
  obtain ⟨z0, rfl, w0⟩ := label_in (hval 0 28 v0 rfl rfl) h0
  obtain ⟨a1, rfl, rfl, rfl, w1⟩ := open_int Try.underlying3 (hval 1 3 v1 rfl rfl) h1
  obtain ⟨a2, rfl, rfl, rfl, w2⟩ := open_int Try.underlying3 (hval 2 3 v2 rfl rfl) h2
  obtain ⟨a3, rfl, rfl, rfl, w3⟩ := open_int Try.underlying3 (hval 3 3 v3 rfl rfl) h3
  clear hA0 hval0
  refine (labelBounds_walk W z0 w0 a1 w1 a2 w2 a3 w3).mono fun e W' ⟨he, bel⟩ => ?_
  subst he
  exact ⟨_, rfl, _, _, _, [], _, [], hW', trodAll_mk1 (shut_bool Try.underlying4 _), (trodAll_cons_mk (Below.trod Try.laidOut (by kernel_rfl) (of_decide_eq_true (by kernel_rfl)) k0 bel lt0) (trodAll_cons_mk (shut_int Try.underlying3 w1) (trodAll_cons_mk (shut_int Try.underlying3 w2) (trodAll_cons_mk (shut_int Try.underlying3 w3) trodAll_mk0)))), rfl, bel.frame _, fun h => by cases h⟩

theorem holds : Rows.LabelBoundsSaid :=
  OpenClaim.holds_of_wide 9 Try.f9 rfl rfl rfl rfl rfl rfl rfl ⟨rfl, rfl, rfl, rfl, rfl⟩ rfl rfl rfl rfl rfl (by kernel_rfl) Try.func9 (by kernel_rfl)
    (of_decide_eq_true (by kernel_rfl)) (by unfold Func.isWrapper; first | (rw [if_pos (by decide +kernel)]; kernel_rfl) | (rw [if_neg (by decide +kernel)]; exact ⟨rfl, rfl⟩))
    (fun os started H enc _ => lifted os started H enc)
end labelBounds
end Go.Proofs.Ytdljondmlooeaaa
