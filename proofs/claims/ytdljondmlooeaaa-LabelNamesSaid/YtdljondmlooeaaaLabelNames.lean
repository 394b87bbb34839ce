/- freeboardlaw09.LabelNames: for every input the law answers true, and what is handed in reads as it did. Conditions: none. -/
import Derived.Test.YtdljondmlooeaaaLabelSays
namespace Go.Proofs.Ytdljondmlooeaaa
open Go.ChangeShapes Go.WideShapes Go.ChangeAt Go.RowKit PolyM PackM ShapeM SealM LabelM
set_option linter.unusedVariables false
set_option maxRecDepth 100000 in
set_option maxHeartbeats 4000000 in
theorem names_gen (cs cz : Array Value) (hcs : cs.size = 10) (hc1 : cs.all (·.oneCell') = true) (hcz : cz.size = 10) (hz1 : cz.all (·.oneCell') = true) (y6 y7 y8 : Value) (h6 : cs[6]? = some y6) (h7 : cs[7]? = some y7) (h8 : cs[8]? = some y8)
    (L : List Int) (hL : L.length = 128) (hLB : Bytes L) (hs : strOfNums (L.take 17) = ⟨#[76, 7, 0, 0, 0, 2, 0, 0, 0, 3, 1, 1, 12, 1, 255, 0, 1]⟩) (ka : ∀ W, Calls Try.prog 13 #[] W fun e w' => e = .returned (.bool true) ∧ Below W.heap.size W w') (ko : ∀ W, Calls Try.prog 11 #[] W fun e w' => e = .returned (.agg cs) ∧ Below W.heap.size W w')
    (kw : ∀ W, Calls Try.prog 10 #[.agg cs] W fun e w' => ∃ g, W.heap.size ≤ g ∧ e = .returned (.tuple #[.slice (some ⟨g, 0, none⟩) 128 128, .int .i64 0]) ∧ BlkAt w' g (cells L) 70 ∧ Below W.heap.size W w')
    (kn : ∀ W, Calls Try.prog 12 #[.slice none 0 0] W fun e w' => e = .returned (.tuple #[.agg cz, .int .i64 90]) ∧ Below W.heap.size W w') (kt : ∀ g, ∀ W, Calls Try.prog 12 #[.slice (some ⟨g, 0, none⟩) 127 128] W fun e w' => e = .returned (.tuple #[.agg cz, .int .i64 3]) ∧ Below W.heap.size W w')
    (k1 : ∀ W, Calls Try.prog 14 #[.agg (cs.setIfInBounds 6 (.int .i64 3))] W fun e w' => e = .returned (.int .i64 8) ∧ Below W.heap.size W w') (k2 : ∀ W, Calls Try.prog 14 #[.agg (cs.setIfInBounds 8 (.int .i64 1))] W fun e w' => e = .returned (.int .i64 8) ∧ Below W.heap.size W w') (k3 : ∀ W, Calls Try.prog 14 #[.agg ((cs.setIfInBounds 7 (.int .i64 1)).setIfInBounds 8 (.int .i64 1))] W fun e w' => e = .returned (.int .i64 0) ∧ Below W.heap.size W w') (w : World) : Calls Try.prog 3 #[] w fun e w' => e = .returned (.bool true) ∧ Below w.heap.size w w' := by
  have hi10 := (zero_of_info label_size).2
  have hb := Below.refl w.heap.size w
  have A7 : ∀ w6 : World, BlkAt (((w6.alloc (.cells #[.int .u32 0, .int .u32 0, .int .i64 0, .int .i64 0, .int .i64 0, .int .i64 0, .int .i64 0, .int .i64 0, .int .i64 0, .bool false] 28)).alloc (.cells #[.int .u32 0, .int .u32 0, .int .i64 0, .int .i64 0, .int .i64 0, .int .i64 0, .int .i64 0, .int .i64 0, .int .i64 0, .bool false] 28)).alloc (.cells #[.int .u32 0, .int .u32 0, .int .i64 0, .int .i64 0, .int .i64 0, .int .i64 0, .int .i64 0, .int .i64 0, .int .i64 0, .bool false] 28)) w6.heap.size #[.int .u32 0, .int .u32 0, .int .i64 0, .int .i64 0, .int .i64 0, .int .i64 0, .int .i64 0, .int .i64 0, .int .i64 0, .bool false] 28 := fun w6 => ((BlkAt.new w6 #[.int .u32 0, .int .u32 0, .int .i64 0, .int .i64 0, .int .i64 0, .int .i64 0, .int .i64 0, .int .i64 0, .int .i64 0, .bool false] 28).alloc _).alloc _
  have A8 : ∀ w6 : World, BlkAt (((w6.alloc (.cells #[.int .u32 0, .int .u32 0, .int .i64 0, .int .i64 0, .int .i64 0, .int .i64 0, .int .i64 0, .int .i64 0, .int .i64 0, .bool false] 28)).alloc (.cells #[.int .u32 0, .int .u32 0, .int .i64 0, .int .i64 0, .int .i64 0, .int .i64 0, .int .i64 0, .int .i64 0, .int .i64 0, .bool false] 28)).alloc (.cells #[.int .u32 0, .int .u32 0, .int .i64 0, .int .i64 0, .int .i64 0, .int .i64 0, .int .i64 0, .int .i64 0, .int .i64 0, .bool false] 28)) (w6.heap.size + 1) #[.int .u32 0, .int .u32 0, .int .i64 0, .int .i64 0, .int .i64 0, .int .i64 0, .int .i64 0, .int .i64 0, .int .i64 0, .bool false] 28 := fun w6 => by have := (BlkAt.new (w6.alloc (.cells #[.int .u32 0, .int .u32 0, .int .i64 0, .int .i64 0, .int .i64 0, .int .i64 0, .int .i64 0, .int .i64 0, .int .i64 0, .bool false] 28)) #[.int .u32 0, .int .u32 0, .int .i64 0, .int .i64 0, .int .i64 0, .int .i64 0, .int .i64 0, .int .i64 0, .int .i64 0, .bool false] 28).alloc (.cells #[.int .u32 0, .int .u32 0, .int .i64 0, .int .i64 0, .int .i64 0, .int .i64 0, .int .i64 0, .int .i64 0, .int .i64 0, .bool false] 28); rwa [World.size_alloc] at this
  have A9 : ∀ w6 : World, BlkAt (((w6.alloc (.cells #[.int .u32 0, .int .u32 0, .int .i64 0, .int .i64 0, .int .i64 0, .int .i64 0, .int .i64 0, .int .i64 0, .int .i64 0, .bool false] 28)).alloc (.cells #[.int .u32 0, .int .u32 0, .int .i64 0, .int .i64 0, .int .i64 0, .int .i64 0, .int .i64 0, .int .i64 0, .int .i64 0, .bool false] 28)).alloc (.cells #[.int .u32 0, .int .u32 0, .int .i64 0, .int .i64 0, .int .i64 0, .int .i64 0, .int .i64 0, .int .i64 0, .int .i64 0, .bool false] 28)) (w6.heap.size + 1 + 1) #[.int .u32 0, .int .u32 0, .int .i64 0, .int .i64 0, .int .i64 0, .int .i64 0, .int .i64 0, .int .i64 0, .int .i64 0, .bool false] 28 := fun w6 => by have := BlkAt.new ((w6.alloc (.cells #[.int .u32 0, .int .u32 0, .int .i64 0, .int .i64 0, .int .i64 0, .int .i64 0, .int .i64 0, .int .i64 0, .int .i64 0, .bool false] 28)).alloc (.cells #[.int .u32 0, .int .u32 0, .int .i64 0, .int .i64 0, .int .i64 0, .int .i64 0, .int .i64 0, .int .i64 0, .int .i64 0, .bool false] 28)) #[.int .u32 0, .int .u32 0, .int .i64 0, .int .i64 0, .int .i64 0, .int .i64 0, .int .i64 0, .int .i64 0, .int .i64 0, .bool false] 28; rwa [World.size_alloc, World.size_alloc] at this
  go_enter Try.func3, Try.ntmps3
  go_upto_region 2 with (first
    | (go_at_call 11; (with_reducible refine (ko _).mono ?_); rintro e w2 ⟨rfl, hb2⟩; replace hb := hb.trans (hb2.mono hb.size); clear hb2)
    | (go_at_call 10; (with_reducible refine (kw _).mono ?_); rintro e w3 ⟨g, hg, rfl, C, hb3⟩; replace hb := hb.trans (hb3.mono hb.size); clear hb3))
  clear hg
  go_upto_region 3 with (first
    | (go_at_call 12; (with_reducible refine (kn _).mono ?_); rintro e w4 ⟨rfl, hb4⟩; replace hb := hb.trans (hb4.mono hb.size); replace C := C.below hb4 (Nat.le_refl _); clear hb4)
    | refine wpList_store_row rfl 28 _ _ rfl w4.heap.size cz rfl rfl _ _ (BlkAt.new w4 _ _) (by rw [hi10, hcz]) (by rw [hcz]; rfl) hz1 ?_)
  have Q1 : BlkAt ((w4.alloc (.cells #[.int .u32 0, .int .u32 0, .int .i64 0, .int .i64 0, .int .i64 0, .int .i64 0, .int .i64 0, .int .i64 0, .int .i64 0, .bool false] 28)).setRow w4.heap.size cz) w4.heap.size cz 28 := setRow_heap (w4.alloc (.cells #[.int .u32 0, .int .u32 0, .int .i64 0, .int .i64 0, .int .i64 0, .int .i64 0, .int .i64 0, .int .i64 0, .int .i64 0, .bool false] 28)) w4.heap.size _ cz 28 (0, 0) (BlkAt.new w4 _ _)
  have hq : Below w4.heap.size w4 ((w4.alloc (.cells #[.int .u32 0, .int .u32 0, .int .i64 0, .int .i64 0, .int .i64 0, .int .i64 0, .int .i64 0, .int .i64 0, .int .i64 0, .bool false] 28)).setRow w4.heap.size cz) := below_setRow ((Below.refl _ _).alloc (Nat.le_refl _) _) (Nat.le_refl _) _
  replace hb := hb.trans (hq.mono hb.size)
  replace C := C.below hq (Nat.le_refl _)
  clear hq
  generalize World.setRow _ _ _ = v4 at *
  generalize w4.heap.size = t1 at *
  have hsl := fun W => slice_to (some ⟨g, 0, none⟩) 128 128 127 (by omega) W
  go_upto_region 6 with (first
    | (go_at_call 12; (with_reducible refine (kt _ _).mono ?_); rintro e w5 ⟨rfl, hb5⟩; replace hb := hb.trans (hb5.mono hb.size); replace C := C.below hb5 (Nat.le_refl _); clear hb5)
    | refine wpList_store_row rfl 28 _ _ rfl w5.heap.size cz rfl rfl _ _ (BlkAt.new w5 _ _) (by rw [hi10, hcz]) (by rw [hcz]; rfl) hz1 ?_)
  have Q2 : BlkAt ((w5.alloc (.cells #[.int .u32 0, .int .u32 0, .int .i64 0, .int .i64 0, .int .i64 0, .int .i64 0, .int .i64 0, .int .i64 0, .int .i64 0, .bool false] 28)).setRow w5.heap.size cz) w5.heap.size cz 28 := setRow_heap (w5.alloc (.cells #[.int .u32 0, .int .u32 0, .int .i64 0, .int .i64 0, .int .i64 0, .int .i64 0, .int .i64 0, .int .i64 0, .int .i64 0, .bool false] 28)) w5.heap.size _ cz 28 (0, 0) (BlkAt.new w5 _ _)
  have hq : Below w5.heap.size w5 ((w5.alloc (.cells #[.int .u32 0, .int .u32 0, .int .i64 0, .int .i64 0, .int .i64 0, .int .i64 0, .int .i64 0, .int .i64 0, .int .i64 0, .bool false] 28)).setRow w5.heap.size cz) := below_setRow ((Below.refl _ _).alloc (Nat.le_refl _) _) (Nat.le_refl _) _
  replace hb := hb.trans (hq.mono hb.size)
  replace C := C.below hq (Nat.le_refl _)
  clear hq
  generalize World.setRow _ _ _ = v5 at *
  generalize w5.heap.size = t2 at *
  clear Q1 Q2 hsl
  go_upto_region 7 with (first
    | (go_at_call 11; (with_reducible refine (ko _).mono ?_); rintro e w6 ⟨rfl, hb6⟩; replace hb := hb.trans (hb6.mono hb.size); replace C := C.below hb6 (Nat.le_refl _); clear hb6)
    | refine wpList_store_row rfl 28 _ _ rfl w6.heap.size cs rfl rfl _ _ (A7 w6) (by rw [hi10, hcs]) (by rw [hcs]; rfl) hc1 ?_
    | refine wpList_store_row rfl 28 _ _ rfl (w6.heap.size + 1) cs rfl rfl _ _ (BlkAt.setOther (A8 w6) (q := w6.heap.size) (ds := cs) (by omega)) (by rw [hi10, hcs]) (by rw [hcs]; rfl) hc1 ?_
    | refine wpList_store_row rfl 28 _ _ rfl (w6.heap.size + 1 + 1) cs rfl rfl _ _ (BlkAt.setOther (BlkAt.setOther (A9 w6) (q := w6.heap.size) (ds := cs) (by omega)) (q := w6.heap.size + 1) (ds := cs) (by omega)) (by rw [hi10, hcs]) (by rw [hcs]; rfl) hc1 ?_)
  have X := ((A7 w6).setRow (cs := cs)).setOther (q := w6.heap.size + 1) (ds := cs) (by omega) |>.setOther (q := w6.heap.size + 1 + 1) (ds := cs) (by omega)
  have Y := (((A8 w6).setOther (q := w6.heap.size) (ds := cs) (by omega)).setRow (cs := cs)).setOther (q := w6.heap.size + 1 + 1) (ds := cs) (by omega)
  have Z := (((A9 w6).setOther (q := w6.heap.size) (ds := cs) (by omega)).setOther (q := w6.heap.size + 1) (ds := cs) (by omega)).setRow (cs := cs)
  have h6b : Below w6.heap.size w6 (((w6.alloc (.cells #[.int .u32 0, .int .u32 0, .int .i64 0, .int .i64 0, .int .i64 0, .int .i64 0, .int .i64 0, .int .i64 0, .int .i64 0, .bool false] 28)).alloc (.cells #[.int .u32 0, .int .u32 0, .int .i64 0, .int .i64 0, .int .i64 0, .int .i64 0, .int .i64 0, .int .i64 0, .int .i64 0, .bool false] 28)).alloc (.cells #[.int .u32 0, .int .u32 0, .int .i64 0, .int .i64 0, .int .i64 0, .int .i64 0, .int .i64 0, .int .i64 0, .int .i64 0, .bool false] 28)) := (((Below.refl _ _).alloc (Nat.le_refl _) _).alloc (by simp) _).alloc (by simp; omega) _
  have hq : Below w6.heap.size w6 ((((((w6.alloc (.cells #[.int .u32 0, .int .u32 0, .int .i64 0, .int .i64 0, .int .i64 0, .int .i64 0, .int .i64 0, .int .i64 0, .int .i64 0, .bool false] 28)).alloc (.cells #[.int .u32 0, .int .u32 0, .int .i64 0, .int .i64 0, .int .i64 0, .int .i64 0, .int .i64 0, .int .i64 0, .int .i64 0, .bool false] 28)).alloc (.cells #[.int .u32 0, .int .u32 0, .int .i64 0, .int .i64 0, .int .i64 0, .int .i64 0, .int .i64 0, .int .i64 0, .int .i64 0, .bool false] 28)).setRow w6.heap.size cs).setRow (w6.heap.size + 1) cs).setRow (w6.heap.size + 1 + 1) cs) := below_setRow (below_setRow (below_setRow h6b (Nat.le_refl _) _) (by omega) _) (by omega) _
  replace C := C.below hq (Nat.le_refl _)
  have hs6 := hb.size
  replace hb := hb.trans (hq.mono hb.size)
  clear h6b hq A7 A8 A9 ko kw kn kt
  generalize World.setRow _ _ _ = v6 at *
  obtain ⟨pX, hpX⟩ : ∃ pX, pX = w6.heap.size := ⟨_, rfl⟩
  rw [← hpX] at X Y Z hs6 ⊢
  clear hpX
  have gC : g ≠ pX ∧ g ≠ pX + 1 ∧ g ≠ pX + 1 + 1 := by
    refine ⟨?_, ?_, ?_⟩
    all_goals
      intro e
      subst e
      first
        | (have c := C.symm.trans X; cases c; done)
        | (have c := C.symm.trans Y; cases c; done)
        | (have c := C.symm.trans Z; cases c; done)
  obtain ⟨n1, n2, n3⟩ := gC
  have f1 := X.free
  have e1 := (X.cell 6).trans h6
  go_upto_region 8 with fail
  clear f1 e1
  replace C := C.other (p := ⟨pX, 6, none⟩) (by dsimp only; omega) (.int .i64 3)
  replace Y := Y.other (p := ⟨pX, 6, none⟩) (by dsimp only; omega) (.int .i64 3)
  replace Z := Z.other (p := ⟨pX, 6, none⟩) (by dsimp only; omega) (.int .i64 3)
  replace hb := hb.setCell (p := ⟨pX, 6, none⟩) (by dsimp only; omega) (.int .i64 3)
  replace X := X.put 6 (.int .i64 3)
  generalize World.setCell _ _ _ = x1 at *
  have f2 := Y.free
  have e2 := (Y.cell 8).trans h8
  go_upto_region 9 with fail
  clear f2 e2
  replace C := C.other (p := ⟨pX + 1, 8, none⟩) (by dsimp only; omega) (.int .i64 1)
  replace X := X.other (p := ⟨pX + 1, 8, none⟩) (by dsimp only; omega) (.int .i64 1)
  replace Z := Z.other (p := ⟨pX + 1, 8, none⟩) (by dsimp only; omega) (.int .i64 1)
  replace hb := hb.setCell (p := ⟨pX + 1, 8, none⟩) (by dsimp only; omega) (.int .i64 1)
  replace Y := Y.put 8 (.int .i64 1)
  generalize World.setCell _ _ _ = x2 at *
  have f3 := Z.free
  have e3 := (Z.cell 7).trans h7
  have e4 := (Z.cell 8).trans h8
  go_upto_region 10 with fail
  clear f3 e3 e4
  replace C := C.other (p := ⟨pX + 1 + 1, 7, none⟩) (by dsimp only; omega) (.int .i64 1)
  replace X := X.other (p := ⟨pX + 1 + 1, 7, none⟩) (by dsimp only; omega) (.int .i64 1)
  replace Y := Y.other (p := ⟨pX + 1 + 1, 7, none⟩) (by dsimp only; omega) (.int .i64 1)
  replace hb := hb.setCell (p := ⟨pX + 1 + 1, 7, none⟩) (by dsimp only; omega) (.int .i64 1)
  replace Z := Z.put 7 (.int .i64 1)
  replace C := C.other (p := ⟨pX + 1 + 1, 8, none⟩) (by dsimp only; omega) (.int .i64 1)
  replace X := X.other (p := ⟨pX + 1 + 1, 8, none⟩) (by dsimp only; omega) (.int .i64 1)
  replace Y := Y.other (p := ⟨pX + 1 + 1, 8, none⟩) (by dsimp only; omega) (.int .i64 1)
  replace hb := hb.setCell (p := ⟨pX + 1 + 1, 8, none⟩) (by dsimp only; omega) (.int .i64 1)
  replace Z := Z.put 8 (.int .i64 1)
  generalize World.setCell _ _ _ = x3 at *
  have hsl := fun W => slice_to (some ⟨g, 0, none⟩) 128 128 17 (by omega) W
  have tx := fun (W : World) (h : BlkAt W g (cells L) 70) => ((Ints.ofCells h hL (by omega) hLB).take (N := 17) (by omega)).text (P := Try.prog) (c := 128) Try.underlying22 Try.underlying5 Try.underlying9
  rw [hs] at tx
  have s1 : (cs.setIfInBounds 6 (.int .i64 3)).size = 10 := by rw [Array.size_setIfInBounds]; exact hcs
  have s2 : (cs.setIfInBounds 8 (.int .i64 1)).size = 10 := by rw [Array.size_setIfInBounds]; exact hcs
  have s3 : ((cs.setIfInBounds 7 (.int .i64 1)).setIfInBounds 8 (.int .i64 1)).size = 10 := by rw [Array.size_setIfInBounds, Array.size_setIfInBounds]; exact hcs
  go_wp2_with (first
    | (go_at_call 13; (with_reducible refine (ka _).mono ?_); rintro e w7 ⟨rfl, hb7⟩; replace hb := hb.trans (hb7.mono hb.size); replace C := C.below hb7 (Nat.le_refl _); replace X := X.below hb7 (Nat.le_refl _); replace Y := Y.below hb7 (Nat.le_refl _); replace Z := Z.below hb7 (Nat.le_refl _); clear hb7; have t17 := tx _ C)
    | refine wpList_load_rowG (by rfl) 28 _ rfl pX rfl _ _ _ _ X Try.underlying28 (by rw [hi10, s1]) ?_
    | refine wpList_load_rowG (by rfl) 28 _ rfl (pX + 1) rfl _ _ _ _ Y Try.underlying28 (by rw [hi10, s2]) ?_
    | refine wpList_load_rowG (by rfl) 28 _ rfl (pX + 1 + 1) rfl _ _ _ _ Z Try.underlying28 (by rw [hi10, s3]) ?_
    | (go_at_call 14; (with_reducible refine (k1 _).mono ?_); rintro e w8 ⟨rfl, hb8⟩; replace hb := hb.trans (hb8.mono hb.size); replace X := X.below hb8 (Nat.le_refl _); replace Y := Y.below hb8 (Nat.le_refl _); replace Z := Z.below hb8 (Nat.le_refl _); clear hb8)
    | (go_at_call 14; (with_reducible refine (k2 _).mono ?_); rintro e w9 ⟨rfl, hb9⟩; replace hb := hb.trans (hb9.mono hb.size); replace X := X.below hb9 (Nat.le_refl _); replace Y := Y.below hb9 (Nat.le_refl _); replace Z := Z.below hb9 (Nat.le_refl _); clear hb9)
    | (go_at_call 14; (with_reducible refine (k3 _).mono ?_); rintro e w10 ⟨rfl, hb10⟩; replace hb := hb.trans (hb10.mono hb.size); replace X := X.below hb10 (Nat.le_refl _); replace Y := Y.below hb10 (Nat.le_refl _); replace Z := Z.below hb10 (Nat.le_refl _); clear hb10))
  go_ret
  exact ⟨rfl, hb⟩
theorem one_text : strOfNums ((blockL oneL).take 17) = ⟨#[76, 7, 0, 0, 0, 2, 0, 0, 0, 3, 1, 1, 12, 1, 255, 0, 1]⟩ := by decide +kernel
theorem labelNames_walk (w : World) : Calls Try.prog 3 #[] w fun e w' => e = .returned (.bool true) ∧ Below w.heap.size w w' := by
  have hz : ¬ ReadsAs (pad []) := fun h => not_may_nil h.1
  have kn := fun W => labRead none 0 0 [] W (nil_ints9 _ _) (.inl rfl)
  unfold readL readE at kn
  rw [if_neg hz, if_neg hz] at kn
  refine names_gen (labA oneL) (labA zeroL) rfl (by simp [labA, Value.oneCell']) rfl (by simp [labA, Value.oneCell']) _ _ _ rfl rfl rfl (blockL oneL) (block_len _) (block_bytes _) one_text (fun W => alive9_calls W) (fun W => one_calls W)
    (fun W => (labWrite_ok oneL_wide oneL_may W).mono ?_) kn (fun g W => labRead_text (some ⟨g, 0, none⟩) 127 128 (by omega) (by omega) (by omega) W) (fun W => ?_) (fun W => ?_) (fun W => ?_) w
  · rintro e w' ⟨g, hg, rfl, hc, hb⟩
    exact ⟨g, hg, rfl, hc, hb⟩
  · have := labCheck ⟨7, 2, 3, 1, 1, 12, 3, -1, 0, true⟩ W
    rw [chkL_not (by decide)] at this
    exact this
  · have := labCheck ⟨7, 2, 3, 1, 1, 12, 1, -1, 1, true⟩ W
    rw [chkL_not (by decide)] at this
    exact this
  · have := labCheck ⟨7, 2, 3, 1, 1, 12, 1, 1, 1, true⟩ W
    rw [chkL_may (by decide)] at this
    exact this


namespace labelNames
set_option linter.unusedVariables false
set_option maxRecDepth 100000 in
theorem lifted (os : Os) (started : os.Started) (H : Type) (enc : TypeId × Value → H) :
    ReturnsInHanded {} Try.checked os 3 .any (Rows.labelNamesSpec.pre6 enc Try.prog Try.f3 Rows.labelNamesRow.domain false) (Rows.labelNamesSpec.post enc Try.prog Try.f3 false true false false) := by
  refine returnsInHanded_of_change (C := Try.checked) Try.own started (by kernel_rfl) Try.func3
    (ChangeSpec.witness6 (enc := enc) (C := Try.checked) false ⟨#[], #[], []⟩ 8 (by kernel_rfl) (by kernel_rfl) (by kernel_rfl) (by kernel_rfl)) ?_
  intro W base args ds gs before hval0 hW hcnd _
  have hval : ∀ (j : Nat) t v, Try.f3.params[j]? = some t → args[j]? = some v → Value.okWide Try.prog W .any base t v := hval0
  have hW' := hW
  obtain ⟨p, q, hA0, hV, rfl, hfz, hnd⟩ := hW
  have hA : DataW.TrodAll enc Try.prog W 0 (fun _ => true) true Try.f3.params.toList args.toList ds p := hA0
  rw [Try.params3] at hA hval
  obtain ⟨hargs, rfl, rfl⟩ := trodAll_nil hA
  obtain rfl : args = #[] := by cases args; simp_all
  obtain ⟨rfl, rfl⟩ := trodVars_none hV
  clear hA0 hval0
  refine (labelNames_walk W).mono fun e W' ⟨he, bel⟩ => ?_
  subst he
  exact ⟨_, rfl, _, _, _, [], _, [], hW', trodAll_mk1 (shut_bool Try.underlying4 _), trodAll_mk0, rfl, bel.frame _, fun h => by cases h⟩

theorem holds : Rows.LabelNamesSaid :=
  OpenClaim.holds_of_wide 3 Try.f3 rfl rfl rfl rfl rfl rfl rfl ⟨rfl, rfl, rfl, rfl, rfl⟩ rfl rfl rfl rfl rfl (by kernel_rfl) Try.func3 (by kernel_rfl)
    (of_decide_eq_true (by kernel_rfl)) (by unfold Func.isWrapper; first | (rw [if_pos (by decide +kernel)]; kernel_rfl) | (rw [if_neg (by decide +kernel)]; exact ⟨rfl, rfl⟩))
    (fun os started H enc _ => lifted os started H enc)
end labelNames
end Go.Proofs.Ytdljondmlooeaaa
