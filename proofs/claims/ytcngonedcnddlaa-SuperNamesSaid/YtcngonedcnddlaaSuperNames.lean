/- freeboardlaw10.SuperNames: for every input the law answers true, and what is handed in reads as it did. Conditions: none. -/
import Derived.Test.YtcngonedcnddlaaSuperAlive
import Derived.Deep.RegionHeld3
import Derived.Deep.Cut
namespace Go.Proofs.Ytcngonedcnddlaa
open Go.ChangeShapes Go.WideShapes Go.ChangeAt Go.RowKit PolyM PackM SealM LabelM SuperM
set_option linter.unusedVariables false
set_option maxRecDepth 100000 in
set_option maxHeartbeats 4000000 in
theorem names_gen (L : List Int) (hL : L.length = 128) (hLB : Bytes L) (ka : ∀ W, Calls Try.prog 12 #[] W fun e w' => e = .returned (.bool true) ∧ Below W.heap.size W w') (ko : ∀ W, Calls Try.prog 10 #[] W fun e w' => e = .returned (.agg #[.int .u32 7, .int .u32 1, .int .u32 300, .int .i64 5]) ∧ Below W.heap.size W w')
    (kw : ∀ W, Calls Try.prog 9 #[.agg #[.int .u32 7, .int .u32 1, .int .u32 300, .int .i64 5]] W fun e w' => ∃ g, W.heap.size ≤ g ∧ e = .returned (.tuple #[.slice (some ⟨g, 0, none⟩) 128 128, .int .i64 0]) ∧ BlkAt w' g (cells L) 79 ∧ Below W.heap.size W w')
    (kr : ∀ A c W, Ints .u8 W A 128 L → Calls Try.prog 11 #[.slice A 128 c] W fun e w' => e = .returned (.tuple #[.agg #[.int .u32 7, .int .u32 1, .int .u32 300, .int .i64 5], .int .i64 0]) ∧ Below W.heap.size W w')
    (kn : ∀ W, Calls Try.prog 11 #[.slice none 0 0] W fun e w' => e = .returned (.tuple #[.agg #[.int .u32 0, .int .u32 0, .int .u32 0, .int .i64 0], .int .i64 90]) ∧ Below W.heap.size W w')
    (kt : ∀ A c W, Ints .u8 W A 1 [83] → Calls Try.prog 11 #[.slice A 1 c] W fun e w' => e = .returned (.tuple #[.agg #[.int .u32 0, .int .u32 0, .int .u32 0, .int .i64 0], .int .i64 3]) ∧ Below W.heap.size W w')
    (k1 : ∀ W, Calls Try.prog 13 #[.agg #[.int .u32 7, .int .u32 0, .int .u32 300, .int .i64 5]] W fun e w' => e = .returned (.int .i64 8) ∧ Below W.heap.size W w') (k2 : ∀ W, Calls Try.prog 13 #[.agg #[.int .u32 7, .int .u32 1, .int .u32 2147483649, .int .i64 5]] W fun e w' => e = .returned (.int .i64 8) ∧ Below W.heap.size W w') (k3 : ∀ W, Calls Try.prog 13 #[.agg #[.int .u32 7, .int .u32 1, .int .u32 300, .int .i64 255]] W fun e w' => e = .returned (.int .i64 8) ∧ Below W.heap.size W w') (he : ∀ W, (binOp .eql 28 (.agg #[.int .u32 7, .int .u32 1, .int .u32 300, .int .i64 5]) (.agg #[.int .u32 7, .int .u32 1, .int .u32 300, .int .i64 5])).run Try.prog W = .ok (.bool true) W) (w : World) : Calls Try.prog 3 #[] w fun e w' => e = .returned (.bool true) ∧ Below w.heap.size w w' := by
  have hi4 := (zero_of_info super_size).2
  have hb := Below.refl w.heap.size w
  have h83 : Bytes [83] := by intro z hz; simp only [List.mem_cons, List.not_mem_nil, or_false] at hz; subst hz; omega
  have A7 : ∀ w6 : World, BlkAt (((w6.alloc (.cells #[.int .u32 0, .int .u32 0, .int .u32 0, .int .i64 0] 28)).alloc (.cells #[.int .u32 0, .int .u32 0, .int .u32 0, .int .i64 0] 28)).alloc (.cells #[.int .u32 0, .int .u32 0, .int .u32 0, .int .i64 0] 28)) w6.heap.size #[.int .u32 0, .int .u32 0, .int .u32 0, .int .i64 0] 28 := fun w6 => ((BlkAt.new w6 #[.int .u32 0, .int .u32 0, .int .u32 0, .int .i64 0] 28).alloc _).alloc _
  have A8 : ∀ w6 : World, BlkAt (((w6.alloc (.cells #[.int .u32 0, .int .u32 0, .int .u32 0, .int .i64 0] 28)).alloc (.cells #[.int .u32 0, .int .u32 0, .int .u32 0, .int .i64 0] 28)).alloc (.cells #[.int .u32 0, .int .u32 0, .int .u32 0, .int .i64 0] 28)) (w6.heap.size + 1) #[.int .u32 0, .int .u32 0, .int .u32 0, .int .i64 0] 28 := fun w6 => by have := (BlkAt.new (w6.alloc (.cells #[.int .u32 0, .int .u32 0, .int .u32 0, .int .i64 0] 28)) #[.int .u32 0, .int .u32 0, .int .u32 0, .int .i64 0] 28).alloc (.cells #[.int .u32 0, .int .u32 0, .int .u32 0, .int .i64 0] 28); rwa [World.size_alloc] at this
  have A9 : ∀ w6 : World, BlkAt (((w6.alloc (.cells #[.int .u32 0, .int .u32 0, .int .u32 0, .int .i64 0] 28)).alloc (.cells #[.int .u32 0, .int .u32 0, .int .u32 0, .int .i64 0] 28)).alloc (.cells #[.int .u32 0, .int .u32 0, .int .u32 0, .int .i64 0] 28)) (w6.heap.size + 1 + 1) #[.int .u32 0, .int .u32 0, .int .u32 0, .int .i64 0] 28 := fun w6 => by have := BlkAt.new ((w6.alloc (.cells #[.int .u32 0, .int .u32 0, .int .u32 0, .int .i64 0] 28)).alloc (.cells #[.int .u32 0, .int .u32 0, .int .u32 0, .int .i64 0] 28)) #[.int .u32 0, .int .u32 0, .int .u32 0, .int .i64 0] 28; rwa [World.size_alloc, World.size_alloc] at this
  go_enter Try.func3, Try.ntmps3
  go_upto_region 2 with (first
    | (go_at_call 10; (with_reducible refine (ko _).mono ?_); rintro e w2 ⟨rfl, hb2⟩; replace hb := hb.trans (hb2.mono hb.size); clear hb2)
    | (go_at_call 9; (with_reducible refine (kw _).mono ?_); rintro e w3 ⟨g, hg, rfl, C, hb3⟩; replace hb := hb.trans (hb3.mono hb.size); clear hb3))
  clear hg
  have I := Ints.ofCells C hL (by omega) hLB
  clear C
  go_upto_region 3 with (first
    | (go_at_call 11; (with_reducible refine (kr _ _ _ I).mono ?_); rintro e w4 ⟨rfl, hb4⟩; replace hb := hb.trans (hb4.mono hb.size); clear hb4)
    | refine wpList_store_row rfl 28 _ _ rfl w4.heap.size #[.int .u32 7, .int .u32 1, .int .u32 300, .int .i64 5] rfl rfl _ _ (BlkAt.new w4 _ _) (by rw [hi4]; rfl) rfl (by simp [Value.oneCell']) ?_)
  have Q0 : BlkAt ((w4.alloc (.cells #[.int .u32 0, .int .u32 0, .int .u32 0, .int .i64 0] 28)).setRow w4.heap.size #[.int .u32 7, .int .u32 1, .int .u32 300, .int .i64 5]) w4.heap.size #[.int .u32 7, .int .u32 1, .int .u32 300, .int .i64 5] 28 := setRow_heap (w4.alloc (.cells #[.int .u32 0, .int .u32 0, .int .u32 0, .int .i64 0] 28)) w4.heap.size _ #[.int .u32 7, .int .u32 1, .int .u32 300, .int .i64 5] 28 (0, 0) (BlkAt.new w4 _ _)
  have hq : Below w4.heap.size w4 ((w4.alloc (.cells #[.int .u32 0, .int .u32 0, .int .u32 0, .int .i64 0] 28)).setRow w4.heap.size #[.int .u32 7, .int .u32 1, .int .u32 300, .int .i64 5]) := below_setRow ((Below.refl _ _).alloc (Nat.le_refl _) _) (Nat.le_refl _) _
  replace hb := hb.trans (hq.mono hb.size)
  clear hq
  generalize World.setRow _ _ _ = v4 at *
  generalize w4.heap.size = t0 at *
  clear I
  go_upto_region 4 with (first
    | (go_at_call 11; (with_reducible refine (kn _).mono ?_); rintro e w5 ⟨rfl, hb5⟩; replace hb := hb.trans (hb5.mono hb.size); replace Q0 := Q0.below hb5 (Nat.le_refl _); clear hb5)
    | refine wpList_store_row rfl 28 _ _ rfl w5.heap.size #[.int .u32 0, .int .u32 0, .int .u32 0, .int .i64 0] rfl rfl _ _ (BlkAt.new w5 _ _) (by rw [hi4]; rfl) rfl (by simp [Value.oneCell']) ?_)
  have Q1 : BlkAt ((w5.alloc (.cells #[.int .u32 0, .int .u32 0, .int .u32 0, .int .i64 0] 28)).setRow w5.heap.size #[.int .u32 0, .int .u32 0, .int .u32 0, .int .i64 0]) w5.heap.size #[.int .u32 0, .int .u32 0, .int .u32 0, .int .i64 0] 28 := setRow_heap (w5.alloc (.cells #[.int .u32 0, .int .u32 0, .int .u32 0, .int .i64 0] 28)) w5.heap.size _ #[.int .u32 0, .int .u32 0, .int .u32 0, .int .i64 0] 28 (0, 0) (BlkAt.new w5 _ _)
  have hq : Below w5.heap.size w5 ((w5.alloc (.cells #[.int .u32 0, .int .u32 0, .int .u32 0, .int .i64 0] 28)).setRow w5.heap.size #[.int .u32 0, .int .u32 0, .int .u32 0, .int .i64 0]) := below_setRow ((Below.refl _ _).alloc (Nat.le_refl _) _) (Nat.le_refl _) _
  replace hb := hb.trans (hq.mono hb.size)
  replace Q0 := Q0.below hq (Nat.le_refl _)
  clear hq
  generalize World.setRow _ _ _ = v5 at *
  generalize w5.heap.size = t1 at *
  clear Q1
  have b83 : Below v5.heap.size v5 (v5.alloc (.cells #[.int .u8 83] 5)) := (Below.refl _ _).alloc (Nat.le_refl _) _
  have J : Ints .u8 (v5.alloc (.cells #[.int .u8 83] 5)) (some ⟨v5.heap.size, 0, none⟩) 1 [83] := Ints.ofCells (n := 1) (zs := [83]) (heap_alloc_new _ _) rfl (by omega) h83
  replace Q0 := Q0.below b83 (Nat.le_refl _)
  replace hb := hb.trans (b83.mono hb.size)
  clear b83
  go_upto_region 5 with (first
    | (go_at_call 11; (with_reducible refine (kt _ _ _ J).mono ?_); rintro e w7 ⟨rfl, hb7⟩; replace hb := hb.trans (hb7.mono hb.size); replace Q0 := Q0.below hb7 (Nat.le_refl _); clear hb7)
    | refine wpList_store_row rfl 28 _ _ rfl w7.heap.size #[.int .u32 0, .int .u32 0, .int .u32 0, .int .i64 0] rfl rfl _ _ (BlkAt.new w7 _ _) (by rw [hi4]; rfl) rfl (by simp [Value.oneCell']) ?_)
  have Q2 : BlkAt ((w7.alloc (.cells #[.int .u32 0, .int .u32 0, .int .u32 0, .int .i64 0] 28)).setRow w7.heap.size #[.int .u32 0, .int .u32 0, .int .u32 0, .int .i64 0]) w7.heap.size #[.int .u32 0, .int .u32 0, .int .u32 0, .int .i64 0] 28 := setRow_heap (w7.alloc (.cells #[.int .u32 0, .int .u32 0, .int .u32 0, .int .i64 0] 28)) w7.heap.size _ #[.int .u32 0, .int .u32 0, .int .u32 0, .int .i64 0] 28 (0, 0) (BlkAt.new w7 _ _)
  have hq : Below w7.heap.size w7 ((w7.alloc (.cells #[.int .u32 0, .int .u32 0, .int .u32 0, .int .i64 0] 28)).setRow w7.heap.size #[.int .u32 0, .int .u32 0, .int .u32 0, .int .i64 0]) := below_setRow ((Below.refl _ _).alloc (Nat.le_refl _) _) (Nat.le_refl _) _
  replace hb := hb.trans (hq.mono hb.size)
  replace Q0 := Q0.below hq (Nat.le_refl _)
  clear hq
  generalize World.setRow _ _ _ = v7 at *
  generalize w7.heap.size = t2 at *
  clear Q2 J
  go_upto_region 6 with (first
    | (go_at_call 10; (with_reducible refine (ko _).mono ?_); rintro e w6 ⟨rfl, hb6⟩; replace hb := hb.trans (hb6.mono hb.size); replace Q0 := Q0.below hb6 (Nat.le_refl _); clear hb6)
    | refine wpList_store_row rfl 28 _ _ rfl w6.heap.size #[.int .u32 7, .int .u32 1, .int .u32 300, .int .i64 5] rfl rfl _ _ (A7 w6) (by rw [hi4]; rfl) rfl (by simp [Value.oneCell']) ?_
    | refine wpList_store_row rfl 28 _ _ rfl (w6.heap.size + 1) #[.int .u32 7, .int .u32 1, .int .u32 300, .int .i64 5] rfl rfl _ _ (BlkAt.setOther (A8 w6) (q := w6.heap.size) (ds := #[.int .u32 7, .int .u32 1, .int .u32 300, .int .i64 5]) (by omega)) (by rw [hi4]; rfl) rfl (by simp [Value.oneCell']) ?_
    | refine wpList_store_row rfl 28 _ _ rfl (w6.heap.size + 1 + 1) #[.int .u32 7, .int .u32 1, .int .u32 300, .int .i64 5] rfl rfl _ _ (BlkAt.setOther (BlkAt.setOther (A9 w6) (q := w6.heap.size) (ds := #[.int .u32 7, .int .u32 1, .int .u32 300, .int .i64 5]) (by omega)) (q := w6.heap.size + 1) (ds := #[.int .u32 7, .int .u32 1, .int .u32 300, .int .i64 5]) (by omega)) (by rw [hi4]; rfl) rfl (by simp [Value.oneCell']) ?_)
  have X := ((A7 w6).setRow (cs := #[.int .u32 7, .int .u32 1, .int .u32 300, .int .i64 5])).setOther (q := w6.heap.size + 1) (ds := #[.int .u32 7, .int .u32 1, .int .u32 300, .int .i64 5]) (by omega) |>.setOther (q := w6.heap.size + 1 + 1) (ds := #[.int .u32 7, .int .u32 1, .int .u32 300, .int .i64 5]) (by omega)
  have Y := (((A8 w6).setOther (q := w6.heap.size) (ds := #[.int .u32 7, .int .u32 1, .int .u32 300, .int .i64 5]) (by omega)).setRow (cs := #[.int .u32 7, .int .u32 1, .int .u32 300, .int .i64 5])).setOther (q := w6.heap.size + 1 + 1) (ds := #[.int .u32 7, .int .u32 1, .int .u32 300, .int .i64 5]) (by omega)
  have Z := (((A9 w6).setOther (q := w6.heap.size) (ds := #[.int .u32 7, .int .u32 1, .int .u32 300, .int .i64 5]) (by omega)).setOther (q := w6.heap.size + 1) (ds := #[.int .u32 7, .int .u32 1, .int .u32 300, .int .i64 5]) (by omega)).setRow (cs := #[.int .u32 7, .int .u32 1, .int .u32 300, .int .i64 5])
  have h6b : Below w6.heap.size w6 (((w6.alloc (.cells #[.int .u32 0, .int .u32 0, .int .u32 0, .int .i64 0] 28)).alloc (.cells #[.int .u32 0, .int .u32 0, .int .u32 0, .int .i64 0] 28)).alloc (.cells #[.int .u32 0, .int .u32 0, .int .u32 0, .int .i64 0] 28)) := (((Below.refl _ _).alloc (Nat.le_refl _) _).alloc (by simp) _).alloc (by simp; omega) _
  have hq : Below w6.heap.size w6 ((((((w6.alloc (.cells #[.int .u32 0, .int .u32 0, .int .u32 0, .int .i64 0] 28)).alloc (.cells #[.int .u32 0, .int .u32 0, .int .u32 0, .int .i64 0] 28)).alloc (.cells #[.int .u32 0, .int .u32 0, .int .u32 0, .int .i64 0] 28)).setRow w6.heap.size #[.int .u32 7, .int .u32 1, .int .u32 300, .int .i64 5]).setRow (w6.heap.size + 1) #[.int .u32 7, .int .u32 1, .int .u32 300, .int .i64 5]).setRow (w6.heap.size + 1 + 1) #[.int .u32 7, .int .u32 1, .int .u32 300, .int .i64 5]) := below_setRow (below_setRow (below_setRow h6b (Nat.le_refl _) _) (by omega) _) (by omega) _
  have t06 := Q0.lt
  replace Q0 := Q0.below hq (Nat.le_refl _)
  have hs6 := hb.size
  replace hb := hb.trans (hq.mono hb.size)
  clear h6b hq A7 A8 A9 kw kn kt kr
  generalize World.setRow _ _ _ = v6 at *
  obtain ⟨pX, hpX⟩ : ∃ pX, pX = w6.heap.size := ⟨_, rfl⟩
  rw [← hpX] at X Y Z hs6 t06 ⊢
  clear hpX
  have f1 := X.free
  have e1 := X.cell 1
  go_upto_region 7 with fail
  clear f1 e1
  replace Q0 := Q0.other (p := ⟨pX, 1, none⟩) (by dsimp only; omega) (.int .u32 0)
  replace Y := Y.other (p := ⟨pX, 1, none⟩) (by dsimp only; omega) (.int .u32 0)
  replace Z := Z.other (p := ⟨pX, 1, none⟩) (by dsimp only; omega) (.int .u32 0)
  replace hb := hb.setCell (p := ⟨pX, 1, none⟩) (by dsimp only; omega) (.int .u32 0)
  replace X := X.put 1 (.int .u32 0)
  generalize World.setCell _ _ _ = x1 at *
  have f2 := Y.free
  have e2 := Y.cell 2
  go_upto_region 8 with fail
  clear f2 e2
  replace Q0 := Q0.other (p := ⟨pX + 1, 2, none⟩) (by dsimp only; omega) (.int .u32 2147483649)
  replace X := X.other (p := ⟨pX + 1, 2, none⟩) (by dsimp only; omega) (.int .u32 2147483649)
  replace Z := Z.other (p := ⟨pX + 1, 2, none⟩) (by dsimp only; omega) (.int .u32 2147483649)
  replace hb := hb.setCell (p := ⟨pX + 1, 2, none⟩) (by dsimp only; omega) (.int .u32 2147483649)
  replace Y := Y.put 2 (.int .u32 2147483649)
  generalize World.setCell _ _ _ = x2 at *
  have f3 := Z.free
  have e3 := Z.cell 3
  go_upto_region 9 with fail
  clear f3 e3
  replace Q0 := Q0.other (p := ⟨pX + 1 + 1, 3, none⟩) (by dsimp only; omega) (.int .i64 255)
  replace X := X.other (p := ⟨pX + 1 + 1, 3, none⟩) (by dsimp only; omega) (.int .i64 255)
  replace Y := Y.other (p := ⟨pX + 1 + 1, 3, none⟩) (by dsimp only; omega) (.int .i64 255)
  replace hb := hb.setCell (p := ⟨pX + 1 + 1, 3, none⟩) (by dsimp only; omega) (.int .i64 255)
  replace Z := Z.put 3 (.int .i64 255)
  generalize World.setCell _ _ _ = x3 at *
  replace Q0 := Q0.drew
  replace X := X.drew
  replace Y := Y.drew
  replace Z := Z.drew
  replace hb := hb.drew
  refine wp_region_held_drew (S := (fun W => (W.cell? ⟨t0, 0, none⟩ = some (.int .u32 7) ∧ W.cell? ⟨t0, 1, none⟩ = some (.int .u32 1) ∧ W.cell? ⟨t0, 2, none⟩ = some (.int .u32 300) ∧ W.cell? ⟨t0, 3, none⟩ = some (.int .i64 5)) ∧ (W.cell? ⟨pX, 0, none⟩ = some (.int .u32 7) ∧ W.cell? ⟨pX, 1, none⟩ = some (.int .u32 0) ∧ W.cell? ⟨pX, 2, none⟩ = some (.int .u32 300) ∧ W.cell? ⟨pX, 3, none⟩ = some (.int .i64 5)) ∧ (W.cell? ⟨pX + 1, 0, none⟩ = some (.int .u32 7) ∧ W.cell? ⟨pX + 1, 1, none⟩ = some (.int .u32 1) ∧ W.cell? ⟨pX + 1, 2, none⟩ = some (.int .u32 2147483649) ∧ W.cell? ⟨pX + 1, 3, none⟩ = some (.int .i64 5)) ∧ (W.cell? ⟨pX + 1 + 1, 0, none⟩ = some (.int .u32 7) ∧ W.cell? ⟨pX + 1 + 1, 1, none⟩ = some (.int .u32 1) ∧ W.cell? ⟨pX + 1 + 1, 2, none⟩ = some (.int .u32 300) ∧ W.cell? ⟨pX + 1 + 1, 3, none⟩ = some (.int .i64 255)))) (by kernel_rfl) ?_ (fun hHeld => ?_)
  · exact ⟨⟨Q0.cell 0, Q0.cell 1, Q0.cell 2, Q0.cell 3⟩, ⟨X.cell 0, X.cell 1, X.cell 2, X.cell 3⟩, ⟨Y.cell 0, Y.cell 1, Y.cell 2, Y.cell 3⟩, ⟨Z.cell 0, Z.cell 1, Z.cell 2, Z.cell 3⟩⟩
  refine wpAnyH_take (i := 0) (v := ?_) rfl (by kernel_rfl) (by kernel_rfl) (by kernel_rfl) (fun _ _ _ h => h) (Or.inl ⟨by rfl, ?_⟩) hHeld ?_
  rotate_left
  · (intro w hSw; (try dsimp only at hSw); go_simp; try with_reducible rfl)
  try simp only [Act.put, List.getElem_toArray, List.getElem_cons_zero, List.setIfInBounds_toArray, List.set_cons_zero, List.set_cons_succ]
  refine wpAnyH_ready (rs := [1]) (by kernel_rfl) (by simp) ?_
  refine AllReadyH.cons rfl (fun K hK => ?_) AllReadyH.nil
  go_simp
  (with_reducible refine (ka _).mono ?_)
  rintro e z1 ⟨rfl, hq⟩
  replace Q0 := Q0.below hq (Nat.le_refl _)
  replace X := X.below hq (Nat.le_refl _)
  replace Y := Y.below hq (Nat.le_refl _)
  replace Z := Z.below hq (Nat.le_refl _)
  replace hb := hb.trans (hq.mono hb.size)
  clear hq
  go_wp2_with fail
  refine hK.out _ _ ?_ (fun hHeld2 => ?_)
  · exact ⟨⟨Q0.cell 0, Q0.cell 1, Q0.cell 2, Q0.cell 3⟩, ⟨X.cell 0, X.cell 1, X.cell 2, X.cell 3⟩, ⟨Y.cell 0, Y.cell 1, Y.cell 2, Y.cell 3⟩, ⟨Z.cell 0, Z.cell 1, Z.cell 2, Z.cell 3⟩⟩
  clear hK K hHeld
  have hHeld := hHeld2
  clear hHeld2
  try simp only [Act.put, List.setIfInBounds_toArray, List.set_cons_zero, List.set_cons_succ]
  refine wpAnyH_take (i := 2) (v := ?_) rfl (by kernel_rfl) (by kernel_rfl) (by kernel_rfl) (fun _ _ _ h => h) (Or.inl ⟨by rfl, ?_⟩) hHeld ?_
  rotate_left
  · (intro w hSw; (try dsimp only at hSw); go_simp; try with_reducible rfl)
  try simp only [Act.put, List.getElem_toArray, List.getElem_cons_zero, List.getElem_cons_succ, List.setIfInBounds_toArray, List.set_cons_zero, List.set_cons_succ]
  refine wpAnyH_take (i := 3) (v := ?_) rfl (by kernel_rfl) (by kernel_rfl) (by kernel_rfl) (fun _ _ _ h => h) (Or.inl ⟨by rfl, ?_⟩) hHeld ?_
  rotate_left
  · (intro w hSw; (try dsimp only at hSw); go_simp; try with_reducible rfl)
  try simp only [Act.put, List.getElem_toArray, List.getElem_cons_zero, List.getElem_cons_succ, List.setIfInBounds_toArray, List.set_cons_zero, List.set_cons_succ]
  refine wpAnyH_take (i := 4) (v := ?_) rfl (by kernel_rfl) (by kernel_rfl) (by kernel_rfl) (fun _ _ _ h => h) (Or.inl ⟨by rfl, ?_⟩) hHeld ?_
  rotate_left
  · (intro w hSw; (try dsimp only at hSw); go_simp; try with_reducible rfl)
  try simp only [Act.put, List.getElem_toArray, List.getElem_cons_zero, List.getElem_cons_succ, List.setIfInBounds_toArray, List.set_cons_zero, List.set_cons_succ]
  refine wpAnyH_take (i := 5) (v := ?_) rfl (by kernel_rfl) (by kernel_rfl) (by kernel_rfl) (fun _ _ _ h => h) (Or.inl ⟨by rfl, ?_⟩) hHeld ?_
  rotate_left
  · (intro w hSw; (try dsimp only at hSw); go_simp; try with_reducible rfl)
  try simp only [Act.put, List.getElem_toArray, List.getElem_cons_zero, List.getElem_cons_succ, List.setIfInBounds_toArray, List.set_cons_zero, List.set_cons_succ]
  refine wpAnyH_take (i := 6) (v := ?_) rfl (by kernel_rfl) (by kernel_rfl) (by kernel_rfl) (fun _ _ _ h => h) (Or.inl ⟨by rfl, ?_⟩) hHeld ?_
  rotate_left
  · (intro w hSw; (try dsimp only at hSw); go_simp; try with_reducible rfl)
  try simp only [Act.put, List.getElem_toArray, List.getElem_cons_zero, List.getElem_cons_succ, List.setIfInBounds_toArray, List.set_cons_zero, List.set_cons_succ]
  refine wpAnyH_take (i := 7) (v := ?_) rfl (by kernel_rfl) (by kernel_rfl) (by kernel_rfl) (fun _ _ _ h => h) (Or.inl ⟨by rfl, ?_⟩) hHeld ?_
  rotate_left
  · (intro w hSw; (try dsimp only at hSw); go_simp; try with_reducible rfl)
  try simp only [Act.put, List.getElem_toArray, List.getElem_cons_zero, List.getElem_cons_succ, List.setIfInBounds_toArray, List.set_cons_zero, List.set_cons_succ]
  refine wpAnyH_take (i := 8) (v := ?_) rfl (by kernel_rfl) (by kernel_rfl) (by kernel_rfl) (fun _ _ _ h => h) (Or.inl ⟨by rfl, ?_⟩) hHeld ?_
  rotate_left
  · (intro w hSw; (try dsimp only at hSw); go_simp; try with_reducible rfl)
  try simp only [Act.put, List.getElem_toArray, List.getElem_cons_zero, List.getElem_cons_succ, List.setIfInBounds_toArray, List.set_cons_zero, List.set_cons_succ]
  refine wpAnyH_ready (rs := [9]) (by kernel_rfl) (by simp) ?_
  refine AllReadyH.cons rfl (fun K hK => ?_) AllReadyH.nil
  go_simp
  (with_reducible refine (ko _).mono ?_)
  rintro e z2 ⟨rfl, hq⟩
  replace Q0 := Q0.below hq (Nat.le_refl _)
  replace X := X.below hq (Nat.le_refl _)
  replace Y := Y.below hq (Nat.le_refl _)
  replace Z := Z.below hq (Nat.le_refl _)
  replace hb := hb.trans (hq.mono hb.size)
  clear hq
  go_wp2_with fail
  refine hK.out _ _ ?_ (fun hHeld2 => ?_)
  · exact ⟨⟨Q0.cell 0, Q0.cell 1, Q0.cell 2, Q0.cell 3⟩, ⟨X.cell 0, X.cell 1, X.cell 2, X.cell 3⟩, ⟨Y.cell 0, Y.cell 1, Y.cell 2, Y.cell 3⟩, ⟨Z.cell 0, Z.cell 1, Z.cell 2, Z.cell 3⟩⟩
  clear hK K hHeld
  have hHeld := hHeld2
  clear hHeld2
  try simp only [Act.put, List.setIfInBounds_toArray, List.set_cons_zero, List.set_cons_succ]
  refine wpAnyH_take (i := 10) (v := ?_) rfl (by kernel_rfl) (by kernel_rfl) (by kernel_rfl) (fun _ _ _ h => h) (Or.inl ⟨by rfl, ?_⟩) hHeld ?_
  rotate_left
  · (intro w hSw; (try dsimp only at hSw); go_simp; try with_reducible rfl)
  try simp only [Act.put, List.getElem_toArray, List.getElem_cons_zero, List.getElem_cons_succ, List.setIfInBounds_toArray, List.set_cons_zero, List.set_cons_succ]
  refine wpAnyH_take (i := 11) (v := ?_) rfl (by kernel_rfl) (by kernel_rfl) (by kernel_rfl) (fun _ _ _ h => h) (Or.inl ⟨by rfl, ?_⟩) hHeld ?_
  rotate_left
  · (intro w hSw; (try dsimp only at hSw); go_simp; try with_reducible rfl)
  try simp only [Act.put, List.getElem_toArray, List.getElem_cons_zero, List.getElem_cons_succ, List.setIfInBounds_toArray, List.set_cons_zero, List.set_cons_succ]
  refine wpAnyH_take (i := 12) (v := ?_) rfl (by kernel_rfl) (by kernel_rfl) (by kernel_rfl) (fun _ _ _ h => h) (Or.inl ⟨by rfl, ?_⟩) hHeld ?_
  rotate_left
  · (intro w hSw; (try dsimp only at hSw); go_simp; try with_reducible rfl)
  try simp only [Act.put, List.getElem_toArray, List.getElem_cons_zero, List.getElem_cons_succ, List.setIfInBounds_toArray, List.set_cons_zero, List.set_cons_succ]
  refine wpAnyH_take (i := 13) (v := ?_) rfl (by kernel_rfl) (by kernel_rfl) (by kernel_rfl) (fun _ _ _ h => h) (Or.inl ⟨by rfl, ?_⟩) hHeld ?_
  rotate_left
  · (intro w hSw; (try dsimp only at hSw); go_simp; try with_reducible rfl)
  try simp only [Act.put, List.getElem_toArray, List.getElem_cons_zero, List.getElem_cons_succ, List.setIfInBounds_toArray, List.set_cons_zero, List.set_cons_succ]
  refine wpAnyH_take (i := 14) (v := ?_) rfl (by kernel_rfl) (by kernel_rfl) (by kernel_rfl) (fun _ _ _ h => h) (Or.inl ⟨by rfl, ?_⟩) hHeld ?_
  rotate_left
  · (intro w hSw; (try dsimp only at hSw); go_simp; try with_reducible rfl)
  try simp only [Act.put, List.getElem_toArray, List.getElem_cons_zero, List.getElem_cons_succ, List.setIfInBounds_toArray, List.set_cons_zero, List.set_cons_succ]
  refine wpAnyH_take (i := 15) (v := ?_) rfl (by kernel_rfl) (by kernel_rfl) (by kernel_rfl) (fun _ _ _ h => h) (Or.inl ⟨by rfl, ?_⟩) hHeld ?_
  rotate_left
  · (intro w hSw; (try dsimp only at hSw); go_simp; try with_reducible rfl)
  try simp only [Act.put, List.getElem_toArray, List.getElem_cons_zero, List.getElem_cons_succ, List.setIfInBounds_toArray, List.set_cons_zero, List.set_cons_succ]
  refine wpAnyH_take (i := 16) (v := ?_) rfl (by kernel_rfl) (by kernel_rfl) (by kernel_rfl) (fun _ _ _ h => h) (Or.inl ⟨by rfl, ?_⟩) hHeld ?_
  rotate_left
  · (intro w hSw; (try dsimp only at hSw); go_simp; try with_reducible rfl)
  try simp only [Act.put, List.getElem_toArray, List.getElem_cons_zero, List.getElem_cons_succ, List.setIfInBounds_toArray, List.set_cons_zero, List.set_cons_succ]
  refine wpAnyH_take (i := 17) (v := ?_) rfl (by kernel_rfl) (by kernel_rfl) (by kernel_rfl) (fun _ _ _ h => h) (Or.inl ⟨by rfl, ?_⟩) hHeld ?_
  rotate_left
  · (intro w hSw; (try dsimp only at hSw); go_simp; try with_reducible rfl)
  try simp only [Act.put, List.getElem_toArray, List.getElem_cons_zero, List.getElem_cons_succ, List.setIfInBounds_toArray, List.set_cons_zero, List.set_cons_succ]
  refine wpAnyH_take (i := 18) (v := ?_) rfl (by kernel_rfl) (by kernel_rfl) (by kernel_rfl) (fun _ _ _ h => h) (Or.inl ⟨by rfl, ?_⟩) hHeld ?_
  rotate_left
  · (intro w hSw; (try dsimp only at hSw); go_simp; try with_reducible rfl)
  try simp only [Act.put, List.getElem_toArray, List.getElem_cons_zero, List.getElem_cons_succ, List.setIfInBounds_toArray, List.set_cons_zero, List.set_cons_succ]
  refine wpAnyH_take (i := 19) (v := ?_) rfl (by kernel_rfl) (by kernel_rfl) (by kernel_rfl) (fun _ _ _ h => h) (Or.inl ⟨by rfl, ?_⟩) hHeld ?_
  rotate_left
  · (intro w hSw; (try dsimp only at hSw); go_simp; try with_reducible rfl)
  try simp only [Act.put, List.getElem_toArray, List.getElem_cons_zero, List.getElem_cons_succ, List.setIfInBounds_toArray, List.set_cons_zero, List.set_cons_succ]
  refine wpAnyH_take (i := 20) (v := ?_) rfl (by kernel_rfl) (by kernel_rfl) (by kernel_rfl) (fun _ _ _ h => h) (Or.inl ⟨by rfl, ?_⟩) hHeld ?_
  rotate_left
  · (intro w hSw; (try dsimp only at hSw); go_simp; try with_reducible rfl)
  try simp only [Act.put, List.getElem_toArray, List.getElem_cons_zero, List.getElem_cons_succ, List.setIfInBounds_toArray, List.set_cons_zero, List.set_cons_succ]
  refine wpAnyH_take (i := 21) (v := ?_) rfl (by kernel_rfl) (by kernel_rfl) (by kernel_rfl) (fun _ _ _ h => h) (Or.inl ⟨by rfl, ?_⟩) hHeld ?_
  rotate_left
  · (intro w hSw; (try dsimp only at hSw); go_simp; try with_reducible rfl)
  try simp only [Act.put, List.getElem_toArray, List.getElem_cons_zero, List.getElem_cons_succ, List.setIfInBounds_toArray, List.set_cons_zero, List.set_cons_succ]
  refine wpAnyH_ready (rs := [22]) (by kernel_rfl) (by simp) ?_
  refine AllReadyH.cons rfl (fun K hK => ?_) AllReadyH.nil
  go_simp
  (with_reducible refine (k1 _).mono ?_)
  rintro e z3 ⟨rfl, hq⟩
  replace Q0 := Q0.below hq (Nat.le_refl _)
  replace X := X.below hq (Nat.le_refl _)
  replace Y := Y.below hq (Nat.le_refl _)
  replace Z := Z.below hq (Nat.le_refl _)
  replace hb := hb.trans (hq.mono hb.size)
  clear hq
  go_wp2_with fail
  refine hK.out _ _ ?_ (fun hHeld2 => ?_)
  · exact ⟨⟨Q0.cell 0, Q0.cell 1, Q0.cell 2, Q0.cell 3⟩, ⟨X.cell 0, X.cell 1, X.cell 2, X.cell 3⟩, ⟨Y.cell 0, Y.cell 1, Y.cell 2, Y.cell 3⟩, ⟨Z.cell 0, Z.cell 1, Z.cell 2, Z.cell 3⟩⟩
  clear hK K hHeld
  have hHeld := hHeld2
  clear hHeld2
  try simp only [Act.put, List.setIfInBounds_toArray, List.set_cons_zero, List.set_cons_succ]
  refine wpAnyH_take (i := 23) (v := ?_) rfl (by kernel_rfl) (by kernel_rfl) (by kernel_rfl) (fun _ _ _ h => h) (Or.inl ⟨by rfl, ?_⟩) hHeld ?_
  rotate_left
  · (intro w hSw; (try dsimp only at hSw); go_simp; try with_reducible rfl)
  try simp only [Act.put, List.getElem_toArray, List.getElem_cons_zero, List.getElem_cons_succ, List.setIfInBounds_toArray, List.set_cons_zero, List.set_cons_succ]
  refine wpAnyH_take (i := 24) (v := ?_) rfl (by kernel_rfl) (by kernel_rfl) (by kernel_rfl) (fun _ _ _ h => h) (Or.inl ⟨by rfl, ?_⟩) hHeld ?_
  rotate_left
  · (intro w hSw; (try dsimp only at hSw); go_simp; try with_reducible rfl)
  try simp only [Act.put, List.getElem_toArray, List.getElem_cons_zero, List.getElem_cons_succ, List.setIfInBounds_toArray, List.set_cons_zero, List.set_cons_succ]
  refine wpAnyH_take (i := 25) (v := ?_) rfl (by kernel_rfl) (by kernel_rfl) (by kernel_rfl) (fun _ _ _ h => h) (Or.inl ⟨by rfl, ?_⟩) hHeld ?_
  rotate_left
  · (intro w hSw; (try dsimp only at hSw); go_simp; try with_reducible rfl)
  try simp only [Act.put, List.getElem_toArray, List.getElem_cons_zero, List.getElem_cons_succ, List.setIfInBounds_toArray, List.set_cons_zero, List.set_cons_succ]
  refine wpAnyH_take (i := 26) (v := ?_) rfl (by kernel_rfl) (by kernel_rfl) (by kernel_rfl) (fun _ _ _ h => h) (Or.inl ⟨by rfl, ?_⟩) hHeld ?_
  rotate_left
  · (intro w hSw; (try dsimp only at hSw); go_simp; try with_reducible rfl)
  try simp only [Act.put, List.getElem_toArray, List.getElem_cons_zero, List.getElem_cons_succ, List.setIfInBounds_toArray, List.set_cons_zero, List.set_cons_succ]
  refine wpAnyH_ready (rs := [27]) (by kernel_rfl) (by simp) ?_
  refine AllReadyH.cons rfl (fun K hK => ?_) AllReadyH.nil
  go_simp
  (with_reducible refine (k2 _).mono ?_)
  rintro e z4 ⟨rfl, hq⟩
  replace Q0 := Q0.below hq (Nat.le_refl _)
  replace X := X.below hq (Nat.le_refl _)
  replace Y := Y.below hq (Nat.le_refl _)
  replace Z := Z.below hq (Nat.le_refl _)
  replace hb := hb.trans (hq.mono hb.size)
  clear hq
  go_wp2_with fail
  refine hK.out _ _ ?_ (fun hHeld2 => ?_)
  · exact ⟨⟨Q0.cell 0, Q0.cell 1, Q0.cell 2, Q0.cell 3⟩, ⟨X.cell 0, X.cell 1, X.cell 2, X.cell 3⟩, ⟨Y.cell 0, Y.cell 1, Y.cell 2, Y.cell 3⟩, ⟨Z.cell 0, Z.cell 1, Z.cell 2, Z.cell 3⟩⟩
  clear hK K hHeld
  have hHeld := hHeld2
  clear hHeld2
  try simp only [Act.put, List.setIfInBounds_toArray, List.set_cons_zero, List.set_cons_succ]
  refine wpAnyH_take (i := 28) (v := ?_) rfl (by kernel_rfl) (by kernel_rfl) (by kernel_rfl) (fun _ _ _ h => h) (Or.inl ⟨by rfl, ?_⟩) hHeld ?_
  rotate_left
  · (intro w hSw; (try dsimp only at hSw); go_simp; try with_reducible rfl)
  try simp only [Act.put, List.getElem_toArray, List.getElem_cons_zero, List.getElem_cons_succ, List.setIfInBounds_toArray, List.set_cons_zero, List.set_cons_succ]
  refine wpAnyH_take (i := 29) (v := ?_) rfl (by kernel_rfl) (by kernel_rfl) (by kernel_rfl) (fun _ _ _ h => h) (Or.inl ⟨by rfl, ?_⟩) hHeld ?_
  rotate_left
  · (intro w hSw; (try dsimp only at hSw); go_simp; try with_reducible rfl)
  try simp only [Act.put, List.getElem_toArray, List.getElem_cons_zero, List.getElem_cons_succ, List.setIfInBounds_toArray, List.set_cons_zero, List.set_cons_succ]
  refine wpAnyH_take (i := 30) (v := ?_) rfl (by kernel_rfl) (by kernel_rfl) (by kernel_rfl) (fun _ _ _ h => h) (Or.inl ⟨by rfl, ?_⟩) hHeld ?_
  rotate_left
  · (intro w hSw; (try dsimp only at hSw); go_simp; try with_reducible rfl)
  try simp only [Act.put, List.getElem_toArray, List.getElem_cons_zero, List.getElem_cons_succ, List.setIfInBounds_toArray, List.set_cons_zero, List.set_cons_succ]
  refine wpAnyH_take (i := 31) (v := ?_) rfl (by kernel_rfl) (by kernel_rfl) (by kernel_rfl) (fun _ _ _ h => h) (Or.inl ⟨by rfl, ?_⟩) hHeld ?_
  rotate_left
  · (intro w hSw; (try dsimp only at hSw); go_simp; try with_reducible rfl)
  try simp only [Act.put, List.getElem_toArray, List.getElem_cons_zero, List.getElem_cons_succ, List.setIfInBounds_toArray, List.set_cons_zero, List.set_cons_succ]
  refine wpAnyH_ready (rs := [32]) (by kernel_rfl) (by simp) ?_
  refine AllReadyH.cons rfl (fun K hK => ?_) AllReadyH.nil
  go_simp
  (with_reducible refine (k3 _).mono ?_)
  rintro e z5 ⟨rfl, hq⟩
  replace Q0 := Q0.below hq (Nat.le_refl _)
  replace X := X.below hq (Nat.le_refl _)
  replace Y := Y.below hq (Nat.le_refl _)
  replace Z := Z.below hq (Nat.le_refl _)
  replace hb := hb.trans (hq.mono hb.size)
  clear hq
  go_wp2_with fail
  refine hK.out _ _ ?_ (fun hHeld2 => ?_)
  · exact ⟨⟨Q0.cell 0, Q0.cell 1, Q0.cell 2, Q0.cell 3⟩, ⟨X.cell 0, X.cell 1, X.cell 2, X.cell 3⟩, ⟨Y.cell 0, Y.cell 1, Y.cell 2, Y.cell 3⟩, ⟨Z.cell 0, Z.cell 1, Z.cell 2, Z.cell 3⟩⟩
  clear hK K hHeld
  have hHeld := hHeld2
  clear hHeld2
  try simp only [Act.put, List.setIfInBounds_toArray, List.set_cons_zero, List.set_cons_succ]
  refine wpAnyH_take (i := 33) (v := ?_) rfl (by kernel_rfl) (by kernel_rfl) (by kernel_rfl) (fun _ _ _ h => h) (Or.inl ⟨by rfl, ?_⟩) hHeld ?_
  rotate_left
  · (intro w hSw; (try dsimp only at hSw); go_simp; try with_reducible rfl)
  try simp only [Act.put, List.getElem_toArray, List.getElem_cons_zero, List.getElem_cons_succ, List.setIfInBounds_toArray, List.set_cons_zero, List.set_cons_succ]
  refine wpAnyH_take (i := 34) (v := ?_) rfl (by kernel_rfl) (by kernel_rfl) (by kernel_rfl) (fun _ _ _ h => h) (Or.inl ⟨by rfl, ?_⟩) hHeld ?_
  rotate_left
  · (intro w hSw; (try dsimp only at hSw); go_simp; try with_reducible rfl)
  try simp only [Act.put, List.getElem_toArray, List.getElem_cons_zero, List.getElem_cons_succ, List.setIfInBounds_toArray, List.set_cons_zero, List.set_cons_succ]
  refine wpAnyH_take (i := 35) (v := ?_) rfl (by kernel_rfl) (by kernel_rfl) (by kernel_rfl) (fun _ _ _ h => h) (Or.inl ⟨by rfl, ?_⟩) hHeld ?_
  rotate_left
  · (intro w hSw; (try dsimp only at hSw); go_simp; try with_reducible rfl)
  try simp only [Act.put, List.getElem_toArray, List.getElem_cons_zero, List.getElem_cons_succ, List.setIfInBounds_toArray, List.set_cons_zero]
  refine wpAnyH_done (by kernel_rfl) ?_ _
  go_wp2
  go_ret
  exact ⟨rfl, hb⟩
theorem superNames_walk (w : World) : Calls Try.prog 3 #[] w fun e w' => e = .returned (.bool true) ∧ Below w.heap.size w w' := by
  have hz : ¬ ReadsS (pad []) := fun h => not_mayS_nil h.1
  have kn := fun W => supRead none 0 0 [] W (nil_ints10 _ _) (.inl rfl)
  unfold readS readES at kn
  rw [if_neg hz, if_neg hz] at kn
  refine names_gen (blockS fiveS) (blockS_len _) (blockS_bytes _) (fun W => alive10_calls W) (fun W => five_calls W)
    (fun W => (supWrite_ok fiveS_wide fiveS_may W).mono ?_) (fun A c W h => supRead_block fiveS_wide fiveS_may A c W h) kn (fun A c W h => supRead_text A 1 c [83] W h (by omega) (by omega)) (fun W => ?_) (fun W => ?_) (fun W => ?_) (fun W => by rw [sup_eql]; simp) w
  · rintro e w' ⟨g, hg, rfl, hc, hb⟩
    exact ⟨g, hg, rfl, hc, hb⟩
  · have := supCheck ⟨7, 0, 300, 5⟩ W
    rw [chkS_not (by decide)] at this
    exact this
  · have := supCheck ⟨7, 1, 2147483649, 5⟩ W
    rw [chkS_not (by decide)] at this
    exact this
  · have := supCheck ⟨7, 1, 300, 255⟩ W
    rw [chkS_not (by decide)] at this
    exact this


namespace superNames
set_option linter.unusedVariables false
set_option maxRecDepth 100000 in
theorem lifted (os : Os) (started : os.Started) (H : Type) (enc : TypeId × Value → H) :
    ReturnsInHanded {} Try.checked os 3 .any (Rows.superNamesSpec.pre6 enc Try.prog Try.f3 Rows.superNamesRow.domain false) (Rows.superNamesSpec.post enc Try.prog Try.f3 false true false false) := by
  refine returnsInHanded_of_change (C := Try.checked) Try.own started (by kernel_rfl) Try.func3
    (ChangeSpec.witness6 (enc := enc) (C := Try.checked) false ⟨#[], #[], []⟩ 8 (by kernel_rfl) (by kernel_rfl) (by kernel_rfl) (by kernel_rfl)) ?_
  intro W base args ds gs before hval0 hW hcnd _
  have hval : ∀ (j : Nat) t v, Try.f3.params[j]? = some t → args[j]? = some v → Value.okWide Try.prog W .any base t v := hval0
  have hW' := hW
  obtain ⟨p, q, hA0, hV, rfl, hfz, hnd⟩ := hW
  have hA : DataW.TrodAll enc Try.prog W 0 (fun _ => true) true Try.f3.params.toList args.toList ds p := hA0
  rw [Try.params3] at hA hval
  obtain ⟨hargs, rfl, rfl⟩ := trodAll_nil hA
  obtain rfl : args = #[] := by cases args; simp_all
  obtain ⟨rfl, rfl⟩ := trodVars_none hV
  clear hA0 hval0
  refine (superNames_walk W).mono fun e W' ⟨he, bel⟩ => ?_
  subst he
  exact ⟨_, rfl, _, _, _, [], _, [], hW', trodAll_mk1 (shut_bool Try.underlying4 _), trodAll_mk0, rfl, bel.frame _, fun h => by cases h⟩

theorem holds : Rows.SuperNamesSaid :=
  OpenClaim.holds_of_wide 3 Try.f3 rfl rfl rfl rfl rfl rfl rfl ⟨rfl, rfl, rfl, rfl, rfl⟩ rfl rfl rfl rfl rfl (by kernel_rfl) Try.func3 (by kernel_rfl)
    (of_decide_eq_true (by kernel_rfl)) (by unfold Func.isWrapper; first | (rw [if_pos (by decide +kernel)]; kernel_rfl) | (rw [if_neg (by decide +kernel)]; exact ⟨rfl, rfl⟩))
    (fun os started H enc _ => lifted os started H enc)
end superNames
end Go.Proofs.Ytcngonedcnddlaa
