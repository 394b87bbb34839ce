/- freeboardlaw10.SuperBounds: for every input the law answers true, and what is handed in reads as it did. Conditions: none. -/
import Derived.Test.YtcngonedcnddlaaSuperAlive
namespace Go.Proofs.Ytcngonedcnddlaa
open Go.ChangeShapes Go.WideShapes Go.ChangeAt Go.RowKit PolyM PackM SealM LabelM SuperM
set_option linter.unusedVariables false
set_option maxRecDepth 100000 in
set_option maxHeartbeats 4000000 in
theorem bounds_0 (id age seq tail : Int) (L : List Int)  (h0 : decide (0 < age) = false) (ka : ∀ W, Calls Try.prog 12 #[] W fun e w' => e = .returned (.bool true) ∧ Below W.heap.size W w') (kw : ∀ W, Calls Try.prog 9 #[.agg #[.int .u32 id, .int .u32 age, .int .u32 seq, .int .i64 tail]] W fun e w' => ∃ A c, e = .returned (.tuple #[.slice A 0 c, .int .i64 8]) ∧ 0 ≤ c ∧ Ints .u8 w' A 0 L ∧ Below W.heap.size W w') (kc : ∀ W, Calls Try.prog 13 #[.agg #[.int .u32 id, .int .u32 age, .int .u32 seq, .int .i64 tail]] W fun e w' => e = .returned (.int .i64 8) ∧ Below W.heap.size W w') (w : World) : Calls Try.prog 8 #[.agg #[.int .u32 id, .int .u32 age, .int .u32 seq, .int .i64 tail]] w fun e w' => e = .returned (.bool true) ∧ Below w.heap.size w w' := by
  have B := BlkAt.new w #[.int .u32 id, .int .u32 age, .int .u32 seq, .int .i64 tail] 28
  have hb : Below w.heap.size w (w.alloc (.cells #[.int .u32 id, .int .u32 age, .int .u32 seq, .int .i64 tail] 28 (0, 0))) := (Below.refl _ _).alloc (Nat.le_refl _) _
  have hi4 := (zero_of_info super_size).2
  go_enter Try.func8, Try.ntmps8
  go_upto_region 2 with (go_at_call 12; (with_reducible refine (ka _).mono ?_); rintro e w1 ⟨rfl, hb1⟩; replace hb := hb.trans (hb1.mono hb.size); replace B := B.below hb1 (Nat.le_refl _); clear hb1)
  have b1 := B.cell 1
  have b2 := B.cell 2
  have b3 := B.cell 3
  go_upto_region 3 with fail
  clear b1 b2 b3
  go_wp2_with (first
    | refine wpList_load_rowG (by rfl) 28 _ rfl w.heap.size rfl _ _ _ _ B Try.underlying28 (by rw [hi4]; rfl) ?_
    | (go_at_call 9; (with_reducible refine (kw _).mono ?_); rintro e w2 ⟨A, c, rfl, hc1, I1, hb2⟩; replace hb := hb.trans (hb2.mono hb.size); replace B := B.below hb2 (Nat.le_refl _); clear hb2)
    | (go_at_call 13; (with_reducible refine (kc _).mono ?_); rintro e w4 ⟨rfl, hb4⟩; replace hb := hb.trans (hb4.mono hb.size); replace B := B.below hb4 (Nat.le_refl _); clear hb4))
  go_ret
  exact ⟨rfl, hb⟩
set_option maxRecDepth 100000 in
set_option maxHeartbeats 4000000 in
theorem bounds_1 (id age seq tail : Int) (L : List Int) (h0 : decide (0 < age) = true) (h1 : decide (age ≤ 2147483648) = false) (ka : ∀ W, Calls Try.prog 12 #[] W fun e w' => e = .returned (.bool true) ∧ Below W.heap.size W w') (kw : ∀ W, Calls Try.prog 9 #[.agg #[.int .u32 id, .int .u32 age, .int .u32 seq, .int .i64 tail]] W fun e w' => ∃ A c, e = .returned (.tuple #[.slice A 0 c, .int .i64 8]) ∧ 0 ≤ c ∧ Ints .u8 w' A 0 L ∧ Below W.heap.size W w') (kc : ∀ W, Calls Try.prog 13 #[.agg #[.int .u32 id, .int .u32 age, .int .u32 seq, .int .i64 tail]] W fun e w' => e = .returned (.int .i64 8) ∧ Below W.heap.size W w') (w : World) : Calls Try.prog 8 #[.agg #[.int .u32 id, .int .u32 age, .int .u32 seq, .int .i64 tail]] w fun e w' => e = .returned (.bool true) ∧ Below w.heap.size w w' := by
  have B := BlkAt.new w #[.int .u32 id, .int .u32 age, .int .u32 seq, .int .i64 tail] 28
  have hb : Below w.heap.size w (w.alloc (.cells #[.int .u32 id, .int .u32 age, .int .u32 seq, .int .i64 tail] 28 (0, 0))) := (Below.refl _ _).alloc (Nat.le_refl _) _
  have hi4 := (zero_of_info super_size).2
  go_enter Try.func8, Try.ntmps8
  go_upto_region 2 with (go_at_call 12; (with_reducible refine (ka _).mono ?_); rintro e w1 ⟨rfl, hb1⟩; replace hb := hb.trans (hb1.mono hb.size); replace B := B.below hb1 (Nat.le_refl _); clear hb1)
  have b1 := B.cell 1
  have b2 := B.cell 2
  have b3 := B.cell 3
  go_upto_region 3 with fail
  clear b1 b2 b3
  go_wp2_with (first
    | refine wpList_load_rowG (by rfl) 28 _ rfl w.heap.size rfl _ _ _ _ B Try.underlying28 (by rw [hi4]; rfl) ?_
    | (go_at_call 9; (with_reducible refine (kw _).mono ?_); rintro e w2 ⟨A, c, rfl, hc1, I1, hb2⟩; replace hb := hb.trans (hb2.mono hb.size); replace B := B.below hb2 (Nat.le_refl _); clear hb2)
    | (go_at_call 13; (with_reducible refine (kc _).mono ?_); rintro e w4 ⟨rfl, hb4⟩; replace hb := hb.trans (hb4.mono hb.size); replace B := B.below hb4 (Nat.le_refl _); clear hb4))
  go_ret
  exact ⟨rfl, hb⟩
set_option maxRecDepth 100000 in
set_option maxHeartbeats 4000000 in
theorem bounds_2 (id age seq tail : Int) (L : List Int) (h0 : decide (0 < age) = true) (h1 : decide (age ≤ 2147483648) = true) (h2 : decide (0 < seq) = false) (ka : ∀ W, Calls Try.prog 12 #[] W fun e w' => e = .returned (.bool true) ∧ Below W.heap.size W w') (kw : ∀ W, Calls Try.prog 9 #[.agg #[.int .u32 id, .int .u32 age, .int .u32 seq, .int .i64 tail]] W fun e w' => ∃ A c, e = .returned (.tuple #[.slice A 0 c, .int .i64 8]) ∧ 0 ≤ c ∧ Ints .u8 w' A 0 L ∧ Below W.heap.size W w') (kc : ∀ W, Calls Try.prog 13 #[.agg #[.int .u32 id, .int .u32 age, .int .u32 seq, .int .i64 tail]] W fun e w' => e = .returned (.int .i64 8) ∧ Below W.heap.size W w') (w : World) : Calls Try.prog 8 #[.agg #[.int .u32 id, .int .u32 age, .int .u32 seq, .int .i64 tail]] w fun e w' => e = .returned (.bool true) ∧ Below w.heap.size w w' := by
  have B := BlkAt.new w #[.int .u32 id, .int .u32 age, .int .u32 seq, .int .i64 tail] 28
  have hb : Below w.heap.size w (w.alloc (.cells #[.int .u32 id, .int .u32 age, .int .u32 seq, .int .i64 tail] 28 (0, 0))) := (Below.refl _ _).alloc (Nat.le_refl _) _
  have hi4 := (zero_of_info super_size).2
  go_enter Try.func8, Try.ntmps8
  go_upto_region 2 with (go_at_call 12; (with_reducible refine (ka _).mono ?_); rintro e w1 ⟨rfl, hb1⟩; replace hb := hb.trans (hb1.mono hb.size); replace B := B.below hb1 (Nat.le_refl _); clear hb1)
  have b1 := B.cell 1
  have b2 := B.cell 2
  have b3 := B.cell 3
  go_upto_region 3 with fail
  clear b1 b2 b3
  go_wp2_with (first
    | refine wpList_load_rowG (by rfl) 28 _ rfl w.heap.size rfl _ _ _ _ B Try.underlying28 (by rw [hi4]; rfl) ?_
    | (go_at_call 9; (with_reducible refine (kw _).mono ?_); rintro e w2 ⟨A, c, rfl, hc1, I1, hb2⟩; replace hb := hb.trans (hb2.mono hb.size); replace B := B.below hb2 (Nat.le_refl _); clear hb2)
    | (go_at_call 13; (with_reducible refine (kc _).mono ?_); rintro e w4 ⟨rfl, hb4⟩; replace hb := hb.trans (hb4.mono hb.size); replace B := B.below hb4 (Nat.le_refl _); clear hb4))
  go_ret
  exact ⟨rfl, hb⟩
set_option maxRecDepth 100000 in
set_option maxHeartbeats 4000000 in
theorem bounds_3 (id age seq tail : Int) (L : List Int) (h0 : decide (0 < age) = true) (h1 : decide (age ≤ 2147483648) = true) (h2 : decide (0 < seq) = true) (h3 : decide (seq ≤ 2147483648) = false) (ka : ∀ W, Calls Try.prog 12 #[] W fun e w' => e = .returned (.bool true) ∧ Below W.heap.size W w') (kw : ∀ W, Calls Try.prog 9 #[.agg #[.int .u32 id, .int .u32 age, .int .u32 seq, .int .i64 tail]] W fun e w' => ∃ A c, e = .returned (.tuple #[.slice A 0 c, .int .i64 8]) ∧ 0 ≤ c ∧ Ints .u8 w' A 0 L ∧ Below W.heap.size W w') (kc : ∀ W, Calls Try.prog 13 #[.agg #[.int .u32 id, .int .u32 age, .int .u32 seq, .int .i64 tail]] W fun e w' => e = .returned (.int .i64 8) ∧ Below W.heap.size W w') (w : World) : Calls Try.prog 8 #[.agg #[.int .u32 id, .int .u32 age, .int .u32 seq, .int .i64 tail]] w fun e w' => e = .returned (.bool true) ∧ Below w.heap.size w w' := by
  have B := BlkAt.new w #[.int .u32 id, .int .u32 age, .int .u32 seq, .int .i64 tail] 28
  have hb : Below w.heap.size w (w.alloc (.cells #[.int .u32 id, .int .u32 age, .int .u32 seq, .int .i64 tail] 28 (0, 0))) := (Below.refl _ _).alloc (Nat.le_refl _) _
  have hi4 := (zero_of_info super_size).2
  go_enter Try.func8, Try.ntmps8
  go_upto_region 2 with (go_at_call 12; (with_reducible refine (ka _).mono ?_); rintro e w1 ⟨rfl, hb1⟩; replace hb := hb.trans (hb1.mono hb.size); replace B := B.below hb1 (Nat.le_refl _); clear hb1)
  have b1 := B.cell 1
  have b2 := B.cell 2
  have b3 := B.cell 3
  go_upto_region 3 with fail
  clear b1 b2 b3
  go_wp2_with (first
    | refine wpList_load_rowG (by rfl) 28 _ rfl w.heap.size rfl _ _ _ _ B Try.underlying28 (by rw [hi4]; rfl) ?_
    | (go_at_call 9; (with_reducible refine (kw _).mono ?_); rintro e w2 ⟨A, c, rfl, hc1, I1, hb2⟩; replace hb := hb.trans (hb2.mono hb.size); replace B := B.below hb2 (Nat.le_refl _); clear hb2)
    | (go_at_call 13; (with_reducible refine (kc _).mono ?_); rintro e w4 ⟨rfl, hb4⟩; replace hb := hb.trans (hb4.mono hb.size); replace B := B.below hb4 (Nat.le_refl _); clear hb4))
  go_ret
  exact ⟨rfl, hb⟩
set_option maxRecDepth 100000 in
set_option maxHeartbeats 4000000 in
theorem bounds_4 (id age seq tail : Int) (L : List Int) (h0 : decide (0 < age) = true) (h1 : decide (age ≤ 2147483648) = true) (h2 : decide (0 < seq) = true) (h3 : decide (seq ≤ 2147483648) = true) (h4 : decide (0 ≤ tail) = false) (ka : ∀ W, Calls Try.prog 12 #[] W fun e w' => e = .returned (.bool true) ∧ Below W.heap.size W w') (kw : ∀ W, Calls Try.prog 9 #[.agg #[.int .u32 id, .int .u32 age, .int .u32 seq, .int .i64 tail]] W fun e w' => ∃ A c, e = .returned (.tuple #[.slice A 0 c, .int .i64 8]) ∧ 0 ≤ c ∧ Ints .u8 w' A 0 L ∧ Below W.heap.size W w') (kc : ∀ W, Calls Try.prog 13 #[.agg #[.int .u32 id, .int .u32 age, .int .u32 seq, .int .i64 tail]] W fun e w' => e = .returned (.int .i64 8) ∧ Below W.heap.size W w') (w : World) : Calls Try.prog 8 #[.agg #[.int .u32 id, .int .u32 age, .int .u32 seq, .int .i64 tail]] w fun e w' => e = .returned (.bool true) ∧ Below w.heap.size w w' := by
  have B := BlkAt.new w #[.int .u32 id, .int .u32 age, .int .u32 seq, .int .i64 tail] 28
  have hb : Below w.heap.size w (w.alloc (.cells #[.int .u32 id, .int .u32 age, .int .u32 seq, .int .i64 tail] 28 (0, 0))) := (Below.refl _ _).alloc (Nat.le_refl _) _
  have hi4 := (zero_of_info super_size).2
  go_enter Try.func8, Try.ntmps8
  go_upto_region 2 with (go_at_call 12; (with_reducible refine (ka _).mono ?_); rintro e w1 ⟨rfl, hb1⟩; replace hb := hb.trans (hb1.mono hb.size); replace B := B.below hb1 (Nat.le_refl _); clear hb1)
  have b1 := B.cell 1
  have b2 := B.cell 2
  have b3 := B.cell 3
  go_upto_region 3 with fail
  clear b1 b2 b3
  go_wp2_with (first
    | refine wpList_load_rowG (by rfl) 28 _ rfl w.heap.size rfl _ _ _ _ B Try.underlying28 (by rw [hi4]; rfl) ?_
    | (go_at_call 9; (with_reducible refine (kw _).mono ?_); rintro e w2 ⟨A, c, rfl, hc1, I1, hb2⟩; replace hb := hb.trans (hb2.mono hb.size); replace B := B.below hb2 (Nat.le_refl _); clear hb2)
    | (go_at_call 13; (with_reducible refine (kc _).mono ?_); rintro e w4 ⟨rfl, hb4⟩; replace hb := hb.trans (hb4.mono hb.size); replace B := B.below hb4 (Nat.le_refl _); clear hb4))
  go_ret
  exact ⟨rfl, hb⟩
set_option maxRecDepth 100000 in
set_option maxHeartbeats 4000000 in
theorem bounds_5 (id age seq tail : Int) (L : List Int) (h0 : decide (0 < age) = true) (h1 : decide (age ≤ 2147483648) = true) (h2 : decide (0 < seq) = true) (h3 : decide (seq ≤ 2147483648) = true) (h4 : decide (0 ≤ tail) = true) (h5 : decide (tail ≤ 254) = false) (ka : ∀ W, Calls Try.prog 12 #[] W fun e w' => e = .returned (.bool true) ∧ Below W.heap.size W w') (kw : ∀ W, Calls Try.prog 9 #[.agg #[.int .u32 id, .int .u32 age, .int .u32 seq, .int .i64 tail]] W fun e w' => ∃ A c, e = .returned (.tuple #[.slice A 0 c, .int .i64 8]) ∧ 0 ≤ c ∧ Ints .u8 w' A 0 L ∧ Below W.heap.size W w') (kc : ∀ W, Calls Try.prog 13 #[.agg #[.int .u32 id, .int .u32 age, .int .u32 seq, .int .i64 tail]] W fun e w' => e = .returned (.int .i64 8) ∧ Below W.heap.size W w') (w : World) : Calls Try.prog 8 #[.agg #[.int .u32 id, .int .u32 age, .int .u32 seq, .int .i64 tail]] w fun e w' => e = .returned (.bool true) ∧ Below w.heap.size w w' := by
  have B := BlkAt.new w #[.int .u32 id, .int .u32 age, .int .u32 seq, .int .i64 tail] 28
  have hb : Below w.heap.size w (w.alloc (.cells #[.int .u32 id, .int .u32 age, .int .u32 seq, .int .i64 tail] 28 (0, 0))) := (Below.refl _ _).alloc (Nat.le_refl _) _
  have hi4 := (zero_of_info super_size).2
  go_enter Try.func8, Try.ntmps8
  go_upto_region 2 with (go_at_call 12; (with_reducible refine (ka _).mono ?_); rintro e w1 ⟨rfl, hb1⟩; replace hb := hb.trans (hb1.mono hb.size); replace B := B.below hb1 (Nat.le_refl _); clear hb1)
  have b1 := B.cell 1
  have b2 := B.cell 2
  have b3 := B.cell 3
  go_upto_region 3 with fail
  clear b1 b2 b3
  go_wp2_with (first
    | refine wpList_load_rowG (by rfl) 28 _ rfl w.heap.size rfl _ _ _ _ B Try.underlying28 (by rw [hi4]; rfl) ?_
    | (go_at_call 9; (with_reducible refine (kw _).mono ?_); rintro e w2 ⟨A, c, rfl, hc1, I1, hb2⟩; replace hb := hb.trans (hb2.mono hb.size); replace B := B.below hb2 (Nat.le_refl _); clear hb2)
    | (go_at_call 13; (with_reducible refine (kc _).mono ?_); rintro e w4 ⟨rfl, hb4⟩; replace hb := hb.trans (hb4.mono hb.size); replace B := B.below hb4 (Nat.le_refl _); clear hb4))
  go_ret
  exact ⟨rfl, hb⟩
set_option maxRecDepth 100000 in
set_option maxHeartbeats 4000000 in
theorem bounds_ok (id age seq tail : Int) (L : List Int) (h0 : decide (0 < age) = true) (h1 : decide (age ≤ 2147483648) = true) (h2 : decide (0 < seq) = true) (h3 : decide (seq ≤ 2147483648) = true) (h4 : decide (0 ≤ tail) = true) (h5 : decide (tail ≤ 254) = true) (ka : ∀ W, Calls Try.prog 12 #[] W fun e w' => e = .returned (.bool true) ∧ Below W.heap.size W w') (kw : ∀ W, Calls Try.prog 9 #[.agg #[.int .u32 id, .int .u32 age, .int .u32 seq, .int .i64 tail]] W fun e w' => ∃ A c, e = .returned (.tuple #[.slice A 128 c, .int .i64 0]) ∧ 128 ≤ c ∧ Ints .u8 w' A 128 L ∧ Below W.heap.size W w') (kc : ∀ W, Calls Try.prog 13 #[.agg #[.int .u32 id, .int .u32 age, .int .u32 seq, .int .i64 tail]] W fun e w' => e = .returned (.int .i64 0) ∧ Below W.heap.size W w') (w : World) : Calls Try.prog 8 #[.agg #[.int .u32 id, .int .u32 age, .int .u32 seq, .int .i64 tail]] w fun e w' => e = .returned (.bool true) ∧ Below w.heap.size w w' := by
  have B := BlkAt.new w #[.int .u32 id, .int .u32 age, .int .u32 seq, .int .i64 tail] 28
  have hb : Below w.heap.size w (w.alloc (.cells #[.int .u32 id, .int .u32 age, .int .u32 seq, .int .i64 tail] 28 (0, 0))) := (Below.refl _ _).alloc (Nat.le_refl _) _
  have hi4 := (zero_of_info super_size).2
  go_enter Try.func8, Try.ntmps8
  go_upto_region 2 with (go_at_call 12; (with_reducible refine (ka _).mono ?_); rintro e w1 ⟨rfl, hb1⟩; replace hb := hb.trans (hb1.mono hb.size); replace B := B.below hb1 (Nat.le_refl _); clear hb1)
  have b1 := B.cell 1
  have b2 := B.cell 2
  have b3 := B.cell 3
  go_upto_region 3 with fail
  clear b1 b2 b3
  go_wp2_with (first
    | refine wpList_load_rowG (by rfl) 28 _ rfl w.heap.size rfl _ _ _ _ B Try.underlying28 (by rw [hi4]; rfl) ?_
    | (go_at_call 9; (with_reducible refine (kw _).mono ?_); rintro e w2 ⟨A, c, rfl, hc1, I1, hb2⟩; replace hb := hb.trans (hb2.mono hb.size); replace B := B.below hb2 (Nat.le_refl _); clear hb2)
    | (go_at_call 13; (with_reducible refine (kc _).mono ?_); rintro e w4 ⟨rfl, hb4⟩; replace hb := hb.trans (hb4.mono hb.size); replace B := B.below hb4 (Nat.le_refl _); clear hb4))
  go_ret
  exact ⟨rfl, hb⟩
theorem superBounds_walk (w : World) (s : Sup) (hw : WideS s) : Calls Try.prog 8 #[supV s] w fun e w' => e = .returned (.bool true) ∧ Below w.heap.size w w' := by
  have ka := fun W => alive10_calls W
  have kw := fun W => supWrite_any hw W
  have kc := fun W => supCheck s W
  by_cases q0 : 0 < s.age
  · by_cases q1 : s.age ≤ 2147483648
    · by_cases q2 : 0 < s.seq
      · by_cases q3 : s.seq ≤ 2147483648
        · by_cases q4 : 0 ≤ s.tail
          · by_cases q5 : s.tail ≤ 254
            · rcases chkS_cases s with ⟨hM, e1, e2, e3⟩ | ⟨hM, e1, e2, e3⟩
              · rw [e1, e2, e3] at kw
                rw [e1] at kc
                exact bounds_ok _ _ _ _ _ (decide_eq_true q0) (decide_eq_true q1) (decide_eq_true q2) (decide_eq_true q3) (decide_eq_true q4) (decide_eq_true q5) ka kw kc w
              · exact absurd (show MayS s from ⟨⟨by omega, q1⟩, ⟨by omega, q3⟩, q4, q5⟩) hM
            · rcases chkS_cases s with ⟨hM, e1, e2, e3⟩ | ⟨hM, e1, e2, e3⟩
              · exact absurd (show s.tail ≤ 254 by have := hM.1.1; have := hM.1.2; have := hM.2.1.1; have := hM.2.1.2; have := hM.2.2.1; have := hM.2.2.2; omega) q5
              · rw [e1, e2, e3] at kw
                rw [e1] at kc
                exact bounds_5 _ _ _ _ _ (decide_eq_true q0) (decide_eq_true q1) (decide_eq_true q2) (decide_eq_true q3) (decide_eq_true q4) (decide_eq_false q5) ka kw kc w
          · rcases chkS_cases s with ⟨hM, e1, e2, e3⟩ | ⟨hM, e1, e2, e3⟩
            · exact absurd (show 0 ≤ s.tail by have := hM.1.1; have := hM.1.2; have := hM.2.1.1; have := hM.2.1.2; have := hM.2.2.1; have := hM.2.2.2; omega) q4
            · rw [e1, e2, e3] at kw
              rw [e1] at kc
              exact bounds_4 _ _ _ _ _ (decide_eq_true q0) (decide_eq_true q1) (decide_eq_true q2) (decide_eq_true q3) (decide_eq_false q4) ka kw kc w
        · rcases chkS_cases s with ⟨hM, e1, e2, e3⟩ | ⟨hM, e1, e2, e3⟩
          · exact absurd (show s.seq ≤ 2147483648 by have := hM.1.1; have := hM.1.2; have := hM.2.1.1; have := hM.2.1.2; have := hM.2.2.1; have := hM.2.2.2; omega) q3
          · rw [e1, e2, e3] at kw
            rw [e1] at kc
            exact bounds_3 _ _ _ _ _ (decide_eq_true q0) (decide_eq_true q1) (decide_eq_true q2) (decide_eq_false q3) ka kw kc w
      · rcases chkS_cases s with ⟨hM, e1, e2, e3⟩ | ⟨hM, e1, e2, e3⟩
        · exact absurd (show 0 < s.seq by have := hM.1.1; have := hM.1.2; have := hM.2.1.1; have := hM.2.1.2; have := hM.2.2.1; have := hM.2.2.2; omega) q2
        · rw [e1, e2, e3] at kw
          rw [e1] at kc
          exact bounds_2 _ _ _ _ _ (decide_eq_true q0) (decide_eq_true q1) (decide_eq_false q2) ka kw kc w
    · rcases chkS_cases s with ⟨hM, e1, e2, e3⟩ | ⟨hM, e1, e2, e3⟩
      · exact absurd (show s.age ≤ 2147483648 by have := hM.1.1; have := hM.1.2; have := hM.2.1.1; have := hM.2.1.2; have := hM.2.2.1; have := hM.2.2.2; omega) q1
      · rw [e1, e2, e3] at kw
        rw [e1] at kc
        exact bounds_1 _ _ _ _ _ (decide_eq_true q0) (decide_eq_false q1) ka kw kc w
  · rcases chkS_cases s with ⟨hM, e1, e2, e3⟩ | ⟨hM, e1, e2, e3⟩
    · exact absurd (show 0 < s.age by have := hM.1.1; have := hM.1.2; have := hM.2.1.1; have := hM.2.1.2; have := hM.2.2.1; have := hM.2.2.2; omega) q0
    · rw [e1, e2, e3] at kw
      rw [e1] at kc
      exact bounds_0 _ _ _ _ _  (decide_eq_false q0) ka kw kc w


namespace superBounds
set_option linter.unusedVariables false
set_option maxRecDepth 100000 in
theorem lifted (os : Os) (started : os.Started) (H : Type) (enc : TypeId × Value → H) :
    ReturnsInHanded {} Try.checked os 8 .any (Rows.superBoundsSpec.pre6 enc Try.prog Try.f8 Rows.superBoundsRow.domain false) (Rows.superBoundsSpec.post enc Try.prog Try.f8 false true false false) := by
  refine returnsInHanded_of_change (C := Try.checked) Try.own started (by kernel_rfl) Try.func8
    (ChangeSpec.witness6 (enc := enc) (C := Try.checked) false ⟨#[], #[.agg #[.int .u32 0, .int .u32 0, .int .u32 0, .int .i64 0]], []⟩ 8 (by kernel_rfl) (by kernel_rfl) (by kernel_rfl) (by kernel_rfl)) ?_
  intro W base args ds gs before hval0 hW hcnd _
  have hval : ∀ (j : Nat) t v, Try.f8.params[j]? = some t → args[j]? = some v → Value.okWide Try.prog W .any base t v := hval0
  have hW' := hW
  obtain ⟨p, q, hA0, hV, rfl, hfz, hnd⟩ := hW
  have hA : DataW.TrodAll enc Try.prog W 0 (fun _ => true) true Try.f8.params.toList args.toList ds p := hA0
  rw [Try.params8] at hA hval
  obtain ⟨v0, vs0, d0, ds0, p0, q0, hargs, rfl, rfl, h0, r0⟩ := trodAll_cons hA
  obtain ⟨rfl, rfl, rfl⟩ := trodAll_nil r0
  obtain rfl : args = #[v0] := by cases args; simp_all
  obtain ⟨rfl, rfl⟩ := trodVars_none hV
  have k0 := h0
  have lt0 : ∀ x ∈ p0, x.block < W.heap.size := by obtain ⟨m, hm⟩ := k0; exact DataW.trod_lt m _ _ _ hm
  obtain ⟨z0, rfl, w0⟩ := super_in (hval 0 28 v0 rfl rfl) h0
  clear hA0 hval0
  refine (superBounds_walk W z0 w0).mono fun e W' ⟨he, bel⟩ => ?_
  subst he
  exact ⟨_, rfl, _, _, _, [], _, [], hW', trodAll_mk1 (shut_bool Try.underlying4 _), (trodAll_cons_mk (Below.trod Try.laidOut (by kernel_rfl) (of_decide_eq_true (by kernel_rfl)) k0 bel lt0) trodAll_mk0), rfl, bel.frame _, fun h => by cases h⟩

theorem holds : Rows.SuperBoundsSaid :=
  OpenClaim.holds_of_wide 8 Try.f8 rfl rfl rfl rfl rfl rfl rfl ⟨rfl, rfl, rfl, rfl, rfl⟩ rfl rfl rfl rfl rfl (by kernel_rfl) Try.func8 (by kernel_rfl)
    (of_decide_eq_true (by kernel_rfl)) (by unfold Func.isWrapper; first | (rw [if_pos (by decide +kernel)]; kernel_rfl) | (rw [if_neg (by decide +kernel)]; exact ⟨rfl, rfl⟩))
    (fun os started H enc _ => lifted os started H enc)
end superBounds
end Go.Proofs.Ytcngonedcnddlaa
