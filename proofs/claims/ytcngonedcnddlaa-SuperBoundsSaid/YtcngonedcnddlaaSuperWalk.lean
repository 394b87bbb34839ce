/- The walks of package super: counts, Check. -/
import Derived.Test.YtcngonedcnddlaaSuperBox
import Derived.WalkMore
import Derived.IntWalk
namespace Go.Proofs.Ytcngonedcnddlaa
open Go.RowKit PolyM PackM SealM LabelM SuperM
set_option linter.unusedVariables false

def cntB (n : Int) : Bool := decide (1 ≤ n ∧ n ≤ 2147483648)
theorem cntB_cases (n : Int) : (decide (1 ≤ n) = false ∧ Hid (cntB n = false)) ∨ (decide (1 ≤ n) = true ∧ decide (n ≤ 2147483648) = true ∧ Hid (cntB n = true)) ∨ (decide (1 ≤ n) = true ∧ decide (n ≤ 2147483648) = false ∧ Hid (cntB n = false)) := by
  unfold cntB
  by_cases h : 1 ≤ n
  · by_cases k : n ≤ 2147483648
    · exact .inr (.inl ⟨decide_eq_true h, decide_eq_true k, Lib.hid (decide_eq_true ⟨h, k⟩)⟩)
    · exact .inr (.inr ⟨decide_eq_true h, decide_eq_false k, Lib.hid (decide_eq_false (by omega))⟩)
  · exact .inl ⟨decide_eq_false h, Lib.hid (decide_eq_false (by omega))⟩

theorem counts_calls (n : Int) (w : World) : Calls Try.prog 23 #[.int .u32 n] w fun e w' => e = .returned (.bool (cntB n)) ∧ w = w' := by
  rcases cntB_cases n with ⟨h1, F⟩ | ⟨h1, h2, F⟩ | ⟨h1, h2, F⟩
  all_goals
    rw [F.out]
    clear F
    go_enter Try.func23, Try.ntmps23
    go_wp2
    go_ret
    exact ⟨rfl, rfl⟩

set_option maxRecDepth 100000 in
set_option maxHeartbeats 4000000 in
theorem supCheck_age (id age seq tail : Int) (hage : ∀ W, Calls Try.prog 23 #[.int .u32 age] W fun e w' => e = .returned (.bool false) ∧ W = w') (w : World) : Calls Try.prog 13 #[.agg #[.int .u32 id, .int .u32 age, .int .u32 seq, .int .i64 tail]] w fun e w' => e = .returned (.int .i64 8) ∧ Below w.heap.size w w' := by
  have B := BlkAt.new w #[.int .u32 id, .int .u32 age, .int .u32 seq, .int .i64 tail] 28
  have hb : Below w.heap.size w (w.alloc (.cells #[.int .u32 id, .int .u32 age, .int .u32 seq, .int .i64 tail] 28 (0, 0))) := (Below.refl _ _).alloc (Nat.le_refl _) _
  have hi4 := (zero_of_info super_size).2
  have b1 := B.cell 1
  have b2 := B.cell 2
  have b3 := B.cell 3
  go_enter Try.func13, Try.ntmps13
  go_wp2_with (first
    | (go_at_call 23; (with_reducible refine (hage _).mono ?_); rintro e w2 ⟨rfl, rfl⟩))
  go_ret
  exact ⟨rfl, hb⟩

set_option maxRecDepth 100000 in
set_option maxHeartbeats 4000000 in
theorem supCheck_seq (id age seq tail : Int) (hage : ∀ W, Calls Try.prog 23 #[.int .u32 age] W fun e w' => e = .returned (.bool true) ∧ W = w') (hseq : ∀ W, Calls Try.prog 23 #[.int .u32 seq] W fun e w' => e = .returned (.bool false) ∧ W = w') (w : World) : Calls Try.prog 13 #[.agg #[.int .u32 id, .int .u32 age, .int .u32 seq, .int .i64 tail]] w fun e w' => e = .returned (.int .i64 8) ∧ Below w.heap.size w w' := by
  have B := BlkAt.new w #[.int .u32 id, .int .u32 age, .int .u32 seq, .int .i64 tail] 28
  have hb : Below w.heap.size w (w.alloc (.cells #[.int .u32 id, .int .u32 age, .int .u32 seq, .int .i64 tail] 28 (0, 0))) := (Below.refl _ _).alloc (Nat.le_refl _) _
  have hi4 := (zero_of_info super_size).2
  have b1 := B.cell 1
  have b2 := B.cell 2
  have b3 := B.cell 3
  go_enter Try.func13, Try.ntmps13
  go_wp2_with (first
    | (go_at_call 23; (with_reducible refine (hage _).mono ?_); rintro e w2 ⟨rfl, rfl⟩)
    | (go_at_call 23; (with_reducible refine (hseq _).mono ?_); rintro e w2 ⟨rfl, rfl⟩))
  go_ret
  exact ⟨rfl, hb⟩

set_option maxRecDepth 100000 in
set_option maxHeartbeats 4000000 in
theorem supCheck_lo (id age seq tail : Int) (hage : ∀ W, Calls Try.prog 23 #[.int .u32 age] W fun e w' => e = .returned (.bool true) ∧ W = w') (hseq : ∀ W, Calls Try.prog 23 #[.int .u32 seq] W fun e w' => e = .returned (.bool true) ∧ W = w') (h0 : decide (tail < 0) = true) (w : World) : Calls Try.prog 13 #[.agg #[.int .u32 id, .int .u32 age, .int .u32 seq, .int .i64 tail]] w fun e w' => e = .returned (.int .i64 8) ∧ Below w.heap.size w w' := by
  have B := BlkAt.new w #[.int .u32 id, .int .u32 age, .int .u32 seq, .int .i64 tail] 28
  have hb : Below w.heap.size w (w.alloc (.cells #[.int .u32 id, .int .u32 age, .int .u32 seq, .int .i64 tail] 28 (0, 0))) := (Below.refl _ _).alloc (Nat.le_refl _) _
  have hi4 := (zero_of_info super_size).2
  have b1 := B.cell 1
  have b2 := B.cell 2
  have b3 := B.cell 3
  go_enter Try.func13, Try.ntmps13
  go_wp2_with (first
    | (go_at_call 23; (with_reducible refine (hage _).mono ?_); rintro e w2 ⟨rfl, rfl⟩)
    | (go_at_call 23; (with_reducible refine (hseq _).mono ?_); rintro e w2 ⟨rfl, rfl⟩))
  go_ret
  exact ⟨rfl, hb⟩

set_option maxRecDepth 100000 in
set_option maxHeartbeats 4000000 in
theorem supCheck_hi (id age seq tail : Int) (hage : ∀ W, Calls Try.prog 23 #[.int .u32 age] W fun e w' => e = .returned (.bool true) ∧ W = w') (hseq : ∀ W, Calls Try.prog 23 #[.int .u32 seq] W fun e w' => e = .returned (.bool true) ∧ W = w') (h0 : decide (tail < 0) = false) (h1 : decide (255 ≤ tail) = true) (w : World) : Calls Try.prog 13 #[.agg #[.int .u32 id, .int .u32 age, .int .u32 seq, .int .i64 tail]] w fun e w' => e = .returned (.int .i64 8) ∧ Below w.heap.size w w' := by
  have B := BlkAt.new w #[.int .u32 id, .int .u32 age, .int .u32 seq, .int .i64 tail] 28
  have hb : Below w.heap.size w (w.alloc (.cells #[.int .u32 id, .int .u32 age, .int .u32 seq, .int .i64 tail] 28 (0, 0))) := (Below.refl _ _).alloc (Nat.le_refl _) _
  have hi4 := (zero_of_info super_size).2
  have b1 := B.cell 1
  have b2 := B.cell 2
  have b3 := B.cell 3
  go_enter Try.func13, Try.ntmps13
  go_wp2_with (first
    | (go_at_call 23; (with_reducible refine (hage _).mono ?_); rintro e w2 ⟨rfl, rfl⟩)
    | (go_at_call 23; (with_reducible refine (hseq _).mono ?_); rintro e w2 ⟨rfl, rfl⟩))
  go_ret
  exact ⟨rfl, hb⟩

set_option maxRecDepth 100000 in
set_option maxHeartbeats 4000000 in
theorem supCheck_ok (id age seq tail : Int) (hage : ∀ W, Calls Try.prog 23 #[.int .u32 age] W fun e w' => e = .returned (.bool true) ∧ W = w') (hseq : ∀ W, Calls Try.prog 23 #[.int .u32 seq] W fun e w' => e = .returned (.bool true) ∧ W = w') (h0 : decide (tail < 0) = false) (h1 : decide (255 ≤ tail) = false) (w : World) : Calls Try.prog 13 #[.agg #[.int .u32 id, .int .u32 age, .int .u32 seq, .int .i64 tail]] w fun e w' => e = .returned (.int .i64 0) ∧ Below w.heap.size w w' := by
  have B := BlkAt.new w #[.int .u32 id, .int .u32 age, .int .u32 seq, .int .i64 tail] 28
  have hb : Below w.heap.size w (w.alloc (.cells #[.int .u32 id, .int .u32 age, .int .u32 seq, .int .i64 tail] 28 (0, 0))) := (Below.refl _ _).alloc (Nat.le_refl _) _
  have hi4 := (zero_of_info super_size).2
  have b1 := B.cell 1
  have b2 := B.cell 2
  have b3 := B.cell 3
  go_enter Try.func13, Try.ntmps13
  go_wp2_with (first
    | (go_at_call 23; (with_reducible refine (hage _).mono ?_); rintro e w2 ⟨rfl, rfl⟩)
    | (go_at_call 23; (with_reducible refine (hseq _).mono ?_); rintro e w2 ⟨rfl, rfl⟩))
  go_ret
  exact ⟨rfl, hb⟩

theorem supCheck (s : Sup) (w : World) : Calls Try.prog 13 #[supV s] w fun e w' => e = .returned (.int .i64 (chkS s)) ∧ Below w.heap.size w w' := by
  have ha := fun W => counts_calls s.age W
  have hs := fun W => counts_calls s.seq W
  by_cases h1 : 1 ≤ s.age ∧ s.age ≤ 2147483648
  · rw [show cntB s.age = true from decide_eq_true h1] at ha
    by_cases h2 : 1 ≤ s.seq ∧ s.seq ≤ 2147483648
    · rw [show cntB s.seq = true from decide_eq_true h2] at hs
      by_cases h3 : s.tail < 0
      · rw [chkS_not (s := s) fun q => by have := q.2.2.1; omega]
        exact supCheck_lo _ _ _ _ ha hs (decide_eq_true h3) w
      · by_cases h4 : 255 ≤ s.tail
        · rw [chkS_not (s := s) fun q => by have := q.2.2.2; omega]
          exact supCheck_hi _ _ _ _ ha hs (decide_eq_false h3) (decide_eq_true h4) w
        · rw [chkS_may (s := s) ⟨h1, h2, by omega, by omega⟩]
          exact supCheck_ok _ _ _ _ ha hs (decide_eq_false h3) (decide_eq_false h4) w
    · rw [show cntB s.seq = false from decide_eq_false h2] at hs
      rw [chkS_not (s := s) fun q => h2 q.2.1]
      exact supCheck_seq _ _ _ _ ha hs w
  · rw [show cntB s.age = false from decide_eq_false h1] at ha
    rw [chkS_not (s := s) fun q => h1 q.1]
    exact supCheck_age _ _ _ _ ha w
end Go.Proofs.Ytcngonedcnddlaa
