/- The walks of package label: member, lost, Check, drafted, label, numbers, and what each of its closures tells. -/
import Derived.Test.YtcngonedcnddlaaLabelBox
import Derived.Test.YtcngonedcnddlaaShapeCheck
namespace Go.Proofs.Ytcngonedcnddlaa
open Go.RowKit ShapeM LabelM
set_option linter.unusedVariables false

def memB (n m : Int) : Bool := decide (0 ≤ n ∧ n < m)
theorem memB_cases (n m : Int) : (n < 0 ∧ Hid (memB n m = false)) ∨ (0 ≤ n ∧ n < m ∧ Hid (memB n m = true)) ∨ (0 ≤ n ∧ decide (n < m) = false ∧ Hid (memB n m = false)) := by
  unfold memB
  by_cases h : n < 0
  · exact .inl ⟨h, Lib.hid (decide_eq_false (by omega))⟩
  by_cases k : n < m
  · exact .inr (.inl ⟨by omega, k, Lib.hid (decide_eq_true ⟨by omega, k⟩)⟩)
  · exact .inr (.inr ⟨by omega, decide_eq_false k, Lib.hid (decide_eq_false (by omega))⟩)

set_option maxRecDepth 100000 in
set_option maxHeartbeats 4000000 in
theorem member_calls (id ev m ch ro lo me lst dn : Int) (op : Bool) (n : Int) (w : World) : Calls Try.prog 52 #[.agg #[.int .u32 id, .int .u32 ev, .int .i64 m, .int .i64 ch, .int .i64 ro, .int .i64 lo, .int .i64 me, .int .i64 lst, .int .i64 dn, .bool op], .int .i64 n] w fun e w' => e = .returned (.bool (memB n m)) ∧ Below w.heap.size w w' := by
  rcases memB_cases n m with ⟨h1, F⟩ | ⟨h1, h2, F⟩ | ⟨h1, h2, F⟩
  all_goals
    rw [F.out]
    clear F
    have B := CellsAt.new w [.int .u32 id, .int .u32 ev, .int .i64 m, .int .i64 ch, .int .i64 ro, .int .i64 lo, .int .i64 me, .int .i64 lst, .int .i64 dn, .bool op] 43
    have hb : Below w.heap.size w (w.alloc (.cells #[.int .u32 id, .int .u32 ev, .int .i64 m, .int .i64 ch, .int .i64 ro, .int .i64 lo, .int .i64 me, .int .i64 lst, .int .i64 dn, .bool op] 43 (0, 0))) := (Below.refl _ _).alloc (Nat.le_refl _) _
    obtain ⟨c0, c1, c2, c3, c4, c5, c6, c7, c8, c9⟩ := B.all10
    go_enter Try.func52, Try.ntmps52
    go_wp2
    go_ret
    exact ⟨rfl, hb⟩

theorem losB_cases (m lst dn s : Int) : ((lst == -1) = true ∧ (dn == 0) = true ∧ Hid (decide (LostOk m lst dn s) = true)) ∨ ((lst == -1) = true ∧ (dn == 0) = false ∧ Hid (decide (LostOk m lst dn s) = false)) ∨ ((lst == -1) = false ∧ memB lst m = false ∧ Hid (decide (LostOk m lst dn s) = false)) ∨
    ((lst == -1) = false ∧ memB lst m = true ∧ dn < 0 ∧ Hid (decide (LostOk m lst dn s) = false)) ∨ ((lst == -1) = false ∧ memB lst m = true ∧ 0 ≤ dn ∧ decide (dn ≤ s) = false ∧ Hid (decide (LostOk m lst dn s) = false)) ∨ ((lst == -1) = false ∧ memB lst m = true ∧ 0 ≤ dn ∧ decide (dn ≤ s) = true ∧ Hid (decide (LostOk m lst dn s) = true)) := by
  unfold LostOk
  by_cases h : lst = -1
  · by_cases k : dn = 0
    · exact .inl ⟨by simpa using h, by simpa using k, Lib.hid (decide_eq_true (by omega))⟩
    · exact .inr (.inl ⟨by simpa using h, by simpa using k, Lib.hid (decide_eq_false (by omega))⟩)
  refine .inr (.inr ?_)
  rcases memB_cases lst m with ⟨h1, F⟩ | ⟨h1, h2, F⟩ | ⟨h1, h2, F⟩
  · exact .inl ⟨by simpa using h, F.out, Lib.hid (decide_eq_false (by omega))⟩
  · refine .inr ?_
    by_cases k : dn < 0
    · exact .inl ⟨by simpa using h, F.out, k, Lib.hid (decide_eq_false (by omega))⟩
    by_cases q : s < dn
    · exact .inr (.inl ⟨by simpa using h, F.out, by omega, decide_eq_false (by omega), Lib.hid (decide_eq_false (by omega))⟩)
    · exact .inr (.inr ⟨by simpa using h, F.out, by omega, decide_eq_true (by omega), Lib.hid (decide_eq_true (by omega))⟩)
  · have := of_decide_eq_false h2
    exact .inl ⟨by simpa using h, F.out, Lib.hid (decide_eq_false (by omega))⟩

set_option maxRecDepth 100000 in
set_option maxHeartbeats 4000000 in
theorem lost_calls (id ev m ch ro lo me lst dn : Int) (op : Bool) (s : Int) (w : World) : Calls Try.prog 53 #[.agg #[.int .u32 id, .int .u32 ev, .int .i64 m, .int .i64 ch, .int .i64 ro, .int .i64 lo, .int .i64 me, .int .i64 lst, .int .i64 dn, .bool op], .int .i64 s] w fun e w' => e = .returned (.bool (decide (LostOk m lst dn s))) ∧ Below w.heap.size w w' := by
  have hm := fun W => member_calls id ev m ch ro lo me lst dn op lst W
  rcases losB_cases m lst dn s with ⟨h1, h2, F⟩ | ⟨h1, h2, F⟩ | ⟨h1, h2, F⟩ | ⟨h1, h2, h3, F⟩ | ⟨h1, h2, h3, h4, F⟩ | ⟨h1, h2, h3, h4, F⟩
  · rw [F.out]
    clear F hm
    have B := CellsAt.new w [.int .u32 id, .int .u32 ev, .int .i64 m, .int .i64 ch, .int .i64 ro, .int .i64 lo, .int .i64 me, .int .i64 lst, .int .i64 dn, .bool op] 43
    have hb : Below w.heap.size w (w.alloc (.cells #[.int .u32 id, .int .u32 ev, .int .i64 m, .int .i64 ch, .int .i64 ro, .int .i64 lo, .int .i64 me, .int .i64 lst, .int .i64 dn, .bool op] 43 (0, 0))) := (Below.refl _ _).alloc (Nat.le_refl _) _
    obtain ⟨c0, c1, c2, c3, c4, c5, c6, c7, c8, c9⟩ := B.all10
    go_enter Try.func53, Try.ntmps53
    go_wp2
    go_ret
    exact ⟨rfl, hb⟩
  · rw [F.out]
    clear F hm
    have B := CellsAt.new w [.int .u32 id, .int .u32 ev, .int .i64 m, .int .i64 ch, .int .i64 ro, .int .i64 lo, .int .i64 me, .int .i64 lst, .int .i64 dn, .bool op] 43
    have hb : Below w.heap.size w (w.alloc (.cells #[.int .u32 id, .int .u32 ev, .int .i64 m, .int .i64 ch, .int .i64 ro, .int .i64 lo, .int .i64 me, .int .i64 lst, .int .i64 dn, .bool op] 43 (0, 0))) := (Below.refl _ _).alloc (Nat.le_refl _) _
    obtain ⟨c0, c1, c2, c3, c4, c5, c6, c7, c8, c9⟩ := B.all10
    go_enter Try.func53, Try.ntmps53
    go_wp2
    go_ret
    exact ⟨rfl, hb⟩
  all_goals
    rw [F.out]
    rw [h2] at hm
    clear F h2
    have B := CellsAt.new w [.int .u32 id, .int .u32 ev, .int .i64 m, .int .i64 ch, .int .i64 ro, .int .i64 lo, .int .i64 me, .int .i64 lst, .int .i64 dn, .bool op] 43
    have hb : Below w.heap.size w (w.alloc (.cells #[.int .u32 id, .int .u32 ev, .int .i64 m, .int .i64 ch, .int .i64 ro, .int .i64 lo, .int .i64 me, .int .i64 lst, .int .i64 dn, .bool op] 43 (0, 0))) := (Below.refl _ _).alloc (Nat.le_refl _) _
    obtain ⟨c0, c1, c2, c3, c4, c5, c6, c7, c8, c9⟩ := B.all10
    go_enter Try.func53, Try.ntmps53
    go_wp2_with (first
      | (go_at_call 52; (with_reducible refine (hm _).mono ?_); rintro e w2 ⟨rfl, hb2⟩; replace hb := hb.trans (hb2.mono hb.size); clear c0 c1 c2 c3 c4 c5 c6 c7 c8 c9; replace B := B.below hb2 (Nat.le_refl _); obtain ⟨c0, c1, c2, c3, c4, c5, c6, c7, c8, c9⟩ := B.all10; clear hb2))
    go_ret
    exact ⟨rfl, hb⟩

set_option maxRecDepth 100000 in
set_option maxHeartbeats 4000000 in
theorem labCheck_cfg (id ev m ch ro lo me lst dn : Int) (op : Bool) (s E : Int) (hE : (E != 0) = true) (hs : ∀ W, Calls Try.prog 51 #[.agg #[.int .u32 id, .int .i64 m, .int .i64 ch, .int .i64 ro, .int .i64 lo, .int .i64 2]] W fun e w' => e = .returned (.tuple #[.int .i64 s, .int .i64 E]) ∧ Below W.heap.size W w') (w : World) : Calls Try.prog 31 #[.agg #[.int .u32 id, .int .u32 ev, .int .i64 m, .int .i64 ch, .int .i64 ro, .int .i64 lo, .int .i64 me, .int .i64 lst, .int .i64 dn, .bool op]] w fun e w' => e = .returned (.int .i64 8) ∧ Below w.heap.size w w' := by
  have B := CellsAt.new w [.int .u32 id, .int .u32 ev, .int .i64 m, .int .i64 ch, .int .i64 ro, .int .i64 lo, .int .i64 me, .int .i64 lst, .int .i64 dn, .bool op] 43
  have hb : Below w.heap.size w (w.alloc (.cells #[.int .u32 id, .int .u32 ev, .int .i64 m, .int .i64 ch, .int .i64 ro, .int .i64 lo, .int .i64 me, .int .i64 lst, .int .i64 dn, .bool op] 43 (0, 0))) := (Below.refl _ _).alloc (Nat.le_refl _) _
  obtain ⟨c0, c1, c2, c3, c4, c5, c6, c7, c8, c9⟩ := B.all10
  go_enter Try.func31, Try.ntmps31
  go_wp2_with (first
    | (go_at_call 51; (with_reducible refine (hs _).mono ?_); rintro e w2 ⟨rfl, hb2⟩; replace hb := (hb.alloc hb.size (.cells #[.int .u32 id, .int .i64 m, .int .i64 ch, .int .i64 ro, .int .i64 lo, .int .i64 2] 85 (0, 0))).trans (hb2.mono (by have := hb.size; simp; omega)); clear c0 c1 c2 c3 c4 c5 c6 c7 c8 c9; replace B := (B.alloc (.cells #[.int .u32 id, .int .i64 m, .int .i64 ch, .int .i64 ro, .int .i64 lo, .int .i64 2] 85 (0, 0))).below hb2 (Nat.le_refl _); obtain ⟨c0, c1, c2, c3, c4, c5, c6, c7, c8, c9⟩ := B.all10; clear hb2))
  go_ret
  exact ⟨rfl, hb⟩

set_option maxRecDepth 100000 in
set_option maxHeartbeats 4000000 in
theorem labCheck_ev (id ev m ch ro lo me lst dn : Int) (op : Bool) (s E : Int) (hE : (E != 0) = false) (he : 2147483648 < ev) (hs : ∀ W, Calls Try.prog 51 #[.agg #[.int .u32 id, .int .i64 m, .int .i64 ch, .int .i64 ro, .int .i64 lo, .int .i64 2]] W fun e w' => e = .returned (.tuple #[.int .i64 s, .int .i64 E]) ∧ Below W.heap.size W w') (w : World) : Calls Try.prog 31 #[.agg #[.int .u32 id, .int .u32 ev, .int .i64 m, .int .i64 ch, .int .i64 ro, .int .i64 lo, .int .i64 me, .int .i64 lst, .int .i64 dn, .bool op]] w fun e w' => e = .returned (.int .i64 8) ∧ Below w.heap.size w w' := by
  have B := CellsAt.new w [.int .u32 id, .int .u32 ev, .int .i64 m, .int .i64 ch, .int .i64 ro, .int .i64 lo, .int .i64 me, .int .i64 lst, .int .i64 dn, .bool op] 43
  have hb : Below w.heap.size w (w.alloc (.cells #[.int .u32 id, .int .u32 ev, .int .i64 m, .int .i64 ch, .int .i64 ro, .int .i64 lo, .int .i64 me, .int .i64 lst, .int .i64 dn, .bool op] 43 (0, 0))) := (Below.refl _ _).alloc (Nat.le_refl _) _
  obtain ⟨c0, c1, c2, c3, c4, c5, c6, c7, c8, c9⟩ := B.all10
  go_enter Try.func31, Try.ntmps31
  go_wp2_with (first
    | (go_at_call 51; (with_reducible refine (hs _).mono ?_); rintro e w2 ⟨rfl, hb2⟩; replace hb := (hb.alloc hb.size (.cells #[.int .u32 id, .int .i64 m, .int .i64 ch, .int .i64 ro, .int .i64 lo, .int .i64 2] 85 (0, 0))).trans (hb2.mono (by have := hb.size; simp; omega)); clear c0 c1 c2 c3 c4 c5 c6 c7 c8 c9; replace B := (B.alloc (.cells #[.int .u32 id, .int .i64 m, .int .i64 ch, .int .i64 ro, .int .i64 lo, .int .i64 2] 85 (0, 0))).below hb2 (Nat.le_refl _); obtain ⟨c0, c1, c2, c3, c4, c5, c6, c7, c8, c9⟩ := B.all10; clear hb2))
  go_ret
  exact ⟨rfl, hb⟩

set_option maxRecDepth 100000 in
set_option maxHeartbeats 4000000 in
theorem labCheck_me (id ev m ch ro lo me lst dn : Int) (op : Bool) (s E : Int) (hE : (E != 0) = false) (he : ev ≤ 2147483648) (hs : ∀ W, Calls Try.prog 51 #[.agg #[.int .u32 id, .int .i64 m, .int .i64 ch, .int .i64 ro, .int .i64 lo, .int .i64 2]] W fun e w' => e = .returned (.tuple #[.int .i64 s, .int .i64 E]) ∧ Below W.heap.size W w') (hm : ∀ W, Calls Try.prog 52 #[.agg #[.int .u32 id, .int .u32 ev, .int .i64 m, .int .i64 ch, .int .i64 ro, .int .i64 lo, .int .i64 me, .int .i64 lst, .int .i64 dn, .bool op], .int .i64 me] W fun e w' => e = .returned (.bool false) ∧ Below W.heap.size W w') (w : World) : Calls Try.prog 31 #[.agg #[.int .u32 id, .int .u32 ev, .int .i64 m, .int .i64 ch, .int .i64 ro, .int .i64 lo, .int .i64 me, .int .i64 lst, .int .i64 dn, .bool op]] w fun e w' => e = .returned (.int .i64 8) ∧ Below w.heap.size w w' := by
  have B := CellsAt.new w [.int .u32 id, .int .u32 ev, .int .i64 m, .int .i64 ch, .int .i64 ro, .int .i64 lo, .int .i64 me, .int .i64 lst, .int .i64 dn, .bool op] 43
  have hb : Below w.heap.size w (w.alloc (.cells #[.int .u32 id, .int .u32 ev, .int .i64 m, .int .i64 ch, .int .i64 ro, .int .i64 lo, .int .i64 me, .int .i64 lst, .int .i64 dn, .bool op] 43 (0, 0))) := (Below.refl _ _).alloc (Nat.le_refl _) _
  obtain ⟨c0, c1, c2, c3, c4, c5, c6, c7, c8, c9⟩ := B.all10
  go_enter Try.func31, Try.ntmps31
  go_wp2_with (first
    | (go_at_call 51; (with_reducible refine (hs _).mono ?_); rintro e w2 ⟨rfl, hb2⟩; replace hb := (hb.alloc hb.size (.cells #[.int .u32 id, .int .i64 m, .int .i64 ch, .int .i64 ro, .int .i64 lo, .int .i64 2] 85 (0, 0))).trans (hb2.mono (by have := hb.size; simp; omega)); clear c0 c1 c2 c3 c4 c5 c6 c7 c8 c9; replace B := (B.alloc (.cells #[.int .u32 id, .int .i64 m, .int .i64 ch, .int .i64 ro, .int .i64 lo, .int .i64 2] 85 (0, 0))).below hb2 (Nat.le_refl _); obtain ⟨c0, c1, c2, c3, c4, c5, c6, c7, c8, c9⟩ := B.all10; clear hb2)
    | (go_at_call 52; (with_reducible refine (hm _).mono ?_); rintro e w3 ⟨rfl, hb2⟩; replace hb := hb.trans (hb2.mono hb.size); clear c0 c1 c2 c3 c4 c5 c6 c7 c8 c9; replace B := B.below hb2 (Nat.le_refl _); obtain ⟨c0, c1, c2, c3, c4, c5, c6, c7, c8, c9⟩ := B.all10; clear hb2))
  go_ret
  exact ⟨rfl, hb⟩

set_option maxRecDepth 100000 in
set_option maxHeartbeats 4000000 in
theorem labCheck_lost (id ev m ch ro lo me lst dn : Int) (op : Bool) (s E : Int) (hE : (E != 0) = false) (he : ev ≤ 2147483648) (hs : ∀ W, Calls Try.prog 51 #[.agg #[.int .u32 id, .int .i64 m, .int .i64 ch, .int .i64 ro, .int .i64 lo, .int .i64 2]] W fun e w' => e = .returned (.tuple #[.int .i64 s, .int .i64 E]) ∧ Below W.heap.size W w') (hm : ∀ W, Calls Try.prog 52 #[.agg #[.int .u32 id, .int .u32 ev, .int .i64 m, .int .i64 ch, .int .i64 ro, .int .i64 lo, .int .i64 me, .int .i64 lst, .int .i64 dn, .bool op], .int .i64 me] W fun e w' => e = .returned (.bool true) ∧ Below W.heap.size W w') (hl : ∀ W, Calls Try.prog 53 #[.agg #[.int .u32 id, .int .u32 ev, .int .i64 m, .int .i64 ch, .int .i64 ro, .int .i64 lo, .int .i64 me, .int .i64 lst, .int .i64 dn, .bool op], .int .i64 s] W fun e w' => e = .returned (.bool false) ∧ Below W.heap.size W w') (w : World) : Calls Try.prog 31 #[.agg #[.int .u32 id, .int .u32 ev, .int .i64 m, .int .i64 ch, .int .i64 ro, .int .i64 lo, .int .i64 me, .int .i64 lst, .int .i64 dn, .bool op]] w fun e w' => e = .returned (.int .i64 8) ∧ Below w.heap.size w w' := by
  have B := CellsAt.new w [.int .u32 id, .int .u32 ev, .int .i64 m, .int .i64 ch, .int .i64 ro, .int .i64 lo, .int .i64 me, .int .i64 lst, .int .i64 dn, .bool op] 43
  have hb : Below w.heap.size w (w.alloc (.cells #[.int .u32 id, .int .u32 ev, .int .i64 m, .int .i64 ch, .int .i64 ro, .int .i64 lo, .int .i64 me, .int .i64 lst, .int .i64 dn, .bool op] 43 (0, 0))) := (Below.refl _ _).alloc (Nat.le_refl _) _
  obtain ⟨c0, c1, c2, c3, c4, c5, c6, c7, c8, c9⟩ := B.all10
  go_enter Try.func31, Try.ntmps31
  go_wp2_with (first
    | (go_at_call 51; (with_reducible refine (hs _).mono ?_); rintro e w2 ⟨rfl, hb2⟩; replace hb := (hb.alloc hb.size (.cells #[.int .u32 id, .int .i64 m, .int .i64 ch, .int .i64 ro, .int .i64 lo, .int .i64 2] 85 (0, 0))).trans (hb2.mono (by have := hb.size; simp; omega)); clear c0 c1 c2 c3 c4 c5 c6 c7 c8 c9; replace B := (B.alloc (.cells #[.int .u32 id, .int .i64 m, .int .i64 ch, .int .i64 ro, .int .i64 lo, .int .i64 2] 85 (0, 0))).below hb2 (Nat.le_refl _); obtain ⟨c0, c1, c2, c3, c4, c5, c6, c7, c8, c9⟩ := B.all10; clear hb2)
    | (go_at_call 52; (with_reducible refine (hm _).mono ?_); rintro e w3 ⟨rfl, hb2⟩; replace hb := hb.trans (hb2.mono hb.size); clear c0 c1 c2 c3 c4 c5 c6 c7 c8 c9; replace B := B.below hb2 (Nat.le_refl _); obtain ⟨c0, c1, c2, c3, c4, c5, c6, c7, c8, c9⟩ := B.all10; clear hb2)
    | (go_at_call 53; (with_reducible refine (hl _).mono ?_); rintro e w4 ⟨rfl, hb2⟩; replace hb := hb.trans (hb2.mono hb.size); clear c0 c1 c2 c3 c4 c5 c6 c7 c8 c9; replace B := B.below hb2 (Nat.le_refl _); obtain ⟨c0, c1, c2, c3, c4, c5, c6, c7, c8, c9⟩ := B.all10; clear hb2))
  go_ret
  exact ⟨rfl, hb⟩

set_option maxRecDepth 100000 in
set_option maxHeartbeats 4000000 in
theorem labCheck_ok (id ev m ch ro lo me lst dn : Int) (op : Bool) (s E : Int) (hE : (E != 0) = false) (he : ev ≤ 2147483648) (hs : ∀ W, Calls Try.prog 51 #[.agg #[.int .u32 id, .int .i64 m, .int .i64 ch, .int .i64 ro, .int .i64 lo, .int .i64 2]] W fun e w' => e = .returned (.tuple #[.int .i64 s, .int .i64 E]) ∧ Below W.heap.size W w') (hm : ∀ W, Calls Try.prog 52 #[.agg #[.int .u32 id, .int .u32 ev, .int .i64 m, .int .i64 ch, .int .i64 ro, .int .i64 lo, .int .i64 me, .int .i64 lst, .int .i64 dn, .bool op], .int .i64 me] W fun e w' => e = .returned (.bool true) ∧ Below W.heap.size W w') (hl : ∀ W, Calls Try.prog 53 #[.agg #[.int .u32 id, .int .u32 ev, .int .i64 m, .int .i64 ch, .int .i64 ro, .int .i64 lo, .int .i64 me, .int .i64 lst, .int .i64 dn, .bool op], .int .i64 s] W fun e w' => e = .returned (.bool true) ∧ Below W.heap.size W w') (w : World) : Calls Try.prog 31 #[.agg #[.int .u32 id, .int .u32 ev, .int .i64 m, .int .i64 ch, .int .i64 ro, .int .i64 lo, .int .i64 me, .int .i64 lst, .int .i64 dn, .bool op]] w fun e w' => e = .returned (.int .i64 0) ∧ Below w.heap.size w w' := by
  have B := CellsAt.new w [.int .u32 id, .int .u32 ev, .int .i64 m, .int .i64 ch, .int .i64 ro, .int .i64 lo, .int .i64 me, .int .i64 lst, .int .i64 dn, .bool op] 43
  have hb : Below w.heap.size w (w.alloc (.cells #[.int .u32 id, .int .u32 ev, .int .i64 m, .int .i64 ch, .int .i64 ro, .int .i64 lo, .int .i64 me, .int .i64 lst, .int .i64 dn, .bool op] 43 (0, 0))) := (Below.refl _ _).alloc (Nat.le_refl _) _
  obtain ⟨c0, c1, c2, c3, c4, c5, c6, c7, c8, c9⟩ := B.all10
  go_enter Try.func31, Try.ntmps31
  go_wp2_with (first
    | (go_at_call 51; (with_reducible refine (hs _).mono ?_); rintro e w2 ⟨rfl, hb2⟩; replace hb := (hb.alloc hb.size (.cells #[.int .u32 id, .int .i64 m, .int .i64 ch, .int .i64 ro, .int .i64 lo, .int .i64 2] 85 (0, 0))).trans (hb2.mono (by have := hb.size; simp; omega)); clear c0 c1 c2 c3 c4 c5 c6 c7 c8 c9; replace B := (B.alloc (.cells #[.int .u32 id, .int .i64 m, .int .i64 ch, .int .i64 ro, .int .i64 lo, .int .i64 2] 85 (0, 0))).below hb2 (Nat.le_refl _); obtain ⟨c0, c1, c2, c3, c4, c5, c6, c7, c8, c9⟩ := B.all10; clear hb2)
    | (go_at_call 52; (with_reducible refine (hm _).mono ?_); rintro e w3 ⟨rfl, hb2⟩; replace hb := hb.trans (hb2.mono hb.size); clear c0 c1 c2 c3 c4 c5 c6 c7 c8 c9; replace B := B.below hb2 (Nat.le_refl _); obtain ⟨c0, c1, c2, c3, c4, c5, c6, c7, c8, c9⟩ := B.all10; clear hb2)
    | (go_at_call 53; (with_reducible refine (hl _).mono ?_); rintro e w4 ⟨rfl, hb2⟩; replace hb := hb.trans (hb2.mono hb.size); clear c0 c1 c2 c3 c4 c5 c6 c7 c8 c9; replace B := B.below hb2 (Nat.le_refl _); obtain ⟨c0, c1, c2, c3, c4, c5, c6, c7, c8, c9⟩ := B.all10; clear hb2))
  go_ret
  exact ⟨rfl, hb⟩

theorem chkL_may {l : Lab} (h : MayL l) : chkL l = 0 := by unfold chkL; rw [if_pos h]
theorem chkL_not {l : Lab} (h : ¬ MayL l) : chkL l = 8 := by unfold chkL; rw [if_neg h]
theorem labCheck (l : Lab) (w : World) : Calls Try.prog 31 #[labV l] w fun e w' => e = .returned (.int .i64 (chkL l)) ∧ Below w.heap.size w w' := by
  have hs := fun W => stripes_told (cfgL l) W
  have hm := fun W => member_calls l.id l.ev l.mem l.chunk l.rows l.log l.me l.lost l.done l.op l.me W
  have hl := fun W => lost_calls l.id l.ev l.mem l.chunk l.rows l.log l.me l.lost l.done l.op (strC (cfgL l)) W
  by_cases h1 : MayC (cfgL l)
  · rw [chkC_may h1, numC_may h1] at hs
    by_cases h2 : l.ev ≤ 2147483648
    · by_cases h3 : 0 ≤ l.me ∧ l.me < l.mem
      · rw [show memB l.me l.mem = true from decide_eq_true h3] at hm
        by_cases h4 : LostOk l.mem l.lost l.done (strC (cfgL l))
        · rw [decide_eq_true h4] at hl
          rw [chkL_may (l := l) ⟨h1, h2, h3, h4⟩]
          exact labCheck_ok _ _ _ _ _ _ _ _ _ _ _ _ (by decide) h2 hs hm hl w
        · rw [decide_eq_false h4] at hl
          rw [chkL_not (l := l) fun q => h4 q.2.2.2]
          exact labCheck_lost _ _ _ _ _ _ _ _ _ _ _ _ (by decide) h2 hs hm hl w
      · rw [show memB l.me l.mem = false from decide_eq_false h3] at hm
        rw [chkL_not (l := l) fun q => h3 q.2.2.1]
        exact labCheck_me _ _ _ _ _ _ _ _ _ _ _ _ (by decide) h2 hs hm w
    · rw [chkL_not (l := l) fun q => h2 q.2.1]
      exact labCheck_ev _ _ _ _ _ _ _ _ _ _ _ _ (by decide) (by omega) hs w
  · rw [chkC_not h1] at hs
    rw [chkL_not (l := l) fun q => h1 q.1]
    exact labCheck_cfg _ _ _ _ _ _ _ _ _ _ _ _ (by decide) hs w
end Go.Proofs.Ytcngonedcnddlaa
