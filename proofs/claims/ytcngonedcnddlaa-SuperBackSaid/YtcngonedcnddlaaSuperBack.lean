/- freeboardlaw10.SuperBack: for every input the law answers true, and what is handed in reads as it did. Conditions: none. -/
import Derived.Test.YtcngonedcnddlaaSuperAlive
namespace Go.Proofs.Ytcngonedcnddlaa
open Go.ChangeShapes Go.WideShapes Go.ChangeAt Go.RowKit PolyM PackM SealM LabelM SuperM
set_option linter.unusedVariables false
set_option maxRecDepth 100000 in
set_option maxHeartbeats 4000000 in
theorem back_or (cs cx : Array Value) (hcs : cs.size = 4) (hc1 : cs.all (·.oneCell') = true) (hcx : cx.size = 4) (hx1 : cx.all (·.oneCell') = true) (a : Option Addr) (n : Nat) (c : Nat) (zs L : List Int) (w : World) (hI : Ints .u8 w a n zs) (hn : n ≤ 1000)
    (ka : ∀ W, Calls Try.prog 12 #[] W fun e w' => e = .returned (.bool true) ∧ Below W.heap.size W w') (kw : ∀ W, Calls Try.prog 9 #[.agg cs] W fun e w' => ∃ A c, e = .returned (.tuple #[.slice A 128 c, .int .i64 0]) ∧ 128 ≤ c ∧ Ints .u8 w' A 128 L ∧ Below W.heap.size W w')
    (kr : ∀ W, Ints .u8 W a n zs → Calls Try.prog 11 #[.slice a n c] W fun e w' => e = .returned (.tuple #[.agg cx, .int .i64 0]) ∧ Below W.heap.size W w')
    (krw : ∀ A c W, Ints .u8 W A 128 L → Calls Try.prog 11 #[.slice A 128 c] W fun e w' => e = .returned (.tuple #[.agg cs, .int .i64 0]) ∧ Below W.heap.size W w')
    (hne : ∀ W, (binOp .neq 28 (.agg cs) (.agg cs)).run Try.prog W = .ok (.bool false) W)
    (kw2 : ∀ W, Calls Try.prog 9 #[.agg cx] W fun e w' => ∃ A c, e = .returned (.tuple #[.slice A n c, .int .i64 0]) ∧ n ≤ c ∧ Ints .u8 w' A n zs ∧ Below W.heap.size W w')
    : Calls Try.prog 5 #[.agg cs, .slice a n c] w fun e w' => e = .returned (.bool true) ∧ Below w.heap.size w w' := by
  have B := BlkAt.new w cs 28
  have hb : Below w.heap.size w (w.alloc (.cells cs 28 (0, 0))) := (Below.refl _ _).alloc (Nat.le_refl _) _
  have hi4 := (zero_of_info super_size).2
  have hm := hI.max
  have J := hI.below hb (Nat.le_refl _)
  clear hI
  go_enter Try.func5, Try.ntmps5
  go_upto_region 7 with (first
    | (go_at_call 12; (with_reducible refine (ka _).mono ?_); rintro e w1 ⟨rfl, hb1⟩; replace hb := hb.trans (hb1.mono hb.size); replace B := B.below hb1 (Nat.le_refl _); replace J := J.below hb1 (Nat.le_refl _); clear hb1)
    | (go_at_call 9; (with_reducible refine (kw _).mono ?_); rintro e w2 ⟨A1, c1, rfl, hc9, I1, hb2⟩; replace hb := hb.trans (hb2.mono hb.size); replace B := B.below hb2 (Nat.le_refl _); replace J := J.below hb2 (Nat.le_refl _); clear hb2)
    | refine wpList_load_rowG (by rfl) 28 _ rfl w.heap.size rfl _ _ _ _ B Try.underlying28 (by rw [hi4]; rw [hcs]) ?_
    | (go_at_call 11; (with_reducible refine (krw _ _ _ I1).mono ?_); rintro e w3 ⟨rfl, hb3⟩; replace hb := hb.trans (hb3.mono hb.size); replace B := B.below hb3 (Nat.le_refl _); replace J := J.below hb3 (Nat.le_refl _); replace I1 := I1.below hb3 (Nat.le_refl _); clear hb3)
    | refine wpList_store_row rfl 28 _ _ rfl w3.heap.size cs rfl rfl _ _ (BlkAt.new w3 _ _) (by rw [hi4, hcs]) (by rw [hcs]; rfl) hc1 ?_)
  have X : BlkAt ((w3.alloc (.cells #[.int .u32 0, .int .u32 0, .int .u32 0, .int .i64 0] 28)).setRow w3.heap.size cs) w3.heap.size cs 28 := setRow_heap (w3.alloc (.cells #[.int .u32 0, .int .u32 0, .int .u32 0, .int .i64 0] 28)) w3.heap.size _ cs 28 (0, 0) (BlkAt.new w3 _ _)
  have hq : Below w3.heap.size w3 ((w3.alloc (.cells #[.int .u32 0, .int .u32 0, .int .u32 0, .int .i64 0] 28)).setRow w3.heap.size cs) := below_setRow ((Below.refl _ _).alloc (Nat.le_refl _) _) (Nat.le_refl _) _
  replace hb := hb.trans (hq.mono hb.size)
  replace B := B.below hq (Nat.le_refl _)
  replace J := J.below hq (Nat.le_refl _)
  replace I1 := I1.below hq (Nat.le_refl _)
  clear hq
  generalize World.setRow _ _ _ = v3 at *
  generalize w3.heap.size = t at *
  go_upto_region 12 with (first
    | (go_at_call 12; (with_reducible refine (ka _).mono ?_); rintro e w1 ⟨rfl, hb1⟩; replace hb := hb.trans (hb1.mono hb.size); replace B := B.below hb1 (Nat.le_refl _); replace J := J.below hb1 (Nat.le_refl _); clear hb1)
    | (go_at_call 9; (with_reducible refine (kw _).mono ?_); rintro e w2 ⟨A1, c1, rfl, hc9, I1, hb2⟩; replace hb := hb.trans (hb2.mono hb.size); replace B := B.below hb2 (Nat.le_refl _); replace J := J.below hb2 (Nat.le_refl _); clear hb2)
    | refine wpList_load_rowG (by rfl) 28 _ rfl w.heap.size rfl _ _ _ _ B Try.underlying28 (by rw [hi4]; rw [hcs]) ?_
    | refine wpList_load_rowG (by rfl) 28 _ rfl t rfl _ _ _ _ X Try.underlying28 (by rw [hi4]; rw [hcs]) ?_
    | (go_at_call 11; (with_reducible refine (kr _ J).mono ?_); rintro e w4 ⟨rfl, hb4⟩; replace hb := hb.trans (hb4.mono hb.size); replace B := B.below hb4 (Nat.le_refl _); replace J := J.below hb4 (Nat.le_refl _); replace I1 := I1.below hb4 (Nat.le_refl _); replace X := X.below hb4 (Nat.le_refl _); clear hb4)
    | refine wpList_store_row rfl 28 _ _ rfl w4.heap.size cx rfl rfl _ _ (BlkAt.new w4 _ _) (by rw [hi4, hcx]) (by rw [hcx]; rfl) hx1 ?_)
  have Y : BlkAt ((w4.alloc (.cells #[.int .u32 0, .int .u32 0, .int .u32 0, .int .i64 0] 28)).setRow w4.heap.size cx) w4.heap.size cx 28 := setRow_heap (w4.alloc (.cells #[.int .u32 0, .int .u32 0, .int .u32 0, .int .i64 0] 28)) w4.heap.size _ cx 28 (0, 0) (BlkAt.new w4 _ _)
  have hq : Below w4.heap.size w4 ((w4.alloc (.cells #[.int .u32 0, .int .u32 0, .int .u32 0, .int .i64 0] 28)).setRow w4.heap.size cx) := below_setRow ((Below.refl _ _).alloc (Nat.le_refl _) _) (Nat.le_refl _) _
  replace hb := hb.trans (hq.mono hb.size)
  replace B := B.below hq (Nat.le_refl _)
  replace J := J.below hq (Nat.le_refl _)
  replace I1 := I1.below hq (Nat.le_refl _)
  replace X := X.below hq (Nat.le_refl _)
  clear hq
  generalize World.setRow _ _ _ = v4 at *
  generalize w4.heap.size = s at *
  have tz := fun (W : World) (h : Ints .u8 W a n zs) => h.text (P := Try.prog) (c := c) Try.underlying22 Try.underlying5 Try.underlying9
  go_wp2_with (first
    | refine wpList_load_rowG (by rfl) 28 _ rfl s rfl _ _ _ _ Y Try.underlying28 (by rw [hi4]; rw [hcx]) ?_
    | (go_at_call 9; (with_reducible refine (kw2 _).mono ?_); rintro e w5 ⟨A5, c5, rfl, hc8, I5, hb5⟩; have t5 := I5.text (P := Try.prog) (c := c5) Try.underlying22 Try.underlying5 Try.underlying9; have t6 := tz _ (J.below hb5 (Nat.le_refl _)); replace hb := hb.trans (hb5.mono hb.size)))
  go_ret
  exact ⟨rfl, hb⟩
set_option maxRecDepth 100000 in
set_option maxHeartbeats 4000000 in
theorem back_oa (cs cx : Array Value) (hcs : cs.size = 4) (hc1 : cs.all (·.oneCell') = true) (hcx : cx.size = 4) (hx1 : cx.all (·.oneCell') = true) (a : Option Addr)  (c : Nat) (zs L : List Int) (w : World) (hI : Ints .u8 w a 0 zs) (hn : 0 ≤ 1000)
    (ka : ∀ W, Calls Try.prog 12 #[] W fun e w' => e = .returned (.bool true) ∧ Below W.heap.size W w') (kw : ∀ W, Calls Try.prog 9 #[.agg cs] W fun e w' => ∃ A c, e = .returned (.tuple #[.slice A 128 c, .int .i64 0]) ∧ 128 ≤ c ∧ Ints .u8 w' A 128 L ∧ Below W.heap.size W w')
    (kr : ∀ W, Ints .u8 W a 0 zs → Calls Try.prog 11 #[.slice a 0 c] W fun e w' => e = .returned (.tuple #[.agg cx, .int .i64 90]) ∧ Below W.heap.size W w')
    (krw : ∀ A c W, Ints .u8 W A 128 L → Calls Try.prog 11 #[.slice A 128 c] W fun e w' => e = .returned (.tuple #[.agg cs, .int .i64 0]) ∧ Below W.heap.size W w')
    (hne : ∀ W, (binOp .neq 28 (.agg cs) (.agg cs)).run Try.prog W = .ok (.bool false) W)
    (hez : ∀ W, (binOp .eql 28 (.agg cx) (.agg #[.int .u32 0, .int .u32 0, .int .u32 0, .int .i64 0])).run Try.prog W = .ok (.bool true) W)
    : Calls Try.prog 5 #[.agg cs, .slice a 0 c] w fun e w' => e = .returned (.bool true) ∧ Below w.heap.size w w' := by
  have B := BlkAt.new w cs 28
  have hb : Below w.heap.size w (w.alloc (.cells cs 28 (0, 0))) := (Below.refl _ _).alloc (Nat.le_refl _) _
  have hi4 := (zero_of_info super_size).2
  have hm := hI.max
  have J := hI.below hb (Nat.le_refl _)
  clear hI
  go_enter Try.func5, Try.ntmps5
  go_upto_region 7 with (first
    | (go_at_call 12; (with_reducible refine (ka _).mono ?_); rintro e w1 ⟨rfl, hb1⟩; replace hb := hb.trans (hb1.mono hb.size); replace B := B.below hb1 (Nat.le_refl _); replace J := J.below hb1 (Nat.le_refl _); clear hb1)
    | (go_at_call 9; (with_reducible refine (kw _).mono ?_); rintro e w2 ⟨A1, c1, rfl, hc9, I1, hb2⟩; replace hb := hb.trans (hb2.mono hb.size); replace B := B.below hb2 (Nat.le_refl _); replace J := J.below hb2 (Nat.le_refl _); clear hb2)
    | refine wpList_load_rowG (by rfl) 28 _ rfl w.heap.size rfl _ _ _ _ B Try.underlying28 (by rw [hi4]; rw [hcs]) ?_
    | (go_at_call 11; (with_reducible refine (krw _ _ _ I1).mono ?_); rintro e w3 ⟨rfl, hb3⟩; replace hb := hb.trans (hb3.mono hb.size); replace B := B.below hb3 (Nat.le_refl _); replace J := J.below hb3 (Nat.le_refl _); replace I1 := I1.below hb3 (Nat.le_refl _); clear hb3)
    | refine wpList_store_row rfl 28 _ _ rfl w3.heap.size cs rfl rfl _ _ (BlkAt.new w3 _ _) (by rw [hi4, hcs]) (by rw [hcs]; rfl) hc1 ?_)
  have X : BlkAt ((w3.alloc (.cells #[.int .u32 0, .int .u32 0, .int .u32 0, .int .i64 0] 28)).setRow w3.heap.size cs) w3.heap.size cs 28 := setRow_heap (w3.alloc (.cells #[.int .u32 0, .int .u32 0, .int .u32 0, .int .i64 0] 28)) w3.heap.size _ cs 28 (0, 0) (BlkAt.new w3 _ _)
  have hq : Below w3.heap.size w3 ((w3.alloc (.cells #[.int .u32 0, .int .u32 0, .int .u32 0, .int .i64 0] 28)).setRow w3.heap.size cs) := below_setRow ((Below.refl _ _).alloc (Nat.le_refl _) _) (Nat.le_refl _) _
  replace hb := hb.trans (hq.mono hb.size)
  replace B := B.below hq (Nat.le_refl _)
  replace J := J.below hq (Nat.le_refl _)
  replace I1 := I1.below hq (Nat.le_refl _)
  clear hq
  generalize World.setRow _ _ _ = v3 at *
  generalize w3.heap.size = t at *
  go_upto_region 12 with (first
    | (go_at_call 12; (with_reducible refine (ka _).mono ?_); rintro e w1 ⟨rfl, hb1⟩; replace hb := hb.trans (hb1.mono hb.size); replace B := B.below hb1 (Nat.le_refl _); replace J := J.below hb1 (Nat.le_refl _); clear hb1)
    | (go_at_call 9; (with_reducible refine (kw _).mono ?_); rintro e w2 ⟨A1, c1, rfl, hc9, I1, hb2⟩; replace hb := hb.trans (hb2.mono hb.size); replace B := B.below hb2 (Nat.le_refl _); replace J := J.below hb2 (Nat.le_refl _); clear hb2)
    | refine wpList_load_rowG (by rfl) 28 _ rfl w.heap.size rfl _ _ _ _ B Try.underlying28 (by rw [hi4]; rw [hcs]) ?_
    | refine wpList_load_rowG (by rfl) 28 _ rfl t rfl _ _ _ _ X Try.underlying28 (by rw [hi4]; rw [hcs]) ?_
    | (go_at_call 11; (with_reducible refine (kr _ J).mono ?_); rintro e w4 ⟨rfl, hb4⟩; replace hb := hb.trans (hb4.mono hb.size); replace B := B.below hb4 (Nat.le_refl _); replace J := J.below hb4 (Nat.le_refl _); replace I1 := I1.below hb4 (Nat.le_refl _); replace X := X.below hb4 (Nat.le_refl _); clear hb4)
    | refine wpList_store_row rfl 28 _ _ rfl w4.heap.size cx rfl rfl _ _ (BlkAt.new w4 _ _) (by rw [hi4, hcx]) (by rw [hcx]; rfl) hx1 ?_)
  have Y : BlkAt ((w4.alloc (.cells #[.int .u32 0, .int .u32 0, .int .u32 0, .int .i64 0] 28)).setRow w4.heap.size cx) w4.heap.size cx 28 := setRow_heap (w4.alloc (.cells #[.int .u32 0, .int .u32 0, .int .u32 0, .int .i64 0] 28)) w4.heap.size _ cx 28 (0, 0) (BlkAt.new w4 _ _)
  have hq : Below w4.heap.size w4 ((w4.alloc (.cells #[.int .u32 0, .int .u32 0, .int .u32 0, .int .i64 0] 28)).setRow w4.heap.size cx) := below_setRow ((Below.refl _ _).alloc (Nat.le_refl _) _) (Nat.le_refl _) _
  replace hb := hb.trans (hq.mono hb.size)
  replace B := B.below hq (Nat.le_refl _)
  replace J := J.below hq (Nat.le_refl _)
  replace I1 := I1.below hq (Nat.le_refl _)
  replace X := X.below hq (Nat.le_refl _)
  clear hq
  generalize World.setRow _ _ _ = v4 at *
  generalize w4.heap.size = s at *
  go_wp2_with (first
    | refine wpList_load_rowG (by rfl) 28 _ rfl s rfl _ _ _ _ Y Try.underlying28 (by rw [hi4]; rw [hcx]) ?_)
  go_ret
  exact ⟨rfl, hb⟩
set_option maxRecDepth 100000 in
set_option maxHeartbeats 4000000 in
theorem back_ob (cs cx : Array Value) (hcs : cs.size = 4) (hc1 : cs.all (·.oneCell') = true) (hcx : cx.size = 4) (hx1 : cx.all (·.oneCell') = true) (a : Option Addr)  (c : Nat) (zs L : List Int) (w : World) (hI : Ints .u8 w a 128 zs) (hn : 128 ≤ 1000)
    (ka : ∀ W, Calls Try.prog 12 #[] W fun e w' => e = .returned (.bool true) ∧ Below W.heap.size W w') (kw : ∀ W, Calls Try.prog 9 #[.agg cs] W fun e w' => ∃ A c, e = .returned (.tuple #[.slice A 128 c, .int .i64 0]) ∧ 128 ≤ c ∧ Ints .u8 w' A 128 L ∧ Below W.heap.size W w')
    (kr : ∀ W, Ints .u8 W a 128 zs → Calls Try.prog 11 #[.slice a 128 c] W fun e w' => e = .returned (.tuple #[.agg cx, .int .i64 90]) ∧ Below W.heap.size W w')
    (krw : ∀ A c W, Ints .u8 W A 128 L → Calls Try.prog 11 #[.slice A 128 c] W fun e w' => e = .returned (.tuple #[.agg cs, .int .i64 0]) ∧ Below W.heap.size W w')
    (hne : ∀ W, (binOp .neq 28 (.agg cs) (.agg cs)).run Try.prog W = .ok (.bool false) W)
    (hez : ∀ W, (binOp .eql 28 (.agg cx) (.agg #[.int .u32 0, .int .u32 0, .int .u32 0, .int .i64 0])).run Try.prog W = .ok (.bool true) W)
    : Calls Try.prog 5 #[.agg cs, .slice a 128 c] w fun e w' => e = .returned (.bool true) ∧ Below w.heap.size w w' := by
  have B := BlkAt.new w cs 28
  have hb : Below w.heap.size w (w.alloc (.cells cs 28 (0, 0))) := (Below.refl _ _).alloc (Nat.le_refl _) _
  have hi4 := (zero_of_info super_size).2
  have hm := hI.max
  have J := hI.below hb (Nat.le_refl _)
  clear hI
  go_enter Try.func5, Try.ntmps5
  go_upto_region 7 with (first
    | (go_at_call 12; (with_reducible refine (ka _).mono ?_); rintro e w1 ⟨rfl, hb1⟩; replace hb := hb.trans (hb1.mono hb.size); replace B := B.below hb1 (Nat.le_refl _); replace J := J.below hb1 (Nat.le_refl _); clear hb1)
    | (go_at_call 9; (with_reducible refine (kw _).mono ?_); rintro e w2 ⟨A1, c1, rfl, hc9, I1, hb2⟩; replace hb := hb.trans (hb2.mono hb.size); replace B := B.below hb2 (Nat.le_refl _); replace J := J.below hb2 (Nat.le_refl _); clear hb2)
    | refine wpList_load_rowG (by rfl) 28 _ rfl w.heap.size rfl _ _ _ _ B Try.underlying28 (by rw [hi4]; rw [hcs]) ?_
    | (go_at_call 11; (with_reducible refine (krw _ _ _ I1).mono ?_); rintro e w3 ⟨rfl, hb3⟩; replace hb := hb.trans (hb3.mono hb.size); replace B := B.below hb3 (Nat.le_refl _); replace J := J.below hb3 (Nat.le_refl _); replace I1 := I1.below hb3 (Nat.le_refl _); clear hb3)
    | refine wpList_store_row rfl 28 _ _ rfl w3.heap.size cs rfl rfl _ _ (BlkAt.new w3 _ _) (by rw [hi4, hcs]) (by rw [hcs]; rfl) hc1 ?_)
  have X : BlkAt ((w3.alloc (.cells #[.int .u32 0, .int .u32 0, .int .u32 0, .int .i64 0] 28)).setRow w3.heap.size cs) w3.heap.size cs 28 := setRow_heap (w3.alloc (.cells #[.int .u32 0, .int .u32 0, .int .u32 0, .int .i64 0] 28)) w3.heap.size _ cs 28 (0, 0) (BlkAt.new w3 _ _)
  have hq : Below w3.heap.size w3 ((w3.alloc (.cells #[.int .u32 0, .int .u32 0, .int .u32 0, .int .i64 0] 28)).setRow w3.heap.size cs) := below_setRow ((Below.refl _ _).alloc (Nat.le_refl _) _) (Nat.le_refl _) _
  replace hb := hb.trans (hq.mono hb.size)
  replace B := B.below hq (Nat.le_refl _)
  replace J := J.below hq (Nat.le_refl _)
  replace I1 := I1.below hq (Nat.le_refl _)
  clear hq
  generalize World.setRow _ _ _ = v3 at *
  generalize w3.heap.size = t at *
  go_upto_region 12 with (first
    | (go_at_call 12; (with_reducible refine (ka _).mono ?_); rintro e w1 ⟨rfl, hb1⟩; replace hb := hb.trans (hb1.mono hb.size); replace B := B.below hb1 (Nat.le_refl _); replace J := J.below hb1 (Nat.le_refl _); clear hb1)
    | (go_at_call 9; (with_reducible refine (kw _).mono ?_); rintro e w2 ⟨A1, c1, rfl, hc9, I1, hb2⟩; replace hb := hb.trans (hb2.mono hb.size); replace B := B.below hb2 (Nat.le_refl _); replace J := J.below hb2 (Nat.le_refl _); clear hb2)
    | refine wpList_load_rowG (by rfl) 28 _ rfl w.heap.size rfl _ _ _ _ B Try.underlying28 (by rw [hi4]; rw [hcs]) ?_
    | refine wpList_load_rowG (by rfl) 28 _ rfl t rfl _ _ _ _ X Try.underlying28 (by rw [hi4]; rw [hcs]) ?_
    | (go_at_call 11; (with_reducible refine (kr _ J).mono ?_); rintro e w4 ⟨rfl, hb4⟩; replace hb := hb.trans (hb4.mono hb.size); replace B := B.below hb4 (Nat.le_refl _); replace J := J.below hb4 (Nat.le_refl _); replace I1 := I1.below hb4 (Nat.le_refl _); replace X := X.below hb4 (Nat.le_refl _); clear hb4)
    | refine wpList_store_row rfl 28 _ _ rfl w4.heap.size cx rfl rfl _ _ (BlkAt.new w4 _ _) (by rw [hi4, hcx]) (by rw [hcx]; rfl) hx1 ?_)
  have Y : BlkAt ((w4.alloc (.cells #[.int .u32 0, .int .u32 0, .int .u32 0, .int .i64 0] 28)).setRow w4.heap.size cx) w4.heap.size cx 28 := setRow_heap (w4.alloc (.cells #[.int .u32 0, .int .u32 0, .int .u32 0, .int .i64 0] 28)) w4.heap.size _ cx 28 (0, 0) (BlkAt.new w4 _ _)
  have hq : Below w4.heap.size w4 ((w4.alloc (.cells #[.int .u32 0, .int .u32 0, .int .u32 0, .int .i64 0] 28)).setRow w4.heap.size cx) := below_setRow ((Below.refl _ _).alloc (Nat.le_refl _) _) (Nat.le_refl _) _
  replace hb := hb.trans (hq.mono hb.size)
  replace B := B.below hq (Nat.le_refl _)
  replace J := J.below hq (Nat.le_refl _)
  replace I1 := I1.below hq (Nat.le_refl _)
  replace X := X.below hq (Nat.le_refl _)
  clear hq
  generalize World.setRow _ _ _ = v4 at *
  generalize w4.heap.size = s at *
  go_wp2_with (first
    | refine wpList_load_rowG (by rfl) 28 _ rfl s rfl _ _ _ _ Y Try.underlying28 (by rw [hi4]; rw [hcx]) ?_)
  go_ret
  exact ⟨rfl, hb⟩
set_option maxRecDepth 100000 in
set_option maxHeartbeats 4000000 in
theorem back_ot (cs cx : Array Value) (hcs : cs.size = 4) (hc1 : cs.all (·.oneCell') = true) (hcx : cx.size = 4) (hx1 : cx.all (·.oneCell') = true) (a : Option Addr) (n : Nat) (c : Nat) (zs L : List Int) (w : World) (hI : Ints .u8 w a n zs) (hn : n ≤ 1000)
    (ka : ∀ W, Calls Try.prog 12 #[] W fun e w' => e = .returned (.bool true) ∧ Below W.heap.size W w') (kw : ∀ W, Calls Try.prog 9 #[.agg cs] W fun e w' => ∃ A c, e = .returned (.tuple #[.slice A 128 c, .int .i64 0]) ∧ 128 ≤ c ∧ Ints .u8 w' A 128 L ∧ Below W.heap.size W w')
    (kr : ∀ W, Ints .u8 W a n zs → Calls Try.prog 11 #[.slice a n c] W fun e w' => e = .returned (.tuple #[.agg cx, .int .i64 3]) ∧ Below W.heap.size W w')
    (krw : ∀ A c W, Ints .u8 W A 128 L → Calls Try.prog 11 #[.slice A 128 c] W fun e w' => e = .returned (.tuple #[.agg cs, .int .i64 0]) ∧ Below W.heap.size W w')
    (hne : ∀ W, (binOp .neq 28 (.agg cs) (.agg cs)).run Try.prog W = .ok (.bool false) W)
    (hez : ∀ W, (binOp .eql 28 (.agg cx) (.agg #[.int .u32 0, .int .u32 0, .int .u32 0, .int .i64 0])).run Try.prog W = .ok (.bool true) W)
    (q0 : ((n : Int) != 0) = true) (q1 : ((n : Int) != 128) = true)
    : Calls Try.prog 5 #[.agg cs, .slice a n c] w fun e w' => e = .returned (.bool true) ∧ Below w.heap.size w w' := by
  have B := BlkAt.new w cs 28
  have hb : Below w.heap.size w (w.alloc (.cells cs 28 (0, 0))) := (Below.refl _ _).alloc (Nat.le_refl _) _
  have hi4 := (zero_of_info super_size).2
  have hm := hI.max
  have J := hI.below hb (Nat.le_refl _)
  clear hI
  go_enter Try.func5, Try.ntmps5
  go_upto_region 7 with (first
    | (go_at_call 12; (with_reducible refine (ka _).mono ?_); rintro e w1 ⟨rfl, hb1⟩; replace hb := hb.trans (hb1.mono hb.size); replace B := B.below hb1 (Nat.le_refl _); replace J := J.below hb1 (Nat.le_refl _); clear hb1)
    | (go_at_call 9; (with_reducible refine (kw _).mono ?_); rintro e w2 ⟨A1, c1, rfl, hc9, I1, hb2⟩; replace hb := hb.trans (hb2.mono hb.size); replace B := B.below hb2 (Nat.le_refl _); replace J := J.below hb2 (Nat.le_refl _); clear hb2)
    | refine wpList_load_rowG (by rfl) 28 _ rfl w.heap.size rfl _ _ _ _ B Try.underlying28 (by rw [hi4]; rw [hcs]) ?_
    | (go_at_call 11; (with_reducible refine (krw _ _ _ I1).mono ?_); rintro e w3 ⟨rfl, hb3⟩; replace hb := hb.trans (hb3.mono hb.size); replace B := B.below hb3 (Nat.le_refl _); replace J := J.below hb3 (Nat.le_refl _); replace I1 := I1.below hb3 (Nat.le_refl _); clear hb3)
    | refine wpList_store_row rfl 28 _ _ rfl w3.heap.size cs rfl rfl _ _ (BlkAt.new w3 _ _) (by rw [hi4, hcs]) (by rw [hcs]; rfl) hc1 ?_)
  have X : BlkAt ((w3.alloc (.cells #[.int .u32 0, .int .u32 0, .int .u32 0, .int .i64 0] 28)).setRow w3.heap.size cs) w3.heap.size cs 28 := setRow_heap (w3.alloc (.cells #[.int .u32 0, .int .u32 0, .int .u32 0, .int .i64 0] 28)) w3.heap.size _ cs 28 (0, 0) (BlkAt.new w3 _ _)
  have hq : Below w3.heap.size w3 ((w3.alloc (.cells #[.int .u32 0, .int .u32 0, .int .u32 0, .int .i64 0] 28)).setRow w3.heap.size cs) := below_setRow ((Below.refl _ _).alloc (Nat.le_refl _) _) (Nat.le_refl _) _
  replace hb := hb.trans (hq.mono hb.size)
  replace B := B.below hq (Nat.le_refl _)
  replace J := J.below hq (Nat.le_refl _)
  replace I1 := I1.below hq (Nat.le_refl _)
  clear hq
  generalize World.setRow _ _ _ = v3 at *
  generalize w3.heap.size = t at *
  go_upto_region 12 with (first
    | (go_at_call 12; (with_reducible refine (ka _).mono ?_); rintro e w1 ⟨rfl, hb1⟩; replace hb := hb.trans (hb1.mono hb.size); replace B := B.below hb1 (Nat.le_refl _); replace J := J.below hb1 (Nat.le_refl _); clear hb1)
    | (go_at_call 9; (with_reducible refine (kw _).mono ?_); rintro e w2 ⟨A1, c1, rfl, hc9, I1, hb2⟩; replace hb := hb.trans (hb2.mono hb.size); replace B := B.below hb2 (Nat.le_refl _); replace J := J.below hb2 (Nat.le_refl _); clear hb2)
    | refine wpList_load_rowG (by rfl) 28 _ rfl w.heap.size rfl _ _ _ _ B Try.underlying28 (by rw [hi4]; rw [hcs]) ?_
    | refine wpList_load_rowG (by rfl) 28 _ rfl t rfl _ _ _ _ X Try.underlying28 (by rw [hi4]; rw [hcs]) ?_
    | (go_at_call 11; (with_reducible refine (kr _ J).mono ?_); rintro e w4 ⟨rfl, hb4⟩; replace hb := hb.trans (hb4.mono hb.size); replace B := B.below hb4 (Nat.le_refl _); replace J := J.below hb4 (Nat.le_refl _); replace I1 := I1.below hb4 (Nat.le_refl _); replace X := X.below hb4 (Nat.le_refl _); clear hb4)
    | refine wpList_store_row rfl 28 _ _ rfl w4.heap.size cx rfl rfl _ _ (BlkAt.new w4 _ _) (by rw [hi4, hcx]) (by rw [hcx]; rfl) hx1 ?_)
  have Y : BlkAt ((w4.alloc (.cells #[.int .u32 0, .int .u32 0, .int .u32 0, .int .i64 0] 28)).setRow w4.heap.size cx) w4.heap.size cx 28 := setRow_heap (w4.alloc (.cells #[.int .u32 0, .int .u32 0, .int .u32 0, .int .i64 0] 28)) w4.heap.size _ cx 28 (0, 0) (BlkAt.new w4 _ _)
  have hq : Below w4.heap.size w4 ((w4.alloc (.cells #[.int .u32 0, .int .u32 0, .int .u32 0, .int .i64 0] 28)).setRow w4.heap.size cx) := below_setRow ((Below.refl _ _).alloc (Nat.le_refl _) _) (Nat.le_refl _) _
  replace hb := hb.trans (hq.mono hb.size)
  replace B := B.below hq (Nat.le_refl _)
  replace J := J.below hq (Nat.le_refl _)
  replace I1 := I1.below hq (Nat.le_refl _)
  replace X := X.below hq (Nat.le_refl _)
  clear hq
  generalize World.setRow _ _ _ = v4 at *
  generalize w4.heap.size = s at *
  go_wp2_with (first
    | refine wpList_load_rowG (by rfl) 28 _ rfl s rfl _ _ _ _ Y Try.underlying28 (by rw [hi4]; rw [hcx]) ?_)
  go_ret
  exact ⟨rfl, hb⟩
set_option maxRecDepth 100000 in
set_option maxHeartbeats 4000000 in
theorem back_nr (cs cx : Array Value) (hcs : cs.size = 4) (hc1 : cs.all (·.oneCell') = true) (hcx : cx.size = 4) (hx1 : cx.all (·.oneCell') = true) (a : Option Addr) (n : Nat) (c : Nat) (zs L : List Int) (w : World) (hI : Ints .u8 w a n zs) (hn : n ≤ 1000)
    (ka : ∀ W, Calls Try.prog 12 #[] W fun e w' => e = .returned (.bool true) ∧ Below W.heap.size W w') (kw : ∀ W, Calls Try.prog 9 #[.agg cs] W fun e w' => ∃ A c, e = .returned (.tuple #[.slice A 0 c, .int .i64 8]) ∧ 0 ≤ c ∧ Ints .u8 w' A 0 L ∧ Below W.heap.size W w')
    (kr : ∀ W, Ints .u8 W a n zs → Calls Try.prog 11 #[.slice a n c] W fun e w' => e = .returned (.tuple #[.agg cx, .int .i64 0]) ∧ Below W.heap.size W w')
    (kw2 : ∀ W, Calls Try.prog 9 #[.agg cx] W fun e w' => ∃ A c, e = .returned (.tuple #[.slice A n c, .int .i64 0]) ∧ n ≤ c ∧ Ints .u8 w' A n zs ∧ Below W.heap.size W w')
    : Calls Try.prog 5 #[.agg cs, .slice a n c] w fun e w' => e = .returned (.bool true) ∧ Below w.heap.size w w' := by
  have B := BlkAt.new w cs 28
  have hb : Below w.heap.size w (w.alloc (.cells cs 28 (0, 0))) := (Below.refl _ _).alloc (Nat.le_refl _) _
  have hi4 := (zero_of_info super_size).2
  have hm := hI.max
  have J := hI.below hb (Nat.le_refl _)
  clear hI
  go_enter Try.func5, Try.ntmps5
  go_upto_region 12 with (first
    | (go_at_call 12; (with_reducible refine (ka _).mono ?_); rintro e w1 ⟨rfl, hb1⟩; replace hb := hb.trans (hb1.mono hb.size); replace B := B.below hb1 (Nat.le_refl _); replace J := J.below hb1 (Nat.le_refl _); clear hb1)
    | (go_at_call 9; (with_reducible refine (kw _).mono ?_); rintro e w2 ⟨A1, c1, rfl, hc9, I1, hb2⟩; replace hb := hb.trans (hb2.mono hb.size); replace B := B.below hb2 (Nat.le_refl _); replace J := J.below hb2 (Nat.le_refl _); clear hb2)
    | refine wpList_load_rowG (by rfl) 28 _ rfl w.heap.size rfl _ _ _ _ B Try.underlying28 (by rw [hi4]; rw [hcs]) ?_
    | (go_at_call 11; (with_reducible refine (kr _ J).mono ?_); rintro e w4 ⟨rfl, hb4⟩; replace hb := hb.trans (hb4.mono hb.size); replace B := B.below hb4 (Nat.le_refl _); replace J := J.below hb4 (Nat.le_refl _); replace I1 := I1.below hb4 (Nat.le_refl _); clear hb4)
    | refine wpList_store_row rfl 28 _ _ rfl w4.heap.size cx rfl rfl _ _ (BlkAt.new w4 _ _) (by rw [hi4, hcx]) (by rw [hcx]; rfl) hx1 ?_)
  have Y : BlkAt ((w4.alloc (.cells #[.int .u32 0, .int .u32 0, .int .u32 0, .int .i64 0] 28)).setRow w4.heap.size cx) w4.heap.size cx 28 := setRow_heap (w4.alloc (.cells #[.int .u32 0, .int .u32 0, .int .u32 0, .int .i64 0] 28)) w4.heap.size _ cx 28 (0, 0) (BlkAt.new w4 _ _)
  have hq : Below w4.heap.size w4 ((w4.alloc (.cells #[.int .u32 0, .int .u32 0, .int .u32 0, .int .i64 0] 28)).setRow w4.heap.size cx) := below_setRow ((Below.refl _ _).alloc (Nat.le_refl _) _) (Nat.le_refl _) _
  replace hb := hb.trans (hq.mono hb.size)
  replace B := B.below hq (Nat.le_refl _)
  replace J := J.below hq (Nat.le_refl _)
  replace I1 := I1.below hq (Nat.le_refl _)
  clear hq
  generalize World.setRow _ _ _ = v4 at *
  generalize w4.heap.size = s at *
  have tz := fun (W : World) (h : Ints .u8 W a n zs) => h.text (P := Try.prog) (c := c) Try.underlying22 Try.underlying5 Try.underlying9
  go_wp2_with (first
    | refine wpList_load_rowG (by rfl) 28 _ rfl s rfl _ _ _ _ Y Try.underlying28 (by rw [hi4]; rw [hcx]) ?_
    | (go_at_call 9; (with_reducible refine (kw2 _).mono ?_); rintro e w5 ⟨A5, c5, rfl, hc8, I5, hb5⟩; have t5 := I5.text (P := Try.prog) (c := c5) Try.underlying22 Try.underlying5 Try.underlying9; have t6 := tz _ (J.below hb5 (Nat.le_refl _)); replace hb := hb.trans (hb5.mono hb.size)))
  go_ret
  exact ⟨rfl, hb⟩
set_option maxRecDepth 100000 in
set_option maxHeartbeats 4000000 in
theorem back_na (cs cx : Array Value) (hcs : cs.size = 4) (hc1 : cs.all (·.oneCell') = true) (hcx : cx.size = 4) (hx1 : cx.all (·.oneCell') = true) (a : Option Addr)  (c : Nat) (zs L : List Int) (w : World) (hI : Ints .u8 w a 0 zs) (hn : 0 ≤ 1000)
    (ka : ∀ W, Calls Try.prog 12 #[] W fun e w' => e = .returned (.bool true) ∧ Below W.heap.size W w') (kw : ∀ W, Calls Try.prog 9 #[.agg cs] W fun e w' => ∃ A c, e = .returned (.tuple #[.slice A 0 c, .int .i64 8]) ∧ 0 ≤ c ∧ Ints .u8 w' A 0 L ∧ Below W.heap.size W w')
    (kr : ∀ W, Ints .u8 W a 0 zs → Calls Try.prog 11 #[.slice a 0 c] W fun e w' => e = .returned (.tuple #[.agg cx, .int .i64 90]) ∧ Below W.heap.size W w')
    (hez : ∀ W, (binOp .eql 28 (.agg cx) (.agg #[.int .u32 0, .int .u32 0, .int .u32 0, .int .i64 0])).run Try.prog W = .ok (.bool true) W)
    : Calls Try.prog 5 #[.agg cs, .slice a 0 c] w fun e w' => e = .returned (.bool true) ∧ Below w.heap.size w w' := by
  have B := BlkAt.new w cs 28
  have hb : Below w.heap.size w (w.alloc (.cells cs 28 (0, 0))) := (Below.refl _ _).alloc (Nat.le_refl _) _
  have hi4 := (zero_of_info super_size).2
  have hm := hI.max
  have J := hI.below hb (Nat.le_refl _)
  clear hI
  go_enter Try.func5, Try.ntmps5
  go_upto_region 12 with (first
    | (go_at_call 12; (with_reducible refine (ka _).mono ?_); rintro e w1 ⟨rfl, hb1⟩; replace hb := hb.trans (hb1.mono hb.size); replace B := B.below hb1 (Nat.le_refl _); replace J := J.below hb1 (Nat.le_refl _); clear hb1)
    | (go_at_call 9; (with_reducible refine (kw _).mono ?_); rintro e w2 ⟨A1, c1, rfl, hc9, I1, hb2⟩; replace hb := hb.trans (hb2.mono hb.size); replace B := B.below hb2 (Nat.le_refl _); replace J := J.below hb2 (Nat.le_refl _); clear hb2)
    | refine wpList_load_rowG (by rfl) 28 _ rfl w.heap.size rfl _ _ _ _ B Try.underlying28 (by rw [hi4]; rw [hcs]) ?_
    | (go_at_call 11; (with_reducible refine (kr _ J).mono ?_); rintro e w4 ⟨rfl, hb4⟩; replace hb := hb.trans (hb4.mono hb.size); replace B := B.below hb4 (Nat.le_refl _); replace J := J.below hb4 (Nat.le_refl _); replace I1 := I1.below hb4 (Nat.le_refl _); clear hb4)
    | refine wpList_store_row rfl 28 _ _ rfl w4.heap.size cx rfl rfl _ _ (BlkAt.new w4 _ _) (by rw [hi4, hcx]) (by rw [hcx]; rfl) hx1 ?_)
  have Y : BlkAt ((w4.alloc (.cells #[.int .u32 0, .int .u32 0, .int .u32 0, .int .i64 0] 28)).setRow w4.heap.size cx) w4.heap.size cx 28 := setRow_heap (w4.alloc (.cells #[.int .u32 0, .int .u32 0, .int .u32 0, .int .i64 0] 28)) w4.heap.size _ cx 28 (0, 0) (BlkAt.new w4 _ _)
  have hq : Below w4.heap.size w4 ((w4.alloc (.cells #[.int .u32 0, .int .u32 0, .int .u32 0, .int .i64 0] 28)).setRow w4.heap.size cx) := below_setRow ((Below.refl _ _).alloc (Nat.le_refl _) _) (Nat.le_refl _) _
  replace hb := hb.trans (hq.mono hb.size)
  replace B := B.below hq (Nat.le_refl _)
  replace J := J.below hq (Nat.le_refl _)
  replace I1 := I1.below hq (Nat.le_refl _)
  clear hq
  generalize World.setRow _ _ _ = v4 at *
  generalize w4.heap.size = s at *
  go_wp2_with (first
    | refine wpList_load_rowG (by rfl) 28 _ rfl s rfl _ _ _ _ Y Try.underlying28 (by rw [hi4]; rw [hcx]) ?_)
  go_ret
  exact ⟨rfl, hb⟩
set_option maxRecDepth 100000 in
set_option maxHeartbeats 4000000 in
theorem back_nb (cs cx : Array Value) (hcs : cs.size = 4) (hc1 : cs.all (·.oneCell') = true) (hcx : cx.size = 4) (hx1 : cx.all (·.oneCell') = true) (a : Option Addr)  (c : Nat) (zs L : List Int) (w : World) (hI : Ints .u8 w a 128 zs) (hn : 128 ≤ 1000)
    (ka : ∀ W, Calls Try.prog 12 #[] W fun e w' => e = .returned (.bool true) ∧ Below W.heap.size W w') (kw : ∀ W, Calls Try.prog 9 #[.agg cs] W fun e w' => ∃ A c, e = .returned (.tuple #[.slice A 0 c, .int .i64 8]) ∧ 0 ≤ c ∧ Ints .u8 w' A 0 L ∧ Below W.heap.size W w')
    (kr : ∀ W, Ints .u8 W a 128 zs → Calls Try.prog 11 #[.slice a 128 c] W fun e w' => e = .returned (.tuple #[.agg cx, .int .i64 90]) ∧ Below W.heap.size W w')
    (hez : ∀ W, (binOp .eql 28 (.agg cx) (.agg #[.int .u32 0, .int .u32 0, .int .u32 0, .int .i64 0])).run Try.prog W = .ok (.bool true) W)
    : Calls Try.prog 5 #[.agg cs, .slice a 128 c] w fun e w' => e = .returned (.bool true) ∧ Below w.heap.size w w' := by
  have B := BlkAt.new w cs 28
  have hb : Below w.heap.size w (w.alloc (.cells cs 28 (0, 0))) := (Below.refl _ _).alloc (Nat.le_refl _) _
  have hi4 := (zero_of_info super_size).2
  have hm := hI.max
  have J := hI.below hb (Nat.le_refl _)
  clear hI
  go_enter Try.func5, Try.ntmps5
  go_upto_region 12 with (first
    | (go_at_call 12; (with_reducible refine (ka _).mono ?_); rintro e w1 ⟨rfl, hb1⟩; replace hb := hb.trans (hb1.mono hb.size); replace B := B.below hb1 (Nat.le_refl _); replace J := J.below hb1 (Nat.le_refl _); clear hb1)
    | (go_at_call 9; (with_reducible refine (kw _).mono ?_); rintro e w2 ⟨A1, c1, rfl, hc9, I1, hb2⟩; replace hb := hb.trans (hb2.mono hb.size); replace B := B.below hb2 (Nat.le_refl _); replace J := J.below hb2 (Nat.le_refl _); clear hb2)
    | refine wpList_load_rowG (by rfl) 28 _ rfl w.heap.size rfl _ _ _ _ B Try.underlying28 (by rw [hi4]; rw [hcs]) ?_
    | (go_at_call 11; (with_reducible refine (kr _ J).mono ?_); rintro e w4 ⟨rfl, hb4⟩; replace hb := hb.trans (hb4.mono hb.size); replace B := B.below hb4 (Nat.le_refl _); replace J := J.below hb4 (Nat.le_refl _); replace I1 := I1.below hb4 (Nat.le_refl _); clear hb4)
    | refine wpList_store_row rfl 28 _ _ rfl w4.heap.size cx rfl rfl _ _ (BlkAt.new w4 _ _) (by rw [hi4, hcx]) (by rw [hcx]; rfl) hx1 ?_)
  have Y : BlkAt ((w4.alloc (.cells #[.int .u32 0, .int .u32 0, .int .u32 0, .int .i64 0] 28)).setRow w4.heap.size cx) w4.heap.size cx 28 := setRow_heap (w4.alloc (.cells #[.int .u32 0, .int .u32 0, .int .u32 0, .int .i64 0] 28)) w4.heap.size _ cx 28 (0, 0) (BlkAt.new w4 _ _)
  have hq : Below w4.heap.size w4 ((w4.alloc (.cells #[.int .u32 0, .int .u32 0, .int .u32 0, .int .i64 0] 28)).setRow w4.heap.size cx) := below_setRow ((Below.refl _ _).alloc (Nat.le_refl _) _) (Nat.le_refl _) _
  replace hb := hb.trans (hq.mono hb.size)
  replace B := B.below hq (Nat.le_refl _)
  replace J := J.below hq (Nat.le_refl _)
  replace I1 := I1.below hq (Nat.le_refl _)
  clear hq
  generalize World.setRow _ _ _ = v4 at *
  generalize w4.heap.size = s at *
  go_wp2_with (first
    | refine wpList_load_rowG (by rfl) 28 _ rfl s rfl _ _ _ _ Y Try.underlying28 (by rw [hi4]; rw [hcx]) ?_)
  go_ret
  exact ⟨rfl, hb⟩
set_option maxRecDepth 100000 in
set_option maxHeartbeats 4000000 in
theorem back_nt (cs cx : Array Value) (hcs : cs.size = 4) (hc1 : cs.all (·.oneCell') = true) (hcx : cx.size = 4) (hx1 : cx.all (·.oneCell') = true) (a : Option Addr) (n : Nat) (c : Nat) (zs L : List Int) (w : World) (hI : Ints .u8 w a n zs) (hn : n ≤ 1000)
    (ka : ∀ W, Calls Try.prog 12 #[] W fun e w' => e = .returned (.bool true) ∧ Below W.heap.size W w') (kw : ∀ W, Calls Try.prog 9 #[.agg cs] W fun e w' => ∃ A c, e = .returned (.tuple #[.slice A 0 c, .int .i64 8]) ∧ 0 ≤ c ∧ Ints .u8 w' A 0 L ∧ Below W.heap.size W w')
    (kr : ∀ W, Ints .u8 W a n zs → Calls Try.prog 11 #[.slice a n c] W fun e w' => e = .returned (.tuple #[.agg cx, .int .i64 3]) ∧ Below W.heap.size W w')
    (hez : ∀ W, (binOp .eql 28 (.agg cx) (.agg #[.int .u32 0, .int .u32 0, .int .u32 0, .int .i64 0])).run Try.prog W = .ok (.bool true) W)
    (q0 : ((n : Int) != 0) = true) (q1 : ((n : Int) != 128) = true)
    : Calls Try.prog 5 #[.agg cs, .slice a n c] w fun e w' => e = .returned (.bool true) ∧ Below w.heap.size w w' := by
  have B := BlkAt.new w cs 28
  have hb : Below w.heap.size w (w.alloc (.cells cs 28 (0, 0))) := (Below.refl _ _).alloc (Nat.le_refl _) _
  have hi4 := (zero_of_info super_size).2
  have hm := hI.max
  have J := hI.below hb (Nat.le_refl _)
  clear hI
  go_enter Try.func5, Try.ntmps5
  go_upto_region 12 with (first
    | (go_at_call 12; (with_reducible refine (ka _).mono ?_); rintro e w1 ⟨rfl, hb1⟩; replace hb := hb.trans (hb1.mono hb.size); replace B := B.below hb1 (Nat.le_refl _); replace J := J.below hb1 (Nat.le_refl _); clear hb1)
    | (go_at_call 9; (with_reducible refine (kw _).mono ?_); rintro e w2 ⟨A1, c1, rfl, hc9, I1, hb2⟩; replace hb := hb.trans (hb2.mono hb.size); replace B := B.below hb2 (Nat.le_refl _); replace J := J.below hb2 (Nat.le_refl _); clear hb2)
    | refine wpList_load_rowG (by rfl) 28 _ rfl w.heap.size rfl _ _ _ _ B Try.underlying28 (by rw [hi4]; rw [hcs]) ?_
    | (go_at_call 11; (with_reducible refine (kr _ J).mono ?_); rintro e w4 ⟨rfl, hb4⟩; replace hb := hb.trans (hb4.mono hb.size); replace B := B.below hb4 (Nat.le_refl _); replace J := J.below hb4 (Nat.le_refl _); replace I1 := I1.below hb4 (Nat.le_refl _); clear hb4)
    | refine wpList_store_row rfl 28 _ _ rfl w4.heap.size cx rfl rfl _ _ (BlkAt.new w4 _ _) (by rw [hi4, hcx]) (by rw [hcx]; rfl) hx1 ?_)
  have Y : BlkAt ((w4.alloc (.cells #[.int .u32 0, .int .u32 0, .int .u32 0, .int .i64 0] 28)).setRow w4.heap.size cx) w4.heap.size cx 28 := setRow_heap (w4.alloc (.cells #[.int .u32 0, .int .u32 0, .int .u32 0, .int .i64 0] 28)) w4.heap.size _ cx 28 (0, 0) (BlkAt.new w4 _ _)
  have hq : Below w4.heap.size w4 ((w4.alloc (.cells #[.int .u32 0, .int .u32 0, .int .u32 0, .int .i64 0] 28)).setRow w4.heap.size cx) := below_setRow ((Below.refl _ _).alloc (Nat.le_refl _) _) (Nat.le_refl _) _
  replace hb := hb.trans (hq.mono hb.size)
  replace B := B.below hq (Nat.le_refl _)
  replace J := J.below hq (Nat.le_refl _)
  replace I1 := I1.below hq (Nat.le_refl _)
  clear hq
  generalize World.setRow _ _ _ = v4 at *
  generalize w4.heap.size = s at *
  go_wp2_with (first
    | refine wpList_load_rowG (by rfl) 28 _ rfl s rfl _ _ _ _ Y Try.underlying28 (by rw [hi4]; rw [hcx]) ?_)
  go_ret
  exact ⟨rfl, hb⟩
set_option maxRecDepth 100000 in
set_option maxHeartbeats 4000000 in
theorem back_great (cs : Array Value) (hcs : cs.size = 4) (a : Option Addr) (n c : Nat) (w : World) (hm : n ≤ 9223372036854775807) (hn : (1000 : Int) < n) (ka : ∀ W, Calls Try.prog 12 #[] W fun e w' => e = .returned (.bool true) ∧ Below W.heap.size W w') : Calls Try.prog 5 #[.agg cs, .slice a n c] w fun e w' => e = .returned (.bool true) ∧ Below w.heap.size w w' := by
  have B := BlkAt.new w cs 28
  have hb : Below w.heap.size w (w.alloc (.cells cs 28 (0, 0))) := (Below.refl _ _).alloc (Nat.le_refl _) _
  have hi4 := (zero_of_info super_size).2
  go_enter Try.func5, Try.ntmps5
  go_wp2_with (go_at_call 12; (with_reducible refine (ka _).mono ?_); rintro e w1 ⟨rfl, hb1⟩; replace hb := hb.trans (hb1.mono hb.size); replace B := B.below hb1 (Nat.le_refl _); clear hb1)
  go_ret
  exact ⟨rfl, hb⟩
theorem readES_cases (n : Nat) (zs : List Int) : (rdES n zs = 0 ∧ ReadsS (pad zs) ∧ rdS n zs = tookS (pad zs) ∧ (n = 0 ∨ n = 128)) ∨ (rdES n zs = 90 ∧ rdS n zs = zeroS ∧ (n = 0 ∨ n = 128)) ∨ (rdES n zs = 3 ∧ rdS n zs = zeroS ∧ n ≠ 0 ∧ n ≠ 128) := by
  unfold rdES rdS readES readS
  by_cases q : n = 0 ∨ n = 128
  · rw [if_pos q, if_pos q]
    by_cases h : ReadsS (pad zs)
    · rw [if_pos h, if_pos h]
      exact .inl ⟨rfl, h, rfl, q⟩
    · rw [if_neg h, if_neg h]
      exact .inr (.inl ⟨rfl, rfl, q⟩)
  · rw [if_neg q, if_neg q]
    exact .inr (.inr ⟨rfl, rfl, fun e => q (.inl e), fun e => q (.inr e)⟩)
theorem superBack_walk (w : World) (l : Sup) (hw : WideS l) (a : Option Addr) (n c : Nat) (zs : List Int) (hI : Ints .u8 w a n zs) (_ : n ≤ c) : Calls Try.prog 5 #[supV l, .slice a n c] w fun e w' => e = .returned (.bool true) ∧ Below w.heap.size w w' := by
  have ka := fun W => alive10_calls W
  by_cases hn : (1000 : Int) < n
  · exact back_great (supA l) rfl a n c w hI.max hn ka
  have hn2 : n ≤ 1000 := by omega
  have one : ∀ m : Sup, (supA m).size = 4 ∧ (supA m).all (·.oneCell') = true := fun m => ⟨rfl, by simp [supA, Value.oneCell']⟩
  have kw := fun W => supWrite_any hw W
  have kr := fun (W : World) (h : Ints .u8 W a n zs) => supRead_any a n c zs W h
  have back : ReadsS (pad zs) → (n = 0 ∨ n = 128) → rdS n zs = tookS (pad zs) → ∀ W, Calls Try.prog 9 #[.agg (supA (rdS n zs))] W fun e w' => ∃ A c, e = .returned (.tuple #[.slice A n c, .int .i64 0]) ∧ n ≤ c ∧ Ints .u8 w' A n zs ∧ Below W.heap.size W w' := by
    intro h q e W
    have h128 : n = 128 := by
      rcases q with q | q
      · exfalso
        have : zs = [] := List.length_eq_zero_iff.1 (hI.len.trans q)
        subst this
        exact not_mayS_nil h.1
      · exact q
    have hp : pad zs = zs := pad_whole (hI.len.trans h128)
    have k := supWrite_any (tookS_wide (pad_bytes (bytes_of hI))) W
    rcases chkS_cases (tookS (pad zs)) with ⟨_, e1, e2, e3⟩ | ⟨e0, _⟩
    · rw [e1, e2, e3, h.2, hp] at k
      rw [e, h128]
      rw [hp]
      exact k
    · exact absurd h.1 e0
  have hz : ∀ s : Sup, s = zeroS → ∀ W, (binOp .eql 28 (.agg (supA s)) (.agg #[.int .u32 0, .int .u32 0, .int .u32 0, .int .i64 0])).run Try.prog W = .ok (.bool true) W := fun s e W => supV_eql s zeroS true ⟨fun _ => e, fun _ => rfl⟩ W
  have ne : n ≠ 0 → n ≠ 128 → ((n : Int) != 0) = true ∧ ((n : Int) != 128) = true := fun h k => ⟨by simp; omega, by simp; omega⟩
  rcases chkS_cases l with ⟨hM, e1, e2, e3⟩ | ⟨hM, e1, e2, e3⟩
  · rw [e1, e2, e3] at kw
    have krw : ∀ A c W, Ints .u8 W A 128 (blockS l) → Calls Try.prog 11 #[.slice A 128 c] W fun e w' => e = .returned (.tuple #[.agg (supA l), .int .i64 0]) ∧ Below W.heap.size W w' := fun A c W h => supRead_block hw hM A c W h
    have hne := fun W => supV_neq l l true ⟨fun _ => rfl, fun _ => rfl⟩ W
    rcases readES_cases n zs with ⟨r1, r2, r3, r4⟩ | ⟨r1, r2, rfl | rfl⟩ | ⟨r1, r2, r3, r4⟩
    all_goals
      rw [r1] at kr
    · exact back_or (supA l) (supA (rdS n zs)) (one l).1 (one l).2 (one _).1 (one _).2 a n c zs (blockS l) w hI hn2 ka kw kr krw hne (back r2 r4 r3)
    · exact back_oa (supA l) (supA (rdS 0 zs)) (one l).1 (one l).2 (one _).1 (one _).2 a c zs (blockS l) w hI hn2 ka kw kr krw hne (hz _ r2)
    · exact back_ob (supA l) (supA (rdS 128 zs)) (one l).1 (one l).2 (one _).1 (one _).2 a c zs (blockS l) w hI hn2 ka kw kr krw hne (hz _ r2)
    · exact back_ot (supA l) (supA (rdS n zs)) (one l).1 (one l).2 (one _).1 (one _).2 a n c zs (blockS l) w hI hn2 ka kw kr krw hne (hz _ r2) (ne r3 r4).1 (ne r3 r4).2
  · rw [e1, e2, e3] at kw
    rcases readES_cases n zs with ⟨r1, r2, r3, r4⟩ | ⟨r1, r2, rfl | rfl⟩ | ⟨r1, r2, r3, r4⟩
    all_goals
      rw [r1] at kr
    · exact back_nr (supA l) (supA (rdS n zs)) (one l).1 (one l).2 (one _).1 (one _).2 a n c zs [] w hI hn2 ka kw kr (back r2 r4 r3)
    · exact back_na (supA l) (supA (rdS 0 zs)) (one l).1 (one l).2 (one _).1 (one _).2 a c zs [] w hI hn2 ka kw kr (hz _ r2)
    · exact back_nb (supA l) (supA (rdS 128 zs)) (one l).1 (one l).2 (one _).1 (one _).2 a c zs [] w hI hn2 ka kw kr (hz _ r2)
    · exact back_nt (supA l) (supA (rdS n zs)) (one l).1 (one l).2 (one _).1 (one _).2 a n c zs [] w hI hn2 ka kw kr (hz _ r2) (ne r3 r4).1 (ne r3 r4).2


namespace superBack
set_option linter.unusedVariables false
set_option maxRecDepth 100000 in
theorem lifted (os : Os) (started : os.Started) (H : Type) (enc : TypeId × Value → H) :
    ReturnsInHanded {} Try.checked os 5 .any (Rows.superBackSpec.pre6 enc Try.prog Try.f5 Rows.superBackRow.domain false) (Rows.superBackSpec.post enc Try.prog Try.f5 false true false false) := by
  refine returnsInHanded_of_change (C := Try.checked) Try.own started (by kernel_rfl) Try.func5
    (ChangeSpec.witness6 (enc := enc) (C := Try.checked) false ⟨#[], #[.agg #[.int .u32 0, .int .u32 0, .int .u32 0, .int .i64 0], .slice none 0 0], []⟩ 8 (by kernel_rfl) (by kernel_rfl) (by kernel_rfl) (by kernel_rfl)) ?_
  intro W base args ds gs before hval0 hW hcnd _
  have hval : ∀ (j : Nat) t v, Try.f5.params[j]? = some t → args[j]? = some v → Value.okWide Try.prog W .any base t v := hval0
  have hW' := hW
  obtain ⟨p, q, hA0, hV, rfl, hfz, hnd⟩ := hW
  have hA : DataW.TrodAll enc Try.prog W 0 (fun _ => true) true Try.f5.params.toList args.toList ds p := hA0
  rw [Try.params5] at hA hval
  obtain ⟨v0, vs0, d0, ds0, p0, q0, hargs, rfl, rfl, h0, r0⟩ := trodAll_cons hA
  obtain ⟨v1, vs1, d1, ds1, p1, q1, rfl, rfl, rfl, h1, r1⟩ := trodAll_cons r0
  obtain ⟨rfl, rfl, rfl⟩ := trodAll_nil r1
  obtain rfl : args = #[v0, v1] := by cases args; simp_all
  obtain ⟨rfl, rfl⟩ := trodVars_none hV
  have k0 := h0
  have lt0 : ∀ x ∈ p0, x.block < W.heap.size := by obtain ⟨m, hm⟩ := k0; exact DataW.trod_lt m _ _ _ hm
  obtain ⟨z0, rfl, w0⟩ := super_in (hval 0 28 v0 rfl rfl) h0
  obtain ⟨a1, len1, cap1, rfl⟩ := okWide_slice Try.underlying22 (hval 1 22 v1 rfl rfl)
  have k1 := h1
  have lt1 : ∀ x ∈ p1, x.block < W.heap.size := by obtain ⟨m, hm⟩ := k1; exact DataW.trod_lt m _ _ _ hm
  obtain ⟨z1, w1, c1⟩ : ∃ zs, Ints .u8 W a1 len1 zs ∧ len1 ≤ cap1 := by
    obtain ⟨fuel, hf⟩ := h1
    rcases open_ints Try.underlying22 Try.underlying5 (by kernel_rfl) hf with ⟨hcs, _⟩ | ⟨x, l, c, zs, hcs, _, hl, hm, hz, _, hcell, hwz⟩
    · simp [Value.cells] at hcs
      obtain ⟨rfl, rfl, rfl⟩ := hcs
      exact ⟨[], ⟨rfl, by omega, by simp, .inl rfl⟩, by omega⟩
    · simp [Value.cells] at hcs
      obtain ⟨rfl, rfl, rfl⟩ := hcs
      exact ⟨_, Ints.of_cells hl hm (by simpa using hz) hcell hwz, hl⟩
  clear hA0 hval0
  refine (superBack_walk W z0 w0 a1 len1 cap1 z1 w1 c1).mono fun e W' ⟨he, bel⟩ => ?_
  subst he
  exact ⟨_, rfl, _, _, _, [], _, [], hW', trodAll_mk1 (shut_bool Try.underlying4 _), (trodAll_cons_mk (Below.trod Try.laidOut (by kernel_rfl) (of_decide_eq_true (by kernel_rfl)) k0 bel lt0) (trodAll_cons_mk (Below.trod Try.laidOut (by kernel_rfl) (of_decide_eq_true (by kernel_rfl)) k1 bel lt1) trodAll_mk0)), rfl, bel.frame _, fun h => by cases h⟩

theorem holds : Rows.SuperBackSaid :=
  OpenClaim.holds_of_wide 5 Try.f5 rfl rfl rfl rfl rfl rfl rfl ⟨rfl, rfl, rfl, rfl, rfl⟩ rfl rfl rfl rfl rfl (by kernel_rfl) Try.func5 (by kernel_rfl)
    (of_decide_eq_true (by kernel_rfl)) (by unfold Func.isWrapper; first | (rw [if_pos (by decide +kernel)]; kernel_rfl) | (rw [if_neg (by decide +kernel)]; exact ⟨rfl, rfl⟩))
    (fun os started H enc _ => lifted os started H enc)
end superBack
end Go.Proofs.Ytcngonedcnddlaa
