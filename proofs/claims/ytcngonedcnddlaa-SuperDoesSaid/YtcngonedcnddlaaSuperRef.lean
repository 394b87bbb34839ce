/- The walks of the document's own answer for layer 10: May, Check, Block, Write, Read. -/
import Derived.Test.YtcngonedcnddlaaSealRef
import Derived.Test.YtcngonedcnddlaaSuperBox
import Derived.Test.YtcngonedcnddlaaSuperRead
import Derived.Deep.DeepCutAuto
namespace Go.Proofs.Ytcngonedcnddlaa
open Go.RowKit PolyM PackM SealM LabelM SuperM
set_option linter.unusedVariables false

set_option maxRecDepth 100000 in
set_option maxHeartbeats 4000000 in
theorem may10_0 (id age seq tail : Int)  (h0 : decide (1 ≤ age) = false) (w : World) : Calls Try.prog 24 #[.agg #[.int .u32 id, .int .u32 age, .int .u32 seq, .int .i64 tail]] w fun e w' => e = .returned (.bool false) ∧ Below w.heap.size w w' := by
  have B := BlkAt.new w #[.int .u32 id, .int .u32 age, .int .u32 seq, .int .i64 tail] 28
  have hb : Below w.heap.size w (w.alloc (.cells #[.int .u32 id, .int .u32 age, .int .u32 seq, .int .i64 tail] 28 (0, 0))) := (Below.refl _ _).alloc (Nat.le_refl _) _
  have hi4 := (zero_of_info super_size).2
  have b0 := B.cell 0
  have b1 := B.cell 1
  have b2 := B.cell 2
  have b3 := B.cell 3
  go_enter Try.func24, Try.ntmps24
  go_wp2
  go_ret
  exact ⟨rfl, hb⟩

set_option maxRecDepth 100000 in
set_option maxHeartbeats 4000000 in
theorem may10_1 (id age seq tail : Int) (h0 : decide (1 ≤ age) = true) (h1 : decide (age ≤ 2147483648) = false) (w : World) : Calls Try.prog 24 #[.agg #[.int .u32 id, .int .u32 age, .int .u32 seq, .int .i64 tail]] w fun e w' => e = .returned (.bool false) ∧ Below w.heap.size w w' := by
  have B := BlkAt.new w #[.int .u32 id, .int .u32 age, .int .u32 seq, .int .i64 tail] 28
  have hb : Below w.heap.size w (w.alloc (.cells #[.int .u32 id, .int .u32 age, .int .u32 seq, .int .i64 tail] 28 (0, 0))) := (Below.refl _ _).alloc (Nat.le_refl _) _
  have hi4 := (zero_of_info super_size).2
  have b0 := B.cell 0
  have b1 := B.cell 1
  have b2 := B.cell 2
  have b3 := B.cell 3
  go_enter Try.func24, Try.ntmps24
  go_wp2
  go_ret
  exact ⟨rfl, hb⟩

set_option maxRecDepth 100000 in
set_option maxHeartbeats 4000000 in
theorem may10_2 (id age seq tail : Int) (h0 : decide (1 ≤ age) = true) (h1 : decide (age ≤ 2147483648) = true) (h2 : decide (1 ≤ seq) = false) (w : World) : Calls Try.prog 24 #[.agg #[.int .u32 id, .int .u32 age, .int .u32 seq, .int .i64 tail]] w fun e w' => e = .returned (.bool false) ∧ Below w.heap.size w w' := by
  have B := BlkAt.new w #[.int .u32 id, .int .u32 age, .int .u32 seq, .int .i64 tail] 28
  have hb : Below w.heap.size w (w.alloc (.cells #[.int .u32 id, .int .u32 age, .int .u32 seq, .int .i64 tail] 28 (0, 0))) := (Below.refl _ _).alloc (Nat.le_refl _) _
  have hi4 := (zero_of_info super_size).2
  have b0 := B.cell 0
  have b1 := B.cell 1
  have b2 := B.cell 2
  have b3 := B.cell 3
  go_enter Try.func24, Try.ntmps24
  go_wp2
  go_ret
  exact ⟨rfl, hb⟩

set_option maxRecDepth 100000 in
set_option maxHeartbeats 4000000 in
theorem may10_3 (id age seq tail : Int) (h0 : decide (1 ≤ age) = true) (h1 : decide (age ≤ 2147483648) = true) (h2 : decide (1 ≤ seq) = true) (h3 : decide (seq ≤ 2147483648) = false) (w : World) : Calls Try.prog 24 #[.agg #[.int .u32 id, .int .u32 age, .int .u32 seq, .int .i64 tail]] w fun e w' => e = .returned (.bool false) ∧ Below w.heap.size w w' := by
  have B := BlkAt.new w #[.int .u32 id, .int .u32 age, .int .u32 seq, .int .i64 tail] 28
  have hb : Below w.heap.size w (w.alloc (.cells #[.int .u32 id, .int .u32 age, .int .u32 seq, .int .i64 tail] 28 (0, 0))) := (Below.refl _ _).alloc (Nat.le_refl _) _
  have hi4 := (zero_of_info super_size).2
  have b0 := B.cell 0
  have b1 := B.cell 1
  have b2 := B.cell 2
  have b3 := B.cell 3
  go_enter Try.func24, Try.ntmps24
  go_wp2
  go_ret
  exact ⟨rfl, hb⟩

set_option maxRecDepth 100000 in
set_option maxHeartbeats 4000000 in
theorem may10_4 (id age seq tail : Int) (h0 : decide (1 ≤ age) = true) (h1 : decide (age ≤ 2147483648) = true) (h2 : decide (1 ≤ seq) = true) (h3 : decide (seq ≤ 2147483648) = true) (h4 : decide (0 ≤ tail) = false) (w : World) : Calls Try.prog 24 #[.agg #[.int .u32 id, .int .u32 age, .int .u32 seq, .int .i64 tail]] w fun e w' => e = .returned (.bool false) ∧ Below w.heap.size w w' := by
  have B := BlkAt.new w #[.int .u32 id, .int .u32 age, .int .u32 seq, .int .i64 tail] 28
  have hb : Below w.heap.size w (w.alloc (.cells #[.int .u32 id, .int .u32 age, .int .u32 seq, .int .i64 tail] 28 (0, 0))) := (Below.refl _ _).alloc (Nat.le_refl _) _
  have hi4 := (zero_of_info super_size).2
  have b0 := B.cell 0
  have b1 := B.cell 1
  have b2 := B.cell 2
  have b3 := B.cell 3
  go_enter Try.func24, Try.ntmps24
  go_wp2
  go_ret
  exact ⟨rfl, hb⟩

set_option maxRecDepth 100000 in
set_option maxHeartbeats 4000000 in
theorem may10_5 (id age seq tail : Int) (h0 : decide (1 ≤ age) = true) (h1 : decide (age ≤ 2147483648) = true) (h2 : decide (1 ≤ seq) = true) (h3 : decide (seq ≤ 2147483648) = true) (h4 : decide (0 ≤ tail) = true) (h5 : decide (tail < 255) = false) (w : World) : Calls Try.prog 24 #[.agg #[.int .u32 id, .int .u32 age, .int .u32 seq, .int .i64 tail]] w fun e w' => e = .returned (.bool false) ∧ Below w.heap.size w w' := by
  have B := BlkAt.new w #[.int .u32 id, .int .u32 age, .int .u32 seq, .int .i64 tail] 28
  have hb : Below w.heap.size w (w.alloc (.cells #[.int .u32 id, .int .u32 age, .int .u32 seq, .int .i64 tail] 28 (0, 0))) := (Below.refl _ _).alloc (Nat.le_refl _) _
  have hi4 := (zero_of_info super_size).2
  have b0 := B.cell 0
  have b1 := B.cell 1
  have b2 := B.cell 2
  have b3 := B.cell 3
  go_enter Try.func24, Try.ntmps24
  go_wp2
  go_ret
  exact ⟨rfl, hb⟩

set_option maxRecDepth 100000 in
set_option maxHeartbeats 4000000 in
theorem may10_ok (id age seq tail : Int) (h0 : decide (1 ≤ age) = true) (h1 : decide (age ≤ 2147483648) = true) (h2 : decide (1 ≤ seq) = true) (h3 : decide (seq ≤ 2147483648) = true) (h4 : decide (0 ≤ tail) = true) (h5 : decide (tail < 255) = true) (w : World) : Calls Try.prog 24 #[.agg #[.int .u32 id, .int .u32 age, .int .u32 seq, .int .i64 tail]] w fun e w' => e = .returned (.bool true) ∧ Below w.heap.size w w' := by
  have B := BlkAt.new w #[.int .u32 id, .int .u32 age, .int .u32 seq, .int .i64 tail] 28
  have hb : Below w.heap.size w (w.alloc (.cells #[.int .u32 id, .int .u32 age, .int .u32 seq, .int .i64 tail] 28 (0, 0))) := (Below.refl _ _).alloc (Nat.le_refl _) _
  have hi4 := (zero_of_info super_size).2
  have b0 := B.cell 0
  have b1 := B.cell 1
  have b2 := B.cell 2
  have b3 := B.cell 3
  go_enter Try.func24, Try.ntmps24
  go_wp2
  go_ret
  exact ⟨rfl, hb⟩

theorem supMay (s : Sup) (w : World) : Calls Try.prog 24 #[supV s] w fun e w' => e = .returned (.bool (decide (MayS s))) ∧ Below w.heap.size w w' := by
  by_cases q0 : 1 ≤ s.age
  · by_cases q1 : s.age ≤ 2147483648
    · by_cases q2 : 1 ≤ s.seq
      · by_cases q3 : s.seq ≤ 2147483648
        · by_cases q4 : 0 ≤ s.tail
          · by_cases q5 : s.tail < 255
            · rw [show decide (MayS s) = true from decide_eq_true ⟨⟨q0, q1⟩, ⟨q2, q3⟩, q4, by omega⟩]
              exact may10_ok _ _ _ _ (decide_eq_true q0) (decide_eq_true q1) (decide_eq_true q2) (decide_eq_true q3) (decide_eq_true q4) (decide_eq_true q5) w
            · rw [show decide (MayS s) = false from decide_eq_false fun q => by unfold MayS at q; omega]
              exact may10_5 _ _ _ _ (decide_eq_true q0) (decide_eq_true q1) (decide_eq_true q2) (decide_eq_true q3) (decide_eq_true q4) (decide_eq_false q5) w
          · rw [show decide (MayS s) = false from decide_eq_false fun q => by unfold MayS at q; omega]
            exact may10_4 _ _ _ _ (decide_eq_true q0) (decide_eq_true q1) (decide_eq_true q2) (decide_eq_true q3) (decide_eq_false q4) w
        · rw [show decide (MayS s) = false from decide_eq_false fun q => by unfold MayS at q; omega]
          exact may10_3 _ _ _ _ (decide_eq_true q0) (decide_eq_true q1) (decide_eq_true q2) (decide_eq_false q3) w
      · rw [show decide (MayS s) = false from decide_eq_false fun q => by unfold MayS at q; omega]
        exact may10_2 _ _ _ _ (decide_eq_true q0) (decide_eq_true q1) (decide_eq_false q2) w
    · rw [show decide (MayS s) = false from decide_eq_false fun q => by unfold MayS at q; omega]
      exact may10_1 _ _ _ _ (decide_eq_true q0) (decide_eq_false q1) w
  · rw [show decide (MayS s) = false from decide_eq_false fun q => by unfold MayS at q; omega]
    exact may10_0 _ _ _ _  (decide_eq_false q0) w

set_option maxRecDepth 100000 in
set_option maxHeartbeats 4000000 in
theorem check10_gen (cs : Array Value) (hcs : cs.size = 4) (t : Bool) (E : Int) (hE : t = true ∧ E = 0 ∨ t = false ∧ E = 8) (hm : ∀ W, Calls Try.prog 24 #[.agg cs] W fun e w' => e = .returned (.bool t) ∧ Below W.heap.size W w') (w : World) : Calls Try.prog 16 #[.agg cs] w fun e w' => e = .returned (.int .i64 E) ∧ Below w.heap.size w w' := by
  have B := BlkAt.new w cs 28
  have hb : Below w.heap.size w (w.alloc (.cells cs 28 (0, 0))) := (Below.refl _ _).alloc (Nat.le_refl _) _
  have hi4 := (zero_of_info super_size).2
  rcases hE with ⟨rfl, rfl⟩ | ⟨rfl, rfl⟩
  all_goals
    go_enter Try.func16, Try.ntmps16
    go_wp2_with (first
      | refine wpList_load_row rfl 28 _ rfl w.heap.size rfl _ _ _ _ B Try.underlying28 rfl (by rw [hi4]; rw [hcs]) ?_
      | (go_at_call 24; refine (hm _).mono ?_; rintro e w2 ⟨rfl, hb2⟩; replace hb := hb.trans (hb2.mono hb.size); replace B := B.below hb2 (Nat.le_refl _)))
    go_ret
    exact ⟨rfl, hb⟩
theorem supCheckR (s : Sup) (w : World) : Calls Try.prog 16 #[supV s] w fun e w' => e = .returned (.int .i64 (chkS s)) ∧ Below w.heap.size w w' := by
  have hm := fun W => supMay s W
  by_cases h : MayS s
  · rw [decide_eq_true h] at hm
    rw [chkS_may h]
    exact check10_gen _ rfl true 0 (.inl ⟨rfl, rfl⟩) hm w
  · rw [decide_eq_false h] at hm
    rw [chkS_not h]
    exact check10_gen _ rfl false 8 (.inr ⟨rfl, rfl⟩) hm w

def text10 (id age seq tail : Int) : List Int := [83] ++ fourL id ++ fourL age ++ fourL seq ++ [tail]
set_option maxRecDepth 100000 in
set_option maxHeartbeats 4000000 in
theorem block10_gen (id age seq tail : Int) (h0 : 0 ≤ id) (h1 : id ≤ 4294967295) (h2 : 0 ≤ age) (h3 : age ≤ 4294967295) (h4 : 0 ≤ seq) (h5 : seq ≤ 4294967295) (t0 : 0 ≤ tail) (t1 : tail ≤ 255) (w : World) : Calls Try.prog 25 #[.agg #[.int .u32 id, .int .u32 age, .int .u32 seq, .int .i64 tail]] w (NewBlk w (sealL (pad (text10 id age seq tail)))) := by
  obtain ⟨i0, hi0, hz0, hz1, hz2⟩ := u8_inf
  have et : IntKind.u8.wrap tail = tail := IntWalk.u8_in _ (by omega)
  have ki := fun W => four_calls id h0 h1 W
  have ka := fun W => four_calls age h2 h3 W
  have ks := fun W => four_calls seq h4 h5 W
  have B : BlkAt ((w.alloc (.cells #[.int .u32 id, .int .u32 age, .int .u32 seq, .int .i64 tail] 28)).alloc (.cells #[.int .u8 83] 5)) w.heap.size #[.int .u32 id, .int .u32 age, .int .u32 seq, .int .i64 tail] 28 := (BlkAt.new w #[.int .u32 id, .int .u32 age, .int .u32 seq, .int .i64 tail] 28).alloc _
  have hb : Below w.heap.size w ((w.alloc (.cells #[.int .u32 id, .int .u32 age, .int .u32 seq, .int .i64 tail] 28)).alloc (.cells #[.int .u8 83] 5)) := ((Below.refl _ _).alloc (Nat.le_refl _) _).alloc (by simp) _
  have own0 : ((w.alloc (.cells #[.int .u32 id, .int .u32 age, .int .u32 seq, .int .i64 tail] 28)).alloc (.cells #[.int .u8 83] 5)).ownsRow (w.heap.size + 1) 5 1 (.slice (some ⟨w.heap.size + 1, 0, none⟩) 1 1) 1 [.int .u8 83] := by
    have := World.ownsRow_lit (base := w.heap.size + 1) (e := 5) (size := 1) (w.alloc (.cells #[.int .u32 id, .int .u32 age, .int .u32 seq, .int .i64 tail] 28)) #[.int .u8 83] 1 (by simp) (by simp only [maxLen]; omega) rfl
    rwa [World.size_alloc] at this
  have hs0 : w.heap.size + 1 ≤ ((w.alloc (.cells #[.int .u32 id, .int .u32 age, .int .u32 seq, .int .i64 tail] 28)).alloc (.cells #[.int .u8 83] 5)).heap.size := by have := B.lt; omega
  have b0 := B.cell 0
  go_enter Try.func25, Try.ntmps25
  go_upto_region 2 with (first
    | (go_at_call 37; (with_reducible refine (ki _).mono ?_); rintro e w1 ⟨g1, hg1, rfl, hc1, hb1⟩)
    | (at_builtin; refine wpList_append_row _ rfl (.tmp 4) (.tmp 7) _ rfl (w.heap.size + 1) 5 i0 _ 1 1 Try.underlying22 hi0 hz0 hz1 hz2 rfl (by omega) _ _ _ rfl (own_keep own0 hb1) _ _ _ _ rfl ((Ints.ofCells (n := 4) hc1 rfl (by omega) (four_bytes h0 h1)).toRow) (by simp [Value.oneCell']) (by simp only [maxLen]; omega) (by omega) (Nat.le_trans hs0 hb1.size) ?_; intro v2 w2 own2 hg2 _))
  replace B := (B.below hb1 (Nat.le_refl _)).grown hg2 (by intro e; have := ((own_keep own0 hb1).lt _ e.symm).1; omega)
  replace hb := (hb.trans (hb1.mono hb.size)).grown hg2 (Nat.le_trans hb.size hb1.size) (fun q hq => by have := ((own_keep own0 hb1).lt q hq).1; omega)
  have hs2 : w.heap.size + 1 ≤ w2.heap.size := by have := B.lt; omega
  clear own0 hg2 hb1 hc1 hg1 b0 hs0
  have b1 := B.cell 1
  go_upto_region 3 with (first
    | (go_at_call 37; (with_reducible refine (ka _).mono ?_); rintro e w3 ⟨g3, hg3, rfl, hc3, hb3⟩)
    | (at_builtin; refine wpList_append_row _ rfl (.tmp 9) (.tmp 12) _ rfl (w.heap.size + 1) 5 i0 _ 1 1 Try.underlying22 hi0 hz0 hz1 hz2 rfl (by omega) _ _ _ rfl (own_keep own2 hb3) _ _ _ _ rfl ((Ints.ofCells (n := 4) hc3 rfl (by omega) (four_bytes h2 h3)).toRow) (by simp [Value.oneCell']) (by simp only [maxLen]; omega) (by omega) (Nat.le_trans hs2 hb3.size) ?_; intro v4 w4 own4 hg4 _))
  replace B := (B.below hb3 (Nat.le_refl _)).grown hg4 (by intro e; have := ((own_keep own2 hb3).lt _ e.symm).1; omega)
  replace hb := (hb.trans (hb3.mono hb.size)).grown hg4 (Nat.le_trans hb.size hb3.size) (fun q hq => by have := ((own_keep own2 hb3).lt q hq).1; omega)
  have hs4 : w.heap.size + 1 ≤ w4.heap.size := by have := B.lt; omega
  clear own2 hg4 hb3 hc3 hg3 b1 hs2
  have b2 := B.cell 2
  go_upto_region 4 with (first
    | (go_at_call 37; (with_reducible refine (ks _).mono ?_); rintro e w5 ⟨g5, hg5, rfl, hc5, hb5⟩)
    | (at_builtin; refine wpList_append_row _ rfl (.tmp 14) (.tmp 17) _ rfl (w.heap.size + 1) 5 i0 _ 1 1 Try.underlying22 hi0 hz0 hz1 hz2 rfl (by omega) _ _ _ rfl (own_keep own4 hb5) _ _ _ _ rfl ((Ints.ofCells (n := 4) hc5 rfl (by omega) (four_bytes h4 h5)).toRow) (by simp [Value.oneCell']) (by simp only [maxLen]; omega) (by omega) (Nat.le_trans hs4 hb5.size) ?_; intro v6 w6 own6 hg6 _))
  replace B := (B.below hb5 (Nat.le_refl _)).grown hg6 (by intro e; have := ((own_keep own4 hb5).lt _ e.symm).1; omega)
  replace hb := (hb.trans (hb5.mono hb.size)).grown hg6 (Nat.le_trans hb.size hb5.size) (fun q hq => by have := ((own_keep own4 hb5).lt q hq).1; omega)
  have hs6 : w.heap.size + 1 ≤ w6.heap.size := by have := B.lt; omega
  clear own4 hg6 hb5 hc5 hg5 b2 hs4
  have b3 := B.cell 3
  have own7 := own6.alloc (.cells #[.int .u8 tail] 5)
  have hb7 := hb.alloc hb.size (.cells #[.int .u8 tail] 5)
  have ra := (Ints.ofCells (n := 1) (w := w6.alloc (.cells #[.int .u8 tail] 5)) (zs := [tail]) (heap_alloc_new _ _) rfl (by omega) (by intro z hz; simp only [List.mem_cons, List.not_mem_nil, or_false] at hz; subst hz; omega)).toRow
  have hs7 : w.heap.size + 1 ≤ (w6.alloc (.cells #[.int .u8 tail] 5)).heap.size := by rw [World.size_alloc]; omega
  have hby : Bytes (text10 id age seq tail) := by
    intro z hz
    simp only [text10, List.mem_append, List.mem_cons, List.not_mem_nil, or_false] at hz
    rcases hz with (((rfl | hz) | hz) | hz) | rfl
    · omega
    · exact four_bytes h0 h1 z hz
    · exact four_bytes h2 h3 z hz
    · exact four_bytes h4 h5 z hz
    · omega
  go_wp2_with (first
    | (at_builtin; refine wpList_append_row _ rfl (.tmp 19) (.tmp 23) _ rfl (w.heap.size + 1) 5 i0 _ 1 1 Try.underlying22 hi0 hz0 hz1 hz2 rfl (by omega) _ _ _ rfl own7 _ _ _ _ rfl ra (by simp [Value.oneCell']) (by simp only [maxLen]; omega) (by omega) hs7 ?_; intro v8 w8 own8 hg8 _; have hb8 := hb7.grown hg8 hb7.size (fun q hq => by have := (own7.lt q hq).1; omega); obtain ⟨A8, C8, rfl, hA8, ro8, _⟩ := own_form own8; have I8 := text_ints (zs := text10 id age seq tail) ro8 ⟨rfl, rfl, by omega⟩ hby)
    | (go_at_call 38; refine (sealed_calls _ _ _ _ _ I8 (by omega)).mono ?_; rintro e w9 ⟨g9, hg9, rfl, hc9, hb9⟩))
  go_ret
  have h9 := hb8.trans (hb9.mono hb8.size)
  have h10 := Nat.le_trans hb8.size hg9
  exact ⟨g9, h10, rfl, hc9, h9⟩
theorem supBlock {s : Sup} (hw : WideS s) (h : MayS s) (w : World) : Calls Try.prog 25 #[supV s] w (NewBlk w (blockS s)) := by
  have b := may_boxS hw h
  have e : blockS s = sealL (pad (textS s)) := by rw [text_bodyS hw h]; rfl
  rw [e]
  exact block10_gen s.id s.age s.seq s.tail b.1.1 b.1.2 (by omega) (by omega) (by omega) (by omega) (by omega) (by omega) w

set_option maxRecDepth 100000 in
set_option maxHeartbeats 4000000 in
theorem write10_ok (cs : Array Value) (hcs : cs.size = 4) (L : List Int) (hm : ∀ W, Calls Try.prog 24 #[.agg cs] W fun e w' => e = .returned (.bool true) ∧ Below W.heap.size W w') (kb : ∀ W, Calls Try.prog 25 #[.agg cs] W (NewBlk W L)) (w : World) : Calls Try.prog 14 #[.agg cs] w fun e w' => ∃ g, w.heap.size ≤ g ∧ e = .returned (.tuple #[.slice (some ⟨g, 0, none⟩) 128 128, .int .i64 0]) ∧ w'.heap[g]? = some (.cells (cells L) 5 (0, 0)) ∧ Below w.heap.size w w' := by
  have B := BlkAt.new w cs 28
  have hb : Below w.heap.size w (w.alloc (.cells cs 28 (0, 0))) := (Below.refl _ _).alloc (Nat.le_refl _) _
  have hi4 := (zero_of_info super_size).2
  go_enter Try.func14, Try.ntmps14
  go_wp2_with (first
    | refine wpList_load_row rfl 28 _ rfl w.heap.size rfl _ _ _ _ B Try.underlying28 rfl (by rw [hi4]; rw [hcs]) ?_
    | (go_at_call 24; refine (hm _).mono ?_; rintro e w2 ⟨rfl, hb2⟩; replace hb := hb.trans (hb2.mono hb.size); replace B := B.below hb2 (Nat.le_refl _))
    | (go_at_call 25; refine (kb _).mono ?_; rintro e w3 ⟨g, hg, rfl, hc, hb3⟩))
  go_ret2
  have h1 := Nat.le_trans hb.size hg
  have h2 := hb.trans (hb3.mono hb.size)
  exact ⟨g, h1, rfl, hc, h2⟩
set_option maxRecDepth 100000 in
set_option maxHeartbeats 4000000 in
theorem write10_no (cs : Array Value) (hcs : cs.size = 4) (hm : ∀ W, Calls Try.prog 24 #[.agg cs] W fun e w' => e = .returned (.bool false) ∧ Below W.heap.size W w') (w : World) : Calls Try.prog 14 #[.agg cs] w fun e w' => e = .returned (.tuple #[.slice none 0 0, .int .i64 8]) ∧ Below w.heap.size w w' := by
  have B := BlkAt.new w cs 28
  have hb : Below w.heap.size w (w.alloc (.cells cs 28 (0, 0))) := (Below.refl _ _).alloc (Nat.le_refl _) _
  have hi4 := (zero_of_info super_size).2
  go_enter Try.func14, Try.ntmps14
  go_wp2_with (first
    | refine wpList_load_row rfl 28 _ rfl w.heap.size rfl _ _ _ _ B Try.underlying28 rfl (by rw [hi4]; rw [hcs]) ?_
    | (go_at_call 24; refine (hm _).mono ?_; rintro e w2 ⟨rfl, hb2⟩; replace hb := hb.trans (hb2.mono hb.size); replace B := B.below hb2 (Nat.le_refl _)))
  go_ret2
  exact ⟨rfl, hb⟩
theorem supWriteR_ok {s : Sup} (hw : WideS s) (h : MayS s) (w : World) : Calls Try.prog 14 #[supV s] w fun e w' => ∃ g, w.heap.size ≤ g ∧ e = .returned (.tuple #[.slice (some ⟨g, 0, none⟩) 128 128, .int .i64 0]) ∧ w'.heap[g]? = some (.cells (cells (blockS s)) 5 (0, 0)) ∧ Below w.heap.size w w' :=
  write10_ok _ rfl _ (fun W => by have := supMay s W; rw [decide_eq_true h] at this; exact this) (fun W => supBlock hw h W) w
theorem supWriteR_no {s : Sup} (h : ¬ MayS s) (w : World) : Calls Try.prog 14 #[supV s] w fun e w' => e = .returned (.tuple #[.slice none 0 0, .int .i64 8]) ∧ Below w.heap.size w w' :=
  write10_no _ rfl (fun W => by have := supMay s W; rw [decide_eq_false h] at this; exact this) w

end Go.Proofs.Ytcngonedcnddlaa
