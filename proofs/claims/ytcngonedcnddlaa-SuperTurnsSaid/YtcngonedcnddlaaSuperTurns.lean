/- freeboardlaw10.SuperTurns: for every input the law answers true, and what is handed in reads as it did. Conditions: none. -/
import Derived.Test.YtcngonedcnddlaaSuperAlive
import Derived.Stop.BytesEq
import Derived.Laws.BitsAllLaws
import Derived.Outline
import Derived.RegionTactic
import Derived.Deep.LoopGhost
namespace Go.Proofs.Ytcngonedcnddlaa
open Go.ChangeShapes Go.WideShapes Go.ChangeAt Go.RowKit PolyM PackM SealM LabelM SuperM
set_option linter.unusedVariables false
theorem bits_xorI {a b : Int} (h0 : 0 ≤ a) (h1 : a ≤ 255) (k0 : 0 ≤ b) (k1 : b ≤ 255) : bits .xor .u8 a b = xorI a b := u8_xor _ _ h0 (by omega) k0 (by omega)
theorem arr_test {x y z v : Int} (h : Bytes [x, y, z, v]) : ∃ b : Bool, (b = true ↔ x = 0 ∧ y = 0 ∧ z = 0 ∧ v = 0) ∧
    ∀ w : World, (binOp .eql 40 (.agg #[.int .u8 x, .int .u8 y, .int .u8 z, .int .u8 v]) (.agg #[.int .u8 0, .int .u8 0, .int .u8 0, .int .u8 0])).run Try.prog w = .ok (.bool b) w := by
  have q0 := h.cons; have q1 := q0.2.2.cons; have q2 := q1.2.2.cons; have q3 := q2.2.2.cons
  have hc : ∀ n : Int, 0 ≤ n → n ≤ 255 → Extern.Stop.cell (UInt8.ofNat n.toNat) = .int .u8 n := by
    intro n h0 h1
    show Value.int .u8 ((UInt8.ofNat n.toNat).toNat : Int) = _
    rw [UInt8.toNat_ofNat', Nat.mod_eq_of_lt (by omega)]
    congr 1
    omega
  have hz : ∀ n : Int, 0 ≤ n → n ≤ 255 → (UInt8.ofNat n.toNat = 0 ↔ n = 0) := by
    intro n h0 h1
    constructor
    · intro e
      have := congrArg UInt8.toNat e
      rw [UInt8.toNat_ofNat', Nat.mod_eq_of_lt (by omega)] at this
      simp at this
      omega
    · rintro rfl; rfl
  refine ⟨([x, y, z, v].map fun n => UInt8.ofNat n.toNat) == [0, 0, 0, 0], ?_, fun w => ?_⟩
  · rw [beq_iff_eq]
    simp only [List.map_cons, List.map_nil, List.cons.injEq, and_true]
    rw [hz x q0.1 q0.2.1, hz y q1.1 q1.2.1, hz z q2.1 q2.2.1, hz v q3.1 q3.2.1]
  · have := run_eql_bytes (P := Try.prog) w 40 5 4 Try.underlying40 Try.underlying5 (fun w => by kernel_rfl) ([x, y, z, v].map fun n => UInt8.ofNat n.toNat) [0, 0, 0, 0] rfl rfl
    simp only [List.map_cons, List.map_nil, hc x q0.1 q0.2.1, hc y q1.1 q1.2.1, hc z q2.1 q2.2.1, hc v q3.1 q3.2.1] at this
    exact this
set_option maxRecDepth 100000 in
set_option maxHeartbeats 4000000 in
theorem turns_8 (cs : Array Value) (hcs : cs.size = 4) (q x y z v : Int) (L : List Int)  (ka : ∀ W, Calls Try.prog 12 #[] W fun e w' => e = .returned (.bool true) ∧ Below W.heap.size W w') (kw : ∀ W, Calls Try.prog 9 #[.agg cs] W fun e w' => ∃ A c, e = .returned (.tuple #[.slice A 0 c, .int .i64 8]) ∧ 0 ≤ c ∧ Ints .u8 w' A 0 L ∧ Below W.heap.size W w') (w : World) : Calls Try.prog 6 #[.agg cs, .int .i64 q, .agg #[.int .u8 x, .int .u8 y, .int .u8 z, .int .u8 v]] w fun e w' => e = .returned (.bool true) ∧ Below w.heap.size w w' := by
  have B := (BlkAt.new w cs 28).alloc (.cells #[.int .u8 x, .int .u8 y, .int .u8 z, .int .u8 v] 40)
  have G := BlkAt.new (w.alloc (.cells cs 28)) #[.int .u8 x, .int .u8 y, .int .u8 z, .int .u8 v] 40
  rw [World.size_alloc] at G
  have hb : Below w.heap.size w ((w.alloc (.cells cs 28 (0, 0))).alloc (.cells #[.int .u8 x, .int .u8 y, .int .u8 z, .int .u8 v] 40 (0, 0))) := ((Below.refl _ _).alloc (Nat.le_refl _) _).alloc (by simp) _
  have hi4 := (zero_of_info super_size).2
  have g0 := G.cell 0
  have g1 := G.cell 1
  have g2 := G.cell 2
  have g3 := G.cell 3
  go_enter Try.func6, Try.ntmps6
  go_wp2_with (first
    | (go_at_call 12; (with_reducible refine (ka _).mono ?_); rintro e w1 ⟨rfl, hb1⟩; replace hb := hb.trans (hb1.mono hb.size); replace B := B.below hb1 (Nat.le_refl _); replace G := G.below hb1 (Nat.le_refl _); clear hb1; clear g0 g1 g2 g3; have g0 := G.cell 0; have g1 := G.cell 1; have g2 := G.cell 2; have g3 := G.cell 3)
    | refine wpList_load_rowG (by rfl) 28 _ rfl w.heap.size rfl _ _ _ _ B Try.underlying28 (by rw [hi4]; rw [hcs]) ?_
    | (go_at_call 9; (with_reducible refine (kw _).mono ?_); rintro e w2 ⟨A, c, rfl, hc1, I1, hb2⟩; replace hb := hb.trans (hb2.mono hb.size); replace B := B.below hb2 (Nat.le_refl _); replace G := G.below hb2 (Nat.le_refl _); clear hb2; clear g0 g1 g2 g3; have g0 := G.cell 0; have g1 := G.cell 1; have g2 := G.cell 2; have g3 := G.cell 3))
  go_ret
  exact ⟨rfl, hb⟩
set_option maxRecDepth 100000 in
set_option maxHeartbeats 4000000 in
theorem turns_zero (cs : Array Value) (hcs : cs.size = 4) (q x y z v : Int) (L : List Int) (te : ∀ w : World, (binOp .eql 40 (.agg #[.int .u8 x, .int .u8 y, .int .u8 z, .int .u8 v]) (.agg #[.int .u8 0, .int .u8 0, .int .u8 0, .int .u8 0])).run Try.prog w = .ok (.bool true) w) (ka : ∀ W, Calls Try.prog 12 #[] W fun e w' => e = .returned (.bool true) ∧ Below W.heap.size W w') (kw : ∀ W, Calls Try.prog 9 #[.agg cs] W fun e w' => ∃ A c, e = .returned (.tuple #[.slice A 128 c, .int .i64 0]) ∧ 128 ≤ c ∧ Ints .u8 w' A 128 L ∧ Below W.heap.size W w') (w : World) : Calls Try.prog 6 #[.agg cs, .int .i64 q, .agg #[.int .u8 x, .int .u8 y, .int .u8 z, .int .u8 v]] w fun e w' => e = .returned (.bool true) ∧ Below w.heap.size w w' := by
  have B := (BlkAt.new w cs 28).alloc (.cells #[.int .u8 x, .int .u8 y, .int .u8 z, .int .u8 v] 40)
  have G := BlkAt.new (w.alloc (.cells cs 28)) #[.int .u8 x, .int .u8 y, .int .u8 z, .int .u8 v] 40
  rw [World.size_alloc] at G
  have hb : Below w.heap.size w ((w.alloc (.cells cs 28 (0, 0))).alloc (.cells #[.int .u8 x, .int .u8 y, .int .u8 z, .int .u8 v] 40 (0, 0))) := ((Below.refl _ _).alloc (Nat.le_refl _) _).alloc (by simp) _
  have hi4 := (zero_of_info super_size).2
  have g0 := G.cell 0
  have g1 := G.cell 1
  have g2 := G.cell 2
  have g3 := G.cell 3
  go_enter Try.func6, Try.ntmps6
  go_wp2_with (first
    | (go_at_call 12; (with_reducible refine (ka _).mono ?_); rintro e w1 ⟨rfl, hb1⟩; replace hb := hb.trans (hb1.mono hb.size); replace B := B.below hb1 (Nat.le_refl _); replace G := G.below hb1 (Nat.le_refl _); clear hb1; clear g0 g1 g2 g3; have g0 := G.cell 0; have g1 := G.cell 1; have g2 := G.cell 2; have g3 := G.cell 3)
    | refine wpList_load_rowG (by rfl) 28 _ rfl w.heap.size rfl _ _ _ _ B Try.underlying28 (by rw [hi4]; rw [hcs]) ?_
    | (go_at_call 9; (with_reducible refine (kw _).mono ?_); rintro e w2 ⟨A, c, rfl, hc1, I1, hb2⟩; replace hb := hb.trans (hb2.mono hb.size); replace B := B.below hb2 (Nat.le_refl _); replace G := G.below hb2 (Nat.le_refl _); clear hb2; clear g0 g1 g2 g3; have g0 := G.cell 0; have g1 := G.cell 1; have g2 := G.cell 2; have g3 := G.cell 3))
  go_ret
  exact ⟨rfl, hb⟩
set_option maxRecDepth 100000 in
set_option maxHeartbeats 4000000 in
theorem turns_lo (cs : Array Value) (hcs : cs.size = 4) (q x y z v : Int) (L : List Int) (d0 : (q != 124) = true) (d1 : decide (q < 0) = true) (te : ∀ w : World, (binOp .eql 40 (.agg #[.int .u8 x, .int .u8 y, .int .u8 z, .int .u8 v]) (.agg #[.int .u8 0, .int .u8 0, .int .u8 0, .int .u8 0])).run Try.prog w = .ok (.bool false) w) (ka : ∀ W, Calls Try.prog 12 #[] W fun e w' => e = .returned (.bool true) ∧ Below W.heap.size W w') (kw : ∀ W, Calls Try.prog 9 #[.agg cs] W fun e w' => ∃ A c, e = .returned (.tuple #[.slice A 128 c, .int .i64 0]) ∧ 128 ≤ c ∧ Ints .u8 w' A 128 L ∧ Below W.heap.size W w') (w : World) : Calls Try.prog 6 #[.agg cs, .int .i64 q, .agg #[.int .u8 x, .int .u8 y, .int .u8 z, .int .u8 v]] w fun e w' => e = .returned (.bool true) ∧ Below w.heap.size w w' := by
  have B := (BlkAt.new w cs 28).alloc (.cells #[.int .u8 x, .int .u8 y, .int .u8 z, .int .u8 v] 40)
  have G := BlkAt.new (w.alloc (.cells cs 28)) #[.int .u8 x, .int .u8 y, .int .u8 z, .int .u8 v] 40
  rw [World.size_alloc] at G
  have hb : Below w.heap.size w ((w.alloc (.cells cs 28 (0, 0))).alloc (.cells #[.int .u8 x, .int .u8 y, .int .u8 z, .int .u8 v] 40 (0, 0))) := ((Below.refl _ _).alloc (Nat.le_refl _) _).alloc (by simp) _
  have hi4 := (zero_of_info super_size).2
  have g0 := G.cell 0
  have g1 := G.cell 1
  have g2 := G.cell 2
  have g3 := G.cell 3
  go_enter Try.func6, Try.ntmps6
  go_wp2_with (first
    | (go_at_call 12; (with_reducible refine (ka _).mono ?_); rintro e w1 ⟨rfl, hb1⟩; replace hb := hb.trans (hb1.mono hb.size); replace B := B.below hb1 (Nat.le_refl _); replace G := G.below hb1 (Nat.le_refl _); clear hb1; clear g0 g1 g2 g3; have g0 := G.cell 0; have g1 := G.cell 1; have g2 := G.cell 2; have g3 := G.cell 3)
    | refine wpList_load_rowG (by rfl) 28 _ rfl w.heap.size rfl _ _ _ _ B Try.underlying28 (by rw [hi4]; rw [hcs]) ?_
    | (go_at_call 9; (with_reducible refine (kw _).mono ?_); rintro e w2 ⟨A, c, rfl, hc1, I1, hb2⟩; replace hb := hb.trans (hb2.mono hb.size); replace B := B.below hb2 (Nat.le_refl _); replace G := G.below hb2 (Nat.le_refl _); clear hb2; clear g0 g1 g2 g3; have g0 := G.cell 0; have g1 := G.cell 1; have g2 := G.cell 2; have g3 := G.cell 3))
  go_ret
  exact ⟨rfl, hb⟩
set_option maxRecDepth 100000 in
set_option maxHeartbeats 4000000 in
theorem turns_hi (cs : Array Value) (hcs : cs.size = 4) (q x y z v : Int) (L : List Int) (d0 : (q != 124) = true) (d1 : decide (q < 0) = false) (d2 : decide (120 < q) = true) (te : ∀ w : World, (binOp .eql 40 (.agg #[.int .u8 x, .int .u8 y, .int .u8 z, .int .u8 v]) (.agg #[.int .u8 0, .int .u8 0, .int .u8 0, .int .u8 0])).run Try.prog w = .ok (.bool false) w) (ka : ∀ W, Calls Try.prog 12 #[] W fun e w' => e = .returned (.bool true) ∧ Below W.heap.size W w') (kw : ∀ W, Calls Try.prog 9 #[.agg cs] W fun e w' => ∃ A c, e = .returned (.tuple #[.slice A 128 c, .int .i64 0]) ∧ 128 ≤ c ∧ Ints .u8 w' A 128 L ∧ Below W.heap.size W w') (w : World) : Calls Try.prog 6 #[.agg cs, .int .i64 q, .agg #[.int .u8 x, .int .u8 y, .int .u8 z, .int .u8 v]] w fun e w' => e = .returned (.bool true) ∧ Below w.heap.size w w' := by
  have B := (BlkAt.new w cs 28).alloc (.cells #[.int .u8 x, .int .u8 y, .int .u8 z, .int .u8 v] 40)
  have G := BlkAt.new (w.alloc (.cells cs 28)) #[.int .u8 x, .int .u8 y, .int .u8 z, .int .u8 v] 40
  rw [World.size_alloc] at G
  have hb : Below w.heap.size w ((w.alloc (.cells cs 28 (0, 0))).alloc (.cells #[.int .u8 x, .int .u8 y, .int .u8 z, .int .u8 v] 40 (0, 0))) := ((Below.refl _ _).alloc (Nat.le_refl _) _).alloc (by simp) _
  have hi4 := (zero_of_info super_size).2
  have g0 := G.cell 0
  have g1 := G.cell 1
  have g2 := G.cell 2
  have g3 := G.cell 3
  go_enter Try.func6, Try.ntmps6
  go_wp2_with (first
    | (go_at_call 12; (with_reducible refine (ka _).mono ?_); rintro e w1 ⟨rfl, hb1⟩; replace hb := hb.trans (hb1.mono hb.size); replace B := B.below hb1 (Nat.le_refl _); replace G := G.below hb1 (Nat.le_refl _); clear hb1; clear g0 g1 g2 g3; have g0 := G.cell 0; have g1 := G.cell 1; have g2 := G.cell 2; have g3 := G.cell 3)
    | refine wpList_load_rowG (by rfl) 28 _ rfl w.heap.size rfl _ _ _ _ B Try.underlying28 (by rw [hi4]; rw [hcs]) ?_
    | (go_at_call 9; (with_reducible refine (kw _).mono ?_); rintro e w2 ⟨A, c, rfl, hc1, I1, hb2⟩; replace hb := hb.trans (hb2.mono hb.size); replace B := B.below hb2 (Nat.le_refl _); replace G := G.below hb2 (Nat.le_refl _); clear hb2; clear g0 g1 g2 g3; have g0 := G.cell 0; have g1 := G.cell 1; have g2 := G.cell 2; have g3 := G.cell 3))
  go_ret
  exact ⟨rfl, hb⟩
set_option maxRecDepth 100000 in
set_option maxHeartbeats 4000000 in
theorem turns_main (cs cz : Array Value) (hcs : cs.size = 4) (hcz : cz.size = 4) (hz1 : cz.all (·.oneCell') = true) (q x y z v : Int) (p : Nat) (hq : Hid (q = p)) (hp : p ≤ 124) (L : List Int) (hL : L.length = 128) (hLB : Bytes L) (hby : Bytes [x, y, z, v]) (d3 : (q != 124) = false ∨ ((q != 124) = true ∧ decide (q < 0) = false ∧ decide (120 < q) = false)) (ka : ∀ W, Calls Try.prog 12 #[] W fun e w' => e = .returned (.bool true) ∧ Below W.heap.size W w') (kw : ∀ W, Calls Try.prog 9 #[.agg cs] W fun e w' => ∃ g, W.heap.size ≤ g ∧ e = .returned (.tuple #[.slice (some ⟨g, 0, none⟩) 128 128, .int .i64 0]) ∧ BlkAt w' g (cells L) 79 ∧ Below W.heap.size W w') (te : ∀ w : World, (binOp .eql 40 (.agg #[.int .u8 x, .int .u8 y, .int .u8 z, .int .u8 v]) (.agg #[.int .u8 0, .int .u8 0, .int .u8 0, .int .u8 0])).run Try.prog w = .ok (.bool false) w)
    (kr : ∀ g W, BlkAt W g (cells (turnL L [x, y, z, v] p 4)) 79 → Calls Try.prog 11 #[.slice (some ⟨g, 0, none⟩) 128 128] W fun e w' => e = .returned (.tuple #[.agg cz, .int .i64 90]) ∧ Below W.heap.size W w')
    (w : World) : Calls Try.prog 6 #[.agg cs, .int .i64 q, .agg #[.int .u8 x, .int .u8 y, .int .u8 z, .int .u8 v]] w fun e w' => e = .returned (.bool true) ∧ Below w.heap.size w w' := by
  have B := (BlkAt.new w cs 28).alloc (.cells #[.int .u8 x, .int .u8 y, .int .u8 z, .int .u8 v] 40)
  have G := BlkAt.new (w.alloc (.cells cs 28)) #[.int .u8 x, .int .u8 y, .int .u8 z, .int .u8 v] 40
  rw [World.size_alloc] at G
  have hb : Below w.heap.size w ((w.alloc (.cells cs 28 (0, 0))).alloc (.cells #[.int .u8 x, .int .u8 y, .int .u8 z, .int .u8 v] 40 (0, 0))) := ((Below.refl _ _).alloc (Nat.le_refl _) _).alloc (by simp) _
  have hi4 := (zero_of_info super_size).2
  have g0 := G.cell 0
  have g1 := G.cell 1
  have g2 := G.cell 2
  have g3 := G.cell 3
  rcases d3 with d3 | ⟨d3, d4, d5⟩
  all_goals
    go_enter Try.func6, Try.ntmps6
    go_wp2_with (first
      | (go_at_call 12; (with_reducible refine (ka _).mono ?_); rintro e w1 ⟨rfl, hb1⟩; replace hb := hb.trans (hb1.mono hb.size); replace B := B.below hb1 (Nat.le_refl _); replace G := G.below hb1 (Nat.le_refl _); clear hb1; clear g0 g1 g2 g3; have g0 := G.cell 0; have g1 := G.cell 1; have g2 := G.cell 2; have g3 := G.cell 3)
      | refine wpList_load_rowG (by rfl) 28 _ rfl w.heap.size rfl _ _ _ _ B Try.underlying28 (by rw [hi4]; rw [hcs]) ?_
      | (go_at_call 9; (with_reducible refine (kw _).mono ?_); rintro e w2 ⟨g, hg, rfl, C, hb2⟩; have hg1 : w.heap.size + 1 < g := Nat.lt_of_lt_of_le G.lt hg; replace hb := hb.trans (hb2.mono hb.size); replace B := B.below hb2 (Nat.le_refl _); replace G := G.below hb2 (Nat.le_refl _); clear hb2; clear g0 g1 g2 g3; have g0 := G.cell 0; have g1 := G.cell 1; have g2 := G.cell 2; have g3 := G.cell 3))
    have hqq := hq.out
    clear hq
    subst hqq
    have hgw : w.heap.size ≤ g := by omega
    have C0 : BlkAt w2 g (cells (turnL L [x, y, z, v] p 0)) 79 := by rw [turnL_zero hL]; exact C
    clear g0 g1 g2 g3 C te kw
    (try clear d3)
    go_loopw [10] (fun s10 wr => ∃ k : Nat, k ≤ 4 ∧ s10 = .int .i64 k ∧ BlkAt wr g (cells (turnL L [x, y, z, v] p k)) 79 ∧ BlkAt wr (w.heap.size + 1) #[.int .u8 x, .int .u8 y, .int .u8 z, .int .u8 v] 40 ∧ Below w.heap.size w wr) (fun i _ => 4 - (intOf i).toNat)
    case atStart => exact ⟨0, by omega, rfl, C0, G, hb⟩
    case round =>
      clear C0 G hb B
      obtain ⟨k, hk, rfl, C, D, hbk⟩ := hrel
      by_cases hk4 : k < 4
      · have hM : (turnL L [x, y, z, v] p k).length = 128 := turnL_len _ _ _ _
        have x1 : wr.cell? ⟨g, p + k, none⟩ = some (.int .u8 (L.getD (p + k) 0)) := by
          rw [C.cell, cells_getD (by rw [hM]; omega), turnL_getD (by omega), turned_here]
        have x2 : wr.cell? ⟨w.heap.size + 1, k, none⟩ = some (.int .u8 ([x, y, z, v].getD k 0)) := by
          rw [D.cell]
          have : k = 0 ∨ k = 1 ∨ k = 2 ∨ k = 3 := by omega
          rcases this with rfl | rfl | rfl | rfl <;> rfl
        have F : Hid (turnL L [x, y, z, v] p (k + 1) = (turnL L [x, y, z, v] p k).set (p + k) (xorI (L.getD (p + k) 0) ([x, y, z, v].getD k 0))) := turnL_succ _ _ _ _
        have r1 := getD_in hLB (p + k)
        have r2 := getD_in hby k
        generalize L.getD (p + k) 0 = b1 at *
        generalize [x, y, z, v].getD k 0 = b2 at *
        have hxo := bits_xorI r1.1 r1.2 r2.1 r2.2
        generalize xorI b1 b2 = b3 at *
        have hadd : IntKind.i64.wrap ((p : Int) + (k : Int)) = ((p + k : Nat) : Int) := IntWalk.i64_in _ (by omega)
        have hadd2 : ((p + k : Nat) : Int) < 128 := by omega
        clear kr ka hz1 hcz hcs hby hLB hM r1 r2
        have xf : wr.frozen? ⟨g, p + k, none⟩ = false := C.free _
        have hbk3 := hbk.setCell (p := ⟨g, p + k, none⟩) hgw (.int .u8 b3)
        have D3 := D.other (p := ⟨g, p + k, none⟩) (by dsimp only; omega) (.int .u8 b3)
        have C3 := C.put (p + k) (.int .u8 b3)
        rw [cells_set, ← F.out] at C3
        clear C D hbk F hadd hadd2
        go_wp2
        go_region
        go_wp2
        go_roundw
        case rel => exact ⟨k + 1, by omega, by go_num, C3.drew, D3.drew, hbk3.drew⟩
        case measure => simp [intOf]; omega
      · obtain rfl : k = 4 := by omega
        go_wp2_with (first
          | (go_at_call 11; (with_reducible refine (kr _ _ C).mono ?_); rintro e w5 ⟨rfl, hb5⟩)
          | refine wpList_store_row rfl 28 _ _ rfl w5.heap.size cz rfl rfl _ _ (BlkAt.new w5 _ _) (by rw [hi4, hcz]) (by rw [hcz]; rfl) hz1 ?_)
        go_ret
        have hb6 := hbk.trans (hb5.mono hbk.size)
        have hb7 := hb6.alloc hb6.size (.cells #[.int .u32 0, .int .u32 0, .int .u32 0, .int .i64 0] 28)
        exact ⟨rfl, below_setRow hb7 hb6.size _⟩
theorem superTurns_walk (w : World) (l : Sup) (hw : WideS l) (q : Int) (_wq : (Lit.int .i64 q).wf = true) (bs : List Int) (hbs : bs.length = 4) (wbs : ∀ z ∈ bs, (Lit.int .u8 z).wf = true) : Calls Try.prog 6 #[supV l, .int .i64 q, .agg (bs.map (Value.int .u8)).toArray] w fun e w' => e = .returned (.bool true) ∧ Below w.heap.size w w' := by
  obtain ⟨x, y, z, v, rfl⟩ : ∃ x y z v, bs = [x, y, z, v] := by
    match bs, hbs with
    | [x, y, z, v], _ => exact ⟨x, y, z, v, rfl⟩
  have hby : Bytes [x, y, z, v] := fun j hj => bounds_u8 (wbs j hj)
  obtain ⟨tb, ht, te⟩ := arr_test hby
  have ka := fun W => alive10_calls W
  have kw := fun W => supWrite_any hw W
  rcases chkS_cases l with ⟨hM, e1, e2, e3⟩ | ⟨hM, e1, e2, e3⟩
  · rw [e1, e2, e3] at kw
    cases tb with
    | true => exact turns_zero (supA l) rfl q x y z v (blockS l) te ka kw w
    | false =>
      have main : (q = 124 ∨ 0 ≤ q ∧ q ≤ 120) → ((q != 124) = false ∨ ((q != 124) = true ∧ decide (q < 0) = false ∧ decide (120 < q) = false)) → Calls Try.prog 6 #[supV l, .int .i64 q, .agg #[.int .u8 x, .int .u8 y, .int .u8 z, .int .u8 v]] w fun e w' => e = .returned (.bool true) ∧ Below w.heap.size w w' := by
        intro hq d
        obtain ⟨p, rfl⟩ := Int.eq_ofNat_of_zero_le (show 0 ≤ q by omega)
        have hne : ¬ (x = 0 ∧ y = 0 ∧ z = 0 ∧ v = 0) := by rw [← ht]; simp
        have hns := sealed_turned (blockS_len l) (blockS_bytes l) hby hne (blockS_sealed l) (show p ≤ 120 ∨ p = 124 by omega)
        refine turns_main (supA l) (supA zeroS) rfl rfl (by simp [supA, Value.oneCell']) p x y z v p (Lib.hid rfl) (by omega) (blockS l) (blockS_len l) (blockS_bytes l) hby d ka (fun W => (supWrite_ok hw hM W).mono ?_) te (fun g W h => ?_) w
        · rintro e w' ⟨g, hg, rfl, hc, hb⟩
          exact ⟨g, hg, rfl, hc, hb⟩
        · have hl : (turnL (blockS l) [x, y, z, v] p 4).length = 128 := turnL_len _ _ _ _
          have := supRead (some ⟨g, 0, none⟩) 128 128 (turnL (blockS l) [x, y, z, v] p 4) W (Ints.ofCells h hl (by omega) (turnL_bytes (blockS_bytes l) hby _ _)) (.inr rfl)
          have hnr : ¬ ReadsS (turnL (blockS l) [x, y, z, v] p 4) := fun r => hns (readsS_sealed r)
          rw [pad_whole hl] at this
          unfold readS readES at this
          rw [if_neg hnr, if_neg hnr] at this
          exact this
      by_cases d0 : q = 124
      · exact main (.inl d0) (.inl (by simpa using d0))
      have d0' : (q != 124) = true := by simpa using d0
      by_cases d1 : q < 0
      · exact turns_lo (supA l) rfl q x y z v (blockS l) d0' (decide_eq_true d1) te ka kw w
      by_cases d2 : 120 < q
      · exact turns_hi (supA l) rfl q x y z v (blockS l) d0' (decide_eq_false d1) (decide_eq_true d2) te ka kw w
      exact main (.inr (by omega)) (.inr ⟨d0', decide_eq_false d1, decide_eq_false d2⟩)
  · rw [e1, e2, e3] at kw
    exact turns_8 (supA l) rfl q x y z v [] ka kw w


namespace superTurns
set_option linter.unusedVariables false
set_option maxRecDepth 100000 in
theorem lifted (os : Os) (started : os.Started) (H : Type) (enc : TypeId × Value → H) :
    ReturnsInHanded {} Try.checked os 6 .any (Rows.superTurnsSpec.pre6 enc Try.prog Try.f6 Rows.superTurnsRow.domain false) (Rows.superTurnsSpec.post enc Try.prog Try.f6 false true false false) := by
  refine returnsInHanded_of_change (C := Try.checked) Try.own started (by kernel_rfl) Try.func6
    (ChangeSpec.witness6 (enc := enc) (C := Try.checked) false ⟨#[], #[.agg #[.int .u32 0, .int .u32 0, .int .u32 0, .int .i64 0], .int .i64 0, .agg #[.int .u8 0, .int .u8 0, .int .u8 0, .int .u8 0]], []⟩ 8 (by kernel_rfl) (by kernel_rfl) (by kernel_rfl) (by kernel_rfl)) ?_
  intro W base args ds gs before hval0 hW hcnd _
  have hval : ∀ (j : Nat) t v, Try.f6.params[j]? = some t → args[j]? = some v → Value.okWide Try.prog W .any base t v := hval0
  have hW' := hW
  obtain ⟨p, q, hA0, hV, rfl, hfz, hnd⟩ := hW
  have hA : DataW.TrodAll enc Try.prog W 0 (fun _ => true) true Try.f6.params.toList args.toList ds p := hA0
  rw [Try.params6] at hA hval
  obtain ⟨v0, vs0, d0, ds0, p0, q0, hargs, rfl, rfl, h0, r0⟩ := trodAll_cons hA
  obtain ⟨v1, vs1, d1, ds1, p1, q1, rfl, rfl, rfl, h1, r1⟩ := trodAll_cons r0
  obtain ⟨v2, vs2, d2, ds2, p2, q2, rfl, rfl, rfl, h2, r2⟩ := trodAll_cons r1
  obtain ⟨rfl, rfl, rfl⟩ := trodAll_nil r2
  obtain rfl : args = #[v0, v1, v2] := by cases args; simp_all
  obtain ⟨rfl, rfl⟩ := trodVars_none hV
  have k0 := h0
  have lt0 : ∀ x ∈ p0, x.block < W.heap.size := by obtain ⟨m, hm⟩ := k0; exact DataW.trod_lt m _ _ _ hm
  obtain ⟨z0, rfl, w0⟩ := super_in (hval 0 28 v0 rfl rfl) h0
  obtain ⟨a1, rfl, rfl, rfl, w1⟩ := open_int Try.underlying3 (hval 1 3 v1 rfl rfl) h1
  have k2 := h2
  have lt2 : ∀ x ∈ p2, x.block < W.heap.size := by obtain ⟨m, hm⟩ := k2; exact DataW.trod_lt m _ _ _ hm
  obtain ⟨z2, l2, rfl, w2⟩ := open_array_ints (n := 4) Try.underlying40 Try.underlying5 (by kernel_rfl) (by kernel_rfl) (hval 2 40 v2 rfl rfl) h2
  clear hA0 hval0
  refine (superTurns_walk W z0 w0 a1 w1 z2 l2 w2).mono fun e W' ⟨he, bel⟩ => ?_
  subst he
  exact ⟨_, rfl, _, _, _, [], _, [], hW', trodAll_mk1 (shut_bool Try.underlying4 _), (trodAll_cons_mk (Below.trod Try.laidOut (by kernel_rfl) (of_decide_eq_true (by kernel_rfl)) k0 bel lt0) (trodAll_cons_mk (shut_int Try.underlying3 w1) (trodAll_cons_mk (Below.trod Try.laidOut (by kernel_rfl) (of_decide_eq_true (by kernel_rfl)) k2 bel lt2) trodAll_mk0))), rfl, bel.frame _, fun h => by cases h⟩

theorem holds : Rows.SuperTurnsSaid :=
  OpenClaim.holds_of_wide 6 Try.f6 rfl rfl rfl rfl rfl rfl rfl ⟨rfl, rfl, rfl, rfl, rfl⟩ rfl rfl rfl rfl rfl (by kernel_rfl) Try.func6 (by kernel_rfl)
    (of_decide_eq_true (by kernel_rfl)) (by unfold Func.isWrapper; first | (rw [if_pos (by decide +kernel)]; kernel_rfl) | (rw [if_neg (by decide +kernel)]; exact ⟨rfl, rfl⟩))
    (fun os started H enc _ => lifted os started H enc)
end superTurns
end Go.Proofs.Ytcngonedcnddlaa
