/- The walks of the reference of layer 8: Blocks, Meet, Touch, Twin, Same. -/
import Derived.Test.YtkjgmopgibpkjaaSplitRef
import Derived.Test.YtkjgmopgibpkjaaSplitOut
namespace Go.Proofs.Ytkjgmopgibpkjaa
open Go.RowKit ShapeM SplitM
set_option linter.unusedVariables false

set_option maxRecDepth 100000 in
set_option maxHeartbeats 4000000 in
theorem rblocks_no (id m ch ro lo he k a mn : Int) (A : Option Addr) (n cp : Nat) (E : Int) (hE : (E == 0) = false) (hc : ∀ W, Calls Try.prog 18 #[.agg #[.int .u32 id, .int .i64 m, .int .i64 ch, .int .i64 ro, .int .i64 lo, .int .i64 he], .agg #[.int .u8 k, .int .i64 a, .int .i64 mn, .slice A n cp]] W fun e w' => e = .returned (.int .i64 E) ∧ Below W.heap.size W w') (w : World) : Calls Try.prog 16 #[.agg #[.int .u32 id, .int .i64 m, .int .i64 ch, .int .i64 ro, .int .i64 lo, .int .i64 he], .agg #[.int .u8 k, .int .i64 a, .int .i64 mn, .slice A n cp]] w fun e w' => e = .returned (.tuple #[.slice none 0 0, .int .i64 E]) ∧ Below w.heap.size w w' := by
  have B := Box6.new w (.int .u32 id) (.int .i64 m) (.int .i64 ch) (.int .i64 ro) (.int .i64 lo) (.int .i64 he) 24
  have hb : Below w.heap.size w (w.alloc (.cells #[.int .u32 id, .int .i64 m, .int .i64 ch, .int .i64 ro, .int .i64 lo, .int .i64 he] 24 (0, 0))) := (Below.refl _ _).alloc (Nat.le_refl _) _
  replace B := B.alloc (.cells #[.int .u8 k, .int .i64 a, .int .i64 mn, .slice A n cp] 32 (0, 0))
  have G := CellsAt.new (w.alloc (.cells #[.int .u32 id, .int .i64 m, .int .i64 ch, .int .i64 ro, .int .i64 lo, .int .i64 he] 24 (0, 0))) [.int .u8 k, .int .i64 a, .int .i64 mn, .slice A n cp] 32
  replace hb := hb.alloc hb.size (.cells #[.int .u8 k, .int .i64 a, .int .i64 mn, .slice A n cp] 32 (0, 0))
  simp only [World.size_alloc] at G
  obtain ⟨c0, c1, c2, c3, c4, c5⟩ := B.all
  obtain ⟨g0, g1, g2, g3⟩ := G.all4
  go_enter Try.func16, Try.ntmps16
  go_wp2_with (first
    | (go_at_call 18; refine (hc _).mono ?_; rintro e w2 ⟨rfl, hb2⟩; replace hb := hb.trans (hb2.mono hb.size); clear c0 c1 c2 c3 c4 c5 g0 g1 g2 g3; replace B := B.below hb2 (Nat.le_refl _); replace G := G.below hb2 (Nat.le_refl _); clear hb2; obtain ⟨c0, c1, c2, c3, c4, c5⟩ := B.all; obtain ⟨g0, g1, g2, g3⟩ := G.all4; have blt := B.lt; have glt := G.lt))
  go_ret2
  exact ⟨rfl, hb⟩

set_option maxRecDepth 100000 in
set_option maxHeartbeats 4000000 in
theorem rblocks_ok (id m ch ro lo he k a : Int) (mn : Nat) (A : Option Addr) (n cp : Nat) (ha : 0 ≤ a) (ha2 : a ≤ 960) (hm : mn ≤ 8) (hc : ∀ W, Calls Try.prog 18 #[.agg #[.int .u32 id, .int .i64 m, .int .i64 ch, .int .i64 ro, .int .i64 lo, .int .i64 he], .agg #[.int .u8 k, .int .i64 a, .int .i64 (mn : Nat), .slice A n cp]] W fun e w' => e = .returned (.int .i64 0) ∧ Below W.heap.size W w') (w : World) : Calls Try.prog 16 #[.agg #[.int .u32 id, .int .i64 m, .int .i64 ch, .int .i64 ro, .int .i64 lo, .int .i64 he], .agg #[.int .u8 k, .int .i64 a, .int .i64 (mn : Nat), .slice A n cp]] w fun e w' => ∃ A' c', e = .returned (.tuple #[.slice A' mn c', .int .i64 0]) ∧ Ints .i64 w' A' mn (rng a mn) ∧ Below w.heap.size w w' := by
  obtain ⟨i0, hi0, hz0, hz1, hz2⟩ := info_parts (show (Try.prog.info? 3).map (fun i => (i.zero, i.size, i.bytes)) = some (some (.int .i64 0), 1, 8) by kernel_rfl)
  have B := Box6.new w (.int .u32 id) (.int .i64 m) (.int .i64 ch) (.int .i64 ro) (.int .i64 lo) (.int .i64 he) 24
  have hb : Below w.heap.size w (w.alloc (.cells #[.int .u32 id, .int .i64 m, .int .i64 ch, .int .i64 ro, .int .i64 lo, .int .i64 he] 24 (0, 0))) := (Below.refl _ _).alloc (Nat.le_refl _) _
  replace B := B.alloc (.cells #[.int .u8 k, .int .i64 a, .int .i64 (mn : Nat), .slice A n cp] 32 (0, 0))
  have G := CellsAt.new (w.alloc (.cells #[.int .u32 id, .int .i64 m, .int .i64 ch, .int .i64 ro, .int .i64 lo, .int .i64 he] 24 (0, 0))) [.int .u8 k, .int .i64 a, .int .i64 (mn : Nat), .slice A n cp] 32
  replace hb := hb.alloc hb.size (.cells #[.int .u8 k, .int .i64 a, .int .i64 (mn : Nat), .slice A n cp] 32 (0, 0))
  simp only [World.size_alloc] at G
  obtain ⟨c0, c1, c2, c3, c4, c5⟩ := B.all
  obtain ⟨g0, g1, g2, g3⟩ := G.all4
  go_enter Try.func16, Try.ntmps16
  go_wp2_with (first
    | (go_at_call 18; refine (hc _).mono ?_; rintro e w2 ⟨rfl, hb2⟩; replace hb := hb.trans (hb2.mono hb.size); clear c0 c1 c2 c3 c4 c5 g0 g1 g2 g3; replace B := B.below hb2 (Nat.le_refl _); replace G := G.below hb2 (Nat.le_refl _); clear hb2; obtain ⟨c0, c1, c2, c3, c4, c5⟩ := B.all; obtain ⟨g0, g1, g2, g3⟩ := G.all4; have blt := B.lt; have glt := G.lt))
  have hw2 : Hid (w.heap.size ≤ w2.heap.size) := hb.size
  clear c0 c1 c2 c3 c4 c5 g0 g1 g2 g3 blt B
  go_loopg [7, 8] mn (fun r s7 s8 wr => ∃ k : Nat, k + r = mn ∧ s8 = .int .i64 (a + (k : Int)) ∧ wr.ownsRow w2.heap.size 3 1 s7 k ((rng a k).map (Value.int .i64)) ∧ Below w2.heap.size w2 wr)
  case atStart => exact ⟨0, by omega, by simp, World.ownsRow_nil _ _ _ _, Below.refl _ _⟩
  case round =>
    obtain ⟨j, hj, rfl, own, hbk⟩ := hrel
    obtain ⟨g0, g1, g2, g3⟩ := (G.below hbk (Nat.le_refl _)).all4
    by_cases hjn : j < mn
    · have own3 := ownI_below own ((Below.refl _ _).alloc (Nat.le_refl _) (.cells #[.int .i64 (a + (j : Int))] 3 (0, 0)))
      have hr3 : Row (wr.alloc (.cells #[.int .i64 (a + (j : Int))] 3 (0, 0))) 1 (some ⟨wr.heap.size, 0, none⟩) 1 [.int .i64 (a + (j : Int))] := by
        have hg : (wr.alloc (.cells #[.int .i64 (a + (j : Int))] 3)).heap[wr.heap.size]? = some (.cells #[.int .i64 (a + (j : Int))] 3 (0, 0)) := heap_alloc_new _ _
        refine ⟨rfl, .inr ⟨wr.heap.size, 0, rfl, by simp, fun i v hv => ?_⟩⟩
        rw [cell_of_row _ _ _ _ _ _ hg, Nat.zero_add, ← hv, ← Array.getElem?_toList]
      have hB3 : w2.heap.size ≤ (wr.alloc (.cells #[.int .i64 (a + (j : Int))] 3 (0, 0))).heap.size := Nat.le_trans hbk.size (by simp)
      have hbk3 := hbk.alloc hbk.size (.cells #[.int .i64 (a + (j : Int))] 3 (0, 0))
      have hge : Hid (∀ q, Value.ownBlock u7 = some q → w2.heap.size ≤ q) := by
        obtain ⟨A', C', e7, _, _, hA⟩ := own_form own
        refine Lib.hid fun q hq => ?_
        rw [e7] at hq
        rcases A' with _ | x
        · simp [Value.ownBlock] at hq
        · simp [Value.ownBlock] at hq
          rw [← hq]
          exact hA x rfl
      go_wp2_with (first
        | (at_builtin; refine wpList_append_row _ rfl (.tmp 26) (.tmp 28) _ rfl w2.heap.size 3 i0 _ 1 8 Try.underlying26 hi0 hz0 hz1 hz2 rfl (by omega) _ j _ rfl own3 (some ⟨wr.heap.size, 0, none⟩) 1 1 [.int .i64 (a + (j : Int))] rfl hr3 (by simp [Value.oneCell']) (by simp only [maxLen]; omega) (by omega) hB3 ?_; intro v4 w4 own4 hg4 hv4))
      go_roundg (mn - (j + 1))
      case measure => omega
      case rel =>
        refine ⟨j + 1, by omega, by go_num, ?_, below_own hbk3 hg4 rfl hge.out hB3⟩
        rw [rng_succ, List.map_append]
        exact own4
    · obtain rfl : j = mn := by omega
      obtain ⟨A', C', rfl, _, ro, _⟩ := own_form own
      have I := Ints.ofRow ro (by omega) (rng_wfR ha (by omega) (by omega))
      clear own
      go_wp2
      go_ret2
      exact ⟨_, _, rfl, I, hb.trans (hbk.mono hw2.out)⟩
theorem refBlocks8 (c : Cfg) (k a mn : Int) (A : Option Addr) (n cp : Nat) (w : World) : Calls Try.prog 16 #[cfgV c, askV k a mn A n cp] w fun e w' => ∃ A' c', e = .returned (.tuple #[.slice A' (blkL (chkA c k a mn n) a mn).length c', .int .i64 (chkA c k a mn n)]) ∧ Ints .i64 w' A' (blkL (chkA c k a mn n) a mn).length (blkL (chkA c k a mn n) a mn) ∧ Below w.heap.size w w' := by
  have hc := fun W => refCheck8 c k a mn A n cp W
  by_cases h : chkA c k a mn n = 0
  · obtain ⟨q0, q1, q2, q3, _⟩ := chkA_box h
    rw [h] at hc ⊢
    obtain ⟨M, rfl⟩ : ∃ M : Nat, mn = M := ⟨mn.toNat, by omega⟩
    rw [blkL_0, Int.toNat_natCast, rng_len]
    exact rblocks_ok _ _ _ _ _ _ k a M A n cp q2 q3 (by omega) hc w
  · rw [blkL_no h]
    refine (rblocks_no _ _ _ _ _ _ k a mn A n cp _ (by simpa using h) hc w).mono ?_
    rintro e w' ⟨rfl, hb⟩
    exact ⟨none, 0, rfl, ⟨rfl, by simp, by simp, .inl rfl⟩, hb⟩

set_option maxRecDepth 100000 in
set_option maxHeartbeats 4000000 in
theorem refMeet8 (k a mn k2 a2 mn2 : Int) (A A2 : Option Addr) (n cp n2 cp2 : Nat) (h0 : 0 ≤ a ∧ a ≤ 960 ∧ 0 ≤ mn ∧ mn ≤ 8) (h1 : 0 ≤ a2 ∧ a2 ≤ 960 ∧ 0 ≤ mn2 ∧ mn2 ≤ 8) (w : World) : Calls Try.prog 26 #[askV k a mn A n cp, askV k2 a2 mn2 A2 n2 cp2] w fun e w' => e = .returned (.bool ((kWr k || kWr k2) && decide (a < a2 + mn2 ∧ a2 < a + mn))) ∧ Below w.heap.size w w' := by
  have r1 := fun W => refWrites8 k W
  have r2 := fun W => refWrites8 k2 W
  have hx : (a < a2 + mn2 ∧ a2 < a + mn ∧ Hid (decide (a < a2 + mn2 ∧ a2 < a + mn) = true)) ∨ (a < a2 + mn2 ∧ a + mn ≤ a2 ∧ Hid (decide (a < a2 + mn2 ∧ a2 < a + mn) = false)) ∨ (a2 + mn2 ≤ a ∧ Hid (decide (a < a2 + mn2 ∧ a2 < a + mn) = false)) := by
    by_cases q0 : a < a2 + mn2
    · by_cases q1 : a2 < a + mn
      · exact .inl ⟨q0, q1, Lib.hid (decide_eq_true ⟨q0, q1⟩)⟩
      · exact .inr (.inl ⟨q0, by omega, Lib.hid (decide_eq_false (by omega))⟩)
    · exact .inr (.inr ⟨by omega, Lib.hid (decide_eq_false (by omega))⟩)
  obtain ⟨b0, b1, b2, b3⟩ := h0
  obtain ⟨d0, d1, d2, d3⟩ := h1
  unfold askV at *
  generalize kWr k = x1 at *
  generalize kWr k2 = x2 at *
  generalize decide (a < a2 + mn2 ∧ a2 < a + mn) = res at *
  have G := CellsAt.new w [.int .u8 k, .int .i64 a, .int .i64 mn, .slice A n cp] 32
  have hb : Below w.heap.size w (w.alloc (.cells #[.int .u8 k, .int .i64 a, .int .i64 mn, .slice A n cp] 32 (0, 0))) := (Below.refl _ _).alloc (Nat.le_refl _) _
  replace G := G.alloc (.cells #[.int .u8 k2, .int .i64 a2, .int .i64 mn2, .slice A2 n2 cp2] 32 (0, 0))
  have G2 := CellsAt.new (w.alloc (.cells #[.int .u8 k, .int .i64 a, .int .i64 mn, .slice A n cp] 32 (0, 0))) [.int .u8 k2, .int .i64 a2, .int .i64 mn2, .slice A2 n2 cp2] 32
  replace hb := hb.alloc hb.size (.cells #[.int .u8 k2, .int .i64 a2, .int .i64 mn2, .slice A2 n2 cp2] 32 (0, 0))
  simp only [World.size_alloc] at G2
  obtain ⟨g0, g1, g2, g3⟩ := G.all4
  obtain ⟨g02, g12, g22, g32⟩ := G2.all4
  cases x1 <;> cases x2
  all_goals
    rcases hx with ⟨q0, q1, E⟩ | ⟨q0, q1, E⟩ | ⟨q0, E⟩
  all_goals
    rw [E.out]
    clear E
    go_enter Try.func26, Try.ntmps26
    go_wp2_with (first
      | (go_at_call 32; (with_reducible refine (r1 _).mono ?_); rintro e w2 ⟨rfl, rfl⟩)
      | (go_at_call 32; (with_reducible refine (r2 _).mono ?_); rintro e w2 ⟨rfl, rfl⟩))
    go_ret
    refine ⟨?_, hb⟩
    first
      | rfl
      | exact ret_bool (decide_eq_true (by omega))
      | exact ret_bool (decide_eq_false (by omega))

set_option maxRecDepth 100000 in
set_option maxHeartbeats 4000000 in
theorem rtouch_no1 (id m ch ro lo he k a mn k2 a2 mn2 : Int) (A A2 : Option Addr) (n cp n2 cp2 : Nat) (E : Int) (hE : (E == 0) = false) (hc : ∀ W, Calls Try.prog 18 #[.agg #[.int .u32 id, .int .i64 m, .int .i64 ch, .int .i64 ro, .int .i64 lo, .int .i64 he], .agg #[.int .u8 k, .int .i64 a, .int .i64 mn, .slice A n cp]] W fun e w' => e = .returned (.int .i64 E) ∧ Below W.heap.size W w') (w : World) : Calls Try.prog 17 #[.agg #[.int .u32 id, .int .i64 m, .int .i64 ch, .int .i64 ro, .int .i64 lo, .int .i64 he], .agg #[.int .u8 k, .int .i64 a, .int .i64 mn, .slice A n cp], .agg #[.int .u8 k2, .int .i64 a2, .int .i64 mn2, .slice A2 n2 cp2]] w fun e w' => e = .returned (.tuple #[.bool false, .int .i64 E]) ∧ Below w.heap.size w w' := by
  have B := Box6.new w (.int .u32 id) (.int .i64 m) (.int .i64 ch) (.int .i64 ro) (.int .i64 lo) (.int .i64 he) 24
  have hb : Below w.heap.size w (w.alloc (.cells #[.int .u32 id, .int .i64 m, .int .i64 ch, .int .i64 ro, .int .i64 lo, .int .i64 he] 24 (0, 0))) := (Below.refl _ _).alloc (Nat.le_refl _) _
  replace B := B.alloc (.cells #[.int .u8 k, .int .i64 a, .int .i64 mn, .slice A n cp] 32 (0, 0))
  have G := CellsAt.new (w.alloc (.cells #[.int .u32 id, .int .i64 m, .int .i64 ch, .int .i64 ro, .int .i64 lo, .int .i64 he] 24 (0, 0))) [.int .u8 k, .int .i64 a, .int .i64 mn, .slice A n cp] 32
  replace hb := hb.alloc hb.size (.cells #[.int .u8 k, .int .i64 a, .int .i64 mn, .slice A n cp] 32 (0, 0))
  replace B := B.alloc (.cells #[.int .u8 k2, .int .i64 a2, .int .i64 mn2, .slice A2 n2 cp2] 32 (0, 0))
  replace G := G.alloc (.cells #[.int .u8 k2, .int .i64 a2, .int .i64 mn2, .slice A2 n2 cp2] 32 (0, 0))
  have G2 := CellsAt.new ((w.alloc (.cells #[.int .u32 id, .int .i64 m, .int .i64 ch, .int .i64 ro, .int .i64 lo, .int .i64 he] 24 (0, 0))).alloc (.cells #[.int .u8 k, .int .i64 a, .int .i64 mn, .slice A n cp] 32 (0, 0))) [.int .u8 k2, .int .i64 a2, .int .i64 mn2, .slice A2 n2 cp2] 32
  replace hb := hb.alloc hb.size (.cells #[.int .u8 k2, .int .i64 a2, .int .i64 mn2, .slice A2 n2 cp2] 32 (0, 0))
  simp only [World.size_alloc] at G G2
  obtain ⟨c0, c1, c2, c3, c4, c5⟩ := B.all
  obtain ⟨g0, g1, g2, g3⟩ := G.all4
  obtain ⟨g02, g12, g22, g32⟩ := G2.all4
  go_enter Try.func17, Try.ntmps17
  go_wp2_with (first
    | (go_at_call 18; (with_reducible refine (hc _).mono ?_); rintro e w2 ⟨rfl, hb2⟩; replace hb := hb.trans (hb2.mono hb.size); clear c0 c1 c2 c3 c4 c5 g0 g1 g2 g3 g02 g12 g22 g32; replace B := B.below hb2 (Nat.le_refl _); replace G := G.below hb2 (Nat.le_refl _); replace G2 := G2.below hb2 (Nat.le_refl _); clear hb2; obtain ⟨c0, c1, c2, c3, c4, c5⟩ := B.all; obtain ⟨g0, g1, g2, g3⟩ := G.all4; obtain ⟨g02, g12, g22, g32⟩ := G2.all4; have blt := B.lt; have glt := G.lt; have glt2 := G2.lt))
  go_ret2
  exact ⟨rfl, hb⟩

set_option maxRecDepth 100000 in
set_option maxHeartbeats 4000000 in
theorem rtouch_no2 (id m ch ro lo he k a mn k2 a2 mn2 : Int) (A A2 : Option Addr) (n cp n2 cp2 : Nat) (E : Int) (hE : (E == 0) = false) (hc : ∀ W, Calls Try.prog 18 #[.agg #[.int .u32 id, .int .i64 m, .int .i64 ch, .int .i64 ro, .int .i64 lo, .int .i64 he], .agg #[.int .u8 k, .int .i64 a, .int .i64 mn, .slice A n cp]] W fun e w' => e = .returned (.int .i64 0) ∧ Below W.heap.size W w') (hc2 : ∀ W, Calls Try.prog 18 #[.agg #[.int .u32 id, .int .i64 m, .int .i64 ch, .int .i64 ro, .int .i64 lo, .int .i64 he], .agg #[.int .u8 k2, .int .i64 a2, .int .i64 mn2, .slice A2 n2 cp2]] W fun e w' => e = .returned (.int .i64 E) ∧ Below W.heap.size W w') (w : World) : Calls Try.prog 17 #[.agg #[.int .u32 id, .int .i64 m, .int .i64 ch, .int .i64 ro, .int .i64 lo, .int .i64 he], .agg #[.int .u8 k, .int .i64 a, .int .i64 mn, .slice A n cp], .agg #[.int .u8 k2, .int .i64 a2, .int .i64 mn2, .slice A2 n2 cp2]] w fun e w' => e = .returned (.tuple #[.bool false, .int .i64 E]) ∧ Below w.heap.size w w' := by
  have B := Box6.new w (.int .u32 id) (.int .i64 m) (.int .i64 ch) (.int .i64 ro) (.int .i64 lo) (.int .i64 he) 24
  have hb : Below w.heap.size w (w.alloc (.cells #[.int .u32 id, .int .i64 m, .int .i64 ch, .int .i64 ro, .int .i64 lo, .int .i64 he] 24 (0, 0))) := (Below.refl _ _).alloc (Nat.le_refl _) _
  replace B := B.alloc (.cells #[.int .u8 k, .int .i64 a, .int .i64 mn, .slice A n cp] 32 (0, 0))
  have G := CellsAt.new (w.alloc (.cells #[.int .u32 id, .int .i64 m, .int .i64 ch, .int .i64 ro, .int .i64 lo, .int .i64 he] 24 (0, 0))) [.int .u8 k, .int .i64 a, .int .i64 mn, .slice A n cp] 32
  replace hb := hb.alloc hb.size (.cells #[.int .u8 k, .int .i64 a, .int .i64 mn, .slice A n cp] 32 (0, 0))
  replace B := B.alloc (.cells #[.int .u8 k2, .int .i64 a2, .int .i64 mn2, .slice A2 n2 cp2] 32 (0, 0))
  replace G := G.alloc (.cells #[.int .u8 k2, .int .i64 a2, .int .i64 mn2, .slice A2 n2 cp2] 32 (0, 0))
  have G2 := CellsAt.new ((w.alloc (.cells #[.int .u32 id, .int .i64 m, .int .i64 ch, .int .i64 ro, .int .i64 lo, .int .i64 he] 24 (0, 0))).alloc (.cells #[.int .u8 k, .int .i64 a, .int .i64 mn, .slice A n cp] 32 (0, 0))) [.int .u8 k2, .int .i64 a2, .int .i64 mn2, .slice A2 n2 cp2] 32
  replace hb := hb.alloc hb.size (.cells #[.int .u8 k2, .int .i64 a2, .int .i64 mn2, .slice A2 n2 cp2] 32 (0, 0))
  simp only [World.size_alloc] at G G2
  obtain ⟨c0, c1, c2, c3, c4, c5⟩ := B.all
  obtain ⟨g0, g1, g2, g3⟩ := G.all4
  obtain ⟨g02, g12, g22, g32⟩ := G2.all4
  go_enter Try.func17, Try.ntmps17
  go_wp2_with (first
    | (go_at_call 18; (with_reducible refine (hc _).mono ?_); rintro e w2 ⟨rfl, hb2⟩; replace hb := hb.trans (hb2.mono hb.size); clear c0 c1 c2 c3 c4 c5 g0 g1 g2 g3 g02 g12 g22 g32; replace B := B.below hb2 (Nat.le_refl _); replace G := G.below hb2 (Nat.le_refl _); replace G2 := G2.below hb2 (Nat.le_refl _); clear hb2; obtain ⟨c0, c1, c2, c3, c4, c5⟩ := B.all; obtain ⟨g0, g1, g2, g3⟩ := G.all4; obtain ⟨g02, g12, g22, g32⟩ := G2.all4; have blt := B.lt; have glt := G.lt; have glt2 := G2.lt)
    | (go_at_call 18; (with_reducible refine (hc2 _).mono ?_); rintro e w22 ⟨rfl, hb2⟩; replace hb := hb.trans (hb2.mono hb.size); clear c0 c1 c2 c3 c4 c5 g0 g1 g2 g3 g02 g12 g22 g32; replace B := B.below hb2 (Nat.le_refl _); replace G := G.below hb2 (Nat.le_refl _); replace G2 := G2.below hb2 (Nat.le_refl _); clear hb2; obtain ⟨c0, c1, c2, c3, c4, c5⟩ := B.all; obtain ⟨g0, g1, g2, g3⟩ := G.all4; obtain ⟨g02, g12, g22, g32⟩ := G2.all4; have blt := B.lt; have glt := G.lt; have glt2 := G2.lt))
  go_ret2
  exact ⟨rfl, hb⟩

set_option maxRecDepth 100000 in
set_option maxHeartbeats 4000000 in
theorem rtouch_ok (id m ch ro lo he k a mn k2 a2 mn2 : Int) (A A2 : Option Addr) (n cp n2 cp2 : Nat) (MT : Bool) (hc : ∀ W, Calls Try.prog 18 #[.agg #[.int .u32 id, .int .i64 m, .int .i64 ch, .int .i64 ro, .int .i64 lo, .int .i64 he], .agg #[.int .u8 k, .int .i64 a, .int .i64 mn, .slice A n cp]] W fun e w' => e = .returned (.int .i64 0) ∧ Below W.heap.size W w') (hc2 : ∀ W, Calls Try.prog 18 #[.agg #[.int .u32 id, .int .i64 m, .int .i64 ch, .int .i64 ro, .int .i64 lo, .int .i64 he], .agg #[.int .u8 k2, .int .i64 a2, .int .i64 mn2, .slice A2 n2 cp2]] W fun e w' => e = .returned (.int .i64 0) ∧ Below W.heap.size W w') (ht : ∀ W, Calls Try.prog 26 #[.agg #[.int .u8 k, .int .i64 a, .int .i64 mn, .slice A n cp], .agg #[.int .u8 k2, .int .i64 a2, .int .i64 mn2, .slice A2 n2 cp2]] W fun e w' => e = .returned (.bool MT) ∧ Below W.heap.size W w') (w : World) : Calls Try.prog 17 #[.agg #[.int .u32 id, .int .i64 m, .int .i64 ch, .int .i64 ro, .int .i64 lo, .int .i64 he], .agg #[.int .u8 k, .int .i64 a, .int .i64 mn, .slice A n cp], .agg #[.int .u8 k2, .int .i64 a2, .int .i64 mn2, .slice A2 n2 cp2]] w fun e w' => e = .returned (.tuple #[.bool MT, .int .i64 0]) ∧ Below w.heap.size w w' := by
  have B := Box6.new w (.int .u32 id) (.int .i64 m) (.int .i64 ch) (.int .i64 ro) (.int .i64 lo) (.int .i64 he) 24
  have hb : Below w.heap.size w (w.alloc (.cells #[.int .u32 id, .int .i64 m, .int .i64 ch, .int .i64 ro, .int .i64 lo, .int .i64 he] 24 (0, 0))) := (Below.refl _ _).alloc (Nat.le_refl _) _
  replace B := B.alloc (.cells #[.int .u8 k, .int .i64 a, .int .i64 mn, .slice A n cp] 32 (0, 0))
  have G := CellsAt.new (w.alloc (.cells #[.int .u32 id, .int .i64 m, .int .i64 ch, .int .i64 ro, .int .i64 lo, .int .i64 he] 24 (0, 0))) [.int .u8 k, .int .i64 a, .int .i64 mn, .slice A n cp] 32
  replace hb := hb.alloc hb.size (.cells #[.int .u8 k, .int .i64 a, .int .i64 mn, .slice A n cp] 32 (0, 0))
  replace B := B.alloc (.cells #[.int .u8 k2, .int .i64 a2, .int .i64 mn2, .slice A2 n2 cp2] 32 (0, 0))
  replace G := G.alloc (.cells #[.int .u8 k2, .int .i64 a2, .int .i64 mn2, .slice A2 n2 cp2] 32 (0, 0))
  have G2 := CellsAt.new ((w.alloc (.cells #[.int .u32 id, .int .i64 m, .int .i64 ch, .int .i64 ro, .int .i64 lo, .int .i64 he] 24 (0, 0))).alloc (.cells #[.int .u8 k, .int .i64 a, .int .i64 mn, .slice A n cp] 32 (0, 0))) [.int .u8 k2, .int .i64 a2, .int .i64 mn2, .slice A2 n2 cp2] 32
  replace hb := hb.alloc hb.size (.cells #[.int .u8 k2, .int .i64 a2, .int .i64 mn2, .slice A2 n2 cp2] 32 (0, 0))
  simp only [World.size_alloc] at G G2
  obtain ⟨c0, c1, c2, c3, c4, c5⟩ := B.all
  obtain ⟨g0, g1, g2, g3⟩ := G.all4
  obtain ⟨g02, g12, g22, g32⟩ := G2.all4
  go_enter Try.func17, Try.ntmps17
  go_wp2_with (first
    | (go_at_call 18; (with_reducible refine (hc _).mono ?_); rintro e w2 ⟨rfl, hb2⟩; replace hb := hb.trans (hb2.mono hb.size); clear c0 c1 c2 c3 c4 c5 g0 g1 g2 g3 g02 g12 g22 g32; replace B := B.below hb2 (Nat.le_refl _); replace G := G.below hb2 (Nat.le_refl _); replace G2 := G2.below hb2 (Nat.le_refl _); clear hb2; obtain ⟨c0, c1, c2, c3, c4, c5⟩ := B.all; obtain ⟨g0, g1, g2, g3⟩ := G.all4; obtain ⟨g02, g12, g22, g32⟩ := G2.all4; have blt := B.lt; have glt := G.lt; have glt2 := G2.lt)
    | (go_at_call 18; (with_reducible refine (hc2 _).mono ?_); rintro e w22 ⟨rfl, hb2⟩; replace hb := hb.trans (hb2.mono hb.size); clear c0 c1 c2 c3 c4 c5 g0 g1 g2 g3 g02 g12 g22 g32; replace B := B.below hb2 (Nat.le_refl _); replace G := G.below hb2 (Nat.le_refl _); replace G2 := G2.below hb2 (Nat.le_refl _); clear hb2; obtain ⟨c0, c1, c2, c3, c4, c5⟩ := B.all; obtain ⟨g0, g1, g2, g3⟩ := G.all4; obtain ⟨g02, g12, g22, g32⟩ := G2.all4; have blt := B.lt; have glt := G.lt; have glt2 := G2.lt)
    | (go_at_call 26; refine (ht _).mono ?_; rintro e w6 ⟨rfl, hb2⟩; replace hb := hb.trans (hb2.mono hb.size)))
  go_ret2
  exact ⟨rfl, hb⟩


def Apart (A : Option Addr) (n b : Nat) : Prop := 0 < n → ∀ x, A = some x → x.block ≠ b
theorem Ints.offA {k : IntKind} {w : World} {A : Option Addr} {n : Nat} {zs : List Int} (h : Ints k w A n zs) {p : Addr} {u : Value} (hp : Apart A n p.block) : Ints k (w.setCell p u) A n zs := by
  refine ⟨h.len, h.max, h.wf, ?_⟩
  by_cases h0 : n = 0
  · exact .inl h0
  · rcases h.row with q | ⟨b, off, e, hlt, hc⟩
    · exact absurd q h0
    · refine .inr ⟨b, off, e, by simpa using hlt, fun i hi => ?_⟩
      rw [World.cell?_setCell_other _ _ _ _ (fun q => hp (by omega) _ e (by rw [q]))]
      exact hc i hi
theorem Ints.apartNew {k : IntKind} {w : World} {A : Option Addr} {n : Nat} {zs : List Int} (h : Ints k w A n zs) : Apart A n w.heap.size := by
  intro h0 x e
  rcases h.row with q | ⟨b, off, e2, hlt, _⟩
  · omega
  · rw [e] at e2
    cases e2
    exact fun q => by simp at q; omega
theorem apartOld {A : Option Addr} {n b s : Nat} (h : ∀ x, A = some x → s ≤ x.block) (hb : b < s) : Apart A n b := fun _ x e q => by have := h x e; omega
theorem fresh_ints {w w2 : World} {A : Option Addr} {n : Nat} {zs : List Int} {v2 : Value} (h : Ints .u8 w A n zs) (own2 : w2.ownsRow w.heap.size 5 1 v2 (0 + n) ([] ++ zs.map (Value.int .u8))) (hg2 : w.grownBy w2 (Value.slice none 0 0).ownBlock) :
    ∃ A2 C2, v2 = .slice A2 n C2 ∧ Below w.heap.size w w2 ∧ Ints .u8 w2 A2 n zs ∧ ∀ x, A2 = some x → w.heap.size ≤ x.block := by
  have hb2 := (Below.refl w.heap.size w).grown hg2 (Nat.le_refl _) (by simp [Value.ownBlock])
  obtain ⟨A2, C2, rfl, _, ro, hA2⟩ := own_form own2
  rw [Nat.zero_add] at ro
  exact ⟨A2, C2, by rw [Nat.zero_add], hb2, Ints.ofRow (by simpa using ro) h.max h.wf, hA2⟩

set_option maxRecDepth 100000 in
set_option maxHeartbeats 4000000 in
theorem refTwin8 (k a mn : Int) (A : Option Addr) (n cp : Nat) (zs : List Int) (w : World) (h : Ints .u8 w A n zs) (hn : n ≤ 5000) : Calls Try.prog 15 #[askV k a mn A n cp] w fun e w' => ∃ A' c', e = .returned (askV k a mn A' n c') ∧ Ints .u8 w' A' n zs ∧ (∀ x, A' = some x → w.heap.size ≤ x.block) ∧ Below w.heap.size w w' := by
  obtain ⟨i0, hi0, hz0, hz1, hz2⟩ := info_parts (show (Try.prog.info? 5).map (fun i => (i.zero, i.size, i.bytes)) = some (some (.int .u8 0), 1, 1) by kernel_rfl)
  unfold askV at *
  have G := CellsAt.new w [.int .u8 k, .int .i64 a, .int .i64 mn, .slice A n cp] 32
  have hb : Below w.heap.size w (w.alloc (.cells #[.int .u8 k, .int .i64 a, .int .i64 mn, .slice A n cp] 32 (0, 0))) := (Below.refl _ _).alloc (Nat.le_refl _) _
  obtain ⟨g0, g1, g2, g3⟩ := G.all4
  replace G := G.alloc (.cells #[.int .u8 0, .int .i64 0, .int .i64 0, .slice none 0 0] 32 (0, 0))
  have T := CellsAt.new (w.alloc (.cells #[.int .u8 k, .int .i64 a, .int .i64 mn, .slice A n cp] 32 (0, 0))) [.int .u8 0, .int .i64 0, .int .i64 0, .slice none 0 0] 32
  simp only [World.size_alloc] at T
  replace hb := hb.alloc hb.size (.cells #[.int .u8 0, .int .i64 0, .int .i64 0, .slice none 0 0] 32 (0, 0))
  clear g0 g1 g2 g3
  obtain ⟨g0, g1, g2, g3⟩ := G.all4
  have h1 := h.below hb (Nat.le_refl _)
  have hr0 := h1.toRow
  go_enter Try.func15, Try.ntmps15
  go_wp2_with (first
    | (at_builtin; refine wpList_append_row _ rfl (.const (.slice none 0 0)) (.tmp 4) _ rfl ((w.alloc (.cells #[.int .u8 k, .int .i64 a, .int .i64 mn, .slice A n cp] 32 (0, 0))).alloc (.cells #[.int .u8 0, .int .i64 0, .int .i64 0, .slice none 0 0] 32 (0, 0))).heap.size 5 i0 _ 1 1 Try.underlying30 hi0 hz0 hz1 hz2 rfl (by omega) (.slice none 0 0) 0 [] rfl (World.ownsRow_nil _ _ _ _) A n cp _ rfl hr0 (by simp [Value.oneCell']) (by simp only [maxLen]; omega) (by omega) (Nat.le_refl _) ?_; intro v2 w2 own2 hg2 _; obtain ⟨A2, C2, rfl, hb2, I2, hA2⟩ := fresh_ints h1 own2 hg2; clear own2 hg2 hr0 h1; replace hb := hb.trans (hb2.mono hb.size); clear g0 g1 g2 g3; replace G := G.below hb2 (Nat.le_refl _); replace T := T.below hb2 (Nat.le_refl _); clear hb2; obtain ⟨g0, g1, g2, g3⟩ := G.all4; obtain ⟨t0, t1, t2, t3⟩ := T.all4; have gf := G.fr; have tf := T.fr; have glt := G.lt; have tlt := T.lt))
  exact bodyPost_ret (v := .agg #[.int .u8 k, .int .i64 a, .int .i64 mn, .slice A2 n C2]) (by simp [results, Try.results15, go_sem, t0, t1, t2, t3]) rfl ⟨_, _, rfl, ((((I2.off (fun x e => by have := hA2 x e; simp at this ⊢; omega)).off (fun x e => by have := hA2 x e; simp at this ⊢; omega)).off (fun x e => by have := hA2 x e; simp at this ⊢; omega)).off (fun x e => by have := hA2 x e; simp at this ⊢; omega)).off (fun x e => by have := hA2 x e; simp at this ⊢; omega), (fun x e => by have := hA2 x e; simp at this; omega), ((((hb.setCell (by simp) _).setCell (by simp) _).setCell (by simp) _).setCell (by simp) _).setCell (by simp) _⟩

set_option maxRecDepth 100000 in
set_option maxHeartbeats 4000000 in
theorem refSame8 (k a mn : Int) (A A2 : Option Addr) (n cp cp2 : Nat) (zs : List Int) (w : World) (h : Ints .u8 w A n zs) (h2 : Ints .u8 w A2 n zs) : Calls Try.prog 19 #[askV k a mn A n cp, askV k a mn A2 n cp2] w fun e w' => e = .returned (.bool true) ∧ Below w.heap.size w w' := by
  unfold askV at *
  have G := CellsAt.new w [.int .u8 k, .int .i64 a, .int .i64 mn, .slice A n cp] 32
  have hb : Below w.heap.size w (w.alloc (.cells #[.int .u8 k, .int .i64 a, .int .i64 mn, .slice A n cp] 32 (0, 0))) := (Below.refl _ _).alloc (Nat.le_refl _) _
  replace G := G.alloc (.cells #[.int .u8 k, .int .i64 a, .int .i64 mn, .slice A2 n cp2] 32 (0, 0))
  have G2 := CellsAt.new (w.alloc (.cells #[.int .u8 k, .int .i64 a, .int .i64 mn, .slice A n cp] 32 (0, 0))) [.int .u8 k, .int .i64 a, .int .i64 mn, .slice A2 n cp2] 32
  replace hb := hb.alloc hb.size (.cells #[.int .u8 k, .int .i64 a, .int .i64 mn, .slice A2 n cp2] 32 (0, 0))
  simp only [World.size_alloc] at G2
  obtain ⟨g0, g1, g2, g3⟩ := G.all4
  obtain ⟨g02, g12, g22, g32⟩ := G2.all4
  have s1 := (h.below hb (Nat.le_refl _)).text (c := cp) Try.underlying30 Try.underlying5 Try.underlying9
  have s2 := (h2.below hb (Nat.le_refl _)).text (c := cp2) Try.underlying30 Try.underlying5 Try.underlying9
  generalize strOfNums zs = s at *
  go_enter Try.func19, Try.ntmps19
  go_wp2
  go_ret
  exact ⟨rfl, hb⟩


theorem refTouch8 (c : Cfg) (k a mn : Int) (A : Option Addr) (n cp : Nat) (k2 a2 mn2 : Int) (A2 : Option Addr) (n2 cp2 : Nat) (w : World) : Calls Try.prog 17 #[cfgV c, askV k a mn A n cp, askV k2 a2 mn2 A2 n2 cp2] w fun e w' =>
    e = .returned (.tuple #[.bool (touB (chkA c k a mn n) (chkA c k2 a2 mn2 n2) (kWr k || kWr k2) (blkL (chkA c k a mn n) a mn) (blkL (chkA c k2 a2 mn2 n2) a2 mn2)), .int .i64 (touE (chkA c k a mn n) (chkA c k2 a2 mn2 n2))]) ∧ Below w.heap.size w w' := by
  have h1 := fun W => refCheck8 c k a mn A n cp W
  have h2 := fun W => refCheck8 c k2 a2 mn2 A2 n2 cp2 W
  unfold touE touB
  by_cases q1 : chkA c k a mn n = 0
  · rw [if_pos q1]
    by_cases q2 : chkA c k2 a2 mn2 n2 = 0
    · rw [if_pos ⟨q1, q2⟩, q1, q2, blkL_0, blkL_0]
      obtain ⟨b0, b1, b2, b3, _, b4, _⟩ := chkA_box q1
      obtain ⟨d0, d1, d2, d3, _, d4, _⟩ := chkA_box q2
      rw [hitB_rng (fun q => b4 (by omega)) (fun q => d4 (by omega)) b2 d2, Int.toNat_of_nonneg b0, Int.toNat_of_nonneg d0]
      have hm := fun W => refMeet8 k a mn k2 a2 mn2 A A2 n cp n2 cp2 ⟨b2, b3, b0, b1⟩ ⟨d2, d3, d0, d1⟩ W
      rw [q1] at h1
      rw [q2] at h2
      exact rtouch_ok _ _ _ _ _ _ k a mn k2 a2 mn2 A A2 n cp n2 cp2 _ h1 h2 hm w
    · rw [if_neg (fun q => q2 q.2)]
      rw [q1] at h1
      exact rtouch_no2 _ _ _ _ _ _ k a mn k2 a2 mn2 A A2 n cp n2 cp2 _ (by simpa using q2) h1 h2 w
  · rw [if_neg q1, if_neg (fun q => q1 q.1)]
    exact rtouch_no1 _ _ _ _ _ _ k a mn k2 a2 mn2 A A2 n cp n2 cp2 _ (by simpa using q1) h1 w

end Go.Proofs.Ytkjgmopgibpkjaa