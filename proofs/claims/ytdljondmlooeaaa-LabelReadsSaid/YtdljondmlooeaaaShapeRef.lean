/- The walks of the reference of layer 6. -/
import Derived.Test.YtdljondmlooeaaaShapeCheck
namespace Go.Proofs.Ytdljondmlooeaaa
open Go.RowKit ShapeM

def inB (n a b : Int) : Bool := decide (a ≤ n ∧ n ≤ b)
theorem in_calls (n a b : Int) (w : World) : Calls Try.prog 57 #[.int .i64 n, .int .i64 a, .int .i64 b] w fun e w' => e = .returned (.bool (inB n a b)) ∧ w = w' := by
  have hx : (n < a ∧ Hid (inB n a b = false)) ∨ (a ≤ n ∧ b < n ∧ Hid (inB n a b = false)) ∨ (a ≤ n ∧ n ≤ b ∧ Hid (inB n a b = true)) := by
    unfold inB
    by_cases q0 : n < a
    · exact .inl ⟨q0, decide_eq_false (by omega)⟩
    · by_cases q1 : b < n
      · exact .inr (.inl ⟨by omega, q1, decide_eq_false (by omega)⟩)
      · exact .inr (.inr ⟨by omega, by omega, decide_eq_true (by omega)⟩)
  rcases hx with ⟨q0, E⟩ | ⟨q0, q1, E⟩ | ⟨q0, q1, E⟩
  all_goals
    rw [E.out]
    clear E
    go_enter Try.func57, Try.ntmps57
    go_wp2
    go_ret
    simp [*]

theorem need_ref (c : Cfg) (w : World) : Calls Try.prog 58 #[cfgV c] w fun e w' => e = .returned (.int .i64 (wrap64 (c.mem + 1))) ∧ Below w.heap.size w w' := by
  obtain ⟨id, m, ch, ro, lo, he⟩ := c
  unfold cfgV at *
  dsimp only at *
  have B := Box6.new w (.int .u32 id) (.int .i64 m) (.int .i64 ch) (.int .i64 ro) (.int .i64 lo) (.int .i64 he) 61
  have hb : Below w.heap.size w (w.alloc (.cells #[.int .u32 id, .int .i64 m, .int .i64 ch, .int .i64 ro, .int .i64 lo, .int .i64 he] 61 (0, 0))) := (Below.refl _ _).alloc (Nat.le_refl _) _
  obtain ⟨_, c0, c1, c2, c3, c4, c5, _⟩ := B
  go_enter Try.func58, Try.ntmps58
  go_wp2
  go_ret
  exact ⟨rfl, hb⟩

theorem stripes_ref (c : Cfg) (w : World) : Calls Try.prog 51 #[cfgV c] w fun e w' => e = .returned (.int .i64 (wrap64 (c.chunk * c.rows))) ∧ Below w.heap.size w w' := by
  obtain ⟨id, m, ch, ro, lo, he⟩ := c
  unfold cfgV at *
  dsimp only at *
  have B := Box6.new w (.int .u32 id) (.int .i64 m) (.int .i64 ch) (.int .i64 ro) (.int .i64 lo) (.int .i64 he) 61
  have hb : Below w.heap.size w (w.alloc (.cells #[.int .u32 id, .int .i64 m, .int .i64 ch, .int .i64 ro, .int .i64 lo, .int .i64 he] 61 (0, 0))) := (Below.refl _ _).alloc (Nat.le_refl _) _
  obtain ⟨_, c0, c1, c2, c3, c4, c5, _⟩ := B
  go_enter Try.func51, Try.ntmps51
  go_wp2
  go_ret
  exact ⟨rfl, hb⟩

theorem wide_eq (m he : Int) (h1 : 3 ≤ m) (h2 : m ≤ 16) (h3 : 2 ≤ he) (h4 : he ≤ 8) : wrap64 (wrap64 (m + 1) * wrap64 (he + 1)) = (m + 1) * (he + 1) := by
  have q := mul_box (a := m + 1) (b := he + 1) (x := 17) (y := 9) (p := 4) (q := 3) (by omega) (by omega) (by omega) (by omega) (by omega) (by omega)
  rw [wrap64_in (n := m + 1) (by omega) (by omega), wrap64_in (n := he + 1) (by omega) (by omega)]
  exact wrap64_in (by omega) (by omega)

set_option maxRecDepth 100000 in
set_option maxHeartbeats 4000000 in
theorem may_ref (c : Cfg) (w : World) : Calls Try.prog 50 #[cfgV c] w fun e w' => e = .returned (.bool (decide (MayC c))) ∧ Below w.heap.size w w' := by
  have cn := fun W => need_ref c W
  obtain ⟨id, m, ch, ro, lo, he⟩ := c
  have ci := fun n a b W => in_calls n a b W
  have hx : (inB m 3 16 = false ∧ Hid (decide (MayC ⟨id, m, ch, ro, lo, he⟩) = false)) ∨ (inB m 3 16 = true ∧ inB ch 1 8 = false ∧ Hid (decide (MayC ⟨id, m, ch, ro, lo, he⟩) = false)) ∨ (inB m 3 16 = true ∧ inB ch 1 8 = true ∧ inB ro 1 8 = false ∧ Hid (decide (MayC ⟨id, m, ch, ro, lo, he⟩) = false)) ∨ (inB m 3 16 = true ∧ inB ch 1 8 = true ∧ inB ro 1 8 = true ∧ inB he 2 8 = false ∧ Hid (decide (MayC ⟨id, m, ch, ro, lo, he⟩) = false)) ∨ (inB m 3 16 = true ∧ inB ch 1 8 = true ∧ inB ro 1 8 = true ∧ inB he 2 8 = true ∧ Hid (inB lo (wrap64 (wrap64 (m + 1) * wrap64 (he + 1))) 255 = decide (MayC ⟨id, m, ch, ro, lo, he⟩))) := by
    by_cases q1 : 3 ≤ m ∧ m ≤ 16
    · by_cases q2 : 1 ≤ ch ∧ ch ≤ 8
      · by_cases q3 : 1 ≤ ro ∧ ro ≤ 8
        · by_cases q4 : 2 ≤ he ∧ he ≤ 8
          · refine .inr (.inr (.inr (.inr ⟨decide_eq_true q1, decide_eq_true q2, decide_eq_true q3, decide_eq_true q4, ?_⟩)))
            refine Lib.hid ?_
            rw [wide_eq m he q1.1 q1.2 q4.1 q4.2]
            unfold inB
            rw [decide_eq_decide]
            exact ⟨fun q => ⟨q1.1, q1.2, q2.1, q2.2, q3.1, q3.2, q4.1, q4.2, q.1, q.2⟩, fun q => ⟨q.2.2.2.2.2.2.2.2.1, q.2.2.2.2.2.2.2.2.2⟩⟩
          · exact .inr (.inr (.inr (.inl ⟨decide_eq_true q1, decide_eq_true q2, decide_eq_true q3, decide_eq_false q4, decide_eq_false fun q => q4 ⟨q.2.2.2.2.2.2.1, q.2.2.2.2.2.2.2.1⟩⟩)))
        · exact .inr (.inr (.inl ⟨decide_eq_true q1, decide_eq_true q2, decide_eq_false q3, decide_eq_false fun q => q3 ⟨q.2.2.2.2.1, q.2.2.2.2.2.1⟩⟩))
      · exact .inr (.inl ⟨decide_eq_true q1, decide_eq_false q2, decide_eq_false fun q => q2 ⟨q.2.2.1, q.2.2.2.1⟩⟩)
    · exact .inl ⟨decide_eq_false q1, decide_eq_false fun q => q1 ⟨q.1, q.2.1⟩⟩
  generalize decide (MayC ⟨id, m, ch, ro, lo, he⟩) = r at *
  unfold cfgV at *
  dsimp only at *
  have B := Box6.new w (.int .u32 id) (.int .i64 m) (.int .i64 ch) (.int .i64 ro) (.int .i64 lo) (.int .i64 he) 61
  have hb : Below w.heap.size w (w.alloc (.cells #[.int .u32 id, .int .i64 m, .int .i64 ch, .int .i64 ro, .int .i64 lo, .int .i64 he] 61 (0, 0))) := (Below.refl _ _).alloc (Nat.le_refl _) _
  obtain ⟨c0, c1, c2, c3, c4, c5⟩ := B.all
  rcases hx with ⟨g1, E⟩ | ⟨g1, g2, E⟩ | ⟨g1, g2, g3, E⟩ | ⟨g1, g2, g3, g4, E⟩ | ⟨g1, g2, g3, g4, E⟩
  iterate 4
    · go_enter Try.func50, Try.ntmps50
      go_wp2_with (refine (ci _ _ _ _).mono ?_; rintro e w2 ⟨rfl, rfl⟩)
      go_ret
      exact ⟨ret_bool E.out.symm, hb⟩
  · go_enter Try.func50, Try.ntmps50
    go_wp2_with (refine (ci _ _ _ _).mono ?_; rintro e w2 ⟨rfl, rfl⟩)
    refine wp_region_held_drew (S := (fun W => W.cell? ⟨w.heap.size, 0, none⟩ = some (.int .u32 id) ∧ W.cell? ⟨w.heap.size, 1, none⟩ = some (.int .i64 m) ∧ W.cell? ⟨w.heap.size, 2, none⟩ = some (.int .i64 ch) ∧ W.cell? ⟨w.heap.size, 3, none⟩ = some (.int .i64 ro) ∧ W.cell? ⟨w.heap.size, 4, none⟩ = some (.int .i64 lo) ∧ W.cell? ⟨w.heap.size, 5, none⟩ = some (.int .i64 he))) (by kernel_rfl) ?_ (fun hHeld => ?_)
    · exact (B.below ((Below.refl _ _).drew) (Nat.le_refl _)).all
    refine wpAnyH_take (i := 0) (v := ?_) rfl (by kernel_rfl) (by kernel_rfl) (by kernel_rfl) (fun _ _ _ h => h) (Or.inl ⟨by rfl, ?_⟩) hHeld ?_
    rotate_left
    · (intro w hSw; (try dsimp only at hSw); go_simp; try with_reducible rfl)
    try simp only [Act.put, List.getElem_toArray, List.getElem_cons_zero, List.setIfInBounds_toArray, List.set_cons_zero, List.set_cons_succ]
    refine wpAnyH_take (i := 1) (v := ?_) rfl (by kernel_rfl) (by kernel_rfl) (by kernel_rfl) (fun _ _ _ h => h) (Or.inl ⟨by rfl, ?_⟩) hHeld ?_
    rotate_left
    · (intro w hSw; (try dsimp only at hSw); go_simp; try with_reducible rfl)
    try simp only [Act.put, List.getElem_toArray, List.getElem_cons_zero, List.getElem_cons_succ, List.setIfInBounds_toArray, List.set_cons_zero, List.set_cons_succ]
    refine wpAnyH_take (i := 2) (v := ?_) rfl (by kernel_rfl) (by kernel_rfl) (by kernel_rfl) (fun _ _ _ h => h) (Or.inl ⟨by rfl, ?_⟩) hHeld ?_
    rotate_left
    · (intro w hSw; (try dsimp only at hSw); go_simp; try with_reducible rfl)
    try simp only [Act.put, List.getElem_toArray, List.getElem_cons_zero, List.getElem_cons_succ, List.setIfInBounds_toArray, List.set_cons_zero, List.set_cons_succ]
    refine wpAnyH_take (i := 4) (v := ?_) rfl (by kernel_rfl) (by kernel_rfl) (by kernel_rfl) (fun _ _ _ h => h) (Or.inl ⟨by rfl, ?_⟩) hHeld ?_
    rotate_left
    · (intro w hSw; (try dsimp only at hSw); go_simp; try with_reducible rfl)
    try simp only [Act.put, List.getElem_toArray, List.getElem_cons_zero, List.getElem_cons_succ, List.setIfInBounds_toArray, List.set_cons_zero, List.set_cons_succ]
    refine wpAnyH_take (i := 5) (v := ?_) rfl (by kernel_rfl) (by kernel_rfl) (by kernel_rfl) (fun _ _ _ h => h) (Or.inl ⟨by rfl, ?_⟩) hHeld ?_
    rotate_left
    · (intro w hSw; (try dsimp only at hSw); go_simp; try with_reducible rfl)
    try simp only [Act.put, List.getElem_toArray, List.getElem_cons_zero, List.getElem_cons_succ, List.setIfInBounds_toArray, List.set_cons_zero, List.set_cons_succ]
    refine wpAnyH_take (i := 6) (v := ?_) rfl (by kernel_rfl) (by kernel_rfl) (by kernel_rfl) (fun _ _ _ h => h) (Or.inl ⟨by rfl, ?_⟩) hHeld ?_
    rotate_left
    · (intro w hSw; (try dsimp only at hSw); go_simp; try with_reducible rfl)
    try simp only [Act.put, List.getElem_toArray, List.getElem_cons_zero, List.getElem_cons_succ, List.setIfInBounds_toArray, List.set_cons_zero, List.set_cons_succ]
    refine wpAnyH_ready (rs := [3]) (by kernel_rfl) (by simp) ?_
    refine AllReadyH.cons rfl (fun K hK => ?_) AllReadyH.nil
    go_simp
    refine (cn _).mono ?_
    rintro e w2 ⟨rfl, hb2⟩
    have hb3 := hb.trans (((Below.refl _ _).drew.trans (hb2.mono (by simp))).mono hb.size)
    have B2 := B.below (((Below.refl _ _).drew.trans (hb2.mono (by simp)))) (Nat.le_refl _)
    go_wp2_with fail
    refine hK.out _ _ ?_ (fun hHeld2 => ?_)
    · exact B2.all
    clear hK K hHeld
    have hHeld := hHeld2
    clear hHeld2
    try simp only [Act.put, List.setIfInBounds_toArray, List.set_cons_zero, List.set_cons_succ]
    refine wpAnyH_take (i := 7) (v := ?_) rfl (by kernel_rfl) (by kernel_rfl) (by kernel_rfl) (fun _ _ _ h => h) (Or.inl ⟨by rfl, ?_⟩) hHeld ?_
    rotate_left
    · (intro w hSw; (try dsimp only at hSw); go_simp; try with_reducible rfl)
    try simp only [Act.put, List.getElem_toArray, List.getElem_cons_zero, List.getElem_cons_succ, List.setIfInBounds_toArray, List.set_cons_zero, List.set_cons_succ]
    refine wpAnyH_ready (rs := [8]) (by kernel_rfl) (by simp) ?_
    refine AllReadyH.cons rfl (fun K hK => ?_) AllReadyH.nil
    go_simp
    refine (ci _ _ _ _).mono ?_
    rintro e w3 ⟨rfl, rfl⟩
    go_wp2_with fail
    refine hK.out _ _ ?_ (fun hHeld2 => ?_)
    · exact B2.all
    clear hK K hHeld
    have hHeld := hHeld2
    clear hHeld2
    try simp only [Act.put, List.setIfInBounds_toArray, List.set_cons_zero, List.set_cons_succ]
    refine wpAnyH_take (i := 9) (v := ?_) rfl (by kernel_rfl) (by kernel_rfl) (by kernel_rfl) (fun _ _ _ h => h) (Or.inl ⟨by rfl, ?_⟩) hHeld ?_
    rotate_left
    · (intro w hSw; (try dsimp only at hSw); go_simp; try with_reducible rfl)
    try simp only [Act.put, List.getElem_toArray, List.getElem_cons_zero, List.getElem_cons_succ, List.setIfInBounds_toArray, List.set_cons_zero, List.set_cons_succ]
    refine wpAnyH_done (by kernel_rfl) ?_ _
    go_wp2
    go_ret
    exact ⟨ret_bool (by simpa only [IntWalk.i64_left] using E.out), hb3⟩

end Go.Proofs.Ytdljondmlooeaaa
