/- The walks of package turn: parted, among, rowOf, parity, member, slot, block, spot. -/
import Derived.Test.YtilcmkaibfolcaaTurnMath
import Derived.Test.YtilcmkaibfolcaaShapeCheck
import Derived.BigQuiet
namespace Go.Proofs.Ytilcmkaibfolcaa
open Go.RowKit ShapeM TurnM
set_option linter.unusedVariables false

/-- A block of cells at its place. -/
structure CellsAt (w : World) (g : Nat) (xs : List Value) : Prop where
  lt : g < w.heap.size
  at_ : ∀ (i : Nat) (x : Value), xs[i]? = some x → w.cell? ⟨g, i, none⟩ = some x
  fr : ∀ o, w.frozen? ⟨g, o, none⟩ = false
theorem CellsAt.new (w : World) (xs : List Value) (t : TypeId) : CellsAt (w.alloc (.cells xs.toArray t (0, 0))) w.heap.size xs := by
  have hg : (w.alloc (.cells xs.toArray t (0, 0))).heap[w.heap.size]? = some (.cells xs.toArray t (0, 0)) := heap_alloc_new _ _
  exact ⟨by simp, fun i x hx => cell_of_row _ _ _ _ _ _ hg |>.trans (by simpa using hx), fun _ => frozen_of_row _ _ _ _ _ hg⟩
theorem CellsAt.below {w w' : World} {g : Nat} {xs : List Value} {B : Nat} (h : CellsAt w g xs) (hb : Below B w w') (hB : w.heap.size ≤ B) : CellsAt w' g xs := by
  have q := Nat.lt_of_lt_of_le h.lt hB
  exact ⟨Nat.lt_of_lt_of_le h.lt hb.size, fun i x hx => by rw [hb.cell (p := ⟨g, i, none⟩) q, h.at_ i x hx], fun o => by rw [hb.frozen (p := ⟨g, o, none⟩) q, h.fr]⟩

/-- The rows of an array as a value. -/
def rowsV (N K : Nat) : Value := .agg #[.int .i64 K, .int .i64 (N - 1 : Nat), .int .i64 N]
/-- An array as a value. -/
def arrV (N K R : Nat) : Value := .agg #[.int .i64 K, .int .i64 (N - 1 : Nat), .int .i64 N, .int .i64 ((N - 1) * (K * R) : Nat), .int .i64 (K * R : Nat)]

set_option maxRecDepth 100000 in
theorem parted_calls (n q : Nat) (hn : n ≤ 1000000) (hq : 1 ≤ q) (hq2 : q ≤ 1000) (w : World) : Calls Try.prog 41 #[.int .i64 n, .int .i64 q] w fun e w' => e = .returned (.tuple #[.int .i64 (n / q : Nat), .int .i64 (n % q : Nat)]) ∧ Below w.heap.size w w' := by
  go_enter Try.func41, Try.ntmps41
  go_wp2
  go_quiet (fail)
  go_wp2
  go_ret2
  have h1 := Nat.div_le_self n q
  have e : wrap64 ((n : Int) / q) = ((n / q : Nat) : Int) := by
    have e0 : ((n : Int) / q) = ((n / q : Nat) : Int) := by simp
    rw [e0]
    generalize n / q = x at h1
    exact wrap64_in (by omega) (by omega)
  have e2 : ((n : Int) % q) = ((n % q : Nat) : Int) := by simp
  exact ⟨ret_pair e e2, below_drewN (Below.refl _ _) _⟩

theorem CellsAt.all3 {w : World} {g : Nat} {x0 x1 x2 : Value} (h : CellsAt w g [x0, x1, x2]) : w.cell? ⟨g, 0, none⟩ = some x0 ∧ w.cell? ⟨g, 1, none⟩ = some x1 ∧ w.cell? ⟨g, 2, none⟩ = some x2 :=
  ⟨h.at_ 0 _ rfl, h.at_ 1 _ rfl, h.at_ 2 _ rfl⟩
theorem CellsAt.all5 {w : World} {g : Nat} {x0 x1 x2 x3 x4 : Value} (h : CellsAt w g [x0, x1, x2, x3, x4]) : w.cell? ⟨g, 0, none⟩ = some x0 ∧ w.cell? ⟨g, 1, none⟩ = some x1 ∧ w.cell? ⟨g, 2, none⟩ = some x2 ∧ w.cell? ⟨g, 3, none⟩ = some x3 ∧ w.cell? ⟨g, 4, none⟩ = some x4 :=
  ⟨h.at_ 0 _ rfl, h.at_ 1 _ rfl, h.at_ 2 _ rfl, h.at_ 3 _ rfl, h.at_ 4 _ rfl⟩

def amongB (n m : Int) : Bool := decide (0 ≤ n ∧ n < m)
theorem among_calls (n m : Int) (w : World) : Calls Try.prog 22 #[.int .i64 n, .int .i64 m] w fun e w' => e = .returned (.bool (amongB n m)) ∧ w = w' := by
  have hx : (n < 0 ∧ Hid (amongB n m = false)) ∨ (0 ≤ n ∧ m ≤ n ∧ Hid (amongB n m = false)) ∨ (0 ≤ n ∧ n < m ∧ Hid (amongB n m = true)) := by
    unfold amongB
    by_cases q0 : n < 0
    · exact .inl ⟨q0, decide_eq_false (by omega)⟩
    · by_cases q1 : n < m
      · exact .inr (.inr ⟨by omega, q1, decide_eq_true (by omega)⟩)
      · exact .inr (.inl ⟨by omega, by omega, decide_eq_false (by omega)⟩)
  rcases hx with ⟨q0, E⟩ | ⟨q0, q1, E⟩ | ⟨q0, q1, E⟩
  all_goals
    rw [E.out]
    clear E
    go_enter Try.func22, Try.ntmps22
    go_wp2
    go_ret
    simp [*]

set_option maxRecDepth 100000 in
set_option maxHeartbeats 4000000 in
theorem rowOf_calls (N K : Nat) (hN : 3 ≤ N) (hN2 : N < 17) (hK : 1 ≤ K) (hK2 : K < 9) (s : Nat) (hs : s ≤ 1000) (w : World) : Calls Try.prog 40 #[rowsV N K, .int .i64 s] w fun e w' => e = .returned (.tuple #[.int .i64 (s / K : Nat), .int .i64 (s % K : Nat)]) ∧ Below w.heap.size w w' := by
  unfold rowsV
  have B := CellsAt.new w [.int .i64 K, .int .i64 (N - 1 : Nat), .int .i64 N] 45
  have hb : Below w.heap.size w (w.alloc (.cells #[.int .i64 K, .int .i64 (N - 1 : Nat), .int .i64 N] 45 (0, 0))) := (Below.refl _ _).alloc (Nat.le_refl _) _
  obtain ⟨c0, c1, c2⟩ := B.all3
  go_enter Try.func40, Try.ntmps40
  go_wp2_with (refine (parted_calls s K (by omega) hK (by omega) _).mono ?_; rintro e w2 ⟨rfl, hb2⟩)
  go_ret2
  exact ⟨rfl, hb.trans (hb2.mono hb.size)⟩

set_option maxRecDepth 100000 in
set_option maxHeartbeats 4000000 in
theorem parity_calls (N K : Nat) (hN : 3 ≤ N) (hN2 : N < 17) (hK : 1 ≤ K) (hK2 : K < 9) (s : Nat) (hs : s ≤ 1000) (w : World) : Calls Try.prog 34 #[rowsV N K, .int .i64 s] w fun e w' => e = .returned (.int .i64 (par N K s : Nat)) ∧ Below w.heap.size w w' := by
  have h1 := fun W => rowOf_calls N K hN hN2 hK hK2 s hs W
  have h2 := fun W => parted_calls (s / K) N (by have := Nat.div_le_self s K; omega) (by omega) (by omega) W
  unfold rowsV at *
  have B := CellsAt.new w [.int .i64 K, .int .i64 (N - 1 : Nat), .int .i64 N] 45
  have hb : Below w.heap.size w (w.alloc (.cells #[.int .i64 K, .int .i64 (N - 1 : Nat), .int .i64 N] 45 (0, 0))) := (Below.refl _ _).alloc (Nat.le_refl _) _
  obtain ⟨c0, c1, c2⟩ := B.all3
  have hd : s / K % N < N := Nat.mod_lt _ (by omega)
  go_enter Try.func34, Try.ntmps34
  go_wp2_with (first
    | (go_at_call 40; refine (h1 _).mono ?_; rintro e w2 ⟨rfl, hb2⟩; replace hb := hb.trans (hb2.mono hb.size); clear c0 c1 c2; replace B := B.below hb2 (Nat.le_refl _); obtain ⟨c0, c1, c2⟩ := B.all3; clear hb2)
    | (go_at_call 41; refine (h2 _).mono ?_; rintro e w2 ⟨rfl, hb2⟩; replace hb := hb.trans (hb2.mono hb.size); clear c0 c1 c2; replace B := B.below hb2 (Nat.le_refl _); obtain ⟨c0, c1, c2⟩ := B.all3; clear hb2))
  go_ret
  have e : ((s : Int) / K % N) = ((s / K % N : Nat) : Int) := by simp
  unfold par
  rw [e]
  generalize s / K % N = d at hd
  exact ⟨ret_int ((wrap64_in (by omega) (by omega)).trans (by omega)), hb⟩

set_option maxRecDepth 100000 in
set_option maxHeartbeats 4000000 in
theorem member_calls (N K : Nat) (hN : 3 ≤ N) (hN2 : N < 17) (hK : 1 ≤ K) (hK2 : K < 9) (s : Nat) (hs : s ≤ 1000) (k : Nat) (hk : k < 17) (w : World) : Calls Try.prog 24 #[rowsV N K, .int .i64 s, .int .i64 k] w fun e w' => e = .returned (.int .i64 (mem N K s k : Nat)) ∧ Below w.heap.size w w' := by
  have hp : par N K s < N := by unfold par; omega
  have h1 := fun W => parity_calls N K hN hN2 hK hK2 s hs W
  have h2 := fun W => parted_calls (par N K s + 1 + k) N (by omega) (by omega) (by omega) W
  have E : Hid (wrap64 (wrap64 ((par N K s : Int) + 1) + k) = ((par N K s + 1 + k : Nat) : Int)) := by
    refine Lib.hid ?_
    rw [wrap64_in (n := (par N K s : Int) + 1) (by omega) (by omega)]
    exact (wrap64_in (by omega) (by omega)).trans (by omega)
  unfold mem
  generalize par N K s + 1 + k = q at *
  generalize par N K s = pr at *
  unfold rowsV at *
  have B := CellsAt.new w [.int .i64 K, .int .i64 (N - 1 : Nat), .int .i64 N] 45
  have hb : Below w.heap.size w (w.alloc (.cells #[.int .i64 K, .int .i64 (N - 1 : Nat), .int .i64 N] 45 (0, 0))) := (Below.refl _ _).alloc (Nat.le_refl _) _
  obtain ⟨c0, c1, c2⟩ := B.all3
  go_enter Try.func24, Try.ntmps24
  go_wp2
  refine wp_region_held_drew (S := (fun W => W.cell? ⟨w.heap.size, 0, none⟩ = some (.int .i64 K) ∧ W.cell? ⟨w.heap.size, 1, none⟩ = some (.int .i64 (N - 1 : Nat)) ∧ W.cell? ⟨w.heap.size, 2, none⟩ = some (.int .i64 N))) (by kernel_rfl) ?_ (fun hHeld => ?_)
  · exact (B.below ((Below.refl _ _).drew) (Nat.le_refl _)).all3
  refine wpAnyH_take (i := 0) (v := ?_) rfl (by kernel_rfl) (by kernel_rfl) (by kernel_rfl) (fun _ _ _ h => h) (Or.inl ⟨by rfl, ?_⟩) hHeld ?_
  rotate_left
  · (intro w hSw; (try dsimp only at hSw); go_simp; try with_reducible rfl)
  try simp only [Act.put, List.getElem_toArray, List.getElem_cons_zero, List.setIfInBounds_toArray, List.set_cons_zero, List.set_cons_succ]
  refine wpAnyH_take (i := 1) (v := ?_) rfl (by kernel_rfl) (by kernel_rfl) (by kernel_rfl) (fun _ _ _ h => h) (Or.inl ⟨by rfl, ?_⟩) hHeld ?_
  rotate_left
  · (intro w hSw; (try dsimp only at hSw); go_simp; try with_reducible rfl)
  try simp only [Act.put, List.getElem_toArray, List.getElem_cons_zero, List.getElem_cons_succ, List.setIfInBounds_toArray, List.set_cons_zero, List.set_cons_succ]
  refine wpAnyH_take (i := 4) (v := ?_) rfl (by kernel_rfl) (by kernel_rfl) (by kernel_rfl) (fun _ _ _ h => h) (Or.inl ⟨by rfl, ?_⟩) hHeld ?_
  rotate_left
  · (intro w hSw; (try dsimp only at hSw); go_simp; try with_reducible rfl)
  try simp only [Act.put, List.getElem_toArray, List.getElem_cons_zero, List.getElem_cons_succ, List.setIfInBounds_toArray, List.set_cons_zero, List.set_cons_succ]
  refine wpAnyH_take (i := 6) (v := ?_) rfl (by kernel_rfl) (by kernel_rfl) (by kernel_rfl) (fun _ _ _ h => h) (Or.inl ⟨by rfl, ?_⟩) hHeld ?_
  rotate_left
  · (intro w hSw; (try dsimp only at hSw); go_simp; try with_reducible rfl)
  try simp only [Act.put, List.getElem_toArray, List.getElem_cons_zero, List.getElem_cons_succ, List.setIfInBounds_toArray, List.set_cons_zero, List.set_cons_succ]
  refine wpAnyH_take (i := 7) (v := ?_) rfl (by kernel_rfl) (by kernel_rfl) (by kernel_rfl) (fun _ _ _ h => h) (Or.inl ⟨by rfl, ?_⟩) hHeld ?_
  rotate_left
  · (intro w hSw; (try dsimp only at hSw); go_simp; try with_reducible rfl)
  try simp only [Act.put, List.getElem_toArray, List.getElem_cons_zero, List.getElem_cons_succ, List.setIfInBounds_toArray, List.set_cons_zero, List.set_cons_succ]
  refine wpAnyH_ready (rs := [2]) (by kernel_rfl) (by simp) ?_
  refine AllReadyH.cons rfl (fun K hK => ?_) AllReadyH.nil
  go_simp
  refine (h1 _).mono ?_
  rintro e v1 ⟨rfl, g1⟩
  have hb1 := hb.trans (((Below.refl _ _).drew.trans (g1.mono (by simp))).mono hb.size)
  have B1 := B.below (((Below.refl _ _).drew.trans (g1.mono (by simp)))) (Nat.le_refl _)
  go_wp2_with fail
  refine hK.out _ _ ?_ (fun hHeld2 => ?_)
  · exact B1.all3
  clear hK K hHeld
  have hHeld := hHeld2
  clear hHeld2
  try simp only [Act.put, List.setIfInBounds_toArray, List.set_cons_zero, List.set_cons_succ]
  refine wpAnyH_take (i := 3) (v := ?_) rfl (by kernel_rfl) (by kernel_rfl) (by kernel_rfl) (fun _ _ _ h => h) (Or.inl ⟨by rfl, ?_⟩) hHeld ?_
  rotate_left
  · (intro w hSw; (try dsimp only at hSw); go_simp; try with_reducible rfl)
  try simp only [Act.put, List.getElem_toArray, List.getElem_cons_zero, List.getElem_cons_succ, List.setIfInBounds_toArray, List.set_cons_zero, List.set_cons_succ]
  refine wpAnyH_take (i := 5) (v := ?_) rfl (by kernel_rfl) (by kernel_rfl) (by kernel_rfl) (fun _ _ _ h => h) (Or.inl ⟨by rfl, ?_⟩) hHeld ?_
  rotate_left
  · (intro w hSw; (try dsimp only at hSw); go_simp; try with_reducible rfl)
  try simp only [Act.put, List.getElem_toArray, List.getElem_cons_zero, List.getElem_cons_succ, List.setIfInBounds_toArray, List.set_cons_zero, List.set_cons_succ]
  refine wpAnyH_ready (rs := [8]) (by kernel_rfl) (by simp) ?_
  refine AllReadyH.cons rfl (fun K hK => ?_) AllReadyH.nil
  go_simp
  try simp only [IntWalk.i64_left, E.out]
  refine (h2 _).mono ?_
  rintro e v2 ⟨rfl, g2⟩
  have hb2 := hb1.trans (g2.mono hb1.size)
  have B2 := B1.below g2 (Nat.le_refl _)
  go_wp2_with fail
  refine hK.out _ _ ?_ (fun hHeld2 => ?_)
  · exact B2.all3
  clear hK K hHeld
  have hHeld := hHeld2
  clear hHeld2
  try simp only [Act.put, List.setIfInBounds_toArray, List.set_cons_zero, List.set_cons_succ]
  refine wpAnyH_take (i := 9) (v := ?_) rfl (by kernel_rfl) (by kernel_rfl) (by kernel_rfl) (fun _ _ _ h => h) (Or.inl ⟨by rfl, ?_⟩) hHeld ?_
  rotate_left
  · (intro w hSw; (try dsimp only at hSw); go_simp; try with_reducible rfl)
  try simp only [Act.put, List.getElem_toArray, List.getElem_cons_zero, List.getElem_cons_succ, List.setIfInBounds_toArray, List.set_cons_zero, List.set_cons_succ]
  refine wpAnyH_take (i := 10) (v := ?_) rfl (by kernel_rfl) (by kernel_rfl) (by kernel_rfl) (fun _ _ _ h => h) (Or.inl ⟨by rfl, ?_⟩) hHeld ?_
  rotate_left
  · (intro w hSw; (try dsimp only at hSw); go_simp; try with_reducible rfl)
  try simp only [Act.put, List.getElem_toArray, List.getElem_cons_zero, List.getElem_cons_succ, List.setIfInBounds_toArray, List.set_cons_zero, List.set_cons_succ]
  refine wpAnyH_take (i := 11) (v := ?_) rfl (by kernel_rfl) (by kernel_rfl) (by kernel_rfl) (fun _ _ _ h => h) (Or.inl ⟨by rfl, ?_⟩) hHeld ?_
  rotate_left
  · (intro w hSw; (try dsimp only at hSw); go_simp; try with_reducible rfl)
  try simp only [Act.put, List.getElem_toArray, List.getElem_cons_zero, List.getElem_cons_succ, List.setIfInBounds_toArray, List.set_cons_zero, List.set_cons_succ]
  refine wpAnyH_take (i := 12) (v := ?_) rfl (by kernel_rfl) (by kernel_rfl) (by kernel_rfl) (fun _ _ _ h => h) (Or.inl ⟨by rfl, ?_⟩) hHeld ?_
  rotate_left
  · (intro w hSw; (try dsimp only at hSw); go_simp; try with_reducible rfl)
  try simp only [Act.put, List.getElem_toArray, List.getElem_cons_zero, List.getElem_cons_succ, List.setIfInBounds_toArray, List.set_cons_zero, List.set_cons_succ]
  refine wpAnyH_take (i := 13) (v := ?_) rfl (by kernel_rfl) (by kernel_rfl) (by kernel_rfl) (fun _ _ _ h => h) (Or.inl ⟨by rfl, ?_⟩) hHeld ?_
  rotate_left
  · (intro w hSw; (try dsimp only at hSw); go_simp; try with_reducible rfl)
  try simp only [Act.put, List.getElem_toArray, List.getElem_cons_zero, List.getElem_cons_succ, List.setIfInBounds_toArray, List.set_cons_zero, List.set_cons_succ]
  refine wpAnyH_done (by kernel_rfl) ?_ _
  go_wp2
  go_ret
  exact ⟨rfl, hb2⟩

set_option maxRecDepth 100000 in
set_option maxHeartbeats 4000000 in
theorem slot_calls (N K : Nat) (hN : 3 ≤ N) (hN2 : N < 17) (hK : 1 ≤ K) (hK2 : K < 9) (s : Nat) (hs : s ≤ 1000) (k : Nat) (hk : k < 17) (w : World) : Calls Try.prog 25 #[rowsV N K, .int .i64 s, .int .i64 k] w fun e w' => e = .returned (.int .i64 (slot N K s k : Nat)) ∧ Below w.heap.size w w' := by
  have hp : par N K s < N := by unfold par; omega
  have h1 := fun W => parity_calls N K hN hN2 hK hK2 s hs W
  have h2 := fun W => parted_calls (k + N - par N K s - 1) N (by omega) (by omega) (by omega) W
  have E : Hid (wrap64 (wrap64 (wrap64 ((k : Int) + N) - par N K s) - 1) = ((k + N - par N K s - 1 : Nat) : Int)) := by
    refine Lib.hid ?_
    rw [wrap64_in (n := (k : Int) + N) (by omega) (by omega), wrap64_in (n := (k : Int) + N - par N K s) (by omega) (by omega)]
    exact (wrap64_in (by omega) (by omega)).trans (by omega)
  unfold slot
  generalize k + N - par N K s - 1 = q at *
  generalize par N K s = pr at *
  unfold rowsV at *
  have B := CellsAt.new w [.int .i64 K, .int .i64 (N - 1 : Nat), .int .i64 N] 45
  have hb : Below w.heap.size w (w.alloc (.cells #[.int .i64 K, .int .i64 (N - 1 : Nat), .int .i64 N] 45 (0, 0))) := (Below.refl _ _).alloc (Nat.le_refl _) _
  obtain ⟨c0, c1, c2⟩ := B.all3
  go_enter Try.func25, Try.ntmps25
  go_wp2
  refine wp_region_held_drew (S := (fun W => W.cell? ⟨w.heap.size, 0, none⟩ = some (.int .i64 K) ∧ W.cell? ⟨w.heap.size, 1, none⟩ = some (.int .i64 (N - 1 : Nat)) ∧ W.cell? ⟨w.heap.size, 2, none⟩ = some (.int .i64 N))) (by kernel_rfl) ?_ (fun hHeld => ?_)
  · exact (B.below ((Below.refl _ _).drew) (Nat.le_refl _)).all3
  refine wpAnyH_take (i := 0) (v := ?_) rfl (by kernel_rfl) (by kernel_rfl) (by kernel_rfl) (fun _ _ _ h => h) (Or.inl ⟨by rfl, ?_⟩) hHeld ?_
  rotate_left
  · (intro w hSw; (try dsimp only at hSw); go_simp; try with_reducible rfl)
  try simp only [Act.put, List.getElem_toArray, List.getElem_cons_zero, List.setIfInBounds_toArray, List.set_cons_zero, List.set_cons_succ]
  refine wpAnyH_take (i := 1) (v := ?_) rfl (by kernel_rfl) (by kernel_rfl) (by kernel_rfl) (fun _ _ _ h => h) (Or.inl ⟨by rfl, ?_⟩) hHeld ?_
  rotate_left
  · (intro w hSw; (try dsimp only at hSw); go_simp; try with_reducible rfl)
  try simp only [Act.put, List.getElem_toArray, List.getElem_cons_zero, List.getElem_cons_succ, List.setIfInBounds_toArray, List.set_cons_zero, List.set_cons_succ]
  refine wpAnyH_take (i := 2) (v := ?_) rfl (by kernel_rfl) (by kernel_rfl) (by kernel_rfl) (fun _ _ _ h => h) (Or.inl ⟨by rfl, ?_⟩) hHeld ?_
  rotate_left
  · (intro w hSw; (try dsimp only at hSw); go_simp; try with_reducible rfl)
  try simp only [Act.put, List.getElem_toArray, List.getElem_cons_zero, List.getElem_cons_succ, List.setIfInBounds_toArray, List.set_cons_zero, List.set_cons_succ]
  refine wpAnyH_take (i := 3) (v := ?_) rfl (by kernel_rfl) (by kernel_rfl) (by kernel_rfl) (fun _ _ _ h => h) (Or.inl ⟨by rfl, ?_⟩) hHeld ?_
  rotate_left
  · (intro w hSw; (try dsimp only at hSw); go_simp; try with_reducible rfl)
  try simp only [Act.put, List.getElem_toArray, List.getElem_cons_zero, List.getElem_cons_succ, List.setIfInBounds_toArray, List.set_cons_zero, List.set_cons_succ]
  refine wpAnyH_take (i := 4) (v := ?_) rfl (by kernel_rfl) (by kernel_rfl) (by kernel_rfl) (fun _ _ _ h => h) (Or.inl ⟨by rfl, ?_⟩) hHeld ?_
  rotate_left
  · (intro w hSw; (try dsimp only at hSw); go_simp; try with_reducible rfl)
  try simp only [Act.put, List.getElem_toArray, List.getElem_cons_zero, List.getElem_cons_succ, List.setIfInBounds_toArray, List.set_cons_zero, List.set_cons_succ]
  refine wpAnyH_take (i := 5) (v := ?_) rfl (by kernel_rfl) (by kernel_rfl) (by kernel_rfl) (fun _ _ _ h => h) (Or.inl ⟨by rfl, ?_⟩) hHeld ?_
  rotate_left
  · (intro w hSw; (try dsimp only at hSw); go_simp; try with_reducible rfl)
  try simp only [Act.put, List.getElem_toArray, List.getElem_cons_zero, List.getElem_cons_succ, List.setIfInBounds_toArray, List.set_cons_zero, List.set_cons_succ]
  refine wpAnyH_take (i := 9) (v := ?_) rfl (by kernel_rfl) (by kernel_rfl) (by kernel_rfl) (fun _ _ _ h => h) (Or.inl ⟨by rfl, ?_⟩) hHeld ?_
  rotate_left
  · (intro w hSw; (try dsimp only at hSw); go_simp; try with_reducible rfl)
  try simp only [Act.put, List.getElem_toArray, List.getElem_cons_zero, List.getElem_cons_succ, List.setIfInBounds_toArray, List.set_cons_zero, List.set_cons_succ]
  refine wpAnyH_take (i := 10) (v := ?_) rfl (by kernel_rfl) (by kernel_rfl) (by kernel_rfl) (fun _ _ _ h => h) (Or.inl ⟨by rfl, ?_⟩) hHeld ?_
  rotate_left
  · (intro w hSw; (try dsimp only at hSw); go_simp; try with_reducible rfl)
  try simp only [Act.put, List.getElem_toArray, List.getElem_cons_zero, List.getElem_cons_succ, List.setIfInBounds_toArray, List.set_cons_zero, List.set_cons_succ]
  refine wpAnyH_ready (rs := [6]) (by kernel_rfl) (by simp) ?_
  refine AllReadyH.cons rfl (fun K hK => ?_) AllReadyH.nil
  go_simp
  refine (h1 _).mono ?_
  rintro e v1 ⟨rfl, g1⟩
  have hb1 := hb.trans (((Below.refl _ _).drew.trans (g1.mono (by simp))).mono hb.size)
  have B1 := B.below (((Below.refl _ _).drew.trans (g1.mono (by simp)))) (Nat.le_refl _)
  go_wp2_with fail
  refine hK.out _ _ ?_ (fun hHeld2 => ?_)
  · exact B1.all3
  clear hK K hHeld
  have hHeld := hHeld2
  clear hHeld2
  try simp only [Act.put, List.setIfInBounds_toArray, List.set_cons_zero, List.set_cons_succ]
  refine wpAnyH_take (i := 7) (v := ?_) rfl (by kernel_rfl) (by kernel_rfl) (by kernel_rfl) (fun _ _ _ h => h) (Or.inl ⟨by rfl, ?_⟩) hHeld ?_
  rotate_left
  · (intro w hSw; (try dsimp only at hSw); go_simp; try with_reducible rfl)
  try simp only [Act.put, List.getElem_toArray, List.getElem_cons_zero, List.getElem_cons_succ, List.setIfInBounds_toArray, List.set_cons_zero, List.set_cons_succ]
  refine wpAnyH_take (i := 8) (v := ?_) rfl (by kernel_rfl) (by kernel_rfl) (by kernel_rfl) (fun _ _ _ h => h) (Or.inl ⟨by rfl, ?_⟩) hHeld ?_
  rotate_left
  · (intro w hSw; (try dsimp only at hSw); go_simp; try with_reducible rfl)
  try simp only [Act.put, List.getElem_toArray, List.getElem_cons_zero, List.getElem_cons_succ, List.setIfInBounds_toArray, List.set_cons_zero, List.set_cons_succ]
  refine wpAnyH_ready (rs := [11]) (by kernel_rfl) (by simp) ?_
  refine AllReadyH.cons rfl (fun K hK => ?_) AllReadyH.nil
  go_simp
  try simp only [IntWalk.i64_left, E.out]
  refine (h2 _).mono ?_
  rintro e v2 ⟨rfl, g2⟩
  have hb2 := hb1.trans (g2.mono hb1.size)
  have B2 := B1.below g2 (Nat.le_refl _)
  go_wp2_with fail
  refine hK.out _ _ ?_ (fun hHeld2 => ?_)
  · exact B2.all3
  clear hK K hHeld
  have hHeld := hHeld2
  clear hHeld2
  try simp only [Act.put, List.setIfInBounds_toArray, List.set_cons_zero, List.set_cons_succ]
  refine wpAnyH_take (i := 12) (v := ?_) rfl (by kernel_rfl) (by kernel_rfl) (by kernel_rfl) (fun _ _ _ h => h) (Or.inl ⟨by rfl, ?_⟩) hHeld ?_
  rotate_left
  · (intro w hSw; (try dsimp only at hSw); go_simp; try with_reducible rfl)
  try simp only [Act.put, List.getElem_toArray, List.getElem_cons_zero, List.getElem_cons_succ, List.setIfInBounds_toArray, List.set_cons_zero, List.set_cons_succ]
  refine wpAnyH_take (i := 13) (v := ?_) rfl (by kernel_rfl) (by kernel_rfl) (by kernel_rfl) (fun _ _ _ h => h) (Or.inl ⟨by rfl, ?_⟩) hHeld ?_
  rotate_left
  · (intro w hSw; (try dsimp only at hSw); go_simp; try with_reducible rfl)
  try simp only [Act.put, List.getElem_toArray, List.getElem_cons_zero, List.getElem_cons_succ, List.setIfInBounds_toArray, List.set_cons_zero, List.set_cons_succ]
  refine wpAnyH_take (i := 14) (v := ?_) rfl (by kernel_rfl) (by kernel_rfl) (by kernel_rfl) (fun _ _ _ h => h) (Or.inl ⟨by rfl, ?_⟩) hHeld ?_
  rotate_left
  · (intro w hSw; (try dsimp only at hSw); go_simp; try with_reducible rfl)
  try simp only [Act.put, List.getElem_toArray, List.getElem_cons_zero, List.getElem_cons_succ, List.setIfInBounds_toArray, List.set_cons_zero, List.set_cons_succ]
  refine wpAnyH_take (i := 15) (v := ?_) rfl (by kernel_rfl) (by kernel_rfl) (by kernel_rfl) (fun _ _ _ h => h) (Or.inl ⟨by rfl, ?_⟩) hHeld ?_
  rotate_left
  · (intro w hSw; (try dsimp only at hSw); go_simp; try with_reducible rfl)
  try simp only [Act.put, List.getElem_toArray, List.getElem_cons_zero, List.getElem_cons_succ, List.setIfInBounds_toArray, List.set_cons_zero, List.set_cons_succ]
  refine wpAnyH_take (i := 16) (v := ?_) rfl (by kernel_rfl) (by kernel_rfl) (by kernel_rfl) (fun _ _ _ h => h) (Or.inl ⟨by rfl, ?_⟩) hHeld ?_
  rotate_left
  · (intro w hSw; (try dsimp only at hSw); go_simp; try with_reducible rfl)
  try simp only [Act.put, List.getElem_toArray, List.getElem_cons_zero, List.getElem_cons_succ, List.setIfInBounds_toArray, List.set_cons_zero, List.set_cons_succ]
  refine wpAnyH_done (by kernel_rfl) ?_ _
  go_wp2
  go_ret
  exact ⟨rfl, hb2⟩

end Go.Proofs.Ytilcmkaibfolcaa
