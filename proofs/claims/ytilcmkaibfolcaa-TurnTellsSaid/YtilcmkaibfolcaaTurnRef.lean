/- The walks of the reference of layer 7. -/
import Derived.Test.YtilcmkaibfolcaaTurnTold
import Derived.Test.YtilcmkaibfolcaaShapeRef
import Derived.BigQuiet
namespace Go.Proofs.Ytilcmkaibfolcaa
open Go.RowKit ShapeM TurnM
set_option linter.unusedVariables false

set_option maxRecDepth 100000 in
set_option maxHeartbeats 2000000 in
theorem asked_ref (c : Cfg) (a A b D : Int) (w : World) : Calls Try.prog 29 #[cfgV c, .int .i64 a, .int .i64 A, .int .i64 b, .int .i64 D] w fun e w' => e = .returned (.int .i64 (okE c (amongB a A && amongB b D))) ∧ Below w.heap.size w w' := by
  have km := fun W => may_ref c W
  have hx : (decide (MayC c) = false ∧ Hid (okE c (amongB a A && amongB b D) = 8)) ∨ (decide (MayC c) = true ∧ a < 0 ∧ Hid (okE c (amongB a A && amongB b D) = 2)) ∨ (decide (MayC c) = true ∧ 0 ≤ a ∧ A ≤ a ∧ Hid (okE c (amongB a A && amongB b D) = 2)) ∨ (decide (MayC c) = true ∧ 0 ≤ a ∧ a < A ∧ b < 0 ∧ Hid (okE c (amongB a A && amongB b D) = 2)) ∨ (decide (MayC c) = true ∧ 0 ≤ a ∧ a < A ∧ 0 ≤ b ∧ D ≤ b ∧ Hid (okE c (amongB a A && amongB b D) = 2)) ∨ (decide (MayC c) = true ∧ 0 ≤ a ∧ a < A ∧ 0 ≤ b ∧ b < D ∧ Hid (okE c (amongB a A && amongB b D) = 0)) := by
    by_cases h : MayC c
    · have d := decide_eq_true h
      by_cases q1 : a < 0
      · exact .inr (.inl ⟨d, q1, by refine Lib.hid ?_; rw [show amongB a A = false from decide_eq_false (by omega), Bool.false_and, okE_arg h]⟩)
      by_cases q2 : A ≤ a
      · exact .inr (.inr (.inl ⟨d, by omega, q2, by refine Lib.hid ?_; rw [show amongB a A = false from decide_eq_false (by omega), Bool.false_and, okE_arg h]⟩))
      by_cases q3 : b < 0
      · exact .inr (.inr (.inr (.inl ⟨d, by omega, by omega, q3, by refine Lib.hid ?_; rw [show amongB b D = false from decide_eq_false (by omega), Bool.and_false, okE_arg h]⟩)))
      by_cases q4 : D ≤ b
      · exact .inr (.inr (.inr (.inr (.inl ⟨d, by omega, by omega, by omega, q4, by refine Lib.hid ?_; rw [show amongB b D = false from decide_eq_false (by omega), Bool.and_false, okE_arg h]⟩))))
      · exact .inr (.inr (.inr (.inr (.inr ⟨d, by omega, by omega, by omega, by omega, by refine Lib.hid ?_; rw [show amongB a A = true from decide_eq_true (by omega), show amongB b D = true from decide_eq_true (by omega), Bool.and_true, okE_ok h]⟩))))
    · exact .inl ⟨decide_eq_false h, Lib.hid (okE_no h _)⟩
  generalize okE c (amongB a A && amongB b D) = r at *
  generalize decide (MayC c) = y at *
  obtain ⟨id, m, ch, ro, lo, he⟩ := c
  unfold cfgV at *
  dsimp only at *
  have B := Box6.new w (.int .u32 id) (.int .i64 m) (.int .i64 ch) (.int .i64 ro) (.int .i64 lo) (.int .i64 he) 27
  have hb : Below w.heap.size w (w.alloc (.cells #[.int .u32 id, .int .i64 m, .int .i64 ch, .int .i64 ro, .int .i64 lo, .int .i64 he] 27 (0, 0))) := (Below.refl _ _).alloc (Nat.le_refl _) _
  obtain ⟨c0, c1, c2, c3, c4, c5⟩ := B.all
  rcases hx with ⟨g1, E⟩ | ⟨g1, g2, E⟩ | ⟨g1, g2, g3, E⟩ | ⟨g1, g2, g3, g4, E⟩ | ⟨g1, g2, g3, g4, g5, E⟩ | ⟨g1, g2, g3, g4, g5, E⟩
  all_goals
    subst g1
    go_enter Try.func29, Try.ntmps29
    go_wp2_with (refine (km _).mono ?_; rintro e w2 ⟨rfl, hb2⟩; replace hb := hb.trans (hb2.mono hb.size); clear c0 c1 c2 c3 c4 c5; replace B := B.below hb2 (Nat.le_refl _); obtain ⟨c0, c1, c2, c3, c4, c5⟩ := B.all; clear hb2)
    go_ret
    exact ⟨ret_int E.out.symm, hb⟩

theorem at_sum {N K s k : Nat} (hN0 : 3 ≤ N) (hN : N < 17) (hK : 1 ≤ K) (hK2 : K < 9) (hs : s < 64) (hk : k < 17) : wrap64 (wrap64 (wrap64 (wrap64 (wrap64 ((s : Int) / (K : Int)) * ((N : Int) - 1)) + (k : Int)) * (K : Int)) + (s : Int) % (K : Int)) = (blk N K s k : Nat) := by
  have q1 : s / K < 64 := Nat.lt_of_le_of_lt (Nat.div_le_self _ _) hs
  have q2 : s % K < K := Nat.mod_lt _ (by omega)
  rw [show ((s : Int) / (K : Int)) = ((s / K : Nat) : Int) by simp, show ((s : Int) % (K : Int)) = ((s % K : Nat) : Int) by simp, show ((N : Int) - 1) = ((N - 1 : Nat) : Int) by omega]
  unfold blk
  generalize s / K = r at *
  generalize s % K = l at *
  generalize hS : N - 1 = S at *
  have q3 : r * S ≤ 63 * 15 := Nat.mul_le_mul (by omega) (by omega)
  have q4 : (r * S + k) * K ≤ 1000 * 8 := Nat.mul_le_mul (by omega) (by omega)
  rw [wrap64_in (n := (r : Int)) (by omega) (by omega), ← Int.natCast_mul, wrap64_in (n := ((r * S : Nat) : Int)) (by omega) (by omega), ← Int.natCast_add, wrap64_in (n := ((r * S + k : Nat) : Int)) (by omega) (by omega), ← Int.natCast_mul, wrap64_in (n := (((r * S + k) * K : Nat) : Int)) (by omega) (by omega), ← Int.natCast_add]
  exact wrap64_in (by omega) (by omega)
theorem on_sum {N K s k : Nat} (hN0 : 3 ≤ N) (hN : N < 17) (hK : 1 ≤ K) (hK2 : K < 9) (hs : s < 64) (hk : k < 17) : (wrap64 (wrap64 (wrap64 ((s : Int) / (K : Int)) * ((N : Int) - 1)) + (k : Int))).tmod (N : Int) = ((s / K * (N - 1) + k) % N : Nat) := by
  have q1 : s / K < 64 := Nat.lt_of_le_of_lt (Nat.div_le_self _ _) hs
  rw [show ((s : Int) / (K : Int)) = ((s / K : Nat) : Int) by simp, show ((N : Int) - 1) = ((N - 1 : Nat) : Int) by omega]
  generalize s / K = r at *
  generalize hS : N - 1 = S at *
  have q3 : r * S ≤ 63 * 15 := Nat.mul_le_mul (by omega) (by omega)
  rw [wrap64_in (n := (r : Int)) (by omega) (by omega), ← Int.natCast_mul, wrap64_in (n := ((r * S : Nat) : Int)) (by omega) (by omega), ← Int.natCast_add, wrap64_in (n := ((r * S + k : Nat) : Int)) (by omega) (by omega)]
  rfl
set_option maxRecDepth 100000 in
set_option maxHeartbeats 2000000 in
theorem at_ref (id ro lo he : Int) (N K : Nat) (hN0 : 3 ≤ N) (hN : N < 17) (hK : 1 ≤ K) (hK2 : K < 9) (s : Nat) (hs : s < 64) (k : Nat) (hk : k < 17) (w : World) : Calls Try.prog 32 #[.agg #[.int .u32 id, .int .i64 N, .int .i64 K, .int .i64 ro, .int .i64 lo, .int .i64 he], .int .i64 s, .int .i64 k] w fun e w' => e = .returned (.int .i64 (blk N K s k : Nat)) ∧ Below w.heap.size w w' := by
  have E := Lib.hid (at_sum hN0 hN hK hK2 hs hk)
  generalize blk N K s k = r at *
  have B := Box6.new w (.int .u32 id) (.int .i64 N) (.int .i64 K) (.int .i64 ro) (.int .i64 lo) (.int .i64 he) 27
  have hb : Below w.heap.size w (w.alloc (.cells #[.int .u32 id, .int .i64 N, .int .i64 K, .int .i64 ro, .int .i64 lo, .int .i64 he] 27 (0, 0))) := (Below.refl _ _).alloc (Nat.le_refl _) _
  obtain ⟨c0, c1, c2, c3, c4, c5⟩ := B.all
  go_enter Try.func32, Try.ntmps32
  go_wp2
  go_quiet (fail)
  go_wp2
  go_ret
  exact ⟨ret_int E.out, below_drewN hb _⟩

set_option maxRecDepth 100000 in
set_option maxHeartbeats 2000000 in
theorem on_lt (id ro lo he : Int) (N K : Nat) (hN0 : 3 ≤ N) (hN : N < 17) (hK : 1 ≤ K) (hK2 : K < 9) (s : Nat) (hs : s < 64) (k : Nat) (hk : k < N - 1) (w : World) : Calls Try.prog 33 #[.agg #[.int .u32 id, .int .i64 N, .int .i64 K, .int .i64 ro, .int .i64 lo, .int .i64 he], .int .i64 s, .int .i64 k] w fun e w' => e = .returned (.int .i64 ((s / K * (N - 1) + k) % N : Nat)) ∧ Below w.heap.size w w' := by
  have E := Lib.hid (on_sum hN0 hN hK hK2 hs (k := k) (by omega))
  generalize (s / K * (N - 1) + k) % N = r at *
  have B := Box6.new w (.int .u32 id) (.int .i64 N) (.int .i64 K) (.int .i64 ro) (.int .i64 lo) (.int .i64 he) 27
  have hb : Below w.heap.size w (w.alloc (.cells #[.int .u32 id, .int .i64 N, .int .i64 K, .int .i64 ro, .int .i64 lo, .int .i64 he] 27 (0, 0))) := (Below.refl _ _).alloc (Nat.le_refl _) _
  obtain ⟨c0, c1, c2, c3, c4, c5⟩ := B.all
  go_enter Try.func33, Try.ntmps33
  go_wp2_with fail
  go_ret
  exact ⟨ret_int E.out, hb⟩
set_option maxRecDepth 100000 in
set_option maxHeartbeats 2000000 in
theorem on_par (id ro lo he : Int) (N K : Nat) (hN0 : 3 ≤ N) (hN : N < 17) (hK : 1 ≤ K) (hK2 : K < 9) (s : Nat) (hs : s < 64) (R : Nat) (hR : 1 ≤ R) (hR2 : R < 9) (hs2 : s < K * R) (w : World) : Calls Try.prog 33 #[.agg #[.int .u32 id, .int .i64 N, .int .i64 K, .int .i64 ro, .int .i64 lo, .int .i64 he], .int .i64 s, .int .i64 (N - 1 : Nat)] w fun e w' => e = .returned (.int .i64 (par N K s : Nat)) ∧ Below w.heap.size w w' := by
  have ho := fun k hk W => on_lt id ro lo he N K hN0 hN hK hK2 s hs k hk W
  have E := Lib.hid (sum_par ⟨hN0, hN, hK, hK2, hR, hR2⟩ hs2)
  have S1 : ∀ j, sumOn N (s / K) (j + 1) = sumOn N (s / K) j + (s / K * (N - 1) + j) % N := fun _ => rfl
  have S0 : sumOn N (s / K) 0 = 0 := rfl
  have bd : ∀ j, (s / K * (N - 1) + j) % N < 17 := fun j => Nat.lt_trans (Nat.mod_lt _ (by omega)) hN
  generalize sumOn N (s / K) = f at *
  obtain ⟨g, hg⟩ : ∃ g : Nat → Nat, ∀ k, (s / K * (N - 1) + k) % N = g k := ⟨_, fun _ => rfl⟩
  simp only [hg] at ho S1 bd
  clear hg
  generalize par N K s = r at *
  have hf := Lib.hid (fun j => (show f j ≤ 17 * j by induction j with | zero => omega | succ j ih => have := S1 j; have := bd j; omega))
  replace S1 := Lib.hid S1
  replace bd := Lib.hid bd
  have hNS : N * (N - 1) ≤ 16 * 15 := Nat.mul_le_mul (by omega) (by omega)
  have hSN : (N : Int) - 1 = ((N - 1 : Nat) : Int) := by omega
  generalize N - 1 = S at *
  have B := Box6.new w (.int .u32 id) (.int .i64 N) (.int .i64 K) (.int .i64 ro) (.int .i64 lo) (.int .i64 he) 27
  have hb : Below w.heap.size w (w.alloc (.cells #[.int .u32 id, .int .i64 N, .int .i64 K, .int .i64 ro, .int .i64 lo, .int .i64 he] 27 (0, 0))) := (Below.refl _ _).alloc (Nat.le_refl _) _
  obtain ⟨c0, c1, c2, c3, c4, c5⟩ := B.all
  go_enter Try.func33, Try.ntmps33
  go_wp2_with fail
  go_loopw [8, 9] (fun u i wr => ∃ j : Nat, j ≤ S ∧ i = .int .i64 j ∧ u = .int .i64 (f j) ∧ Below w.heap.size w wr ∧ Box6 wr w.heap.size (.int .u32 id) (.int .i64 N) (.int .i64 K) (.int .i64 ro) (.int .i64 lo) (.int .i64 he)) (fun _ i _ => N - (intOf i).toNat)
  case atStart => exact ⟨0, by omega, rfl, by rw [S0]; rfl, hb, B⟩
  case round =>
    obtain ⟨j, hj, rfl, rfl, hbj, Bj⟩ := hrel
    clear c0 c1 c2 c3 c4 c5 B hb
    obtain ⟨c0, c1, c2, c3, c4, c5⟩ := Bj.all
    have h1 := hf.out j
    by_cases hlt : j < S
    · have h2 := bd.out j
      go_wp2_with (refine (ho j hlt _).mono ?_; rintro e w2 ⟨rfl, hb2⟩; replace hbj := hbj.trans (hb2.mono hbj.size); clear c0 c1 c2 c3 c4 c5; replace Bj := Bj.below hb2 (Nat.le_refl _))
      go_roundw
      case rel => exact ⟨j + 1, by omega, by go_num, by rw [S1.out]; go_num, hbj, Bj⟩
      case measure => simp [intOf]; omega
    · obtain rfl : j = S := by omega
      go_wp2_with fail
      go_ret
      exact ⟨ret_int (by have := E.out; omega), hbj⟩

theorem on_ref (id ro lo he : Int) (N K : Nat) (hN0 : 3 ≤ N) (hN : N < 17) (hK : 1 ≤ K) (hK2 : K < 9) (s : Nat) (hs : s < 64) (R : Nat) (hR : 1 ≤ R) (hR2 : R < 9) (hs2 : s < K * R) (k : Nat) (hk : k < N) (w : World) : Calls Try.prog 33 #[.agg #[.int .u32 id, .int .i64 N, .int .i64 K, .int .i64 ro, .int .i64 lo, .int .i64 he], .int .i64 s, .int .i64 k] w fun e w' => e = .returned (.int .i64 (mem N K s k : Nat)) ∧ Below w.heap.size w w' := by
  have M : May3 N K R := ⟨hN0, hN, hK, hK2, hR, hR2⟩
  by_cases h : k < N - 1
  · rw [mem_on M hs2 h]
    exact on_lt id ro lo he N K hN0 hN hK hK2 s hs k h w
  · obtain rfl : k = N - 1 := by omega
    rw [mem_par M hs2]
    exact on_par id ro lo he N K hN0 hN hK hK2 s hs R hR hR2 hs2 w

set_option maxRecDepth 100000 in
set_option maxHeartbeats 2000000 in
theorem in_ref7 (id ro lo he : Int) (N K : Nat) (hN0 : 3 ≤ N) (hN : N < 17) (hK : 1 ≤ K) (hK2 : K < 9) (s : Nat) (hs : s < 64) (R : Nat) (hR : 1 ≤ R) (hR2 : R < 9) (hs2 : s < K * R) (m : Nat) (hm : m < N) (w : World) : Calls Try.prog 35 #[.agg #[.int .u32 id, .int .i64 N, .int .i64 K, .int .i64 ro, .int .i64 lo, .int .i64 he], .int .i64 s, .int .i64 m] w fun e w' => e = .returned (.int .i64 (slot N K s m : Nat)) ∧ Below w.heap.size w w' := by
  have M : May3 N K R := ⟨hN0, hN, hK, hK2, hR, hR2⟩
  have ho := fun k hk W => on_ref id ro lo he N K hN0 hN hK hK2 s hs R hR hR2 hs2 k hk W
  have hme : Hid (∀ k, k < N → mem N K s k = m → slot N K s m = k) := Lib.hid (fun k hk e => by rw [← e]; exact slot_mem M hs2 hk)
  have hle := slot_lt M s m
  have hms : Hid (mem N K s (slot N K s m) = m) := mem_slot M hs2 hm
  clear M
  obtain ⟨g, hg⟩ : ∃ g : Nat → Nat, ∀ k, mem N K s k = g k := ⟨_, fun _ => rfl⟩
  simp only [hg] at ho hme hms
  clear hg
  generalize slot N K s m = r at *
  have hSN : (N : Int) - 1 = ((N - 1 : Nat) : Int) := by omega
  have hS1 : N - 1 + 1 = N := by omega
  generalize N - 1 = S at *
  replace hS1 := Lib.hid hS1
  have B := Box6.new w (.int .u32 id) (.int .i64 N) (.int .i64 K) (.int .i64 ro) (.int .i64 lo) (.int .i64 he) 27
  have hb : Below w.heap.size w (w.alloc (.cells #[.int .u32 id, .int .i64 N, .int .i64 K, .int .i64 ro, .int .i64 lo, .int .i64 he] 27 (0, 0))) := (Below.refl _ _).alloc (Nat.le_refl _) _
  obtain ⟨c0, c1, c2, c3, c4, c5⟩ := B.all
  go_enter Try.func35, Try.ntmps35
  go_wp2_with fail
  go_loopw [7] (fun i wr => ∃ j : Nat, j ≤ S ∧ j ≤ r ∧ i = .int .i64 j ∧ Below w.heap.size w wr ∧ Box6 wr w.heap.size (.int .u32 id) (.int .i64 N) (.int .i64 K) (.int .i64 ro) (.int .i64 lo) (.int .i64 he)) (fun i _ => N - (intOf i).toNat)
  case atStart => exact ⟨0, by omega, by omega, rfl, hb, B⟩
  case round =>
    obtain ⟨j, hj, hjr, rfl, hbj, Bj⟩ := hrel
    clear c0 c1 c2 c3 c4 c5 B hb
    obtain ⟨c0, c1, c2, c3, c4, c5⟩ := Bj.all
    have hNS := hS1.out
    by_cases hlt : j < S
    · have hx : (g j = m ∧ Hid (r = j)) ∨ (g j ≠ m ∧ j < r) := by
        by_cases q : g j = m
        · exact .inl ⟨q, hme.out j (by omega) q⟩
        · refine .inr ⟨q, ?_⟩
          rcases Nat.lt_or_ge j r with q2 | q2
          · exact q2
          · exfalso
            have e : j = r := by omega
            rw [e] at q
            exact q hms.out
      rcases hx with ⟨q, E⟩ | ⟨q, q2⟩
      · go_wp2_with (refine (ho j (by omega) _).mono ?_; rintro e w2 ⟨rfl, hb2⟩; replace hbj := hbj.trans (hb2.mono hbj.size); clear c0 c1 c2 c3 c4 c5)
        go_ret
        exact ⟨ret_int (by rw [E.out]), hbj⟩
      · go_wp2_with (refine (ho j (by omega) _).mono ?_; rintro e w2 ⟨rfl, hb2⟩; replace hbj := hbj.trans (hb2.mono hbj.size); clear c0 c1 c2 c3 c4 c5; replace Bj := Bj.below hb2 (Nat.le_refl _))
        go_roundw
        case rel => exact ⟨j + 1, by omega, by omega, by go_num, hbj, Bj⟩
        case measure => simp [intOf]; omega
    · have e : j = S := by omega
      subst e
      have er : r = j := by omega
      go_wp2_with fail
      go_ret
      exact ⟨ret_int (by rw [er]), hbj⟩

end Go.Proofs.Ytilcmkaibfolcaa
