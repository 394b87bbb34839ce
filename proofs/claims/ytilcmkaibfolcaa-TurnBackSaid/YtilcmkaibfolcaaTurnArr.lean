/- The walks of package turn: an array's block and spot, arrayOf. -/
import Derived.Test.YtilcmkaibfolcaaTurnWalk
namespace Go.Proofs.Ytilcmkaibfolcaa
open Go.RowKit ShapeM TurnM
set_option linter.unusedVariables false

/-- A spot as a value. -/
def spotV (s k m : Int) : Value := .agg #[.int .i64 s, .int .i64 k, .int .i64 m]
/-- An array of any numbers as a value. -/
def arrG (K S N B T : Int) : Value := .agg #[.int .i64 K, .int .i64 S, .int .i64 N, .int .i64 B, .int .i64 T]

set_option maxRecDepth 100000 in
set_option maxHeartbeats 1000000 in
theorem block_calls (N K : Nat) (hN : 3 ≤ N) (hN2 : N < 17) (hK : 1 ≤ K) (hK2 : K < 9) (B0 T0 : Int) (s : Nat) (hs : s < 64) (k : Nat) (hk : k < 17) (w : World) : Calls Try.prog 23 #[arrG K (N - 1 : Nat) N B0 T0, .int .i64 s, .int .i64 k] w fun e w' => e = .returned (.int .i64 (blk N K s k : Nat)) ∧ Below w.heap.size w w' := by
  have h1 := fun W => rowOf_calls N K hN hN2 hK hK2 s (by omega) W
  have q1 : s / K < 64 := Nat.lt_of_le_of_lt (Nat.div_le_self _ _) hs
  have q2 : s % K < K := Nat.mod_lt _ (by omega)
  unfold blk
  unfold rowsV at h1
  unfold arrG
  generalize s / K = r at *
  generalize s % K = l at *
  generalize hS : N - 1 = S at *
  have q3 : r * S ≤ 63 * 15 := Nat.mul_le_mul (by omega) (by omega)
  have q4 : (r * S + k) * K ≤ 1000 * 8 := Nat.mul_le_mul (by omega) (by omega)
  have E : Hid (wrap64 (wrap64 (wrap64 (wrap64 ((r : Int) * S) + k) * K) + l) = (((r * S + k) * K + l : Nat) : Int)) := by
    refine Lib.hid ?_
    rw [← Int.natCast_mul, wrap64_in (n := ((r * S : Nat) : Int)) (by omega) (by omega), ← Int.natCast_add, wrap64_in (n := ((r * S + k : Nat) : Int)) (by omega) (by omega), ← Int.natCast_mul, wrap64_in (n := (((r * S + k) * K : Nat) : Int)) (by omega) (by omega), ← Int.natCast_add]
    exact wrap64_in (by omega) (by omega)
  clear hS q3 q4
  have B := CellsAt.new w [.int .i64 K, .int .i64 S, .int .i64 N, .int .i64 B0, .int .i64 T0] 47
  have hb : Below w.heap.size w (w.alloc (.cells #[.int .i64 K, .int .i64 S, .int .i64 N, .int .i64 B0, .int .i64 T0] 47 (0, 0))) := (Below.refl _ _).alloc (Nat.le_refl _) _
  obtain ⟨c0, c1, c2, c3, c4⟩ := B.all5
  go_enter Try.func23, Try.ntmps23
  go_wp2_with (refine (h1 _).mono ?_; rintro e w2 ⟨rfl, hb2⟩; replace hb := hb.trans (hb2.mono hb.size); clear c0 c1 c2 c3 c4; replace B := B.below hb2 (Nat.le_refl _); obtain ⟨c0, c1, c2, c3, c4⟩ := B.all5; clear hb2)
  go_ret
  exact ⟨ret_int E.out, hb⟩

set_option maxRecDepth 100000 in
set_option maxHeartbeats 1000000 in
theorem spot_calls (N K : Nat) (hN : 3 ≤ N) (hN2 : N < 17) (hK : 1 ≤ K) (hK2 : K < 9) (B0 T0 : Int) (b : Nat) (hb0 : b < 1000) (hs : spS N K b < 64) (w : World) : Calls Try.prog 26 #[arrG K (N - 1 : Nat) N B0 T0, .int .i64 b] w fun e w' => e = .returned (spotV (spS N K b : Nat) (spK N K b : Nat) (mem N K (spS N K b) (spK N K b) : Nat)) ∧ Below w.heap.size w w' := by
  have q0 : b / K < 1000 := Nat.lt_of_le_of_lt (Nat.div_le_self _ _) hb0
  have hk : spK N K b < N - 1 := Nat.mod_lt _ (by omega)
  have h1 := fun W => parted_calls b K (by omega) (by omega) (by omega) W
  have h2 := fun W => parted_calls (b / K) (N - 1) (by omega) (by omega) (by omega) W
  have h3 := fun W => member_calls N K hN hN2 hK hK2 (spS N K b) (by omega) (spK N K b) (by omega) W
  have e1 : spK N K b = b / K % (N - 1) := rfl
  have e2 : spS N K b = b / K / (N - 1) * K + b % K := rfl
  rw [← e1] at h2
  generalize mem N K (spS N K b) (spK N K b) = m at *
  generalize spK N K b = k at *
  generalize spS N K b = s at *
  clear e1
  unfold rowsV at h3
  unfold arrG spotV
  generalize b / K / (N - 1) = r at *
  generalize b / K = j at *
  generalize b % K = l at *
  generalize hS : N - 1 = S at *
  have E : Hid (wrap64 (wrap64 ((r : Int) * K) + l) = (s : Int)) := by
    refine Lib.hid ?_
    rw [e2] at hs ⊢
    rw [← Int.natCast_mul, wrap64_in (n := ((r * K : Nat) : Int)) (by omega) (by omega), ← Int.natCast_add]
    exact wrap64_in (by omega) (by omega)
  clear hS e2 hs
  have B := CellsAt.new w [.int .i64 K, .int .i64 S, .int .i64 N, .int .i64 B0, .int .i64 T0] 47
  have hb : Below w.heap.size w (w.alloc (.cells #[.int .i64 K, .int .i64 S, .int .i64 N, .int .i64 B0, .int .i64 T0] 47 (0, 0))) := (Below.refl _ _).alloc (Nat.le_refl _) _
  have D := CellsAt.new (w.alloc (.cells #[.int .i64 K, .int .i64 S, .int .i64 N, .int .i64 B0, .int .i64 T0] 47 (0, 0))) [.int .i64 0, .int .i64 0, .int .i64 0] 30
  replace B := B.below ((Below.refl _ _).alloc (Nat.le_refl _) (.cells #[.int .i64 0, .int .i64 0, .int .i64 0] 30 (0, 0))) (Nat.le_refl _)
  replace hb := hb.alloc hb.size (.cells #[.int .i64 0, .int .i64 0, .int .i64 0] 30 (0, 0))
  simp only [World.size_alloc] at D
  obtain ⟨c0, c1, c2, c3, c4⟩ := B.all5
  obtain ⟨d0, d1, d2⟩ := D.all3
  have f := D.fr
  go_enter Try.func26, Try.ntmps26
  go_wp2_with fail
  refine (h1 _).mono ?_
  rintro e w2 ⟨rfl, hb2⟩
  replace hb := hb.trans (hb2.mono hb.size)
  clear c0 c1 c2 c3 c4 d0 d1 d2 f
  replace B := B.below hb2 (Nat.le_refl _)
  replace D := D.below hb2 (Nat.le_refl _)
  obtain ⟨c0, c1, c2, c3, c4⟩ := B.all5
  obtain ⟨d0, d1, d2⟩ := D.all3
  have f := D.fr
  have hlt := D.lt
  clear hb2
  go_wp2_with fail
  refine (h2 _).mono ?_
  rintro e w2 ⟨rfl, hb2⟩
  replace hb := hb.trans (hb2.mono hb.size)
  clear c0 c1 c2 c3 c4 d0 d1 d2 f
  replace B := B.below hb2 (Nat.le_refl _)
  replace D := D.below hb2 (Nat.le_refl _)
  obtain ⟨c0, c1, c2, c3, c4⟩ := B.all5
  obtain ⟨d0, d1, d2⟩ := D.all3
  have f := D.fr
  have hlt := D.lt
  clear hb2
  go_wp2_with fail
  simp only [E.out]
  refine (h3 _).mono ?_
  rintro e w2 ⟨rfl, hb2⟩
  replace hb := hb.trans (hb2.mono hb.size)
  clear c0 c1 c2 c3 c4 d0 d1 d2 f
  replace B := B.below hb2 (Nat.le_refl _)
  replace D := D.below hb2 (Nat.le_refl _)
  obtain ⟨c0, c1, c2, c3, c4⟩ := B.all5
  obtain ⟨d0, d1, d2⟩ := D.all3
  have f := D.fr
  have hlt := D.lt
  clear hb2
  go_wp2
  exact bodyPost_ret (v := .agg #[.int .i64 s, .int .i64 k, .int .i64 m]) (by simp [results, Try.results26, go_sem, d0, d1, d2]) rfl ⟨rfl, ((hb.setCell (by simp) _).setCell (by simp) _).setCell (by simp) _⟩

end Go.Proofs.Ytilcmkaibfolcaa
