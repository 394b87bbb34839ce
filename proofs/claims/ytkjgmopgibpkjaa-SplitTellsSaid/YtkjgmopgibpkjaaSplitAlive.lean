/- The laws' own helpers of layer 8: four, ask, writes, alive. -/
import Derived.Test.YtkjgmopgibpkjaaSplitOut
namespace Go.Proofs.Ytkjgmopgibpkjaa
open Go.RowKit ShapeM SplitM
set_option linter.unusedVariables false

/-- The chapter's config. -/
def four8 : Cfg := ⟨0, 3, 1, 2, 12, 2⟩
theorem four8_may : MayC four8 := by decide
set_option maxRecDepth 100000 in
theorem four8_calls (w : World) : Calls Try.prog 9 #[] w fun e w' => e = .returned (.agg #[.int .u32 0, .int .i64 3, .int .i64 1, .int .i64 2, .int .i64 12, .int .i64 2]) ∧ Below w.heap.size w w' := by
  go_enter Try.func9, Try.ntmps9
  go_wp2
  exact bodyPost_ret (v := .agg #[.int .u32 0, .int .i64 3, .int .i64 1, .int .i64 2, .int .i64 12, .int .i64 2]) (by simp [results, Try.results9, go_sem]) rfl ⟨rfl, (Below.refl _ _).alloc (Nat.le_refl _) _⟩

set_option maxRecDepth 100000 in
set_option maxHeartbeats 4000000 in
theorem writes8_calls (k : Int) (w : World) : Calls Try.prog 21 #[.int .u8 k] w fun e w' => e = .returned (.bool (kWr k)) ∧ w = w' := by
  rcases kinds k with rfl | rfl | rfl | rfl | rfl | rfl | ⟨k1, k2, k3, k4, k5, k6, q1, q2, q3, q4, q5, q6⟩
  iterate 6
    · go_enter Try.func21, Try.ntmps21
      go_wp2
      go_ret
      exact ⟨rfl, rfl⟩
  · rw [q1]
    go_enter Try.func21, Try.ntmps21
    go_wp2
    go_ret
    exact ⟨rfl, rfl⟩

theorem make_byts (n : Nat) (hn : n ≤ 2000) (W : World) : (Instr.makeSlice 30 (.int .i64 (n : Int)) (.int .i64 (n : Int))).run Try.prog W = .ok (.slice (some ⟨W.heap.size, 0, none⟩) n n) (W.alloc (.cells (madeCells #[.int .u8 0] n) 5)) :=
  run_make_row' (P := Try.prog) 30 5 (.int .u8 0) 1 Try.underlying30 (by kernel_rfl) rfl .i64 .i64 n (by omega) (by omega) W
theorem bytB (k : Int) : ((k == 2) = true ∧ kBytB k = true) ∨ ((k == 2) = false ∧ (k == 3) = true ∧ kBytB k = true) ∨ ((k == 2) = false ∧ (k == 3) = false ∧ kBytB k = false) := by
  unfold kBytB
  cases k == 2 <;> cases k == 3 <;> simp
theorem byt_b (k : Int) : kByt k = if kBytB k then 128 else 0 := by
  unfold kByt kBytB
  by_cases h2 : k = 2
  · subst h2; rfl
  · by_cases h3 : k = 3
    · subst h3; rfl
    · rw [if_neg (by omega), show (k == 2) = false by simpa using h2, show (k == 3) = false by simpa using h3]; rfl
/-- How many bytes a request of this kind has to have. -/
def lenA (k : Int) (M : Nat) : Nat := if kBytB k then 128 * M else 0
theorem lenA_is (k : Int) (M : Nat) : ((lenA k M : Nat) : Int) = (M : Int) * kByt k := by
  rw [byt_b]
  unfold lenA
  cases kBytB k
  · rw [if_neg (by decide), if_neg (by decide)]; omega
  · rw [if_pos rfl, if_pos rfl]; omega

set_option maxRecDepth 100000 in
set_option maxHeartbeats 4000000 in
theorem ask8_calls (k a : Int) (M : Nat) (hM : M ≤ 9) (w : World) : Calls Try.prog 11 #[.int .u8 k, .int .i64 a, .int .i64 (M : Nat)] w fun e w' => ∃ A' c', e = .returned (askV k a M A' (lenA k M) c') ∧ Below w.heap.size w w' := by
  obtain ⟨q, hq⟩ : ∃ q : Nat, (128 : Int) * (M : Int) = q := ⟨128 * M, by omega⟩
  have eq : 128 * M = q := by omega
  have hmk := make_byts q (by omega)
  unfold askV lenA
  rw [eq]
  clear eq
  rcases bytB k with ⟨k1, E⟩ | ⟨k1, k2, E⟩ | ⟨k1, k2, E⟩
  iterate 2
    · rw [E, if_pos rfl]
      go_enter Try.func11, Try.ntmps11
      go_wp2
      exact bodyPost_ret (v := .agg #[.int .u8 k, .int .i64 a, .int .i64 (M : Nat), .slice (some ⟨w.heap.size + 1 + 1, 0, none⟩) q q]) (by simp [results, Try.results11, go_sem]) rfl ⟨_, _, rfl, by repeat first | exact Below.refl _ _ | refine Below.setCell ?_ (by simp) _ | refine Below.alloc ?_ (by first | (simp; done) | (simp; omega)) _⟩
  · rw [E, if_neg (by decide)]
    go_enter Try.func11, Try.ntmps11
    go_wp2
    exact bodyPost_ret (v := .agg #[.int .u8 k, .int .i64 a, .int .i64 (M : Nat), .slice none 0 0]) (by simp [results, Try.results11, go_sem]) rfl ⟨_, _, rfl, by repeat first | exact Below.refl _ _ | refine Below.setCell ?_ (by simp) _ | refine Below.alloc ?_ (by first | (simp; done) | (simp; omega)) _⟩

set_option maxRecDepth 100000 in
set_option maxHeartbeats 4000000 in
theorem two_at {w : World} {A : Option Addr} {x y : Int} (h : Ints .i64 w A 2 [x, y]) : ∃ b off, A = some ⟨b, off, none⟩ ∧ w.cell? ⟨b, off, none⟩ = some (.int .i64 x) ∧ w.cell? ⟨b, off + 1, none⟩ = some (.int .i64 y) := by
  rcases h.row with q | ⟨b, off, e, _, hc⟩
  · omega
  · exact ⟨b, off, e, hc 0 (by omega), hc 1 (by omega)⟩
set_option maxRecDepth 100000 in
set_option maxHeartbeats 4000000 in
theorem alive8_calls (w : World) : Calls Try.prog 14 #[] w fun e w' => e = .returned (.bool true) ∧ Below w.heap.size w w' := by
  have hb := Below.refl w.heap.size w
  have c4 := fun W => four8_calls W
  have ca := fun W => ask8_calls 1 1 2 (by omega) W
  have cb := fun A cp W => splitBlocks four8 1 1 2 (by omega) A (lenA 1 2) cp W
  rw [show chkA four8 1 1 2 (lenA 1 2) = 0 from by decide, show blkL 0 1 2 = [1, 2] from by decide, show ([1, 2] : List Int).length = 2 from rfl] at cb
  rw [show lenA 1 2 = 0 from by decide] at ca cb
  unfold cfgV askV four8 at *
  dsimp only at *
  go_enter Try.func14, Try.ntmps14
  go_wp2_with (first
    | (go_at_call 9; refine (c4 _).mono ?_; rintro e w2 ⟨rfl, hb2⟩; replace hb := hb.trans (hb2.mono hb.size); clear hb2)
    | (go_at_call 11; refine (ca _).mono ?_; rintro e w3 ⟨A0, cp0, rfl, hb2⟩; replace hb := hb.trans (hb2.mono hb.size); clear hb2)
    | (go_at_call 10; refine (cb _ _ _).mono ?_; rintro e w4 ⟨A1, cp1, rfl, I1, hb2⟩; replace hb := hb.trans (hb2.mono hb.size); clear hb2; obtain ⟨b1, o1, rfl, x0, x1⟩ := two_at I1))
  go_ret
  exact ⟨rfl, hb⟩
end Go.Proofs.Ytkjgmopgibpkjaa