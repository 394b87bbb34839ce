/- Two configs by '=='. -/
import Derived.Test.YtpejbcgnekllkaaCfg
import Derived.Laws.StructEq
namespace Go.Proofs.Ytpejbcgnekllkaa
open Go.RowKit ShapeM

set_option maxRecDepth 100000 in
theorem cfg_eql (W : World) (i m c r l h i' m' c' r' l' h' : Int) : (binOp .eql 24 (.agg #[.int .u32 i, .int .i64 m, .int .i64 c, .int .i64 r, .int .i64 l, .int .i64 h]) (.agg #[.int .u32 i', .int .i64 m', .int .i64 c', .int .i64 r', .int .i64 l', .int .i64 h'])).run Try.prog W =
    .ok (.bool (decide (i = i' ∧ m = m' ∧ c = c' ∧ r = r' ∧ l = l' ∧ h = h'))) W := by
  have hu := Try.underlying24
  have hf : Try.prog.fieldsOf 24 = (match Try.prog.underlying 24 with | some (.struct fs) => fs | _ => #[]) := rfl
  rw [hu] at hf
  dsimp only at hf
  rw [run_eql_struct, run_equalIn_agg _ _ _ _ _ (by rw [hf]; exact hu) (by kernel_rfl), hf]
  have hi := Try.underlying3
  have hj := Try.underlying22
  simp [go_sem, hi, hj]
  clear hu hf hi hj
  by_cases q0 : i = i'
  · by_cases q1 : m = m'
    · by_cases q2 : c = c'
      · by_cases q3 : r = r'
        · by_cases q4 : l = l'
          · by_cases q5 : h = h' <;> simp [q0, q1, q2, q3, q4, q5]
          · simp [q0, q1, q2, q3, q4]
        · simp [q0, q1, q2, q3]
      · simp [q0, q1, q2]
    · simp [q0, q1]
  · simp [q0]
end Go.Proofs.Ytpejbcgnekllkaa
