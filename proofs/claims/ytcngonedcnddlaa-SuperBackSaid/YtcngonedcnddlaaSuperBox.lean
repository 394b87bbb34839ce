/- Supers as values: opening one that comes in, '=='. -/
import Derived.Test.YtcngonedcnddlaaSuperMath
import Derived.Test.YtcngonedcnddlaaLabelBox
namespace Go.Proofs.Ytcngonedcnddlaa
open Go.RowKit Go.WideShapes Go.ChangeShapes ShapeM LabelM SuperM
set_option linter.unusedVariables false

/-- A super as a value. -/
def supV (s : Sup) : Value := .agg #[.int .u32 s.id, .int .u32 s.age, .int .u32 s.seq, .int .i64 s.tail]
/-- Its cells. -/
def supA (s : Sup) : Array Value := #[.int .u32 s.id, .int .u32 s.age, .int .u32 s.seq, .int .i64 s.tail]
theorem super_size : (Try.prog.info? 28).map (fun i => (i.zero, i.size)) = some (some (.agg #[.int .u32 0, .int .u32 0, .int .u32 0, .int .i64 0]), 4) := by kernel_rfl
theorem open_super {H : Type} {enc : TypeId × Value → H} {P : Program} {w : World} {r : Reach} {base b : Nat} {spare : Nat → Bool} {held : Bool} {t : TypeId} {f0 f1 f2 f3 : Field} {v : Value} {d : DataW H} {p : List MemPlace}
    (ht : P.underlying t = some (.struct #[f0, f1, f2, f3])) (hct : P.cellsOf t = 4)
    (o : f0.offset = 0 ∧ f1.offset = 1 ∧ f2.offset = 2 ∧ f3.offset = 3) (c0 : P.cellsOf f0.type = 1) (c3 : P.cellsOf f3.type = 1)
    (k0 : P.underlying f0.type = some (.int .u32)) (k3 : P.underlying f3.type = some (.int .i64)) (e : f1.type = f0.type ∧ f2.type = f0.type)
    (hv : Value.okWide P w r base t v) (h : DataW.Trod enc P w b spare held t v d p) : ∃ s, v = supV s ∧ WideS s := by
  obtain ⟨cs, rfl, hl, hg⟩ := open_cells ht hv h
  obtain ⟨o0, o1, o2, o3⟩ := o
  obtain ⟨e1, e2⟩ := e
  rw [hct] at hl
  match cs, hl with
  | [x0, x1, x2, x3], _ =>
    have one : ∀ (j : Nat) (f : Field) (u : Value) (k : IntKind), #[f0, f1, f2, f3][j]? = some f → P.cellsOf f.type = 1 → P.underlying f.type = some (.int k) → [x0, x1, x2, x3][f.offset]? = some u → ∃ z, u = .int k z ∧ (Lit.int k z).wf = true := by
      intro j f u k hj hc hk hu
      obtain ⟨n, y, hy⟩ := hg j f hj hc u hu
      obtain ⟨z, ez, _, wz⟩ := DataW.trod_int hk hy
      simp only [List.cons.injEq, and_true] at ez
      exact ⟨z, ez, wz⟩
    obtain ⟨z0, rfl, w0⟩ := one 0 f0 x0 _ rfl c0 k0 (by rw [o0]; rfl)
    obtain ⟨z1, rfl, w1⟩ := one 1 f1 x1 _ rfl (by rw [e1]; exact c0) (by rw [e1]; exact k0) (by rw [o1]; rfl)
    obtain ⟨z2, rfl, w2⟩ := one 2 f2 x2 _ rfl (by rw [e2]; exact c0) (by rw [e2]; exact k0) (by rw [o2]; rfl)
    obtain ⟨z3, rfl, w3⟩ := one 3 f3 x3 _ rfl c3 k3 (by rw [o3]; rfl)
    exact ⟨⟨z0, z1, z2, z3⟩, rfl, ⟨w0, w1, w2, w3⟩⟩
set_option maxRecDepth 100000 in
set_option maxHeartbeats 4000000 in
theorem super_in {H : Type} {enc : TypeId × Value → H} {w : World} {r : Reach} {base b : Nat} {spare : Nat → Bool} {held : Bool} {v : Value} {d : DataW H} {p : List MemPlace} (hv : Value.okWide Try.prog w r base 28 v) (h : DataW.Trod enc Try.prog w b spare held 28 v d p) : ∃ s, v = supV s ∧ WideS s :=
  open_super Try.underlying28 (by kernel_rfl) ⟨rfl, rfl, rfl, rfl⟩ (by kernel_rfl) (by kernel_rfl) Try.underlying26 Try.underlying3 ⟨rfl, rfl⟩ hv h

set_option maxRecDepth 100000 in
set_option maxHeartbeats 4000000 in
theorem sup_eql (W : World) (a b c d a2 b2 c2 d2 : Int) : (binOp .eql 28 (.agg #[.int .u32 a, .int .u32 b, .int .u32 c, .int .i64 d]) (.agg #[.int .u32 a2, .int .u32 b2, .int .u32 c2, .int .i64 d2])).run Try.prog W =
    .ok (.bool (decide (a = a2 ∧ b = b2 ∧ c = c2 ∧ d = d2))) W := by
  have hu := Try.underlying28
  have hf : Try.prog.fieldsOf 28 = (match Try.prog.underlying 28 with | some (.struct fs) => fs | _ => #[]) := rfl
  rw [hu] at hf
  dsimp only at hf
  rw [run_eql_struct, run_equalIn_agg _ _ _ _ _ (by rw [hf]; exact hu) (by kernel_rfl), hf]
  have hi := Try.underlying3
  have hj := Try.underlying26
  simp [go_sem, hi, hj]
  clear hu hf hi hj
  by_cases q0 : a = a2
  · by_cases q1 : b = b2
    · by_cases q2 : c = c2
      · by_cases q3 : d = d2
        · simp [q0, q1, q2, q3]
        · simp [q0, q1, q2, q3]
      · simp [q0, q1, q2]
    · simp [q0, q1]
  · simp [q0]
theorem supV_eql (l m : Sup) (t : Bool) (h : t = true ↔ l = m) (W : World) : (binOp .eql 28 (.agg (supA l)) (.agg (supA m))).run Try.prog W = .ok (.bool t) W := by
  unfold supA
  rw [sup_eql]
  congr 2
  rw [Bool.eq_iff_iff, decide_eq_true_iff, h]
  obtain ⟨a0, a1, a2, a3⟩ := l
  obtain ⟨b0, b1, b2, b3⟩ := m
  simp
theorem sup_then_not {r : Result Bool} {d : Bool} {W : World} (h : (r.andThen fun b w' => Result.ok (Value.bool b) w') = .ok (.bool d) W) : (r.andThen fun b w' => Result.ok (Value.bool (!b)) w') = .ok (.bool (!d)) W := by
  cases r with
  | ok b w' =>
    simp only [Result.andThen, Result.ok.injEq, Value.bool.injEq] at h ⊢
    exact ⟨by rw [h.1], h.2⟩
  | halt x w' => simp [Result.andThen] at h
theorem supV_neq (l m : Sup) (t : Bool) (h : t = true ↔ l = m) (W : World) : (binOp .neq 28 (.agg (supA l)) (.agg (supA m))).run Try.prog W = .ok (.bool (!t)) W := by
  have := supV_eql l m t h W
  rw [run_eql_struct] at this
  rw [run_neq_struct]
  exact sup_then_not this
end Go.Proofs.Ytcngonedcnddlaa
