/- A request as a value: opening one that comes in. -/
import Derived.Test.YtkjgmopgibpkjaaCfg
namespace Go.Proofs.Ytkjgmopgibpkjaa
open Go.RowKit Go.WideShapes Go.ChangeShapes ShapeM
set_option linter.unusedVariables false

/-- A request as a value: kind, place, how many, data. -/
def askV (k a m : Int) (A : Option Addr) (n c : Nat) : Value := .agg #[.int .u8 k, .int .i64 a, .int .i64 m, .slice A n c]

theorem open_ask {H : Type} {enc : TypeId × Value → H} {P : Program} {w : World} {r : Reach} {base b : Nat} {held : Bool} {t u : TypeId} {f0 f1 f2 f3 : Field} {v : Value} {d : DataW H} {p : List MemPlace}
    (ht : P.underlying t = some (.struct #[f0, f1, f2, f3])) (hct : P.cellsOf t = 4)
    (o : f0.offset = 0 ∧ f1.offset = 1 ∧ f2.offset = 2 ∧ f3.offset = 3) (c0 : P.cellsOf f0.type = 1) (c1 : P.cellsOf f1.type = 1) (c3 : P.cellsOf f3.type = 1) (cu : P.cellsOf u = 1)
    (k0 : P.underlying f0.type = some (.int .u8)) (k1 : P.underlying f1.type = some (.int .i64)) (e : f2.type = f1.type) (k3 : P.underlying f3.type = some (.slice u)) (ku : P.underlying u = some (.int .u8))
    (hv : Value.okWide P w r base t v) (h : DataW.Trod enc P w b (fun _ => true) held t v d p) :
    ∃ k a m A n c zs, v = askV k a m A n c ∧ (Lit.int .u8 k).wf = true ∧ (Lit.int .i64 a).wf = true ∧ (Lit.int .i64 m).wf = true ∧ Ints .u8 w A n zs ∧ n ≤ c := by
  obtain ⟨cs, rfl, hl, hg⟩ := open_cells ht hv h
  obtain ⟨o0, o1, o2, o3⟩ := o
  rw [hct] at hl
  match cs, hl with
  | [x0, x1, x2, x3], _ =>
    have one : ∀ (j : Nat) (f : Field) (u : Value) (k : IntKind), #[f0, f1, f2, f3][j]? = some f → P.cellsOf f.type = 1 → P.underlying f.type = some (.int k) → [x0, x1, x2, x3][f.offset]? = some u → ∃ z, u = .int k z ∧ (Lit.int k z).wf = true := by
      intro j f u k hj hc hk hu
      obtain ⟨n, y, hy⟩ := hg j f hj hc u hu
      obtain ⟨z, ez, _, wz⟩ := DataW.trod_int hk hy
      simp only [List.cons.injEq, and_true] at ez
      exact ⟨z, ez, wz⟩
    obtain ⟨z0, rfl, w0⟩ := one 0 f0 x0 _ rfl c0 k0 (by rw [o0]; rfl)
    obtain ⟨z1, rfl, w1⟩ := one 1 f1 x1 _ rfl c1 k1 (by rw [o1]; rfl)
    obtain ⟨z2, rfl, w2⟩ := one 2 f2 x2 _ rfl (by rw [e]; exact c1) (by rw [e]; exact k1) (by rw [o2]; rfl)
    obtain ⟨fuel, y, hy⟩ := hg 3 f3 rfl c3 x3 (by rw [o3]; rfl)
    rcases open_ints k3 ku cu hy with ⟨hcs, _⟩ | ⟨x, l, c, zs, hcs, _, hl, hm, hz, _, hcell, hwz⟩
    · simp only [List.cons.injEq, and_true] at hcs
      subst hcs
      exact ⟨z0, z1, z2, none, 0, 0, [], rfl, w0, w1, w2, ⟨rfl, by omega, by simp, .inl rfl⟩, by omega⟩
    · simp only [List.cons.injEq, and_true] at hcs
      subst hcs
      exact ⟨z0, z1, z2, some x, l, c, _, rfl, w0, w1, w2, Ints.of_cells hl hm (by simpa using hz) hcell hwz, hl⟩

set_option maxRecDepth 100000 in
theorem ask_in {H : Type} {enc : TypeId × Value → H} {w : World} {r : Reach} {base b : Nat} {held : Bool} {v : Value} {d : DataW H} {p : List MemPlace} (hv : Value.okWide Try.prog w r base 32 v) (h : DataW.Trod enc Try.prog w b (fun _ => true) held 32 v d p) :
    ∃ k a m A n c zs, v = askV k a m A n c ∧ (Lit.int .u8 k).wf = true ∧ (Lit.int .i64 a).wf = true ∧ (Lit.int .i64 m).wf = true ∧ Ints .u8 w A n zs ∧ n ≤ c :=
  open_ask Try.underlying32 (by kernel_rfl) ⟨rfl, rfl, rfl, rfl⟩ (by kernel_rfl) (by kernel_rfl) (by kernel_rfl) (by kernel_rfl) Try.underlying5 Try.underlying3 rfl Try.underlying30 Try.underlying5 hv h
end Go.Proofs.Ytkjgmopgibpkjaa
