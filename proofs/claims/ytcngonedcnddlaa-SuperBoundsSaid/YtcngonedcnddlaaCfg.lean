/- A config as a value and as numbers: opening one that comes in, and its box. -/
import Derived.Test.YtcngonedcnddlaaShapeMath
namespace Go.Proofs.Ytcngonedcnddlaa
open Go.RowKit Go.WideShapes Go.ChangeShapes ShapeM

/-- A config as a value. -/
def cfgV (c : Cfg) : Value := .agg #[.int .u32 c.id, .int .i64 c.mem, .int .i64 c.chunk, .int .i64 c.rows, .int .i64 c.log, .int .i64 c.heads]

/-- A struct that comes in by value: its cells, and that each field of one cell reads. -/
theorem open_cells {H : Type} {enc : TypeId × Value → H} {P : Program} {w : World} {r : Reach} {base b : Nat} {spare : Nat → Bool} {held : Bool} {t : TypeId} {fs : Array Field} {v : Value} {d : DataW H} {p : List MemPlace}
    (ht : P.underlying t = some (.struct fs)) (hv : Value.okWide P w r base t v) (h : DataW.Trod enc P w b spare held t v d p) :
    ∃ cs : List Value, v = .agg cs.toArray ∧ cs.length = P.cellsOf t ∧ ∀ (j : Nat) (f : Field), fs[j]? = some f → P.cellsOf f.type = 1 → ∀ u, cs[f.offset]? = some u → ∃ (n : Nat) (y : DataW H × List MemPlace), DataW.trod enc P w b spare held n f.type [u] = some y := by
  obtain ⟨cs, rfl, hsz⟩ := okWide_struct ht hv
  obtain ⟨fuel, hf⟩ := h
  obtain ⟨xs, n, _, _, _, hlen, hg⟩ := DataW.trod_struct ht hf
  refine ⟨cs.toList, rfl, by simpa using hsz, fun j f hj hone u hu => ?_⟩
  have hjl : j < xs.length := by rw [hlen]; exact (Array.getElem?_eq_some_iff.1 hj).1
  refine ⟨n, xs[j], ?_⟩
  have g := hg j f hj
  have hcs : (Value.agg cs).cells.toList = cs.toList := rfl
  have hol : f.offset < cs.toList.length := (List.getElem?_eq_some_iff.1 hu).1
  rw [hcs, hone, List.drop_eq_getElem_cons hol, List.take_succ_cons, List.take_zero] at g
  rw [List.getElem?_eq_getElem hol] at hu
  injection hu with hu
  rw [hu, List.getElem?_eq_getElem hjl] at g
  exact g

theorem open_cfg {H : Type} {enc : TypeId × Value → H} {P : Program} {w : World} {r : Reach} {base b : Nat} {spare : Nat → Bool} {held : Bool} {t : TypeId} {f0 f1 f2 f3 f4 f5 : Field} {v : Value} {d : DataW H} {p : List MemPlace}
    (ht : P.underlying t = some (.struct #[f0, f1, f2, f3, f4, f5])) (hct : P.cellsOf t = 6)
    (o : (f0.offset = 0 ∧ f1.offset = 1 ∧ f2.offset = 2 ∧ f3.offset = 3 ∧ f4.offset = 4 ∧ f5.offset = 5) ∧ P.cellsOf f0.type = 1 ∧ P.cellsOf f1.type = 1)
    (k0 : P.underlying f0.type = some (.int .u32)) (k1 : P.underlying f1.type = some (.int .i64)) (e : f2.type = f1.type ∧ f3.type = f1.type ∧ f4.type = f1.type ∧ f5.type = f1.type)
    (hv : Value.okWide P w r base t v) (h : DataW.Trod enc P w b spare held t v d p) : ∃ c, v = cfgV c ∧ Wide c := by
  obtain ⟨cs, rfl, hl, hg⟩ := open_cells ht hv h
  obtain ⟨⟨o0, o1, o2, o3, o4, o5⟩, c0, c1⟩ := o
  obtain ⟨e2, e3, e4, e5⟩ := e
  rw [hct] at hl
  match cs, hl with
  | [x0, x1, x2, x3, x4, x5], _ =>
    have one : ∀ (j : Nat) (f : Field) (u : Value) (k : IntKind), #[f0, f1, f2, f3, f4, f5][j]? = some f → P.cellsOf f.type = 1 → P.underlying f.type = some (.int k) → [x0, x1, x2, x3, x4, x5][f.offset]? = some u → ∃ z, u = .int k z ∧ (Lit.int k z).wf = true := by
      intro j f u k hj hc hk hu
      obtain ⟨n, y, hy⟩ := hg j f hj hc u hu
      obtain ⟨z, ez, _, wz⟩ := DataW.trod_int hk hy
      simp only [List.cons.injEq, and_true] at ez
      exact ⟨z, ez, wz⟩
    obtain ⟨z0, rfl, w0⟩ := one 0 f0 x0 _ rfl c0 k0 (by rw [o0]; rfl)
    obtain ⟨z1, rfl, w1⟩ := one 1 f1 x1 _ rfl c1 k1 (by rw [o1]; rfl)
    obtain ⟨z2, rfl, w2⟩ := one 2 f2 x2 _ rfl (by rw [e2]; exact c1) (by rw [e2]; exact k1) (by rw [o2]; rfl)
    obtain ⟨z3, rfl, w3⟩ := one 3 f3 x3 _ rfl (by rw [e3]; exact c1) (by rw [e3]; exact k1) (by rw [o3]; rfl)
    obtain ⟨z4, rfl, w4⟩ := one 4 f4 x4 _ rfl (by rw [e4]; exact c1) (by rw [e4]; exact k1) (by rw [o4]; rfl)
    obtain ⟨z5, rfl, w5⟩ := one 5 f5 x5 _ rfl (by rw [e5]; exact c1) (by rw [e5]; exact k1) (by rw [o5]; rfl)
    exact ⟨⟨z0, z1, z2, z3, z4, z5⟩, rfl, ⟨w0, w1, w2, w3, w4, w5⟩⟩

set_option maxRecDepth 100000 in
theorem cfg_in {H : Type} {enc : TypeId × Value → H} {w : World} {r : Reach} {base b : Nat} {spare : Nat → Bool} {held : Bool} {v : Value} {d : DataW H} {p : List MemPlace} (hv : Value.okWide Try.prog w r base 85 v) (h : DataW.Trod enc Try.prog w b spare held 85 v d p) : ∃ c, v = cfgV c ∧ Wide c :=
  open_cfg Try.underlying85 (by kernel_rfl) ⟨⟨rfl, rfl, rfl, rfl, rfl, rfl⟩, by kernel_rfl, by kernel_rfl⟩ Try.underlying26 Try.underlying3 ⟨rfl, rfl, rfl, rfl⟩ hv h

/-- A box that holds six cells. -/
structure Box6 (w : World) (g : Nat) (x0 x1 x2 x3 x4 x5 : Value) : Prop where
  lt : g < w.heap.size
  c0 : w.cell? ⟨g, 0, none⟩ = some x0
  c1 : w.cell? ⟨g, 1, none⟩ = some x1
  c2 : w.cell? ⟨g, 2, none⟩ = some x2
  c3 : w.cell? ⟨g, 3, none⟩ = some x3
  c4 : w.cell? ⟨g, 4, none⟩ = some x4
  c5 : w.cell? ⟨g, 5, none⟩ = some x5
  fr : ∀ o, w.frozen? ⟨g, o, none⟩ = false
theorem Box6.new (w : World) (x0 x1 x2 x3 x4 x5 : Value) (t : TypeId) : Box6 (w.alloc (.cells #[x0, x1, x2, x3, x4, x5] t (0, 0))) w.heap.size x0 x1 x2 x3 x4 x5 := by
  have hg : (w.alloc (.cells #[x0, x1, x2, x3, x4, x5] t (0, 0))).heap[w.heap.size]? = some (.cells #[x0, x1, x2, x3, x4, x5] t (0, 0)) := heap_alloc_new _ _
  exact ⟨by simp, cell_of_row _ _ _ _ _ _ hg, cell_of_row _ _ _ _ _ _ hg, cell_of_row _ _ _ _ _ _ hg, cell_of_row _ _ _ _ _ _ hg, cell_of_row _ _ _ _ _ _ hg, cell_of_row _ _ _ _ _ _ hg, fun _ => frozen_of_row _ _ _ _ _ hg⟩
theorem Box6.below {w w' : World} {g : Nat} {x0 x1 x2 x3 x4 x5 : Value} {B : Nat} (h : Box6 w g x0 x1 x2 x3 x4 x5) (hb : Below B w w') (hB : w.heap.size ≤ B) : Box6 w' g x0 x1 x2 x3 x4 x5 := by
  obtain ⟨lt, c0, c1, c2, c3, c4, c5, fr⟩ := h
  have q := Nat.lt_of_lt_of_le lt hB
  exact ⟨Nat.lt_of_lt_of_le lt hb.size, by rw [hb.cell q, c0], by rw [hb.cell q, c1], by rw [hb.cell q, c2], by rw [hb.cell q, c3], by rw [hb.cell q, c4], by rw [hb.cell q, c5], fun o => by rw [hb.frozen (p := ⟨g, o, none⟩) q, fr]⟩
end Go.Proofs.Ytcngonedcnddlaa
