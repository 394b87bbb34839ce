/- Labels as values: opening one that comes in, its box, '=='. -/
import Derived.Test.YtcngonedcnddlaaLabelMath
import Derived.Test.YtcngonedcnddlaaBoxes
import Derived.Laws.StructEq
import Derived.Laws.Rows
import Derived.Laws.CopyOwn
import Derived.Deep.WholeRow
namespace Go.Proofs.Ytcngonedcnddlaa
open Go.RowKit Go.WideShapes Go.ChangeShapes ShapeM LabelM
set_option linter.unusedVariables false

/-- A label as a value. -/
def labV (l : Lab) : Value := .agg #[.int .u32 l.id, .int .u32 l.ev, .int .i64 l.mem, .int .i64 l.chunk, .int .i64 l.rows, .int .i64 l.log, .int .i64 l.me, .int .i64 l.lost, .int .i64 l.done, .bool l.op]
theorem CellsAt.drew {w : World} {g : Nat} {xs : List Value} (h : CellsAt w g xs) : CellsAt w.drew g xs := h.below (Below.refl _ _).drew (Nat.le_refl _)
/-- The four cells of a draft's box that its label is made of. -/
structure Four (w : World) (g : Nat) (x11 x12 x13 x14 : Value) : Prop where
  lt : g < w.heap.size
  c11 : w.cell? ⟨g, 11, none⟩ = some x11
  c12 : w.cell? ⟨g, 12, none⟩ = some x12
  c13 : w.cell? ⟨g, 13, none⟩ = some x13
  c14 : w.cell? ⟨g, 14, none⟩ = some x14
theorem Four.below {w w' : World} {g : Nat} {x11 x12 x13 x14 : Value} {B : Nat} (h : Four w g x11 x12 x13 x14) (hb : Below B w w') (hB : w.heap.size ≤ B) : Four w' g x11 x12 x13 x14 := by
  obtain ⟨lt, a, b, c, d⟩ := h
  have q := Nat.lt_of_lt_of_le lt hB
  exact ⟨Nat.lt_of_lt_of_le lt hb.size, by rw [hb.cell q, a], by rw [hb.cell q, b], by rw [hb.cell q, c], by rw [hb.cell q, d]⟩
theorem Four.drew {w : World} {g : Nat} {x11 x12 x13 x14 : Value} (h : Four w g x11 x12 x13 x14) : w.drew.cell? ⟨g, 11, none⟩ = some x11 ∧ w.drew.cell? ⟨g, 12, none⟩ = some x12 ∧ w.drew.cell? ⟨g, 13, none⟩ = some x13 ∧ w.drew.cell? ⟨g, 14, none⟩ = some x14 := by
  have k := h.below (Below.refl _ _).drew (Nat.le_refl _)
  exact ⟨k.c11, k.c12, k.c13, k.c14⟩
theorem Four.other {w : World} {g : Nat} {x11 x12 x13 x14 : Value} (h : Four w g x11 x12 x13 x14) {p : Addr} (hp : p.block ≠ g) (u : Value) : Four (w.setCell p u) g x11 x12 x13 x14 := by
  have q : ∀ o, p ≠ ⟨g, o, none⟩ := fun o e => hp (by rw [e])
  obtain ⟨lt, a, b, c, d⟩ := h
  exact ⟨by simpa using lt, by rw [World.cell?_setCell_other _ _ _ _ (q 11)]; exact a, by rw [World.cell?_setCell_other _ _ _ _ (q 12)]; exact b, by rw [World.cell?_setCell_other _ _ _ _ (q 13)]; exact c, by rw [World.cell?_setCell_other _ _ _ _ (q 14)]; exact d⟩
/-- A whole block of one's own. -/
def BlkAt (w : World) (g : Nat) (cs : Array Value) (t : TypeId) : Prop := w.heap[g]? = some (.cells cs t (0, 0))
theorem BlkAt.lt {w : World} {g : Nat} {cs : Array Value} {t : TypeId} (h : BlkAt w g cs t) : g < w.heap.size := by
  rcases Nat.lt_or_ge g w.heap.size with q | q
  · exact q
  · unfold BlkAt at h; rw [Array.getElem?_eq_none q] at h; cases h
theorem BlkAt.new (w : World) (cs : Array Value) (t : TypeId) : BlkAt (w.alloc (.cells cs t (0, 0))) w.heap.size cs t := heap_alloc_new _ _
theorem BlkAt.below {w w' : World} {g : Nat} {cs : Array Value} {t : TypeId} {B : Nat} (h : BlkAt w g cs t) (hb : Below B w w') (hB : w.heap.size ≤ B) : BlkAt w' g cs t := by
  have := h.lt
  unfold BlkAt at *
  rw [hb.block g (by omega)]
  exact h
theorem BlkAt.alloc {w : World} {g : Nat} {cs : Array Value} {t : TypeId} (h : BlkAt w g cs t) (o : Obj) : BlkAt (w.alloc o) g cs t := h.below ((Below.refl _ _).alloc (Nat.le_refl _) o) (Nat.le_refl _)
theorem BlkAt.drew {w : World} {g : Nat} {cs : Array Value} {t : TypeId} (h : BlkAt w g cs t) : BlkAt w.drew g cs t := h
theorem BlkAt.other {w : World} {g : Nat} {cs : Array Value} {t : TypeId} (h : BlkAt w g cs t) {p : Addr} (hp : p.block ≠ g) (u : Value) : BlkAt (w.setCell p u) g cs t := by
  unfold BlkAt at *
  rw [Below.heap_setCell _ _ _ _ (fun e => hp e.symm)]
  exact h
theorem BlkAt.put {w : World} {g : Nat} {cs : Array Value} {t : TypeId} (h : BlkAt w g cs t) (i : Nat) (u : Value) : BlkAt (w.setCell ⟨g, i, none⟩ u) g (cs.setIfInBounds i u) t := heap_setCell_same _ _ _ _ _ _ h
theorem BlkAt.cell {w : World} {g : Nat} {cs : Array Value} {t : TypeId} (h : BlkAt w g cs t) (i : Nat) : w.cell? ⟨g, i, none⟩ = cs[i]? := cell_of_row _ _ _ _ _ _ h
theorem BlkAt.free {w : World} {g : Nat} {cs : Array Value} {t : TypeId} (h : BlkAt w g cs t) (i : Nat) : w.frozen? ⟨g, i, none⟩ = false := frozen_of_row _ _ _ _ _ h
theorem BlkAt.setRow {w : World} {g : Nat} {old cs : Array Value} {t : TypeId} (h : BlkAt w g old t) : BlkAt (w.setRow g cs) g cs t := setRow_heap _ _ _ _ _ _ h
theorem BlkAt.setOther {w : World} {g q : Nat} {cs ds : Array Value} {t : TypeId} (h : BlkAt w g cs t) (hne : g ≠ q) : BlkAt (w.setRow q ds) g cs t := by
  unfold BlkAt at *
  rw [setRow_other _ _ _ _ hne]
  exact h
theorem label_size : (Try.prog.info? 43).map (fun i => (i.zero, i.size)) = some (some (.agg #[.int .u32 0, .int .u32 0, .int .i64 0, .int .i64 0, .int .i64 0, .int .i64 0, .int .i64 0, .int .i64 0, .int .i64 0, .bool false]), 10) := by kernel_rfl
/-- A box of one's own that may be written. -/
def Mine (w : World) (g : Nat) : Prop := g < w.heap.size ∧ ∀ o, w.frozen? ⟨g, o, none⟩ = false
theorem Mine.put {w : World} {g : Nat} (h : Mine w g) (p : Addr) (u : Value) : Mine (w.setCell p u) g := ⟨by simpa using h.1, fun o => by rw [World.frozen?_setCell]; exact h.2 o⟩
theorem CellsAt.all10 {w : World} {g : Nat} {x0 x1 x2 x3 x4 x5 x6 x7 x8 x9 : Value} (h : CellsAt w g [x0, x1, x2, x3, x4, x5, x6, x7, x8, x9]) : w.cell? ⟨g, 0, none⟩ = some x0 ∧ w.cell? ⟨g, 1, none⟩ = some x1 ∧ w.cell? ⟨g, 2, none⟩ = some x2 ∧ w.cell? ⟨g, 3, none⟩ = some x3 ∧ w.cell? ⟨g, 4, none⟩ = some x4 ∧ w.cell? ⟨g, 5, none⟩ = some x5 ∧ w.cell? ⟨g, 6, none⟩ = some x6 ∧ w.cell? ⟨g, 7, none⟩ = some x7 ∧ w.cell? ⟨g, 8, none⟩ = some x8 ∧ w.cell? ⟨g, 9, none⟩ = some x9 :=
  ⟨h.at_ 0 _ rfl, h.at_ 1 _ rfl, h.at_ 2 _ rfl, h.at_ 3 _ rfl, h.at_ 4 _ rfl, h.at_ 5 _ rfl, h.at_ 6 _ rfl, h.at_ 7 _ rfl, h.at_ 8 _ rfl, h.at_ 9 _ rfl⟩
theorem CellsAt.all15 {w : World} {g : Nat} {x0 x1 x2 x3 x4 x5 x6 x7 x8 x9 x10 x11 x12 x13 x14 : Value} (h : CellsAt w g [x0, x1, x2, x3, x4, x5, x6, x7, x8, x9, x10, x11, x12, x13, x14]) : w.cell? ⟨g, 0, none⟩ = some x0 ∧ w.cell? ⟨g, 1, none⟩ = some x1 ∧ w.cell? ⟨g, 2, none⟩ = some x2 ∧ w.cell? ⟨g, 3, none⟩ = some x3 ∧ w.cell? ⟨g, 4, none⟩ = some x4 ∧ w.cell? ⟨g, 5, none⟩ = some x5 ∧ w.cell? ⟨g, 6, none⟩ = some x6 ∧ w.cell? ⟨g, 7, none⟩ = some x7 ∧ w.cell? ⟨g, 8, none⟩ = some x8 ∧ w.cell? ⟨g, 9, none⟩ = some x9 ∧ w.cell? ⟨g, 10, none⟩ = some x10 ∧ w.cell? ⟨g, 11, none⟩ = some x11 ∧ w.cell? ⟨g, 12, none⟩ = some x12 ∧ w.cell? ⟨g, 13, none⟩ = some x13 ∧ w.cell? ⟨g, 14, none⟩ = some x14 :=
  ⟨h.at_ 0 _ rfl, h.at_ 1 _ rfl, h.at_ 2 _ rfl, h.at_ 3 _ rfl, h.at_ 4 _ rfl, h.at_ 5 _ rfl, h.at_ 6 _ rfl, h.at_ 7 _ rfl, h.at_ 8 _ rfl, h.at_ 9 _ rfl, h.at_ 10 _ rfl, h.at_ 11 _ rfl, h.at_ 12 _ rfl, h.at_ 13 _ rfl, h.at_ 14 _ rfl⟩

theorem open_label {H : Type} {enc : TypeId × Value → H} {P : Program} {w : World} {r : Reach} {base b : Nat} {spare : Nat → Bool} {held : Bool} {t : TypeId} {f0 f1 f2 f3 f4 f5 f6 f7 f8 f9 : Field} {v : Value} {d : DataW H} {p : List MemPlace}
    (ht : P.underlying t = some (.struct #[f0, f1, f2, f3, f4, f5, f6, f7, f8, f9])) (hct : P.cellsOf t = 10)
    (o : f0.offset = 0 ∧ f1.offset = 1 ∧ f2.offset = 2 ∧ f3.offset = 3 ∧ f4.offset = 4 ∧ f5.offset = 5 ∧ f6.offset = 6 ∧ f7.offset = 7 ∧ f8.offset = 8 ∧ f9.offset = 9) (c0 : P.cellsOf f0.type = 1) (c2 : P.cellsOf f2.type = 1) (c9 : P.cellsOf f9.type = 1)
    (k0 : P.underlying f0.type = some (.int .u32)) (k2 : P.underlying f2.type = some (.int .i64)) (k9 : P.underlying f9.type = some .bool) (e : f1.type = f0.type ∧ f3.type = f2.type ∧ f4.type = f2.type ∧ f5.type = f2.type ∧ f6.type = f2.type ∧ f7.type = f2.type ∧ f8.type = f2.type)
    (hv : Value.okWide P w r base t v) (h : DataW.Trod enc P w b spare held t v d p) : ∃ l, v = labV l ∧ WideL l := by
  obtain ⟨cs, rfl, hl, hg⟩ := open_cells ht hv h
  obtain ⟨o0, o1, o2, o3, o4, o5, o6, o7, o8, o9⟩ := o
  obtain ⟨e1, e3, e4, e5, e6, e7, e8⟩ := e
  rw [hct] at hl
  match cs, hl with
  | [x0, x1, x2, x3, x4, x5, x6, x7, x8, x9], _ =>
    have one : ∀ (j : Nat) (f : Field) (u : Value) (k : IntKind), #[f0, f1, f2, f3, f4, f5, f6, f7, f8, f9][j]? = some f → P.cellsOf f.type = 1 → P.underlying f.type = some (.int k) → [x0, x1, x2, x3, x4, x5, x6, x7, x8, x9][f.offset]? = some u → ∃ z, u = .int k z ∧ (Lit.int k z).wf = true := by
      intro j f u k hj hc hk hu
      obtain ⟨n, y, hy⟩ := hg j f hj hc u hu
      obtain ⟨z, ez, _, wz⟩ := DataW.trod_int hk hy
      simp only [List.cons.injEq, and_true] at ez
      exact ⟨z, ez, wz⟩
    obtain ⟨z0, rfl, w0⟩ := one 0 f0 x0 _ rfl c0 k0 (by rw [o0]; rfl)
    obtain ⟨z1, rfl, w1⟩ := one 1 f1 x1 _ rfl (by rw [e1]; exact c0) (by rw [e1]; exact k0) (by rw [o1]; rfl)
    obtain ⟨z2, rfl, w2⟩ := one 2 f2 x2 _ rfl c2 k2 (by rw [o2]; rfl)
    obtain ⟨z3, rfl, w3⟩ := one 3 f3 x3 _ rfl (by rw [e3]; exact c2) (by rw [e3]; exact k2) (by rw [o3]; rfl)
    obtain ⟨z4, rfl, w4⟩ := one 4 f4 x4 _ rfl (by rw [e4]; exact c2) (by rw [e4]; exact k2) (by rw [o4]; rfl)
    obtain ⟨z5, rfl, w5⟩ := one 5 f5 x5 _ rfl (by rw [e5]; exact c2) (by rw [e5]; exact k2) (by rw [o5]; rfl)
    obtain ⟨z6, rfl, w6⟩ := one 6 f6 x6 _ rfl (by rw [e6]; exact c2) (by rw [e6]; exact k2) (by rw [o6]; rfl)
    obtain ⟨z7, rfl, w7⟩ := one 7 f7 x7 _ rfl (by rw [e7]; exact c2) (by rw [e7]; exact k2) (by rw [o7]; rfl)
    obtain ⟨z8, rfl, w8⟩ := one 8 f8 x8 _ rfl (by rw [e8]; exact c2) (by rw [e8]; exact k2) (by rw [o8]; rfl)
    obtain ⟨n, y, hy⟩ := hg 9 f9 rfl c9 x9 (by rw [o9]; rfl)
    obtain ⟨z9, ez, _⟩ := DataW.trod_bool k9 hy
    simp only [List.cons.injEq, and_true] at ez
    subst ez
    exact ⟨⟨z0, z1, z2, z3, z4, z5, z6, z7, z8, z9⟩, rfl, ⟨w0, w1, w2, w3, w4, w5, w6, w7, w8⟩⟩

set_option maxRecDepth 100000 in
set_option maxHeartbeats 4000000 in
theorem label_in {H : Type} {enc : TypeId × Value → H} {w : World} {r : Reach} {base b : Nat} {spare : Nat → Bool} {held : Bool} {v : Value} {d : DataW H} {p : List MemPlace} (hv : Value.okWide Try.prog w r base 43 v) (h : DataW.Trod enc Try.prog w b spare held 43 v d p) : ∃ l, v = labV l ∧ WideL l :=
  open_label Try.underlying43 (by kernel_rfl) ⟨rfl, rfl, rfl, rfl, rfl, rfl, rfl, rfl, rfl, rfl⟩ (by kernel_rfl) (by kernel_rfl) (by kernel_rfl) Try.underlying26 Try.underlying3 Try.underlying4 ⟨rfl, rfl, rfl, rfl, rfl, rfl, rfl⟩ hv h

set_option maxRecDepth 100000 in
set_option maxHeartbeats 4000000 in
theorem lab_eql (W : World) (id ev m ch ro lo me lst dn id2 ev2 m2 ch2 ro2 lo2 me2 lst2 dn2 : Int) (op op2 : Bool) : (binOp .eql 43 (.agg #[.int .u32 id, .int .u32 ev, .int .i64 m, .int .i64 ch, .int .i64 ro, .int .i64 lo, .int .i64 me, .int .i64 lst, .int .i64 dn, .bool op]) (.agg #[.int .u32 id2, .int .u32 ev2, .int .i64 m2, .int .i64 ch2, .int .i64 ro2, .int .i64 lo2, .int .i64 me2, .int .i64 lst2, .int .i64 dn2, .bool op2])).run Try.prog W =
    .ok (.bool (decide (id = id2 ∧ ev = ev2 ∧ m = m2 ∧ ch = ch2 ∧ ro = ro2 ∧ lo = lo2 ∧ me = me2 ∧ lst = lst2 ∧ dn = dn2 ∧ op = op2))) W := by
  have hu := Try.underlying43
  have hf : Try.prog.fieldsOf 43 = (match Try.prog.underlying 43 with | some (.struct fs) => fs | _ => #[]) := rfl
  rw [hu] at hf
  dsimp only at hf
  rw [run_eql_struct, run_equalIn_agg _ _ _ _ _ (by rw [hf]; exact hu) (by kernel_rfl), hf]
  have hi := Try.underlying3
  have hj := Try.underlying26
  have hk := Try.underlying4
  simp [go_sem, hi, hj, hk]
  clear hu hf hi hj hk
  by_cases q0 : id = id2
  · by_cases q1 : ev = ev2
    · by_cases q2 : m = m2
      · by_cases q3 : ch = ch2
        · by_cases q4 : ro = ro2
          · by_cases q5 : lo = lo2
            · by_cases q6 : me = me2
              · by_cases q7 : lst = lst2
                · by_cases q8 : dn = dn2
                  · by_cases q9 : op = op2
                    · simp [q0, q1, q2, q3, q4, q5, q6, q7, q8, q9]
                    · simp [q0, q1, q2, q3, q4, q5, q6, q7, q8, q9]
                  · simp [q0, q1, q2, q3, q4, q5, q6, q7, q8]
                · simp [q0, q1, q2, q3, q4, q5, q6, q7]
              · simp [q0, q1, q2, q3, q4, q5, q6]
            · simp [q0, q1, q2, q3, q4, q5]
          · simp [q0, q1, q2, q3, q4]
        · simp [q0, q1, q2, q3]
      · simp [q0, q1, q2]
    · simp [q0, q1]
  · simp [q0]
theorem wpList_load_rowG {P : Program} {ops : Array Oper} {rest : List Oper} {o : Oper} {a : Act} {w : World} {Q : Exit → Act → World → Prop} (hwd : Region.wanted o (yielded ops a.tmps) = true) (ty : TypeId) (x : Operand) (ho : o.op = .load ty x)
    (g : Nat) (hx : a.eval x = .pointer (some ⟨g, 0, none⟩)) (t : TypeId) (cs : Array Value) (fr : Nat × Nat) (fs : Array Field) (hg : w.heap[g]? = some (.cells cs t fr))
    (hu : P.underlying ty = some (.struct fs)) (hi : (P.info? ty).map (·.size) = some cs.size)
    (h : wpList P ops Q rest (a.put o.dst (.agg cs)) w) : wpList P ops Q (o :: rest) a w :=
  wpList_step fun K hK => by
    simp only [hwd, if_true]
    exact wp_load_row ty x ho g hx t cs fr _ hg hu rfl hi (hK _ _ h)
end Go.Proofs.Ytcngonedcnddlaa
