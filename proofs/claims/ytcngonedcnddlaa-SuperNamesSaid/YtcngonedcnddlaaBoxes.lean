/- Blocks of cells of a call's own, kept while others are made. -/
import Derived.Test.YtcngonedcnddlaaCfg
namespace Go.Proofs.Ytcngonedcnddlaa
open Go.RowKit
set_option linter.unusedVariables false

/-- A block of cells at its place. -/
structure CellsAt (w : World) (g : Nat) (xs : List Value) : Prop where
  lt : g < w.heap.size
  at_ : ∀ (i : Nat) (x : Value), xs[i]? = some x → w.cell? ⟨g, i, none⟩ = some x
  fr : ∀ o, w.frozen? ⟨g, o, none⟩ = false
theorem CellsAt.new (w : World) (xs : List Value) (t : TypeId) : CellsAt (w.alloc (.cells xs.toArray t (0, 0))) w.heap.size xs := by
  have hg : (w.alloc (.cells xs.toArray t (0, 0))).heap[w.heap.size]? = some (.cells xs.toArray t (0, 0)) := heap_alloc_new _ _
  exact ⟨by simp, fun i x hx => cell_of_row _ _ _ _ _ _ hg |>.trans (by simpa using hx), fun _ => frozen_of_row _ _ _ _ _ hg⟩
theorem CellsAt.below {w w' : World} {g : Nat} {xs : List Value} {B : Nat} (h : CellsAt w g xs) (hb : Below B w w') (hB : w.heap.size ≤ B) : CellsAt w' g xs := by
  have q := Nat.lt_of_lt_of_le h.lt hB
  exact ⟨Nat.lt_of_lt_of_le h.lt hb.size, fun i x hx => by rw [hb.cell (p := ⟨g, i, none⟩) q, h.at_ i x hx], fun o => by rw [hb.frozen (p := ⟨g, o, none⟩) q, h.fr]⟩
theorem CellsAt.all3 {w : World} {g : Nat} {x0 x1 x2 : Value} (h : CellsAt w g [x0, x1, x2]) : w.cell? ⟨g, 0, none⟩ = some x0 ∧ w.cell? ⟨g, 1, none⟩ = some x1 ∧ w.cell? ⟨g, 2, none⟩ = some x2 :=
  ⟨h.at_ 0 _ rfl, h.at_ 1 _ rfl, h.at_ 2 _ rfl⟩
theorem CellsAt.all5 {w : World} {g : Nat} {x0 x1 x2 x3 x4 : Value} (h : CellsAt w g [x0, x1, x2, x3, x4]) : w.cell? ⟨g, 0, none⟩ = some x0 ∧ w.cell? ⟨g, 1, none⟩ = some x1 ∧ w.cell? ⟨g, 2, none⟩ = some x2 ∧ w.cell? ⟨g, 3, none⟩ = some x3 ∧ w.cell? ⟨g, 4, none⟩ = some x4 :=
  ⟨h.at_ 0 _ rfl, h.at_ 1 _ rfl, h.at_ 2 _ rfl, h.at_ 3 _ rfl, h.at_ 4 _ rfl⟩
theorem CellsAt.all4 {w : World} {g : Nat} {x0 x1 x2 x3 : Value} (h : CellsAt w g [x0, x1, x2, x3]) : w.cell? ⟨g, 0, none⟩ = some x0 ∧ w.cell? ⟨g, 1, none⟩ = some x1 ∧ w.cell? ⟨g, 2, none⟩ = some x2 ∧ w.cell? ⟨g, 3, none⟩ = some x3 :=
  ⟨h.at_ 0 _ rfl, h.at_ 1 _ rfl, h.at_ 2 _ rfl, h.at_ 3 _ rfl⟩
theorem CellsAt.alloc {w : World} {g : Nat} {xs : List Value} (h : CellsAt w g xs) (o : Obj) : CellsAt (w.alloc o) g xs := h.below ((Below.refl _ _).alloc (Nat.le_refl _) o) (Nat.le_refl _)
theorem Box6.alloc {w : World} {g : Nat} {x0 x1 x2 x3 x4 x5 : Value} (h : Box6 w g x0 x1 x2 x3 x4 x5) (o : Obj) : Box6 (w.alloc o) g x0 x1 x2 x3 x4 x5 := h.below ((Below.refl _ _).alloc (Nat.le_refl _) o) (Nat.le_refl _)
theorem CellsAt.other {w : World} {g : Nat} {xs : List Value} (h : CellsAt w g xs) {p : Addr} (hp : p.block ≠ g) (u : Value) : CellsAt (w.setCell p u) g xs :=
  ⟨by simpa using h.lt, fun i x hx => by rw [World.cell?_setCell_other _ _ _ _ (fun q => hp (by rw [q]))]; exact h.at_ i x hx, fun o => by rw [World.frozen?_setCell]; exact h.fr o⟩
theorem CellsAt.put {w : World} {g : Nat} {xs : List Value} (h : CellsAt w g xs) {i : Nat} {x : Value} (hi : xs[i]? = some x) (u : Value) : CellsAt (w.setCell ⟨g, i, none⟩ u) g (xs.set i u) := by
  refine ⟨by simpa using h.lt, fun j y hj => ?_, fun o => by rw [World.frozen?_setCell]; exact h.fr o⟩
  rw [List.getElem?_set] at hj
  split at hj
  · rename_i e
    subst e
    split at hj
    · cases hj
      exact World.cell?_setCell_same _ _ _ (h.at_ i x hi)
    · cases hj
  · rename_i e
    rw [World.cell?_setCell_other _ _ _ _ (fun q => e (congrArg Addr.off q))]
    exact h.at_ j y hj
theorem Box6.other {w : World} {g : Nat} {x0 x1 x2 x3 x4 x5 : Value} (h : Box6 w g x0 x1 x2 x3 x4 x5) {p : Addr} (hp : p.block ≠ g) (u : Value) : Box6 (w.setCell p u) g x0 x1 x2 x3 x4 x5 := by
  have q : ∀ o, p ≠ ⟨g, o, none⟩ := fun o e => hp (by rw [e])
  obtain ⟨lt, c0, c1, c2, c3, c4, c5, fr⟩ := h
  exact ⟨by simpa using lt, by rw [World.cell?_setCell_other _ _ _ _ (q 0)]; exact c0, by rw [World.cell?_setCell_other _ _ _ _ (q 1)]; exact c1, by rw [World.cell?_setCell_other _ _ _ _ (q 2)]; exact c2, by rw [World.cell?_setCell_other _ _ _ _ (q 3)]; exact c3, by rw [World.cell?_setCell_other _ _ _ _ (q 4)]; exact c4, by rw [World.cell?_setCell_other _ _ _ _ (q 5)]; exact c5, fun o => by rw [World.frozen?_setCell]; exact fr o⟩
end Go.Proofs.Ytcngonedcnddlaa
