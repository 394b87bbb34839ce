/- Rows of ints of a call's own: made, set, read. -/
import Derived.Test.YtkjgmopgibpkjaaBlk
namespace Go.Proofs.Ytkjgmopgibpkjaa
open Go.RowKit
set_option linter.unusedVariables false

def cellsI (zs : List Int) : Array Value := (zs.map (Value.int .i64)).toArray
theorem cellsI_getD {zs : List Int} {j : Nat} (h : j < zs.length) : (cellsI zs)[j]? = some (.int .i64 (zs.getD j 0)) := by
  simp [cellsI, List.getD_eq_getElem?_getD, List.getElem?_eq_getElem h]
theorem cellsI_set (zs : List Int) (j : Nat) (z : Int) : (cellsI zs).setIfInBounds j (.int .i64 z) = cellsI (zs.set j z) := by
  simp [cellsI, List.map_set]
theorem Ints.ofI {w : World} {g n : Nat} {t : TypeId} {zs : List Int} (h : w.heap[g]? = some (.cells (cellsI zs) t (0, 0))) (hn : zs.length = n) (hm : n ≤ 9223372036854775807) (hw : ∀ z ∈ zs, (Lit.int .i64 z).wf = true) : Ints .i64 w (some ⟨g, 0, none⟩) n zs := by
  refine ⟨hn, hm, hw, .inr ⟨g, 0, rfl, ?_, fun i hi => ?_⟩⟩
  · rcases Nat.lt_or_ge g w.heap.size with q | q
    · exact q
    · rw [Array.getElem?_eq_none q] at h; cases h
  · rw [cell_of_row _ _ _ _ _ _ h, Nat.zero_add, cellsI_getD (by omega)]
theorem made_ints (n : Nat) : madeCells #[.int .i64 0] n = cellsI (List.replicate n 0) := by
  unfold cellsI
  apply Array.ext'
  rw [toList_madeCells_one, List.map_replicate]
theorem make_ints (n : Nat) (hn : n ≤ 1000) (W : World) : (Instr.makeSlice 26 (.int .i64 (n : Int)) (.int .i64 (n : Int))).run Try.prog W = .ok (.slice (some ⟨W.heap.size, 0, none⟩) n n) (W.alloc (.cells (cellsI (List.replicate n 0)) 3)) := by
  rw [← made_ints]
  exact run_make_row' (P := Try.prog) 26 3 (.int .i64 0) 8 Try.underlying26 (by kernel_rfl) rfl .i64 .i64 n (by omega) (by omega) W
end Go.Proofs.Ytkjgmopgibpkjaa
