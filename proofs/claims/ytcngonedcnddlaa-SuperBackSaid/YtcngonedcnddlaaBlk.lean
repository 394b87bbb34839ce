/- New blocks of 128 bytes: what a function leaves that answers one. -/
import Derived.Test.YtcngonedcnddlaaBlocks
import Derived.Deep.OwnRows
import Derived.Deep.WholeRow
import Derived.Laws.MakeOwn
namespace Go.Proofs.Ytcngonedcnddlaa
open Go.RowKit PolyM PackM

theorem zero_block : (Try.prog.info? 79).map (fun i => (i.zero, i.size)) = some (some (.agg (cells noughts)), 128) := by kernel_rfl
/-- What Put leaves: a new block of 128 bytes. -/
def PutIs (w : World) (l : List Int) (e : Ending) (w' : World) : Prop :=
  ∃ g, w.heap.size ≤ g ∧ e = .returned (.tuple #[.slice (some ⟨g, 0, none⟩) 128 128, .int .i64 0]) ∧ w'.heap[g]? = some (.cells (cells l) 79 (0, 0)) ∧ Below w.heap.size w w'
/-- A new block of 128 bytes: what Whole leaves. -/
def NewBlk (w : World) (l : List Int) (e : Ending) (w' : World) : Prop :=
  ∃ g, w.heap.size ≤ g ∧ e = .returned (.slice (some ⟨g, 0, none⟩) 128 128) ∧ w'.heap[g]? = some (.cells (cells l) 5 (0, 0)) ∧ Below w.heap.size w w'
theorem made_noughts : madeCells #[.int .u8 0] 128 = cells noughts := by kernel_rfl
theorem make_128 (W : World) : (Instr.makeSlice 22 (.int .i64 128) (.int .i64 128)).run Try.prog W = .ok (.slice (some ⟨W.heap.size, 0, none⟩) 128 128) (W.alloc (.cells (cells noughts) 5)) := by
  rw [← made_noughts]
  exact run_make_row' (P := Try.prog) 22 5 (.int .u8 0) 1 Try.underlying22 (by kernel_rfl) rfl .i64 .i64 128 (by omega) (by omega) W
end Go.Proofs.Ytcngonedcnddlaa
