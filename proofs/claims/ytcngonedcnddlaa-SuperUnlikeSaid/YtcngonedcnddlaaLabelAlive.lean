/- The laws' own helpers of layer 9: one, alive. -/
import Derived.Test.YtcngonedcnddlaaLabelRead
import Derived.Deep.RegionHeld3
import Derived.Deep.Cut
namespace Go.Proofs.Ytcngonedcnddlaa
open Go.RowKit PolyM PackM ShapeM SealM LabelM
set_option linter.unusedVariables false

/-- The chapter's label. -/
def oneL : Lab := ⟨7, 2, 3, 1, 1, 12, 1, -1, 0, true⟩
theorem oneL_may : MayL oneL := by decide
theorem oneL_wide : WideL oneL := ⟨by decide, by decide, by decide, by decide, by decide, by decide, by decide, by decide, by decide⟩
/-- What is written is read, by both calls. -/
theorem readL_block {l : Lab} (hw : WideL l) (h : MayL l) : readL (blockL l) = l := by
  have := reads_block hw h
  unfold readL
  rw [if_pos this, took_block hw h]
theorem readE_block {l : Lab} (hw : WideL l) (h : MayL l) : readE (blockL l) = 0 := by
  have := reads_block hw h
  unfold readE
  rw [if_pos this]
/-- Read of a block that Write answered. -/
theorem labRead_block {l : Lab} (hw : WideL l) (h : MayL l) (g : Nat) (c : Nat) (W : World) (hI : Ints .u8 W (some ⟨g, 0, none⟩) 128 (blockL l)) : Calls Try.prog 17 #[.slice (some ⟨g, 0, none⟩) 128 c] W fun e w' => e = .returned (.tuple #[labV l, .int .i64 0]) ∧ Below W.heap.size W w' := by
  have := labRead (some ⟨g, 0, none⟩) 128 c (blockL l) W hI (.inr rfl)
  rw [pad_whole (block_len l), readL_block hw h, readE_block hw h] at this
  exact this
theorem block_ints {l : Lab} {w : World} {g : Nat} {t : TypeId} (h : w.heap[g]? = some (.cells (cells (blockL l)) t (0, 0))) : Ints .u8 w (some ⟨g, 0, none⟩) 128 (blockL l) :=
  Ints.ofCells h (block_len l) (by omega) (block_bytes l)

end Go.Proofs.Ytcngonedcnddlaa
