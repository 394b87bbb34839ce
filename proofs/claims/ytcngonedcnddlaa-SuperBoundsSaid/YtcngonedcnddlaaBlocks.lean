/- Blocks of bytes in memory, and slices of integers that read as lists: what all layers share. -/
import Derived.Test.YtcngonedcnddlaaBase
import Derived.Test.YtcngonedcnddlaaPackMath
import Derived.Laws.CopyOwn
import Derived.Laws.Rows
namespace Go.Proofs.Ytcngonedcnddlaa
open Go.RowKit Go.WideShapes PolyM PackM

theorem bytes_of {w : World} {a : Option Addr} {n : Nat} {zs : List Int} (h : Ints .u8 w a n zs) : Bytes zs := fun z hz => bounds_u8 (h.wf z hz)

/-- 128 noughts as cells. -/
def noughts : List Int := List.replicate 128 0
def cells (zs : List Int) : Array Value := (zs.map (Value.int .u8)).toArray
theorem map_splice (zs : List Int) : splice (noughts.map (Value.int .u8)) 0 (zs.map (Value.int .u8)) = (pad zs).map (Value.int .u8) := by
  unfold splice pad noughts
  rw [List.map_append, List.map_replicate, List.map_replicate, List.length_map, Nat.zero_add, List.drop_replicate, List.take_zero, List.nil_append]
theorem cells_size {zs : List Int} : (cells zs).size = zs.length := by simp [cells]
theorem cells_one (zs : List Int) : (cells zs).all (·.oneCell') = true := by simp [cells, Value.oneCell']
theorem cells_getD {zs : List Int} {j : Nat} (h : j < zs.length) : (cells zs)[j]? = some (.int .u8 (zs.getD j 0)) := by
  simp [cells, List.getD_eq_getElem?_getD, List.getElem?_eq_getElem h]
theorem cells_set (zs : List Int) (j : Nat) (z : Int) : (cells zs).setIfInBounds j (.int .u8 z) = cells (zs.set j z) := by
  simp [cells, List.map_set]
theorem ints_src {k : IntKind} {w : World} {a : Option Addr} {n : Nat} {zs : List Int} (h : Ints k w a n zs) : 0 < zs.length → ∃ ad, a = some ad ∧ ∀ j v, (zs.map (Value.int k))[j]? = some v → w.cell? (ad.add j) = some v := by
  intro h0
  have hl := h.len
  rcases h.row with q | ⟨b, off, e, hlt, hc⟩
  · omega
  · refine ⟨_, e, fun j v hv => ?_⟩
    rw [add_plain']
    rw [List.getElem?_map] at hv
    rcases hz : zs[j]? with _ | z
    · simp [hz] at hv
    · rw [hz] at hv
      have hil : j < zs.length := (List.getElem?_eq_some_iff.1 hz).1
      rw [hc j (by omega), List.getD_eq_getElem?_getD, hz]
      exact hv
/-- A whole block of bytes of one's own reads as these. -/
theorem Ints.ofCells {w : World} {g n : Nat} {t : TypeId} {zs : List Int} (h : w.heap[g]? = some (.cells (cells zs) t (0, 0))) (hn : zs.length = n) (hm : n ≤ 9223372036854775807) (hb : Bytes zs) : Ints .u8 w (some ⟨g, 0, none⟩) n zs := by
  refine ⟨hn, hm, fun z hz => WalkArith.wf_u8 (hb z hz), .inr ⟨g, 0, rfl, ?_, fun i hi => ?_⟩⟩
  · rcases Nat.lt_or_ge g w.heap.size with q | q
    · exact q
    · rw [Array.getElem?_eq_none q] at h; cases h
  · rw [cell_of_row _ _ _ _ _ _ h, Nat.zero_add, cells_getD (by omega)]

theorem ret_two {k l : IntKind} {a b c : Int} (h : a = b) : Ending.returned (.tuple #[.int k a, .int l c]) = .returned (.tuple #[.int k b, .int l c]) := by rw [h]
theorem Ints.take {k : IntKind} {w : World} {a : Option Addr} {n N : Nat} {zs : List Int} (h : Ints k w a n zs) (hN : N ≤ n) : Ints k w a N (zs.take N) := by
  refine ⟨by have := h.len; simp; omega, by have := h.max; omega, fun z hz => h.wf z (List.mem_of_mem_take hz), ?_⟩
  rcases h.row with h0 | ⟨b, off, e, hlt, hc⟩
  · exact .inl (by omega)
  · refine .inr ⟨b, off, e, hlt, fun i hi => ?_⟩
    rw [hc i (by omega)]
    simp [List.getD_eq_getElem?_getD, hi]

theorem slice_to (A : Option Addr) (n c N : Nat) (h : N ≤ c) (W : World) : (Instr.slice 22 (.slice A n c) none (some (.int .i64 (N : Int))) none).run Try.prog W = .ok (.slice A N c) W := by
  rw [run_slice_h (P := Try.prog) (w := W) 22 A n c (by kernel_rfl) .i64 (N : Int) (by omega) (by omega)]
  have hs : (sizeOf (Try.prog.elem 22)).run Try.prog W = .ok 1 W := by kernel_rfl
  rw [hs]
  cases A <;> simp [Result.andThen, sliced, Addr.add]
end Go.Proofs.Ytcngonedcnddlaa
