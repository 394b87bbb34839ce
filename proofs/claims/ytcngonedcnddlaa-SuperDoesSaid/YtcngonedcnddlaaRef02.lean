/- The walks of the document's own answer for layer 2 that other layers stand on: Block, Whole. -/
import Derived.Test.YtcngonedcnddlaaBlk
import Derived.RegionTactic
import Derived.WalkLawsBesides
import Derived.Deep.QuietTactic
import Derived.BigQuiet
namespace Go.Proofs.Ytcngonedcnddlaa
open Go.RowKit PolyM PackM
set_option linter.unusedVariables false

theorem rblock_no (a : Option Addr) (n c : Nat) (w : World) (hm : n ≤ 9223372036854775807) (h0 : n ≠ 0) (h1 : n ≠ 128) :
    Calls Try.prog 26 #[.slice a n c] w fun e w' => e = .returned (.bool false) ∧ w = w' := by
  have d0 : ((n : Int) == 0) = false := by simp; omega
  have d1 : ((n : Int) == 128) = false := by simp; omega
  go_enter Try.func26, Try.ntmps26
  go_wp2
  go_ret
  exact ⟨rfl, rfl⟩
theorem rblock_yes (a : Option Addr) (n c : Nat) (w : World) (h : n = 0 ∨ n = 128) :
    Calls Try.prog 26 #[.slice a n c] w fun e w' => e = .returned (.bool true) ∧ w = w' := by
  have hm : n ≤ 9223372036854775807 := by omega
  rcases h with h | h
  · have d0 : ((n : Int) == 0) = true := by simp; omega
    clear h
    go_enter Try.func26, Try.ntmps26
    go_wp2
    go_ret
    exact ⟨rfl, rfl⟩
  · have d0 : ((n : Int) == 0) = false := by simp; omega
    have d1 : ((n : Int) == 128) = true := by simp; omega
    clear h
    go_enter Try.func26, Try.ntmps26
    go_wp2
    go_ret
    exact ⟨rfl, rfl⟩
/-- The first k bytes of a block, noughts behind them. -/
theorem pad_take_succ {zs : List Int} {k : Nat} (h : k < zs.length) (hl : zs.length ≤ 128) : pad (zs.take (k + 1)) = (pad (zs.take k)).set k (zs.getD k 0) := by
  refine ext128 (pad_len (by simp; omega)) (by rw [List.length_set]; exact pad_len (by simp; omega)) fun j hj => ?_
  rw [pad_getD, List.getD_eq_getElem?_getD (l := List.set _ _ _), List.getElem?_set]
  by_cases e : k = j
  · subst e
    rw [if_pos rfl, if_pos (by rw [pad_len (by simp; omega)]; exact hj)]
    simp [List.getD_eq_getElem?_getD]
  · rw [if_neg e, ← List.getD_eq_getElem?_getD, pad_getD]
    simp only [List.getD_eq_getElem?_getD, List.getElem?_take]
    by_cases q : j < k
    · rw [if_pos q, if_pos (by omega)]
    · rw [if_neg q, if_neg (by omega)]
theorem rwhole_calls (a : Option Addr) (n c : Nat) (zs : List Int) (w : World) (hi : Ints .u8 w a n zs) (hn : n ≤ 128) :
    Calls Try.prog 27 #[.slice a n c] w (NewBlk w (pad zs)) := by
  have hmk := make_128
  have hlen := Lib.hid hi.len
  have hB := bytes_of hi
  have hg0 : (w.alloc (.cells (cells noughts) 5)).heap[w.heap.size]? = some (.cells (cells (pad (zs.take 0))) 5 (0, 0)) := heap_alloc_new _ _
  have hb0 : Below w.heap.size w (w.alloc (.cells (cells noughts) 5)) := (Below.refl _ _).alloc (Nat.le_refl _) _
  go_enter Try.func27, Try.ntmps27
  go_wp2
  generalize World.alloc _ _ = w1 at *
  obtain ⟨g, hg, hgw⟩ : ∃ g, g = w.heap.size ∧ w.heap.size ≤ g := ⟨_, rfl, Nat.le_refl _⟩
  have hgH : Hid (w.heap.size = g) := hg.symm
  rw [← hg] at hg0 ⊢
  clear hg hmk
  go_loopw [4] (fun i wr => ∃ k : Nat, k ≤ n ∧ i = .int .i64 k ∧ wr.heap[g]? = some (.cells (cells (pad (zs.take k))) 5 (0, 0)) ∧ Below w.heap.size w wr) (fun i _ => n - (intOf i).toNat)
  case atStart => exact ⟨0, by omega, rfl, hg0, hb0⟩
  case round =>
    obtain ⟨k, hk, rfl, hgk, hbk⟩ := hrel
    clear hg0 hb0
    by_cases hkn : k < n
    · have hl1 : (pad (zs.take k)).length = 128 := pad_len (by simp; have := hlen.out; omega)
      have hcell : wr.cell? ⟨g, k, none⟩ = some (.int .u8 ((pad (zs.take k)).getD k 0)) := by
        rw [cell_of_row _ _ _ _ _ _ hgk, cells_getD (by rw [hl1]; omega)]
      have hfr : wr.frozen? ⟨g, k, none⟩ = false := frozen_of_row _ _ _ _ _ hgk
      obtain ⟨b, off, rfl, hsrc⟩ : ∃ b off, a = some ⟨b, off, none⟩ ∧ wr.cell? ⟨b, off + k, none⟩ = some (.int .u8 (zs.getD k 0)) := by
        rcases (hi.below hbk (Nat.le_refl _)).row with q | ⟨b, off, e, _, hc⟩
        · omega
        · exact ⟨b, off, e, hc k hkn⟩
      have F : Hid (pad (zs.take (k + 1)) = (pad (zs.take k)).set k (zs.getD k 0)) := pad_take_succ (by rw [hlen.out]; exact hkn) (by rw [hlen.out]; exact hn)
      have hb := getD_in hB k
      clear hl1
      generalize zs.getD k 0 = z at *
      generalize (pad (zs.take k)).getD k 0 = y at *
      go_wp2
      go_roundw
      case rel =>
        refine ⟨k + 1, by omega, by go_num, ?_, hbk.setCell hgw _⟩
        rw [heap_setCell_same _ _ _ _ _ _ hgk, cells_set, F.out]
      case measure => simp [intOf]; omega
    · obtain rfl : k = n := by omega
      have F : Hid (zs.take k = zs) := by refine Lib.hid ?_; rw [List.take_of_length_le (by rw [hlen.out]; omega)]
      go_wp2
      go_ret
      exact ⟨g, hgw, rfl, by rw [hgk, F.out], hbk⟩
end Go.Proofs.Ytcngonedcnddlaa
