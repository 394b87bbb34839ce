/- The walks of package disk's small functions: isBlock, whole, and the library's copies. -/
import Derived.Test.YtldgpkaecfgagaaFresh
import Derived.Outline
import Derived.IntWalk
import Derived.Lib.SliceRun
import Derived.Maps.AppendAt
namespace Go.Proofs.Ytldgpkaecfgagaa
open Go.RowKit PolyM PackM FoldM DevM

theorem isblock_yes (a : Option Addr) (n c : Nat) (w : World) (h : n = 0 ∨ n = 128) :
    Calls Try.prog 66 #[.slice a n c] w fun e w' => e = .returned (.bool true) ∧ w = w' := by
  have hm : n ≤ 9223372036854775807 := by omega
  have hx : (((n : Int) == 0) = true) ∨ (((n : Int) == 0) = false ∧ ((n : Int) == 128) = true) := by
    rcases h with rfl | rfl
    · exact .inl rfl
    · exact .inr ⟨rfl, rfl⟩
  clear h
  rcases hx with d0 | ⟨d0, d1⟩
  all_goals
    go_enter Try.func66, Try.ntmps66
    go_wp2
    go_ret
    exact ⟨rfl, rfl⟩
theorem isblock_no (a : Option Addr) (n c : Nat) (w : World) (_hm : n ≤ 9223372036854775807) (h : ¬ (n = 0 ∨ n = 128)) :
    Calls Try.prog 66 #[.slice a n c] w fun e w' => e = .returned (.bool false) ∧ w = w' := by
  have d0 : ((n : Int) == 0) = false := by simp; omega
  have d1 : ((n : Int) == 128) = false := by simp; omega
  clear h
  go_enter Try.func66, Try.ntmps66
  go_wp2
  go_ret
  exact ⟨rfl, rfl⟩
theorem isblock_calls (a : Option Addr) (n c : Nat) (zs : List Int) (w : World) (h : Ints .u8 w a n zs) :
    Calls Try.prog 66 #[.slice a n c] w fun e w' => e = .returned (.bool (decide (Blk zs))) ∧ w = w' := by
  by_cases hb : n = 0 ∨ n = 128
  · rw [decide_eq_true (show Blk zs by unfold Blk; rw [h.len]; exact hb)]
    exact isblock_yes a n c w hb
  · rw [decide_eq_false (show ¬ Blk zs by unfold Blk; rw [h.len]; exact hb)]
    exact isblock_no a n c w h.max hb

theorem whole_calls (a : Option Addr) (n c : Nat) (zs : List Int) (w : World) (h : Ints .u8 w a n zs) (hn : n ≤ 128) :
    Calls Try.prog 64 #[.slice a n c] w (NewBlk w (pad zs)) := by
  have hmk := make_128
  have hl := Lib.hid h.len
  have hsp := map_splice zs
  have hin : ∀ W, Below w.heap.size w W → 0 < zs.length → ∃ ad, a = some ad ∧ ∀ j v, (zs.map (Value.int .u8))[j]? = some v → W.cell? (ad.add j) = some v := fun W hW => ints_src (h.below hW (Nat.le_refl _))
  go_enter Try.func64, Try.ntmps64
  go_wp2_with (refine wpList_copy_splice rfl (.tmp 5) (.tmp 6) 29 29 rfl 5 Try.underlying29 (by kernel_rfl) _ _ _ _ _ _ rfl rfl w.heap.size 0 (noughts.map (Value.int .u8)) 5 ?c1 (zs.map (Value.int .u8)) ?c2 ?c3 ?c4 ?c5 w.heap.size w ?c6 ?c7 ?_)
  case c1 => exact heap_alloc_new _ _
  case c2 => rw [List.length_map, hl.out]; exact (Nat.min_eq_left hn).symm
  case c3 =>
    intro h0
    obtain ⟨ad, e, q⟩ := hin _ ((Below.refl _ _).alloc (Nat.le_refl _) (.cells (cells noughts) 5)) (by simpa using h0)
    exact ⟨ad, e, fun j z hz => q j _ (by rw [List.getElem?_map, hz]; rfl)⟩
  case c4 => simp [noughts]; rw [hl.out]; exact hn
  case c5 => simp [Value.oneCell']
  case c6 => exact (Below.refl _ _).alloc (Nat.le_refl _) _
  case c7 => omega
  intro w1 hg1 hb1
  clear hin hsp hmk
  go_wp2
  go_ret
  exact ⟨w.heap.size, Nat.le_refl _, rfl, hg1.out, hb1⟩

theorem bytes_clone (a : Option Addr) (n c : Nat) (zs : List Int) (w : World) (h : Ints .u8 w a n zs) (hn : n ≤ 1000000) :
    Calls Try.prog 65 #[.slice a n c] w fun e w' => ∃ v, e = .returned v ∧ Fresh w.heap.size w' v zs ∧ Below w.heap.size w w' := by
  obtain ⟨i0, hi0, hz0, hz1, hz2⟩ := info_parts byte_info
  have q22 : ∀ (w : World) (a : Option Addr) (n c n' c' : Nat), (binOp .eql 29 (.slice a n c) (.slice none n' c')).run Try.prog w = .ok (.bool a.isNone) w := fun w a n c n' c' => Lib.run_eql_slice_nil w _ _ a n c n' c' Try.underlying29
  rcases a with _ | x
  · obtain rfl : zs = [] := by
      rcases h.row with h0 | ⟨_, _, h0, _⟩
      · exact List.eq_nil_of_length_eq_zero (by rw [h.len, h0])
      · cases h0
    clear h
    go_enter Try.func65, Try.ntmps65
    go_wp2
    go_ret
    exact ⟨_, rfl, Fresh.nil _ _, Below.refl _ _⟩
  · have hr : Row (w.alloc (.cells #[] 5)) 1 (some x) n (zs.map (Value.int .u8)) := h.toRow.below ((Below.refl _ _).alloc (Nat.le_refl _) _) (Nat.le_refl _)
    have hI := Lib.hid h
    clear h
    go_enter Try.func65, Try.ntmps65
    go_wp2_with (at_builtin; refine wpList_append_row _ rfl (.tmp 5) (.tmp 6) 29 rfl w.heap.size 5 i0 (.int .u8 0) 1 1 Try.underlying29 hi0 hz0 hz1 hz2 rfl (by omega) _ 0 [] rfl (World.ownsRow_made w #[] 0 (Nat.le_refl _) (Nat.zero_le _) rfl) (some x) n c (zs.map (Value.int .u8)) rfl hr (by simp [Value.oneCell']) (by simp only [maxLen]; omega) (by omega) (by simp) ?_)
    intro v' w1 hown hgrow hv
    have hb : Below w.heap.size w w1 := ((Below.refl _ w).alloc (Nat.le_refl _) _).grown hgrow (by simp) (by intro k hk; simp [Value.ownBlock] at hk; omega)
    have hF := Lib.hid (Fresh.ofOwn hown (by have := hI.out.max; omega) hI.out.wf)
    clear hown hgrow hv hr
    go_wp2
    go_ret
    exact ⟨v', rfl, hF.out, hb⟩
end Go.Proofs.Ytldgpkaecfgagaa
