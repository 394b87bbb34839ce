/- The walks of the laws' own helpers for layer 3: full, alive, at; and of the test which blocks are great. -/
import Derived.Test.YtdoafdgikmloiaaFoldWalk
import Derived.Great.BuildSlice
import Derived.RegionTactic
import Derived.WalkLawsBesides
import Derived.Deep.RegionHeld3
import Derived.Deep.QuietTactic
import Derived.BigQuiet
namespace Go.Proofs.Ytdoafdgikmloiaa
open Go.RowKit PolyM PackM FoldM

/-- A block of which k bytes are x, noughts behind. -/
def fullK (x : Int) (k : Nat) : List Int := (List.range 128).map fun j => if j < k then x else 0
def fullL (x : Int) : List Int := List.replicate 128 x
theorem fullK_len (x : Int) (k : Nat) : (fullK x k).length = 128 := by simp [fullK]
theorem fullK_getD {x : Int} {k j : Nat} (h : j < 128) : (fullK x k).getD j 0 = if j < k then x else 0 := by
  simp [fullK, List.getD_eq_getElem?_getD, List.getElem?_map, List.getElem?_range h]
theorem fullK_zero (x : Int) : fullK x 0 = noughts := by
  refine ext128 (fullK_len _ _) (by simp [noughts]) fun j hj => ?_
  rw [fullK_getD hj, if_neg (by omega), noughts, List.getD_eq_getElem?_getD, List.getElem?_replicate, if_pos hj]; rfl
theorem fullK_all (x : Int) : fullK x 128 = fullL x := by
  refine ext128 (fullK_len _ _) (by simp [fullL]) fun j hj => ?_
  rw [fullK_getD hj, if_pos hj, fullL, List.getD_eq_getElem?_getD, List.getElem?_replicate, if_pos hj]; rfl
theorem fullK_succ {x : Int} {k : Nat} (h : k < 128) : fullK x (k + 1) = (fullK x k).set k x := by
  refine ext128 (fullK_len _ _) (by rw [List.length_set, fullK_len]) fun j hj => ?_
  rw [fullK_getD hj, getD_set (by rw [fullK_len]; exact h), fullK_getD hj]
  by_cases e : k = j
  · rw [if_pos e, if_pos (by omega)]
  · rw [if_neg e]
    by_cases q : j < k
    · rw [if_pos q, if_pos (by omega)]
    · rw [if_neg q, if_neg (by omega)]
theorem fullL_len (x : Int) : (fullL x).length = 128 := by simp [fullL]
theorem fullL_bytes {x : Int} (h : 0 ≤ x ∧ x ≤ 255) : Bytes (fullL x) := fun z hz => by rw [List.eq_of_mem_replicate hz]; exact h

set_option maxRecDepth 100000 in
theorem full_calls (x : Int) (w : World) (h0 : 0 ≤ x) (h1 : x ≤ 255) :
    Calls Try.prog 11 #[.int .u8 x] w (NewBlk w (fullL x)) := by
  have hmk := make_128
  have hg0 : (w.alloc (.cells (cells noughts) 5)).heap[w.heap.size]? = some (.cells (cells (fullK x 0)) 5 (0, 0)) := by rw [fullK_zero]; exact heap_alloc_new _ _
  have hb0 : Below w.heap.size w (w.alloc (.cells (cells noughts) 5)) := (Below.refl _ _).alloc (Nat.le_refl _) _
  go_enter Try.func11, Try.ntmps11
  go_wp2
  generalize World.alloc _ _ = w1 at *
  obtain ⟨g, hg, hgw⟩ : ∃ g, g = w.heap.size ∧ w.heap.size ≤ g := ⟨_, rfl, Nat.le_refl _⟩
  have hgH : Hid (w.heap.size = g) := hg.symm
  rw [← hg] at hg0 ⊢
  clear hg hmk
  go_loopw [4] (fun i wr => ∃ k : Nat, k ≤ 128 ∧ i = .int .i64 k ∧ wr.heap[g]? = some (.cells (cells (fullK x k)) 5 (0, 0)) ∧ Below w.heap.size w wr) (fun i _ => 128 - (intOf i).toNat)
  case atStart => exact ⟨0, by omega, rfl, hg0, hb0⟩
  case round =>
    obtain ⟨k, hk, rfl, hgk, hbk⟩ := hrel
    clear hg0 hb0
    by_cases hkn : k < 128
    · have hcell : wr.cell? ⟨g, k, none⟩ = some (.int .u8 ((fullK x k).getD k 0)) := by
        rw [cell_of_row _ _ _ _ _ _ hgk, cells_getD (by rw [fullK_len]; omega)]
      have hfr : wr.frozen? ⟨g, k, none⟩ = false := frozen_of_row _ _ _ _ _ hgk
      have F : Hid (fullK x (k + 1) = (fullK x k).set k x) := fullK_succ hkn
      generalize (fullK x k).getD k 0 = y at *
      go_wp2
      go_roundw
      case rel =>
        refine ⟨k + 1, by omega, by go_num, ?_, hbk.setCell hgw _⟩
        rw [heap_setCell_same _ _ _ _ _ _ hgk, cells_set, F.out]
      case measure => simp [intOf]; omega
    · obtain rfl : k = 128 := by omega
      go_wp2
      go_ret
      exact ⟨g, hgw, rfl, by rw [hgk, fullK_all], hbk⟩

/-- The string of a block that nothing turns. -/
theorem block_text {w : World} {g : Nat} {t : TypeId} {l : List Int} (h : w.heap[g]? = some (.cells (cells l) t (0, 0))) (hl : l.length = 128) (hb : Bytes l) {B : Nat} (hB : w.heap.size ≤ B) {W : World} (hW : Below B w W) :
    (convert 22 9 (.slice (some ⟨g, 0, none⟩) 128 128)).run Try.prog W = .ok (.string (strOfNums l)) W :=
  ((Ints.ofCells h hl (by omega) hb).below hW hB).text Try.underlying22 Try.underlying5 Try.underlying9
/-- A slice literal of headers. -/
theorem slab_new (w : World) (vs : List Value) (ls : List (List Int)) {n : Nat} (h : Hdrs (w.alloc (.cells vs.toArray 22)) vs ls) (hm : n ≤ 9223372036854775807) (hn : vs.length = n := by rfl) : Slab (w.alloc (.cells vs.toArray 22)) (some ⟨w.heap.size, 0, none⟩) n vs ls := by
  have hg : (w.alloc (.cells vs.toArray 22)).heap[w.heap.size]? = some (.cells vs.toArray 22 (0, 0)) := heap_alloc_new _ _
  refine ⟨⟨by omega, .inr ⟨w.heap.size, 0, rfl, by simp, fun i v hv => ?_⟩⟩, hm, h⟩
  rw [cell_of_row _ _ _ _ _ _ hg, Nat.zero_add, ← hv, ← Array.getElem?_toList]
theorem text_call {S : World → Prop} {K : Nat} {w3 : World} (htext : ∀ W, Below K w3 W → S W) (hK : K ≤ w3.heap.size) {W W' : World} (h : Below K w3 W ∧ S W) (hb : Below W.heap.size W W') : Below K w3 W' ∧ S W' :=
  have q := h.1.trans (hb.mono (Nat.le_trans hK h.1.size))
  ⟨q, htext _ q⟩
set_option maxRecDepth 100000 in
theorem alive_calls (w : World) : Calls Try.prog 12 #[] w fun e w' => e = .returned (.bool true) ∧ Below w.heap.size w w' := by
  have c0 : code [fullL 5, fullL 3] = 0 := by decide +kernel
  have f0 : foldL [fullL 5, fullL 3] = fullL 6 := by decide +kernel
  have cf := fun W a n c hs (h : Slab W a n hs [fullL 5, fullL 3]) => fold_calls a n c hs _ W h
  unfold FoldIs at cf
  rw [c0, f0] at cf
  go_enter Try.func12, Try.ntmps12
  go_wp2_with fail
  refine (full_calls 5 _ (by omega) (by omega)).mono ?_
  rintro e w1 ⟨g1, hg1, rfl, hc1, hb1⟩
  go_wp2_with fail
  refine (full_calls 3 _ (by omega) (by omega)).mono ?_
  rintro e w2 ⟨g2, hg2, rfl, hc2, hb2⟩
  go_wp2_with fail
  refine (cf _ _ _ _ [.slice (some ⟨g1, 0, none⟩) 128 128, .slice (some ⟨g2, 0, none⟩) 128 128] ?_).mono ?_
  · have hb : Below w1.heap.size w1 (w2.alloc (.cells #[.slice (some ⟨g1, 0, none⟩) 128 128, .slice (some ⟨g2, 0, none⟩) 128 128] 22)) := hb2.alloc hb2.size _
    have hi1 := (Ints.ofCells hc1 (fullL_len 5) (by omega) (fullL_bytes (by omega))).below hb (Nat.le_refl _)
    have hi2 := (Ints.ofCells hc2 (fullL_len 3) (by omega) (fullL_bytes (by omega))).below ((Below.refl w2.heap.size w2).alloc (Nat.le_refl _) (.cells #[.slice (some ⟨g1, 0, none⟩) 128 128, .slice (some ⟨g2, 0, none⟩) 128 128] 22)) (Nat.le_refl _)
    exact slab_new _ _ _ ((Hdrs.one hi1).append (Hdrs.one hi2)) (by omega)
  rintro e w3 (⟨-, g3, hg3, rfl, hc3, hb3⟩ | ⟨h, _⟩)
  case inr => exact absurd rfl h
  have htext := fun W (hW : Below w3.heap.size w3 W) => block_text hc3 (fullL_len 6) (fullL_bytes (by omega)) (Nat.le_refl _) hW
  go_wp2_with fail
  refine wp_region_held_drew (S := (fun W => Below w3.heap.size w3 W ∧ (convert 22 9 (.slice (some ⟨g3, 0, none⟩) 128 128)).run Try.prog W = .ok (.string (strOfNums (fullL 6))) W)) (by kernel_rfl) ?_ (fun hHeld => ?_)
  · first | assumption | exact ⟨(Below.refl _ _).drew, htext _ (Below.refl _ _).drew⟩ | exact text_call htext (Nat.le_refl _) (by assumption) (by assumption)
  refine wpAnyH_ready (rs := [0]) (by kernel_rfl) (by simp) ?_
  refine AllReadyH.cons rfl (fun K hK => ?_) AllReadyH.nil
  go_simp
  refine hK.out _ _ ?_ (fun hHeld2 => ?_)
  · first | assumption | exact ⟨(Below.refl _ _).drew, htext _ (Below.refl _ _).drew⟩ | exact text_call htext (Nat.le_refl _) (by assumption) (by assumption)
  clear hK K hHeld
  have hHeld := hHeld2
  clear hHeld2
  try simp only [Act.put, List.setIfInBounds_toArray, List.set_cons_zero, List.set_cons_succ]
  refine wpAnyH_ready (rs := [1]) (by kernel_rfl) (by simp) ?_
  refine AllReadyH.cons rfl (fun K hK => ?_) AllReadyH.nil
  go_simp
  refine hK.out _ _ ?_ (fun hHeld2 => ?_)
  · first | assumption | exact ⟨(Below.refl _ _).drew, htext _ (Below.refl _ _).drew⟩ | exact text_call htext (Nat.le_refl _) (by assumption) (by assumption)
  clear hK K hHeld
  have hHeld := hHeld2
  clear hHeld2
  try simp only [Act.put, List.setIfInBounds_toArray, List.set_cons_zero, List.set_cons_succ]
  refine wpAnyH_ready (rs := [2]) (by kernel_rfl) (by simp) ?_
  refine AllReadyH.cons rfl (fun K hK => ?_) AllReadyH.nil
  go_simp
  refine hK.out _ _ ?_ (fun hHeld2 => ?_)
  · first | assumption | exact ⟨(Below.refl _ _).drew, htext _ (Below.refl _ _).drew⟩ | exact text_call htext (Nat.le_refl _) (by assumption) (by assumption)
  clear hK K hHeld
  have hHeld := hHeld2
  clear hHeld2
  try simp only [Act.put, List.setIfInBounds_toArray, List.set_cons_zero, List.set_cons_succ]
  refine wpAnyH_take (i := 3) (v := ?_) rfl (by kernel_rfl) (by kernel_rfl) (by kernel_rfl) (fun _ _ _ h => h) (Or.inl ⟨by rfl, ?_⟩) (by assumption) ?_
  rotate_left
  · (intro w hSw; (try dsimp only at hSw); go_simp; try with_reducible rfl)
  try simp only [Act.put, List.setIfInBounds_toArray, List.set_cons_zero, List.set_cons_succ]
  refine wpAnyH_take (i := 4) (v := ?_) rfl (by kernel_rfl) (by kernel_rfl) (by kernel_rfl) (fun _ _ _ h => h) (Or.inl ⟨by rfl, ?_⟩) (by assumption) ?_
  rotate_left
  · (intro w hSw; (try dsimp only at hSw); go_simp; try with_reducible rfl)
  try simp only [Act.put, List.setIfInBounds_toArray, List.set_cons_zero, List.set_cons_succ]
  refine wpAnyH_ready (rs := [5]) (by kernel_rfl) (by simp) ?_
  refine AllReadyH.cons rfl (fun K hK => ?_) AllReadyH.nil
  go_simp
  refine (full_calls 6 _ (by omega) (by omega)).mono ?_
  rintro e w9 ⟨g9, hg9, rfl, hc9, hb9⟩
  have ht9 := block_text hc9 (fullL_len 6) (fullL_bytes (by omega)) (Nat.le_refl _) (Below.refl _ _)
  go_wp2_with fail
  refine hK.out _ _ ?_ (fun hHeld2 => ?_)
  · first | assumption | exact ⟨(Below.refl _ _).drew, htext _ (Below.refl _ _).drew⟩ | exact text_call htext (Nat.le_refl _) (by assumption) (by assumption)
  clear hK K hHeld
  have hHeld := hHeld2
  clear hHeld2
  try simp only [Act.put, List.setIfInBounds_toArray, List.set_cons_zero, List.set_cons_succ]
  refine wpAnyH_ready (rs := [6]) (by kernel_rfl) (by simp) ?_
  refine AllReadyH.cons rfl (fun K hK => ?_) AllReadyH.nil
  go_simp
  refine hK.out _ _ ?_ (fun hHeld2 => ?_)
  · first | assumption | exact ⟨(Below.refl _ _).drew, htext _ (Below.refl _ _).drew⟩ | exact text_call htext (Nat.le_refl _) (by assumption) (by assumption)
  clear hK K hHeld
  have hHeld := hHeld2
  clear hHeld2
  try simp only [Act.put, List.setIfInBounds_toArray, List.set_cons_zero, List.set_cons_succ]
  refine wpAnyH_ready (rs := [7]) (by kernel_rfl) (by simp) ?_
  refine AllReadyH.cons rfl (fun K hK => ?_) AllReadyH.nil
  go_simp
  refine hK.out _ _ ?_ (fun hHeld2 => ?_)
  · first | assumption | exact ⟨(Below.refl _ _).drew, htext _ (Below.refl _ _).drew⟩ | exact text_call htext (Nat.le_refl _) (by assumption) (by assumption)
  clear hK K hHeld
  have hHeld := hHeld2
  clear hHeld2
  try simp only [Act.put, List.setIfInBounds_toArray, List.set_cons_zero, List.set_cons_succ]
  refine wpAnyH_ready (rs := [8]) (by kernel_rfl) (by simp) ?_
  refine AllReadyH.cons rfl (fun K hK => ?_) AllReadyH.nil
  go_simp
  refine hK.out _ _ ?_ (fun hHeld2 => ?_)
  · first | assumption | exact ⟨(Below.refl _ _).drew, htext _ (Below.refl _ _).drew⟩ | exact text_call htext (Nat.le_refl _) (by assumption) (by assumption)
  clear hK K hHeld
  have hHeld := hHeld2
  clear hHeld2
  try simp only [Act.put, List.setIfInBounds_toArray, List.set_cons_zero, List.set_cons_succ]
  refine wpAnyH_ready (rs := [9]) (by kernel_rfl) (by simp) ?_
  refine AllReadyH.cons rfl (fun K hK => ?_) AllReadyH.nil
  go_simp
  refine hK.out _ _ ?_ (fun hHeld2 => ?_)
  · first | assumption | exact ⟨(Below.refl _ _).drew, htext _ (Below.refl _ _).drew⟩ | exact text_call htext (Nat.le_refl _) (by assumption) (by assumption)
  clear hK K hHeld
  have hHeld := hHeld2
  clear hHeld2
  try simp only [Act.put, List.setIfInBounds_toArray, List.set_cons_zero, List.set_cons_succ]
  refine wpAnyH_done (by kernel_rfl) ?_ _
  have hb4 := And.left (a := Below w3.heap.size w3 _) (by assumption)
  go_wp2
  go_ret
  exact ⟨rfl, ((hb1.trans (hb2.mono hb1.size)).trans ((((Below.refl _ _).alloc (Nat.le_refl _) _).trans (hb3.mono (by simp))).mono (Nat.le_trans hb1.size hb2.size))).trans (hb4.mono (Nat.le_trans hb1.size (Nat.le_trans hb2.size (Nat.le_trans (by simp) hb3.size))))⟩
end Go.Proofs.Ytdoafdgikmloiaa
