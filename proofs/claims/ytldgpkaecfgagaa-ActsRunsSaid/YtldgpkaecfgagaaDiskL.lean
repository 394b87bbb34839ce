/- The walks of the laws' own helpers for layer 4: full, reads, lasts. -/
import Derived.Test.YtldgpkaecfgagaaDiskRead
import Derived.Test.YtldgpkaecfgagaaDiskStr
import Derived.RegionTactic
import Derived.WalkLawsBesides
import Derived.Deep.RegionHeld3
import Derived.Deep.QuietTactic
import Derived.BigQuiet
import Derived.Lib.Bytes
namespace Go.Proofs.Ytldgpkaecfgagaa
open Go.RowKit PolyM PackM FoldM DevM

/-- A block of which k bytes are x, noughts behind. -/
def fullK (x : Int) (k : Nat) : List Int := (List.range 128).map fun j => if j < k then x else 0
def fullL (x : Int) : List Int := List.replicate 128 x
theorem fullK_len (x : Int) (k : Nat) : (fullK x k).length = 128 := by simp [fullK]
theorem fullK_getD {x : Int} {k j : Nat} (h : j < 128) : (fullK x k).getD j 0 = if j < k then x else 0 := by
  simp [fullK, List.getD_eq_getElem?_getD, List.getElem?_map, List.getElem?_range h]
theorem fullK_zero (x : Int) : fullK x 0 = noughts := by
  refine ext128 (fullK_len _ _) (by simp [noughts]) fun j hj => ?_
  rw [fullK_getD hj, if_neg (by omega), noughts, List.getD_eq_getElem?_getD, List.getElem?_replicate, if_pos hj]; rfl
theorem fullK_all (x : Int) : fullK x 128 = fullL x := by
  refine ext128 (fullK_len _ _) (by simp [fullL]) fun j hj => ?_
  rw [fullK_getD hj, if_pos hj, fullL, List.getD_eq_getElem?_getD, List.getElem?_replicate, if_pos hj]; rfl
theorem fullK_succ {x : Int} {k : Nat} (h : k < 128) : fullK x (k + 1) = (fullK x k).set k x := by
  refine ext128 (fullK_len _ _) (by rw [List.length_set, fullK_len]) fun j hj => ?_
  rw [fullK_getD hj, getD_set (by rw [fullK_len]; exact h), fullK_getD hj]
  by_cases e : k = j
  · rw [if_pos e, if_pos (by omega)]
  · rw [if_neg e]
    by_cases q : j < k
    · rw [if_pos q, if_pos (by omega)]
    · rw [if_neg q, if_neg (by omega)]
theorem fullL_len (x : Int) : (fullL x).length = 128 := by simp [fullL]
theorem fullL_bytes {x : Int} (h : 0 ≤ x ∧ x ≤ 255) : Bytes (fullL x) := fun z hz => by rw [List.eq_of_mem_replicate hz]; exact h

set_option maxRecDepth 100000 in
theorem full_calls (x : Int) (w : World) (_h0 : 0 ≤ x) (_h1 : x ≤ 255) :
    Calls Try.prog 18 #[.int .u8 x] w (NewBlk w (fullL x)) := by
  have hmk := make_128
  have hg0 : (w.alloc (.cells (cells noughts) 5)).heap[w.heap.size]? = some (.cells (cells (fullK x 0)) 5 (0, 0)) := by rw [fullK_zero]; exact heap_alloc_new _ _
  have hb0 : Below w.heap.size w (w.alloc (.cells (cells noughts) 5)) := (Below.refl _ _).alloc (Nat.le_refl _) _
  go_enter Try.func18, Try.ntmps18
  go_wp2
  generalize World.alloc _ _ = w1 at *
  obtain ⟨g, hg, hgw⟩ : ∃ g, g = w.heap.size ∧ w.heap.size ≤ g := ⟨_, rfl, Nat.le_refl _⟩
  have hgH : Hid (w.heap.size = g) := hg.symm
  rw [← hg] at hg0 ⊢
  clear hg hmk
  go_loopw [4] (fun i wr => ∃ k : Nat, k ≤ 128 ∧ i = .int .i64 k ∧ wr.heap[g]? = some (.cells (cells (fullK x k)) 5 (0, 0)) ∧ Below w.heap.size w wr) (fun i _ => 128 - (intOf i).toNat)
  case atStart => exact ⟨0, by omega, rfl, hg0, hb0⟩
  case round =>
    obtain ⟨k, hk, rfl, hgk, hbk⟩ := hrel
    clear hg0 hb0
    by_cases hkn : k < 128
    · have hcell : wr.cell? ⟨g, k, none⟩ = some (.int .u8 ((fullK x k).getD k 0)) := by
        rw [cell_of_row _ _ _ _ _ _ hgk, cells_getD (by rw [fullK_len]; omega)]
      have hfr : wr.frozen? ⟨g, k, none⟩ = false := frozen_of_row _ _ _ _ _ hgk
      have F : Hid (fullK x (k + 1) = (fullK x k).set k x) := fullK_succ hkn
      generalize (fullK x k).getD k 0 = y at *
      go_wp2
      go_roundw
      case rel =>
        refine ⟨k + 1, by omega, by go_num, ?_, hbk.setCell hgw _⟩
        rw [heap_setCell_same _ _ _ _ _ _ hgk, cells_set, F.out]
      case measure => simp [intOf]; omega
    · obtain rfl : k = 128 := by omega
      go_wp2
      go_ret
      exact ⟨g, hgw, rfl, by rw [hgk, fullK_all], hbk⟩

/-- The string of a block that nothing turns. -/
theorem block_text {w : World} {g : Nat} {t : TypeId} {l : List Int} (h : w.heap[g]? = some (.cells (cells l) t (0, 0))) (hl : l.length = 128) (hb : Bytes l) {B : Nat} (hB : w.heap.size ≤ B) {W : World} (hW : Below B w W) :
    (convert 29 9 (.slice (some ⟨g, 0, none⟩) 128 128)).run Try.prog W = .ok (.string (strOfNums l)) W :=
  ((Ints.ofCells h hl (by omega) hb).below hW hB).text Try.underlying29 Try.underlying5 Try.underlying9
theorem text_call {S : World → Prop} {K : Nat} {w3 : World} (htext : ∀ W, Below K w3 W → S W) (hK : K ≤ w3.heap.size) {W W' : World} (h : Below K w3 W ∧ S W) (hb : Below W.heap.size W W') : Below K w3 W' ∧ S W' :=
  have q := h.1.trans (hb.mono (Nat.le_trans hK h.1.size))
  ⟨q, htext _ q⟩
theorem Fresh.text {K : Nat} {w : World} {A : Option Addr} {L C : Nat} {zs : List Int} (h : Fresh K w (.slice A L C) zs) {W : World} (hW : Below w.heap.size w W) : (convert 29 9 (.slice A L C)).run Try.prog W = .ok (.string (strOfNums zs)) W := by
  obtain ⟨A', L', C', e, hI, _⟩ := h
  cases e
  exact (hI.below hW (Nat.le_refl _)).text Try.underlying29 Try.underlying5 Try.underlying9
theorem Fresh.bytes {K : Nat} {w : World} {v : Value} {zs : List Int} (h : Fresh K w v zs) : Bytes zs := by
  obtain ⟨_, _, _, _, hI, _⟩ := h
  exact bytes_of hI
set_option maxRecDepth 100000 in
set_option maxHeartbeats 4000000 in
theorem reads_calls (v : Value) (d : Dev) (k x : Int) (w : World) (h : DevV w v d) (h0 : 0 ≤ x) (h1 : x ≤ 255) :
    Calls Try.prog 39 #[v, .int .i64 k, .int .u8 x] w fun e w' => e = .returned (.bool (decide (useE d k [] = 0 ∧ seen d k = fullL x))) ∧ Below w.heap.size w w' := by
  have hv := h
  obtain ⟨A0, n, C0, hs, B, m, D, ht, rfl, _, _⟩ := h
  have hb : Below w.heap.size w (w.alloc (.cells #[.slice A0 n C0, .slice B m D, .bool d.dead] 25)) := (Below.refl _ _).alloc (Nat.le_refl _) _
  have cr := read_calls _ d k _ (hv.below hb (Nat.le_refl _))
  have hi := useE_i64 d k []
  by_cases hE : useE d k [] = 0
  · have F : Hid (decide (useE d k [] = 0 ∧ seen d k = fullL x) = decide (seen d k = fullL x)) := by
      refine Lib.hid ?_
      rw [decide_eq_decide]
      exact ⟨fun q => q.2, fun q => ⟨hE, q⟩⟩
    rw [F.out]
    rw [hE, resB_zero] at cr
    clear hE hi F hv
    go_enter Try.func39, Try.ntmps39
    go_wp2_with fail
    (with_reducible refine cr.mono ?_)
    rintro e w3 ⟨A, L, C, rfl, hF, hb3⟩
    have htext := fun W (hW : Below w3.heap.size w3 W) => hF.text hW
    have hBy := Lib.hid hF.bytes
    have hbw := hb.trans (hb3.mono hb.size)
    clear cr hF hb hb3
    go_wp2_with fail
    refine wp_region_held_drew (S := (fun W => Below w3.heap.size w3 W ∧ (convert 29 9 (.slice A L C)).run Try.prog W = .ok (.string (strOfNums (seen d k))) W)) (by kernel_rfl) ?_ (fun hHeld => ?_)
    · first | assumption | exact ⟨(Below.refl _ _).drew, htext _ (Below.refl _ _).drew⟩ | exact text_call htext (Nat.le_refl _) (by assumption) (by assumption)
    refine wpAnyH_ready (rs := [0]) (by kernel_rfl) (by simp) ?_
    refine AllReadyH.cons rfl (fun K hK => ?_) AllReadyH.nil
    go_simp
    refine hK.out _ _ ?_ (fun hHeld2 => ?_)
    · first | assumption | exact ⟨(Below.refl _ _).drew, htext _ (Below.refl _ _).drew⟩ | exact text_call htext (Nat.le_refl _) (by assumption) (by assumption)
    clear hK K hHeld
    have hHeld := hHeld2
    clear hHeld2
    try simp only [Act.put, List.setIfInBounds_toArray, List.set_cons_zero, List.set_cons_succ]
    refine wpAnyH_ready (rs := [1]) (by kernel_rfl) (by simp) ?_
    refine AllReadyH.cons rfl (fun K hK => ?_) AllReadyH.nil
    go_simp
    refine hK.out _ _ ?_ (fun hHeld2 => ?_)
    · first | assumption | exact ⟨(Below.refl _ _).drew, htext _ (Below.refl _ _).drew⟩ | exact text_call htext (Nat.le_refl _) (by assumption) (by assumption)
    clear hK K hHeld
    have hHeld := hHeld2
    clear hHeld2
    try simp only [Act.put, List.setIfInBounds_toArray, List.set_cons_zero, List.set_cons_succ]
    refine wpAnyH_ready (rs := [2]) (by kernel_rfl) (by simp) ?_
    refine AllReadyH.cons rfl (fun K hK => ?_) AllReadyH.nil
    go_simp
    refine hK.out _ _ ?_ (fun hHeld2 => ?_)
    · first | assumption | exact ⟨(Below.refl _ _).drew, htext _ (Below.refl _ _).drew⟩ | exact text_call htext (Nat.le_refl _) (by assumption) (by assumption)
    clear hK K hHeld
    have hHeld := hHeld2
    clear hHeld2
    try simp only [Act.put, List.setIfInBounds_toArray, List.set_cons_zero, List.set_cons_succ]
    refine wpAnyH_take (i := 3) (v := ?_) rfl (by kernel_rfl) (by kernel_rfl) (by kernel_rfl) (fun _ _ _ h => h) (Or.inl ⟨by rfl, ?_⟩) (by assumption) ?_
    rotate_left
    · (intro w hSw; (try dsimp only at hSw); go_simp; try with_reducible rfl)
    try simp only [Act.put, List.setIfInBounds_toArray]
    refine wpAnyH_take (i := 4) (v := ?_) rfl (by kernel_rfl) (by kernel_rfl) (by kernel_rfl) (fun _ _ _ h => h) (Or.inl ⟨by rfl, ?_⟩) (by assumption) ?_
    rotate_left
    · (intro w hSw; (try dsimp only at hSw); go_simp; try with_reducible rfl)
    try simp only [Act.put]
    refine wpAnyH_take (i := 5) (v := ?_) rfl (by kernel_rfl) (by kernel_rfl) (by kernel_rfl) (fun _ _ _ h => h) (Or.inl ⟨by rfl, ?_⟩) (by assumption) ?_
    rotate_left
    · (intro w hSw; (try dsimp only at hSw); go_simp; try with_reducible rfl)
    try simp only [Act.put]
    refine wpAnyH_ready (rs := [6]) (by kernel_rfl) (by simp) ?_
    refine AllReadyH.cons rfl (fun K hK => ?_) AllReadyH.nil
    go_simp
    refine (full_calls x _ h0 h1).mono ?_
    rintro e w9 ⟨g9, hg9, rfl, hc9, hb9⟩
    have ht9 := block_text hc9 (fullL_len x) (fullL_bytes ⟨h0, h1⟩) (Nat.le_refl _) (Below.refl _ _)
    go_wp2_with fail
    refine hK.out _ _ ?_ (fun hHeld2 => ?_)
    · first | assumption | exact ⟨(Below.refl _ _).drew, htext _ (Below.refl _ _).drew⟩ | exact text_call htext (Nat.le_refl _) (by assumption) (by assumption)
    clear hK K hHeld
    have hHeld := hHeld2
    clear hHeld2
    try simp only [Act.put, List.setIfInBounds_toArray, List.set_cons_zero, List.set_cons_succ]
    refine wpAnyH_ready (rs := [7]) (by kernel_rfl) (by simp) ?_
    refine AllReadyH.cons rfl (fun K hK => ?_) AllReadyH.nil
    go_simp
    refine hK.out _ _ ?_ (fun hHeld2 => ?_)
    · first | assumption | exact ⟨(Below.refl _ _).drew, htext _ (Below.refl _ _).drew⟩ | exact text_call htext (Nat.le_refl _) (by assumption) (by assumption)
    clear hK K hHeld
    have hHeld := hHeld2
    clear hHeld2
    try simp only [Act.put, List.setIfInBounds_toArray, List.set_cons_zero, List.set_cons_succ]
    refine wpAnyH_ready (rs := [8]) (by kernel_rfl) (by simp) ?_
    refine AllReadyH.cons rfl (fun K hK => ?_) AllReadyH.nil
    go_simp
    refine hK.out _ _ ?_ (fun hHeld2 => ?_)
    · first | assumption | exact ⟨(Below.refl _ _).drew, htext _ (Below.refl _ _).drew⟩ | exact text_call htext (Nat.le_refl _) (by assumption) (by assumption)
    clear hK K hHeld
    have hHeld := hHeld2
    clear hHeld2
    try simp only [Act.put, List.setIfInBounds_toArray, List.set_cons_zero, List.set_cons_succ]
    refine wpAnyH_ready (rs := [9]) (by kernel_rfl) (by simp) ?_
    refine AllReadyH.cons rfl (fun K hK => ?_) AllReadyH.nil
    go_simp
    refine hK.out _ _ ?_ (fun hHeld2 => ?_)
    · first | assumption | exact ⟨(Below.refl _ _).drew, htext _ (Below.refl _ _).drew⟩ | exact text_call htext (Nat.le_refl _) (by assumption) (by assumption)
    clear hK K hHeld
    have hHeld := hHeld2
    clear hHeld2
    try simp only [Act.put, List.setIfInBounds_toArray, List.set_cons_zero, List.set_cons_succ]
    refine wpAnyH_ready (rs := [10]) (by kernel_rfl) (by simp) ?_
    refine AllReadyH.cons rfl (fun K hK => ?_) AllReadyH.nil
    go_simp
    refine hK.out _ _ ?_ (fun hHeld2 => ?_)
    · first | assumption | exact ⟨(Below.refl _ _).drew, htext _ (Below.refl _ _).drew⟩ | exact text_call htext (Nat.le_refl _) (by assumption) (by assumption)
    clear hK K hHeld
    have hHeld := hHeld2
    clear hHeld2
    try simp only [Act.put, List.setIfInBounds_toArray, List.set_cons_zero, List.set_cons_succ]
    refine wpAnyH_done (by kernel_rfl) ?_ _
    have hB := hbw.trans (hHeld.1.mono hbw.size)
    clear hHeld htext ht9
    go_wp2
    go_ret
    refine ⟨ret_bool ?_, hB⟩
    first | exact str_eq hBy.out (fullL_bytes ⟨h0, h1⟩) | (simp only [Bool.true_and]; exact str_eq hBy.out (fullL_bytes ⟨h0, h1⟩)) | (simp; exact str_eq hBy.out (fullL_bytes ⟨h0, h1⟩))
  · have F : Hid (decide (useE d k [] = 0 ∧ seen d k = fullL x) = false) := Lib.hid (decide_eq_false fun q => hE q.1)
    rw [F.out]
    have he : (useE d k [] == 0) = false := by simp [hE]
    rw [resB_not hE] at cr
    generalize useE d k [] = er at *
    clear hE F hv
    go_enter Try.func39, Try.ntmps39
    go_wp2_with fail
    (with_reducible refine cr.mono ?_)
    rintro e w3 ⟨A, L, C, rfl, hF, hb3⟩
    have hbw := hb.trans (hb3.mono hb.size)
    clear cr hF hb hb3
    go_wp2
    go_quiet (fail)
    go_wp2
    go_ret
    exact ⟨rfl, below_drewN hbw _⟩
set_option maxRecDepth 100000 in
set_option maxHeartbeats 4000000 in
theorem lasts_calls (v : Value) (d : Dev) (k x : Int) (w : World) (h : DevV w v d) (h0 : 0 ≤ x) (h1 : x ≤ 255) :
    Calls Try.prog 40 #[v, .int .i64 k, .int .u8 x] w fun e w' => e = .returned (.bool (decide (useE d k [] = 0 ∧ lies d k = fullL x))) ∧ Below w.heap.size w w' := by
  have hv := h
  obtain ⟨A0, n, C0, hs, B, m, D, ht, rfl, _, _⟩ := h
  have hb : Below w.heap.size w (w.alloc (.cells #[.slice A0 n C0, .slice B m D, .bool d.dead] 25)) := (Below.refl _ _).alloc (Nat.le_refl _) _
  have cr := lasting_calls _ d k _ (hv.below hb (Nat.le_refl _))
  have hi := useE_i64 d k []
  by_cases hE : useE d k [] = 0
  · have F : Hid (decide (useE d k [] = 0 ∧ lies d k = fullL x) = decide (lies d k = fullL x)) := by
      refine Lib.hid ?_
      rw [decide_eq_decide]
      exact ⟨fun q => q.2, fun q => ⟨hE, q⟩⟩
    rw [F.out]
    rw [hE, resB_zero] at cr
    clear hE hi F hv
    go_enter Try.func40, Try.ntmps40
    go_wp2_with fail
    (with_reducible refine cr.mono ?_)
    rintro e w3 ⟨A, L, C, rfl, hF, hb3⟩
    have htext := fun W (hW : Below w3.heap.size w3 W) => hF.text hW
    have hBy := Lib.hid hF.bytes
    have hbw := hb.trans (hb3.mono hb.size)
    clear cr hF hb hb3
    go_wp2_with fail
    refine wp_region_held_drew (S := (fun W => Below w3.heap.size w3 W ∧ (convert 29 9 (.slice A L C)).run Try.prog W = .ok (.string (strOfNums (lies d k))) W)) (by kernel_rfl) ?_ (fun hHeld => ?_)
    · first | assumption | exact ⟨(Below.refl _ _).drew, htext _ (Below.refl _ _).drew⟩ | exact text_call htext (Nat.le_refl _) (by assumption) (by assumption)
    refine wpAnyH_ready (rs := [0]) (by kernel_rfl) (by simp) ?_
    refine AllReadyH.cons rfl (fun K hK => ?_) AllReadyH.nil
    go_simp
    refine hK.out _ _ ?_ (fun hHeld2 => ?_)
    · first | assumption | exact ⟨(Below.refl _ _).drew, htext _ (Below.refl _ _).drew⟩ | exact text_call htext (Nat.le_refl _) (by assumption) (by assumption)
    clear hK K hHeld
    have hHeld := hHeld2
    clear hHeld2
    try simp only [Act.put, List.setIfInBounds_toArray, List.set_cons_zero, List.set_cons_succ]
    refine wpAnyH_ready (rs := [1]) (by kernel_rfl) (by simp) ?_
    refine AllReadyH.cons rfl (fun K hK => ?_) AllReadyH.nil
    go_simp
    refine hK.out _ _ ?_ (fun hHeld2 => ?_)
    · first | assumption | exact ⟨(Below.refl _ _).drew, htext _ (Below.refl _ _).drew⟩ | exact text_call htext (Nat.le_refl _) (by assumption) (by assumption)
    clear hK K hHeld
    have hHeld := hHeld2
    clear hHeld2
    try simp only [Act.put, List.setIfInBounds_toArray, List.set_cons_zero, List.set_cons_succ]
    refine wpAnyH_ready (rs := [2]) (by kernel_rfl) (by simp) ?_
    refine AllReadyH.cons rfl (fun K hK => ?_) AllReadyH.nil
    go_simp
    refine hK.out _ _ ?_ (fun hHeld2 => ?_)
    · first | assumption | exact ⟨(Below.refl _ _).drew, htext _ (Below.refl _ _).drew⟩ | exact text_call htext (Nat.le_refl _) (by assumption) (by assumption)
    clear hK K hHeld
    have hHeld := hHeld2
    clear hHeld2
    try simp only [Act.put, List.setIfInBounds_toArray, List.set_cons_zero, List.set_cons_succ]
    refine wpAnyH_take (i := 3) (v := ?_) rfl (by kernel_rfl) (by kernel_rfl) (by kernel_rfl) (fun _ _ _ h => h) (Or.inl ⟨by rfl, ?_⟩) (by assumption) ?_
    rotate_left
    · (intro w hSw; (try dsimp only at hSw); go_simp; try with_reducible rfl)
    try simp only [Act.put, List.setIfInBounds_toArray]
    refine wpAnyH_take (i := 4) (v := ?_) rfl (by kernel_rfl) (by kernel_rfl) (by kernel_rfl) (fun _ _ _ h => h) (Or.inl ⟨by rfl, ?_⟩) (by assumption) ?_
    rotate_left
    · (intro w hSw; (try dsimp only at hSw); go_simp; try with_reducible rfl)
    try simp only [Act.put]
    refine wpAnyH_take (i := 5) (v := ?_) rfl (by kernel_rfl) (by kernel_rfl) (by kernel_rfl) (fun _ _ _ h => h) (Or.inl ⟨by rfl, ?_⟩) (by assumption) ?_
    rotate_left
    · (intro w hSw; (try dsimp only at hSw); go_simp; try with_reducible rfl)
    try simp only [Act.put]
    refine wpAnyH_ready (rs := [6]) (by kernel_rfl) (by simp) ?_
    refine AllReadyH.cons rfl (fun K hK => ?_) AllReadyH.nil
    go_simp
    refine (full_calls x _ h0 h1).mono ?_
    rintro e w9 ⟨g9, hg9, rfl, hc9, hb9⟩
    have ht9 := block_text hc9 (fullL_len x) (fullL_bytes ⟨h0, h1⟩) (Nat.le_refl _) (Below.refl _ _)
    go_wp2_with fail
    refine hK.out _ _ ?_ (fun hHeld2 => ?_)
    · first | assumption | exact ⟨(Below.refl _ _).drew, htext _ (Below.refl _ _).drew⟩ | exact text_call htext (Nat.le_refl _) (by assumption) (by assumption)
    clear hK K hHeld
    have hHeld := hHeld2
    clear hHeld2
    try simp only [Act.put, List.setIfInBounds_toArray, List.set_cons_zero, List.set_cons_succ]
    refine wpAnyH_ready (rs := [7]) (by kernel_rfl) (by simp) ?_
    refine AllReadyH.cons rfl (fun K hK => ?_) AllReadyH.nil
    go_simp
    refine hK.out _ _ ?_ (fun hHeld2 => ?_)
    · first | assumption | exact ⟨(Below.refl _ _).drew, htext _ (Below.refl _ _).drew⟩ | exact text_call htext (Nat.le_refl _) (by assumption) (by assumption)
    clear hK K hHeld
    have hHeld := hHeld2
    clear hHeld2
    try simp only [Act.put, List.setIfInBounds_toArray, List.set_cons_zero, List.set_cons_succ]
    refine wpAnyH_ready (rs := [8]) (by kernel_rfl) (by simp) ?_
    refine AllReadyH.cons rfl (fun K hK => ?_) AllReadyH.nil
    go_simp
    refine hK.out _ _ ?_ (fun hHeld2 => ?_)
    · first | assumption | exact ⟨(Below.refl _ _).drew, htext _ (Below.refl _ _).drew⟩ | exact text_call htext (Nat.le_refl _) (by assumption) (by assumption)
    clear hK K hHeld
    have hHeld := hHeld2
    clear hHeld2
    try simp only [Act.put, List.setIfInBounds_toArray, List.set_cons_zero, List.set_cons_succ]
    refine wpAnyH_ready (rs := [9]) (by kernel_rfl) (by simp) ?_
    refine AllReadyH.cons rfl (fun K hK => ?_) AllReadyH.nil
    go_simp
    refine hK.out _ _ ?_ (fun hHeld2 => ?_)
    · first | assumption | exact ⟨(Below.refl _ _).drew, htext _ (Below.refl _ _).drew⟩ | exact text_call htext (Nat.le_refl _) (by assumption) (by assumption)
    clear hK K hHeld
    have hHeld := hHeld2
    clear hHeld2
    try simp only [Act.put, List.setIfInBounds_toArray, List.set_cons_zero, List.set_cons_succ]
    refine wpAnyH_ready (rs := [10]) (by kernel_rfl) (by simp) ?_
    refine AllReadyH.cons rfl (fun K hK => ?_) AllReadyH.nil
    go_simp
    refine hK.out _ _ ?_ (fun hHeld2 => ?_)
    · first | assumption | exact ⟨(Below.refl _ _).drew, htext _ (Below.refl _ _).drew⟩ | exact text_call htext (Nat.le_refl _) (by assumption) (by assumption)
    clear hK K hHeld
    have hHeld := hHeld2
    clear hHeld2
    try simp only [Act.put, List.setIfInBounds_toArray, List.set_cons_zero, List.set_cons_succ]
    refine wpAnyH_done (by kernel_rfl) ?_ _
    have hB := hbw.trans (hHeld.1.mono hbw.size)
    clear hHeld htext ht9
    go_wp2
    go_ret
    refine ⟨ret_bool ?_, hB⟩
    first | exact str_eq hBy.out (fullL_bytes ⟨h0, h1⟩) | (simp only [Bool.true_and]; exact str_eq hBy.out (fullL_bytes ⟨h0, h1⟩)) | (simp; exact str_eq hBy.out (fullL_bytes ⟨h0, h1⟩))
  · have F : Hid (decide (useE d k [] = 0 ∧ lies d k = fullL x) = false) := Lib.hid (decide_eq_false fun q => hE q.1)
    rw [F.out]
    have he : (useE d k [] == 0) = false := by simp [hE]
    rw [resB_not hE] at cr
    generalize useE d k [] = er at *
    clear hE F hv
    go_enter Try.func40, Try.ntmps40
    go_wp2_with fail
    (with_reducible refine cr.mono ?_)
    rintro e w3 ⟨A, L, C, rfl, hF, hb3⟩
    have hbw := hb.trans (hb3.mono hb.size)
    clear cr hF hb hb3
    go_wp2
    go_quiet (fail)
    go_wp2
    go_ret
    exact ⟨rfl, below_drewN hbw _⟩
end Go.Proofs.Ytldgpkaecfgagaa
