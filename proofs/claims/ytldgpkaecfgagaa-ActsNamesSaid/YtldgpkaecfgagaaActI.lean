/- The walks of the laws' own helpers of layer 5: blocks of one byte, two devices, some acts, what lasts. -/
import Derived.Test.YtldgpkaecfgagaaActH
import Derived.Test.YtldgpkaecfgagaaDiskM
namespace Go.Proofs.Ytldgpkaecfgagaa
open Go.RowKit PolyM PackM FoldM DevM

set_option maxRecDepth 100000 in
theorem full5_calls (x : Int) (w : World) (_h0 : 0 ≤ x) (_h1 : x ≤ 255) :
    Calls Try.prog 61 #[.int .u8 x] w (NewBlk w (fullL x)) := by
  have hmk := make_128
  have hg0 : (w.alloc (.cells (cells noughts) 5)).heap[w.heap.size]? = some (.cells (cells (fullK x 0)) 5 (0, 0)) := by rw [fullK_zero]; exact heap_alloc_new _ _
  have hb0 : Below w.heap.size w (w.alloc (.cells (cells noughts) 5)) := (Below.refl _ _).alloc (Nat.le_refl _) _
  go_enter Try.func61, Try.ntmps61
  go_wp2
  generalize World.alloc _ _ = w1 at *
  obtain ⟨g, hg, hgw⟩ : ∃ g, g = w.heap.size ∧ w.heap.size ≤ g := ⟨_, rfl, Nat.le_refl _⟩
  have hgH : Hid (w.heap.size = g) := hg.symm
  rw [← hg] at hg0 ⊢
  clear hg hmk
  go_loopw [4] (fun i wr => ∃ k : Nat, k ≤ 128 ∧ i = .int .i64 k ∧ wr.heap[g]? = some (.cells (cells (fullK x k)) 5 (0, 0)) ∧ Below w.heap.size w wr) (fun i _ => 128 - (intOf i).toNat)
  case atStart => exact ⟨0, by omega, rfl, hg0, hb0⟩
  case round =>
    obtain ⟨k, hk, rfl, hgk, hbk⟩ := hrel
    clear hg0 hb0
    by_cases hkn : k < 128
    · have hcell : wr.cell? ⟨g, k, none⟩ = some (.int .u8 ((fullK x k).getD k 0)) := by
        rw [cell_of_row _ _ _ _ _ _ hgk, cells_getD (by rw [fullK_len]; omega)]
      have hfr : wr.frozen? ⟨g, k, none⟩ = false := frozen_of_row _ _ _ _ _ hgk
      have F : Hid (fullK x (k + 1) = (fullK x k).set k x) := fullK_succ hkn
      generalize (fullK x k).getD k 0 = y at *
      go_wp2
      go_roundw
      case rel =>
        refine ⟨k + 1, by omega, by go_num, ?_, hbk.setCell hgw _⟩
        rw [heap_setCell_same _ _ _ _ _ _ hgk, cells_set, F.out]
      case measure => simp [intOf]; omega
    · obtain rfl : k = 128 := by omega
      go_wp2
      go_ret
      exact ⟨g, hgw, rfl, by rw [hgk, fullK_all], hbk⟩


/-- Two devices in cells of the call's own. -/
theorem DSlab.two {w : World} {g : Nat} {A0 B0 A1 B1 : Option Addr} {n0 C0 m0 D0 n1 C1 m1 D1 : Nat} {d0 d1 : Dev} (hg : w.heap[g]? = some (.cells #[.slice A0 n0 C0, .slice B0 m0 D0, .bool d0.dead, .slice A1 n1 C1, .slice B1 m1 D1, .bool d1.dead] 25 (0, 0))) (h0 : DevV w (.agg #[.slice A0 n0 C0, .slice B0 m0 D0, .bool d0.dead]) d0) (h1 : DevV w (.agg #[.slice A1 n1 C1, .slice B1 m1 D1, .bool d1.dead]) d1) :
    DSlab w (some ⟨g, 0, none⟩) 2 [.slice A0 n0 C0, .slice B0 m0 D0, .bool d0.dead, .slice A1 n1 C1, .slice B1 m1 D1, .bool d1.dead] [d0, d1] := by
  refine ⟨⟨rfl, .inr ⟨g, 0, rfl, heap_lt hg, fun i v hv => ?_⟩⟩, by omega, rfl, fun i d hd => ?_⟩
  · rw [Nat.zero_add, cell_of_row _ _ _ _ _ _ hg, ← Array.getElem?_toList]
    exact hv
  · rcases i with _ | _ | i
    · obtain rfl := Option.some.inj hd
      exact ⟨A0, n0, C0, B0, m0, D0, rfl, rfl, rfl, h0⟩
    · obtain rfl := Option.some.inj hd
      exact ⟨A1, n1, C1, B1, m1, D1, rfl, rfl, rfl, h1⟩
    · simp at hd
set_option maxRecDepth 100000 in
set_option maxHeartbeats 4000000 in
theorem two_calls (w : World) : Calls Try.prog 43 #[] w fun e w' => ∃ a C hs, e = .returned (.slice a 2 C) ∧ DSlab w' a 2 hs [dev0, dev0] ∧ Below w.heap.size w w' := by
  have cn : ∀ W, Calls Try.prog 15 #[.int .i64 2] W (DevIs W 0 dev0) := fun W => new_yes 2 W (by omega) (by omega)
  go_enter Try.func43, Try.ntmps43
  go_wp2_with fail
  (with_reducible refine (cn _).mono ?_)
  rintro e w1 ⟨v1, rfl, hN1, hb1⟩
  obtain ⟨A1, n1, C1, B1, m1, D1, rfl, -⟩ := hN1.form2 rfl
  have x1 := InBox.new hN1 rfl
  have hb2 := hb1.alloc hb1.size (.cells #[.slice A1 n1 C1, .slice B1 m1 D1, .bool false] 25)
  clear hN1 hb1
  go_wp2_with fail
  (with_reducible refine (cn _).mono ?_)
  rintro e w3 ⟨v3, rfl, hN3, hb3⟩
  obtain ⟨A3, n3, C3, B3, m3, D3, rfl, -⟩ := hN3.form2 rfl
  have x3 := InBox.new hN3 rfl
  have ha := hb3.alloc hb3.size (.cells #[.slice A3 n3 C3, .slice B3 m3 D3, .bool false] 25)
  have x1' := x1.below ha
  have hB := hb2.trans (ha.mono hb2.size)
  obtain ⟨a0, a1, a2, -, v1, -⟩ := x1'.cells
  obtain ⟨c0, c1, c2, -, v3, -⟩ := x3.cells
  clear cn hN3 hb3 x1 x1' x3 ha hb2
  go_wp2
  go_ret
  have hg := heap_alloc_new (w3.alloc (.cells #[.slice A3 n3 C3, .slice B3 m3 D3, .bool false] 25)) (.cells #[.slice A1 n1 C1, .slice B1 m1 D1, .bool false, .slice A3 n3 C3, .slice B3 m3 D3, .bool false] 25)
  rw [World.size_alloc] at hg
  refine ⟨_, _, _, rfl, DSlab.two (d0 := dev0) (d1 := dev0) hg (v1.below ((Below.refl _ _).alloc (Nat.le_refl _) _) (Nat.le_refl _)) (v3.below ((Below.refl _ _).alloc (Nat.le_refl _) _) (Nat.le_refl _)), hB.alloc hB.size _⟩

def act1 : Act5 := ⟨0, 1, 1, fullL 120⟩
def act2 : Act5 := ⟨0, 3, 0, []⟩
set_option maxRecDepth 100000 in
set_option maxHeartbeats 4000000 in
theorem some_calls (w : World) : Calls Try.prog 44 #[] w fun e w' => ∃ a C hs, e = .returned (.slice a 2 C) ∧ ASlab w' a 2 hs [act1, act2] ∧ 2 ≤ C ∧ Below w.heap.size w w' := by
  have cf := full5_calls 120 w (by omega) (by omega)
  go_enter Try.func44, Try.ntmps44
  go_wp2_with fail
  (with_reducible refine cf.mono ?_)
  rintro e w1 ⟨g, hg, rfl, hc, hb⟩
  clear cf
  have hI := Ints.ofCells hc (fullL_len 120) (by omega) (fullL_bytes ⟨by omega, by omega⟩)
  go_wp2
  go_ret
  have ha : Below w1.heap.size w1 (w1.alloc (.cells #[.int .i64 0, .int .u8 1, .int .i64 1, .slice (some ⟨g, 0, none⟩) 128 128, .int .i64 0, .int .u8 3, .int .i64 0, .slice none 0 0] 67)) := (Below.refl _ _).alloc (Nat.le_refl _) _
  refine ⟨_, _, [.int .i64 0, .int .u8 1, .int .i64 1, .slice (some ⟨g, 0, none⟩) 128 128, .int .i64 0, .int .u8 3, .int .i64 0, .slice none 0 0], rfl, ⟨⟨rfl, .inr ⟨w1.heap.size, 0, rfl, by simp, fun i v hv => ?_⟩⟩, by omega, rfl, fun i x hx => ?_⟩, Nat.le_refl _, hb.trans (ha.mono hb.size)⟩
  · rw [Nat.zero_add, cell_of_row _ _ _ _ _ _ (heap_alloc_new w1 _), ← Array.getElem?_toList]
    exact hv
  · rcases i with _ | _ | i
    · obtain rfl := Option.some.inj hx
      exact ⟨_, _, _, rfl, rfl, rfl, rfl, ⟨by rfl, by rfl, by rfl, hI.below ha (Nat.le_refl _)⟩⟩
    · obtain rfl := Option.some.inj hx
      exact ⟨_, _, _, rfl, rfl, rfl, rfl, ⟨by rfl, by rfl, by rfl, nil_ints .u8 _ 0⟩⟩
    · simp at hx

set_option maxRecDepth 100000 in
set_option maxHeartbeats 4000000 in
theorem lasts5_calls (a : Option Addr) (c : Nat) (hs : List Value) (d d1 : Dev) (x : Int) (w : World) (h : DSlab w a 2 hs [d, d1]) (h0 : 0 ≤ x) (h1 : x ≤ 255) (hE : useE d 1 [] = 0) (hL : lies d 1 = fullL x) :
    Calls Try.prog 88 #[.slice a 2 c, .int .i64 0, .int .u8 x] w fun e w' => e = .returned (.bool true) ∧ Below w.heap.size w w' := by
  obtain ⟨b, off, A0, l, C0, B, m, D, d', rfl, hd, hlt, q0, q1, q2, hv⟩ := h.at (i := 0) (by omega)
  obtain rfl := Option.some.inj hd
  have cr := lasting_calls _ d 1 w hv
  rw [hE, resB_zero, hL] at cr
  rw [Nat.zero_mul, Nat.add_zero] at q0 q1 q2
  clear h hd hv hE hL
  generalize d.dead = dd at *
  go_enter Try.func88, Try.ntmps88
  go_wp2_with fail
  (with_reducible refine cr.mono ?_)
  rintro e w3 ⟨A, L, C, rfl, hF, hbw⟩
  have htext := fun W (hW : Below w3.heap.size w3 W) => hF.text hW
  have hBy := Lib.hid hF.bytes
  clear cr hF q0 q1 q2
  go_wp2_with fail
  refine wp_region_held_drew (S := (fun W => Below w3.heap.size w3 W ∧ (convert 29 9 (.slice A L C)).run Try.prog W = .ok (.string (strOfNums (fullL x))) W)) (by kernel_rfl) ?_ (fun hHeld => ?_)
  · first | assumption | exact ⟨(Below.refl _ _).drew, htext _ (Below.refl _ _).drew⟩ | exact text_call htext (Nat.le_refl _) (by assumption) (by assumption)
  refine wpAnyH_ready (rs := [0]) (by kernel_rfl) (by simp) ?_
  refine AllReadyH.cons rfl (fun K hK => ?_) AllReadyH.nil
  go_simp
  refine hK.out _ _ ?_ (fun hHeld2 => ?_)
  · first | assumption | exact ⟨(Below.refl _ _).drew, htext _ (Below.refl _ _).drew⟩ | exact text_call htext (Nat.le_refl _) (by assumption) (by assumption)
  clear hK K hHeld
  have hHeld := hHeld2
  clear hHeld2
  try simp only [Act.put, List.setIfInBounds_toArray, List.set_cons_zero, List.set_cons_succ]
  refine wpAnyH_ready (rs := [1]) (by kernel_rfl) (by simp) ?_
  refine AllReadyH.cons rfl (fun K hK => ?_) AllReadyH.nil
  go_simp
  refine hK.out _ _ ?_ (fun hHeld2 => ?_)
  · first | assumption | exact ⟨(Below.refl _ _).drew, htext _ (Below.refl _ _).drew⟩ | exact text_call htext (Nat.le_refl _) (by assumption) (by assumption)
  clear hK K hHeld
  have hHeld := hHeld2
  clear hHeld2
  try simp only [Act.put, List.setIfInBounds_toArray, List.set_cons_zero, List.set_cons_succ]
  refine wpAnyH_ready (rs := [2]) (by kernel_rfl) (by simp) ?_
  refine AllReadyH.cons rfl (fun K hK => ?_) AllReadyH.nil
  go_simp
  refine hK.out _ _ ?_ (fun hHeld2 => ?_)
  · first | assumption | exact ⟨(Below.refl _ _).drew, htext _ (Below.refl _ _).drew⟩ | exact text_call htext (Nat.le_refl _) (by assumption) (by assumption)
  clear hK K hHeld
  have hHeld := hHeld2
  clear hHeld2
  try simp only [Act.put, List.setIfInBounds_toArray, List.set_cons_zero, List.set_cons_succ]
  refine wpAnyH_take (i := 3) (v := ?_) rfl (by kernel_rfl) (by kernel_rfl) (by kernel_rfl) (fun _ _ _ h => h) (Or.inl ⟨by rfl, ?_⟩) (by assumption) ?_
  rotate_left
  · (intro w hSw; (try dsimp only at hSw); go_simp; try with_reducible rfl)
  try simp only [Act.put, List.setIfInBounds_toArray]
  refine wpAnyH_take (i := 4) (v := ?_) rfl (by kernel_rfl) (by kernel_rfl) (by kernel_rfl) (fun _ _ _ h => h) (Or.inl ⟨by rfl, ?_⟩) (by assumption) ?_
  rotate_left
  · (intro w hSw; (try dsimp only at hSw); go_simp; try with_reducible rfl)
  try simp only [Act.put]
  refine wpAnyH_take (i := 5) (v := ?_) rfl (by kernel_rfl) (by kernel_rfl) (by kernel_rfl) (fun _ _ _ h => h) (Or.inl ⟨by rfl, ?_⟩) (by assumption) ?_
  rotate_left
  · (intro w hSw; (try dsimp only at hSw); go_simp; try with_reducible rfl)
  try simp only [Act.put]
  refine wpAnyH_ready (rs := [6]) (by kernel_rfl) (by simp) ?_
  refine AllReadyH.cons rfl (fun K hK => ?_) AllReadyH.nil
  go_simp
  refine (full5_calls x _ h0 h1).mono ?_
  rintro e w9 ⟨g9, hg9, rfl, hc9, hb9⟩
  have ht9 := block_text hc9 (fullL_len x) (fullL_bytes ⟨h0, h1⟩) (Nat.le_refl _) (Below.refl _ _)
  go_wp2_with fail
  refine hK.out _ _ ?_ (fun hHeld2 => ?_)
  · first | assumption | exact ⟨(Below.refl _ _).drew, htext _ (Below.refl _ _).drew⟩ | exact text_call htext (Nat.le_refl _) (by assumption) (by assumption)
  clear hK K hHeld
  have hHeld := hHeld2
  clear hHeld2
  try simp only [Act.put, List.setIfInBounds_toArray, List.set_cons_zero, List.set_cons_succ]
  refine wpAnyH_ready (rs := [7]) (by kernel_rfl) (by simp) ?_
  refine AllReadyH.cons rfl (fun K hK => ?_) AllReadyH.nil
  go_simp
  refine hK.out _ _ ?_ (fun hHeld2 => ?_)
  · first | assumption | exact ⟨(Below.refl _ _).drew, htext _ (Below.refl _ _).drew⟩ | exact text_call htext (Nat.le_refl _) (by assumption) (by assumption)
  clear hK K hHeld
  have hHeld := hHeld2
  clear hHeld2
  try simp only [Act.put, List.setIfInBounds_toArray, List.set_cons_zero, List.set_cons_succ]
  refine wpAnyH_ready (rs := [8]) (by kernel_rfl) (by simp) ?_
  refine AllReadyH.cons rfl (fun K hK => ?_) AllReadyH.nil
  go_simp
  refine hK.out _ _ ?_ (fun hHeld2 => ?_)
  · first | assumption | exact ⟨(Below.refl _ _).drew, htext _ (Below.refl _ _).drew⟩ | exact text_call htext (Nat.le_refl _) (by assumption) (by assumption)
  clear hK K hHeld
  have hHeld := hHeld2
  clear hHeld2
  try simp only [Act.put, List.setIfInBounds_toArray, List.set_cons_zero, List.set_cons_succ]
  refine wpAnyH_ready (rs := [9]) (by kernel_rfl) (by simp) ?_
  refine AllReadyH.cons rfl (fun K hK => ?_) AllReadyH.nil
  go_simp
  refine hK.out _ _ ?_ (fun hHeld2 => ?_)
  · first | assumption | exact ⟨(Below.refl _ _).drew, htext _ (Below.refl _ _).drew⟩ | exact text_call htext (Nat.le_refl _) (by assumption) (by assumption)
  clear hK K hHeld
  have hHeld := hHeld2
  clear hHeld2
  try simp only [Act.put, List.setIfInBounds_toArray, List.set_cons_zero, List.set_cons_succ]
  refine wpAnyH_ready (rs := [10]) (by kernel_rfl) (by simp) ?_
  refine AllReadyH.cons rfl (fun K hK => ?_) AllReadyH.nil
  go_simp
  refine hK.out _ _ ?_ (fun hHeld2 => ?_)
  · first | assumption | exact ⟨(Below.refl _ _).drew, htext _ (Below.refl _ _).drew⟩ | exact text_call htext (Nat.le_refl _) (by assumption) (by assumption)
  clear hK K hHeld
  have hHeld := hHeld2
  clear hHeld2
  try simp only [Act.put, List.setIfInBounds_toArray, List.set_cons_zero, List.set_cons_succ]
  refine wpAnyH_done (by kernel_rfl) ?_ _
  have hB := hbw.trans (hHeld.1.mono hbw.size)
  clear hHeld htext ht9
  go_wp2
  go_ret
  exact ⟨by simp, hB⟩
end Go.Proofs.Ytldgpkaecfgagaa
