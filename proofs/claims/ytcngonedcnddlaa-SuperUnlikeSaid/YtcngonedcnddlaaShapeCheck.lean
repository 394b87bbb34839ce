/- The walks of package shape: Check, told, and the five numbers. -/
import Derived.Test.YtcngonedcnddlaaShapeWalk
namespace Go.Proofs.Ytcngonedcnddlaa
open Go.RowKit ShapeM

theorem Box6.all {w : World} {g : Nat} {x0 x1 x2 x3 x4 x5 : Value} (h : Box6 w g x0 x1 x2 x3 x4 x5) : w.cell? ⟨g, 0, none⟩ = some x0 ∧ w.cell? ⟨g, 1, none⟩ = some x1 ∧ w.cell? ⟨g, 2, none⟩ = some x2 ∧ w.cell? ⟨g, 3, none⟩ = some x3 ∧ w.cell? ⟨g, 4, none⟩ = some x4 ∧ w.cell? ⟨g, 5, none⟩ = some x5 :=
  ⟨h.c0, h.c1, h.c2, h.c3, h.c4, h.c5⟩

/-- Check's five rows. -/
def row5 (m ch ro he p lo : Int) (k : Nat) : Int × Int × Int := ([(3, m, 16), (1, ch, 8), (1, ro, 8), (2, he, 8), (p, lo, 255)] : List (Int × Int × Int)).getD k (0, 0, 0)
theorem trips5 (w : World) (m ch ro he p lo : Int) (t : TypeId) (fr : Nat × Nat) : Trips (w.alloc (.cells #[.int .i64 3, .int .i64 m, .int .i64 16, .int .i64 1, .int .i64 ch, .int .i64 8, .int .i64 1, .int .i64 ro, .int .i64 8, .int .i64 2, .int .i64 he, .int .i64 8, .int .i64 p, .int .i64 lo, .int .i64 255] t fr)) w.heap.size 5 (row5 m ch ro he p lo) := by
  have hg : (w.alloc (.cells #[.int .i64 3, .int .i64 m, .int .i64 16, .int .i64 1, .int .i64 ch, .int .i64 8, .int .i64 1, .int .i64 ro, .int .i64 8, .int .i64 2, .int .i64 he, .int .i64 8, .int .i64 p, .int .i64 lo, .int .i64 255] t fr)).heap[w.heap.size]? = some (.cells #[.int .i64 3, .int .i64 m, .int .i64 16, .int .i64 1, .int .i64 ch, .int .i64 8, .int .i64 1, .int .i64 ro, .int .i64 8, .int .i64 2, .int .i64 he, .int .i64 8, .int .i64 p, .int .i64 lo, .int .i64 255] t fr) := heap_alloc_new _ _
  refine ⟨by simp, fun k hk => ?_⟩
  have hc := fun i => cell_of_row _ w.heap.size i _ _ _ hg
  have e : k = 0 ∨ k = 1 ∨ k = 2 ∨ k = 3 ∨ k = 4 := by omega
  rcases e with rfl | rfl | rfl | rfl | rfl
  · exact ⟨hc 0, hc 1, hc 2⟩
  · exact ⟨hc 3, hc 4, hc 5⟩
  · exact ⟨hc 6, hc 7, hc 8⟩
  · exact ⟨hc 9, hc 10, hc 11⟩
  · exact ⟨hc 12, hc 13, hc 14⟩
theorem row5_may (id m ch ro lo he : Int) : decide (MayC ⟨id, m, ch, ro, lo, he⟩) = true ↔ ∀ k, k < 5 → okT (row5 m ch ro he (wrap64 (wrap64 (m + 1) * wrap64 (he + 1))) lo k) := by
  have wr : 3 ≤ m → m ≤ 16 → 2 ≤ he → he ≤ 8 → wrap64 (wrap64 (m + 1) * wrap64 (he + 1)) = (m + 1) * (he + 1) := by
    intro a b c d
    have q := mul_box (a := m + 1) (b := he + 1) (x := 17) (y := 9) (p := 4) (q := 3) (by omega) (by omega) (by omega) (by omega) (by omega) (by omega)
    have e1 : wrap64 (m + 1) = m + 1 := by unfold wrap64; omega
    have e2 : wrap64 (he + 1) = he + 1 := by unfold wrap64; omega
    rw [e1, e2]
    generalize (m + 1) * (he + 1) = p at *
    unfold wrap64
    omega
  rw [decide_eq_true_iff]
  unfold MayC
  constructor
  · rintro ⟨h1, h2, h3, h4, h5, h6, h7, h8, h9, h10⟩
    simp only at *
    have w1 := wr h1 h2 h7 h8
    rw [w1]
    intro k hk
    have e : k = 0 ∨ k = 1 ∨ k = 2 ∨ k = 3 ∨ k = 4 := by omega
    rcases e with rfl | rfl | rfl | rfl | rfl
    · exact ⟨h1, h2⟩
    · exact ⟨h3, h4⟩
    · exact ⟨h5, h6⟩
    · exact ⟨h7, h8⟩
    · exact ⟨h9, h10⟩
  · intro h
    obtain ⟨h1, h2⟩ := h 0 (by omega)
    obtain ⟨h3, h4⟩ := h 1 (by omega)
    obtain ⟨h5, h6⟩ := h 2 (by omega)
    obtain ⟨h7, h8⟩ := h 3 (by omega)
    obtain ⟨h9, h10⟩ := h 4 (by omega)
    have w1 := wr h1 h2 h7 h8
    rw [w1] at h9
    exact ⟨h1, h2, h3, h4, h5, h6, h7, h8, h9, h10⟩

set_option maxRecDepth 100000 in
set_option maxHeartbeats 4000000 in
theorem check_calls (c : Cfg) (w : World) : Calls Try.prog 62 #[cfgV c] w fun e w' => e = .returned (.int .i64 (chkC c)) ∧ Below w.heap.size w w' := by
  obtain ⟨id, m, ch, ro, lo, he⟩ := c
  have cn := fun W => need_calls ⟨id, m, ch, ro, lo, he⟩ W
  have hq := Lib.hid (row5_may id m ch ro lo he)
  have hx : (decide (MayC ⟨id, m, ch, ro, lo, he⟩) = true ∧ Hid (chkC ⟨id, m, ch, ro, lo, he⟩ = 0)) ∨ (decide (MayC ⟨id, m, ch, ro, lo, he⟩) = false ∧ Hid (chkC ⟨id, m, ch, ro, lo, he⟩ = 8)) := by
    by_cases q : MayC ⟨id, m, ch, ro, lo, he⟩
    · exact .inl ⟨decide_eq_true q, chkC_may q⟩
    · exact .inr ⟨decide_eq_false q, chkC_not q⟩
  generalize chkC ⟨id, m, ch, ro, lo, he⟩ = r at *
  generalize decide (MayC ⟨id, m, ch, ro, lo, he⟩) = b at *
  unfold cfgV at *
  dsimp only at *
  have B := Box6.new w (.int .u32 id) (.int .i64 m) (.int .i64 ch) (.int .i64 ro) (.int .i64 lo) (.int .i64 he) 85
  have hb : Below w.heap.size w (w.alloc (.cells #[.int .u32 id, .int .i64 m, .int .i64 ch, .int .i64 ro, .int .i64 lo, .int .i64 he] 85 (0, 0))) := (Below.refl _ _).alloc (Nat.le_refl _) _
  go_enter Try.func62, Try.ntmps62
  go_wp2
  refine wp_region_held_drew (S := (fun W => W.cell? ⟨w.heap.size, 0, none⟩ = some (.int .u32 id) ∧ W.cell? ⟨w.heap.size, 1, none⟩ = some (.int .i64 m) ∧ W.cell? ⟨w.heap.size, 2, none⟩ = some (.int .i64 ch) ∧ W.cell? ⟨w.heap.size, 3, none⟩ = some (.int .i64 ro) ∧ W.cell? ⟨w.heap.size, 4, none⟩ = some (.int .i64 lo) ∧ W.cell? ⟨w.heap.size, 5, none⟩ = some (.int .i64 he))) (by kernel_rfl) ?_ (fun hHeld => ?_)
  · exact (B.below ((Below.refl _ _).drew) (Nat.le_refl _)).all
  refine wpAnyH_take (i := 0) (v := ?_) rfl (by kernel_rfl) (by kernel_rfl) (by kernel_rfl) (fun _ _ _ h => h) (Or.inl ⟨by rfl, ?_⟩) hHeld ?_
  rotate_left
  · (intro w hSw; (try dsimp only at hSw); go_simp; try with_reducible rfl)
  try simp only [Act.put, List.getElem_toArray, List.getElem_cons_zero, List.setIfInBounds_toArray, List.set_cons_zero, List.set_cons_succ]
  refine wpAnyH_take (i := 1) (v := ?_) rfl (by kernel_rfl) (by kernel_rfl) (by kernel_rfl) (fun _ _ _ h => h) (Or.inl ⟨by rfl, ?_⟩) hHeld ?_
  rotate_left
  · (intro w hSw; (try dsimp only at hSw); go_simp; try with_reducible rfl)
  try simp only [Act.put, List.getElem_toArray, List.getElem_cons_zero, List.getElem_cons_succ, List.setIfInBounds_toArray, List.set_cons_zero, List.set_cons_succ]
  refine wpAnyH_take (i := 2) (v := ?_) rfl (by kernel_rfl) (by kernel_rfl) (by kernel_rfl) (fun _ _ _ h => h) (Or.inl ⟨by rfl, ?_⟩) hHeld ?_
  rotate_left
  · (intro w hSw; (try dsimp only at hSw); go_simp; try with_reducible rfl)
  try simp only [Act.put, List.getElem_toArray, List.getElem_cons_zero, List.getElem_cons_succ, List.setIfInBounds_toArray, List.set_cons_zero, List.set_cons_succ]
  refine wpAnyH_take (i := 3) (v := ?_) rfl (by kernel_rfl) (by kernel_rfl) (by kernel_rfl) (fun _ _ _ h => h) (Or.inl ⟨by rfl, ?_⟩) hHeld ?_
  rotate_left
  · (intro w hSw; (try dsimp only at hSw); go_simp; try with_reducible rfl)
  try simp only [Act.put, List.getElem_toArray, List.getElem_cons_zero, List.getElem_cons_succ, List.setIfInBounds_toArray, List.set_cons_zero, List.set_cons_succ]
  refine wpAnyH_take (i := 4) (v := ?_) rfl (by kernel_rfl) (by kernel_rfl) (by kernel_rfl) (fun _ _ _ h => h) (Or.inl ⟨by rfl, ?_⟩) hHeld ?_
  rotate_left
  · (intro w hSw; (try dsimp only at hSw); go_simp; try with_reducible rfl)
  try simp only [Act.put, List.getElem_toArray, List.getElem_cons_zero, List.getElem_cons_succ, List.setIfInBounds_toArray, List.set_cons_zero, List.set_cons_succ]
  refine wpAnyH_take (i := 5) (v := ?_) rfl (by kernel_rfl) (by kernel_rfl) (by kernel_rfl) (fun _ _ _ h => h) (Or.inl ⟨by rfl, ?_⟩) hHeld ?_
  rotate_left
  · (intro w hSw; (try dsimp only at hSw); go_simp; try with_reducible rfl)
  try simp only [Act.put, List.getElem_toArray, List.getElem_cons_zero, List.getElem_cons_succ, List.setIfInBounds_toArray, List.set_cons_zero, List.set_cons_succ]
  refine wpAnyH_take (i := 6) (v := ?_) rfl (by kernel_rfl) (by kernel_rfl) (by kernel_rfl) (fun _ _ _ h => h) (Or.inl ⟨by rfl, ?_⟩) hHeld ?_
  rotate_left
  · (intro w hSw; (try dsimp only at hSw); go_simp; try with_reducible rfl)
  try simp only [Act.put, List.getElem_toArray, List.getElem_cons_zero, List.getElem_cons_succ, List.setIfInBounds_toArray, List.set_cons_zero, List.set_cons_succ]
  refine wpAnyH_take (i := 7) (v := ?_) rfl (by kernel_rfl) (by kernel_rfl) (by kernel_rfl) (fun _ _ _ h => h) (Or.inl ⟨by rfl, ?_⟩) hHeld ?_
  rotate_left
  · (intro w hSw; (try dsimp only at hSw); go_simp; try with_reducible rfl)
  try simp only [Act.put, List.getElem_toArray, List.getElem_cons_zero, List.getElem_cons_succ, List.setIfInBounds_toArray, List.set_cons_zero, List.set_cons_succ]
  refine wpAnyH_take (i := 8) (v := ?_) rfl (by kernel_rfl) (by kernel_rfl) (by kernel_rfl) (fun _ _ _ h => h) (Or.inl ⟨by rfl, ?_⟩) hHeld ?_
  rotate_left
  · (intro w hSw; (try dsimp only at hSw); go_simp; try with_reducible rfl)
  try simp only [Act.put, List.getElem_toArray, List.getElem_cons_zero, List.getElem_cons_succ, List.setIfInBounds_toArray, List.set_cons_zero, List.set_cons_succ]
  refine wpAnyH_take (i := 9) (v := ?_) rfl (by kernel_rfl) (by kernel_rfl) (by kernel_rfl) (fun _ _ _ h => h) (Or.inl ⟨by rfl, ?_⟩) hHeld ?_
  rotate_left
  · (intro w hSw; (try dsimp only at hSw); go_simp; try with_reducible rfl)
  try simp only [Act.put, List.getElem_toArray, List.getElem_cons_zero, List.getElem_cons_succ, List.setIfInBounds_toArray, List.set_cons_zero, List.set_cons_succ]
  refine wpAnyH_take (i := 10) (v := ?_) rfl (by kernel_rfl) (by kernel_rfl) (by kernel_rfl) (fun _ _ _ h => h) (Or.inl ⟨by rfl, ?_⟩) hHeld ?_
  rotate_left
  · (intro w hSw; (try dsimp only at hSw); go_simp; try with_reducible rfl)
  try simp only [Act.put, List.getElem_toArray, List.getElem_cons_zero, List.getElem_cons_succ, List.setIfInBounds_toArray, List.set_cons_zero, List.set_cons_succ]
  refine wpAnyH_take (i := 11) (v := ?_) rfl (by kernel_rfl) (by kernel_rfl) (by kernel_rfl) (fun _ _ _ h => h) (Or.inl ⟨by rfl, ?_⟩) hHeld ?_
  rotate_left
  · (intro w hSw; (try dsimp only at hSw); go_simp; try with_reducible rfl)
  try simp only [Act.put, List.getElem_toArray, List.getElem_cons_zero, List.getElem_cons_succ, List.setIfInBounds_toArray, List.set_cons_zero, List.set_cons_succ]
  refine wpAnyH_take (i := 12) (v := ?_) rfl (by kernel_rfl) (by kernel_rfl) (by kernel_rfl) (fun _ _ _ h => h) (Or.inl ⟨by rfl, ?_⟩) hHeld ?_
  rotate_left
  · (intro w hSw; (try dsimp only at hSw); go_simp; try with_reducible rfl)
  try simp only [Act.put, List.getElem_toArray, List.getElem_cons_zero, List.getElem_cons_succ, List.setIfInBounds_toArray, List.set_cons_zero, List.set_cons_succ]
  refine wpAnyH_take (i := 14) (v := ?_) rfl (by kernel_rfl) (by kernel_rfl) (by kernel_rfl) (fun _ _ _ h => h) (Or.inl ⟨by rfl, ?_⟩) hHeld ?_
  rotate_left
  · (intro w hSw; (try dsimp only at hSw); go_simp; try with_reducible rfl)
  try simp only [Act.put, List.getElem_toArray, List.getElem_cons_zero, List.getElem_cons_succ, List.setIfInBounds_toArray, List.set_cons_zero, List.set_cons_succ]
  refine wpAnyH_take (i := 15) (v := ?_) rfl (by kernel_rfl) (by kernel_rfl) (by kernel_rfl) (fun _ _ _ h => h) (Or.inl ⟨by rfl, ?_⟩) hHeld ?_
  rotate_left
  · (intro w hSw; (try dsimp only at hSw); go_simp; try with_reducible rfl)
  try simp only [Act.put, List.getElem_toArray, List.getElem_cons_zero, List.getElem_cons_succ, List.setIfInBounds_toArray, List.set_cons_zero, List.set_cons_succ]
  refine wpAnyH_take (i := 16) (v := ?_) rfl (by kernel_rfl) (by kernel_rfl) (by kernel_rfl) (fun _ _ _ h => h) (Or.inl ⟨by rfl, ?_⟩) hHeld ?_
  rotate_left
  · (intro w hSw; (try dsimp only at hSw); go_simp; try with_reducible rfl)
  try simp only [Act.put, List.getElem_toArray, List.getElem_cons_zero, List.getElem_cons_succ, List.setIfInBounds_toArray, List.set_cons_zero, List.set_cons_succ]
  refine wpAnyH_take (i := 18) (v := ?_) rfl (by kernel_rfl) (by kernel_rfl) (by kernel_rfl) (fun _ _ _ h => h) (Or.inl ⟨by rfl, ?_⟩) hHeld ?_
  rotate_left
  · (intro w hSw; (try dsimp only at hSw); go_simp; try with_reducible rfl)
  try simp only [Act.put, List.getElem_toArray, List.getElem_cons_zero, List.getElem_cons_succ, List.setIfInBounds_toArray, List.set_cons_zero, List.set_cons_succ]
  refine wpAnyH_take (i := 19) (v := ?_) rfl (by kernel_rfl) (by kernel_rfl) (by kernel_rfl) (fun _ _ _ h => h) (Or.inl ⟨by rfl, ?_⟩) hHeld ?_
  rotate_left
  · (intro w hSw; (try dsimp only at hSw); go_simp; try with_reducible rfl)
  try simp only [Act.put, List.getElem_toArray, List.getElem_cons_zero, List.getElem_cons_succ, List.setIfInBounds_toArray, List.set_cons_zero, List.set_cons_succ]
  refine wpAnyH_ready (rs := [13]) (by kernel_rfl) (by simp) ?_
  refine AllReadyH.cons rfl (fun K hK => ?_) AllReadyH.nil
  go_simp
  refine (cn _).mono ?_
  rintro e w2 ⟨rfl, hb2⟩
  have hb2' := hb.trans (((Below.refl _ _).drew.trans (hb2.mono (by simp))).mono hb.size)
  have B2 := B.below (((Below.refl _ _).drew.trans (hb2.mono (by simp)))) (Nat.le_refl _)
  go_wp2_with fail
  refine hK.out _ _ ?_ (fun hHeld2 => ?_)
  · exact B2.all
  clear hK K hHeld
  have hHeld := hHeld2
  clear hHeld2
  try simp only [Act.put, List.setIfInBounds_toArray, List.set_cons_zero, List.set_cons_succ]
  refine wpAnyH_take (i := 17) (v := ?_) rfl (by kernel_rfl) (by kernel_rfl) (by kernel_rfl) (fun _ _ _ h => h) (Or.inl ⟨by rfl, ?_⟩) hHeld ?_
  rotate_left
  · (intro w hSw; (try dsimp only at hSw); go_simp; try with_reducible rfl)
  try simp only [Act.put, List.getElem_toArray, List.getElem_cons_zero, List.getElem_cons_succ, List.setIfInBounds_toArray, List.set_cons_zero, List.set_cons_succ]
  refine wpAnyH_take (i := 20) (v := ?_) rfl (by kernel_rfl) (by kernel_rfl) (by kernel_rfl) (fun _ _ _ h => h) (Or.inl ⟨by rfl, ?_⟩) hHeld ?_
  rotate_left
  · (intro w hSw; (try dsimp only at hSw); go_simp; try with_reducible rfl)
  try simp only [Act.put, List.getElem_toArray, List.getElem_cons_zero, List.getElem_cons_succ, List.setIfInBounds_toArray, List.set_cons_zero, List.set_cons_succ]
  refine wpAnyH_ready (rs := [21]) (by kernel_rfl) (by simp) ?_
  refine AllReadyH.cons rfl (fun K hK => ?_) AllReadyH.nil
  go_wp2
  refine hK.out _ _ ?_ (fun hHeld2 => ?_)
  · exact (B2.below ((Below.refl _ _).alloc (Nat.le_refl _) _) (Nat.le_refl _)).all
  clear hK K hHeld
  have hHeld := hHeld2
  clear hHeld2
  try simp only [Act.put, List.setIfInBounds_toArray, List.set_cons_zero, List.set_cons_succ]
  refine wpAnyH_ready (rs := [22]) (by kernel_rfl) (by simp) ?_
  refine AllReadyH.cons rfl (fun K hK => ?_) AllReadyH.nil
  go_simp
  have hb3 := hb2'.alloc hb2'.size (.cells #[.int .i64 3, .int .i64 m, .int .i64 16, .int .i64 1, .int .i64 ch, .int .i64 8, .int .i64 1, .int .i64 ro, .int .i64 8, .int .i64 2, .int .i64 he, .int .i64 8, .int .i64 (wrap64 (wrap64 (m + 1) * wrap64 (he + 1))), .int .i64 lo, .int .i64 255] 99)
  have B3 := B2.below (w' := w2.alloc (.cells #[.int .i64 3, .int .i64 m, .int .i64 16, .int .i64 1, .int .i64 ch, .int .i64 8, .int .i64 1, .int .i64 ro, .int .i64 8, .int .i64 2, .int .i64 he, .int .i64 8, .int .i64 (wrap64 (wrap64 (m + 1) * wrap64 (he + 1))), .int .i64 lo, .int .i64 255] 99)) ((Below.refl _ _).alloc (Nat.le_refl _) _) (Nat.le_refl _)
  refine (within_calls _ _ 5 5 _ (by omega) (trips5 w2 m ch ro he (wrap64 (wrap64 (m + 1) * wrap64 (he + 1))) lo 99 (0, 0)) b hq.out).mono ?_
  rintro e w4 ⟨rfl, hb4⟩
  have B4 := B3.below hb4 (Nat.le_refl _)
  have hb5 := hb3.trans (hb4.mono hb3.size)
  clear hb3 hb4 B3 B2 hb2 hb2' hb B
  go_wp2_with fail
  refine hK.out _ _ ?_ (fun hHeld2 => ?_)
  · exact B4.all
  clear hK K hHeld
  have hHeld := hHeld2
  clear hHeld2
  try simp only [Act.put, List.setIfInBounds_toArray, List.set_cons_zero, List.set_cons_succ]
  refine wpAnyH_take (i := 23) (v := ?_) rfl (by kernel_rfl) (by kernel_rfl) (by kernel_rfl) (fun _ _ _ h => h) (Or.inl ⟨by rfl, ?_⟩) hHeld ?_
  rotate_left
  · (intro w hSw; (try dsimp only at hSw); go_simp; try with_reducible rfl)
  try simp only [Act.put, List.getElem_toArray, List.getElem_cons_zero, List.getElem_cons_succ, List.setIfInBounds_toArray, List.set_cons_zero, List.set_cons_succ]
  refine wpAnyH_done (by kernel_rfl) ?_ _
  rcases hx with ⟨rfl, F⟩ | ⟨rfl, F⟩
  · go_wp2
    go_ret
    exact ⟨ret_int F.out.symm, hb5⟩
  · go_wp2
    go_ret
    exact ⟨ret_int F.out.symm, hb5⟩

/-- A number of a config that may be. -/
def numC (c : Cfg) (n : Int) : Int := if MayC c then n else 0
theorem numC_may {c : Cfg} (h : MayC c) (n : Int) : numC c n = n := by unfold numC; rw [if_pos h]
theorem numC_not {c : Cfg} (h : ¬ MayC c) (n : Int) : numC c n = 0 := by unfold numC; rw [if_neg h]
theorem numC_eq {c : Cfg} {n m : Int} (h : MayC c → n = m) : numC c n = numC c m := by
  by_cases q : MayC c
  · rw [h q]
  · rw [numC_not q, numC_not q]
set_option maxRecDepth 100000 in
theorem told_calls (c : Cfg) (n : Int) (w : World) : Calls Try.prog 58 #[cfgV c, .int .i64 n] w fun e w' => e = .returned (.tuple #[.int .i64 (numC c n), .int .i64 (chkC c)]) ∧ Below w.heap.size w w' := by
  have cc := fun W => check_calls c W
  obtain ⟨id, m, ch, ro, lo, he⟩ := c
  have hx : Hid (numC ⟨id, m, ch, ro, lo, he⟩ n = n ∧ chkC ⟨id, m, ch, ro, lo, he⟩ = 0) ∨ Hid (numC ⟨id, m, ch, ro, lo, he⟩ n = 0 ∧ chkC ⟨id, m, ch, ro, lo, he⟩ = 8) := by
    by_cases q : MayC ⟨id, m, ch, ro, lo, he⟩
    · exact .inl ⟨numC_may q n, chkC_may q⟩
    · exact .inr ⟨numC_not q n, chkC_not q⟩
  generalize numC ⟨id, m, ch, ro, lo, he⟩ n = r at *
  generalize chkC ⟨id, m, ch, ro, lo, he⟩ = k at *
  unfold cfgV at *
  dsimp only at *
  have B := Box6.new w (.int .u32 id) (.int .i64 m) (.int .i64 ch) (.int .i64 ro) (.int .i64 lo) (.int .i64 he) 85
  have hb : Below w.heap.size w (w.alloc (.cells #[.int .u32 id, .int .i64 m, .int .i64 ch, .int .i64 ro, .int .i64 lo, .int .i64 he] 85 (0, 0))) := (Below.refl _ _).alloc (Nat.le_refl _) _
  obtain ⟨_, c0, c1, c2, c3, c4, c5, _⟩ := B
  rcases hx with F | F
  all_goals
    rw [F.out.2] at cc
    obtain ⟨rfl, rfl⟩ := F.out
    clear F
    go_enter Try.func58, Try.ntmps58
    go_wp2_with (refine (cc _).mono ?_; rintro e w2 ⟨rfl, hb2⟩)
    have hb3 := hb.trans (hb2.mono hb.size)
    go_ret2
    exact ⟨rfl, hb3⟩

theorem ret_pair {a b c d : Int} (h : a = b) (h2 : c = d) : Ending.returned (.tuple #[.int .i64 a, .int .i64 c]) = .returned (.tuple #[.int .i64 b, .int .i64 d]) := by rw [h, h2]
theorem wrap64_in {n : Int} (h0 : -9223372036854775808 ≤ n) (h1 : n ≤ 9223372036854775807) : wrap64 n = n := by unfold wrap64; omega

set_option maxRecDepth 100000 in
set_option maxHeartbeats 4000000 in
theorem stripes_told (c : Cfg) (w : World) : Calls Try.prog 51 #[cfgV c] w fun e w' => e = .returned (.tuple #[.int .i64 (numC c (strC c)), .int .i64 (chkC c)]) ∧ Below w.heap.size w w' := by
  have ct := fun n W => told_calls c n W
  have c1 := fun W => stripes_calls c W
  have E : Hid (numC c (wrap64 (c.chunk * c.rows)) = numC c (strC c)) := by
    refine Lib.hid (numC_eq fun h => ?_)
    have := strC_box h; exact wrap64_in (by unfold strC at this; omega) (by unfold strC at this; omega)
  obtain ⟨id, m, ch, ro, lo, he⟩ := c
  generalize chkC ⟨id, m, ch, ro, lo, he⟩ = k at *
  generalize numC ⟨id, m, ch, ro, lo, he⟩ = f at *
  unfold cfgV at *
  dsimp only at *
  have B := Box6.new w (.int .u32 id) (.int .i64 m) (.int .i64 ch) (.int .i64 ro) (.int .i64 lo) (.int .i64 he) 85
  have hb : Below w.heap.size w (w.alloc (.cells #[.int .u32 id, .int .i64 m, .int .i64 ch, .int .i64 ro, .int .i64 lo, .int .i64 he] 85 (0, 0))) := (Below.refl _ _).alloc (Nat.le_refl _) _
  go_enter Try.func51, Try.ntmps51
  go_wp2
  refine wp_region_held_drew (S := (fun W => W.cell? ⟨w.heap.size, 0, none⟩ = some (.int .u32 id) ∧ W.cell? ⟨w.heap.size, 1, none⟩ = some (.int .i64 m) ∧ W.cell? ⟨w.heap.size, 2, none⟩ = some (.int .i64 ch) ∧ W.cell? ⟨w.heap.size, 3, none⟩ = some (.int .i64 ro) ∧ W.cell? ⟨w.heap.size, 4, none⟩ = some (.int .i64 lo) ∧ W.cell? ⟨w.heap.size, 5, none⟩ = some (.int .i64 he))) (by kernel_rfl) ?_ (fun hHeld => ?_)
  · exact (B.below ((Below.refl _ _).drew) (Nat.le_refl _)).all
  refine wpAnyH_take (i := 0) (v := ?_) rfl (by kernel_rfl) (by kernel_rfl) (by kernel_rfl) (fun _ _ _ h => h) (Or.inl ⟨by rfl, ?_⟩) hHeld ?_
  rotate_left
  · (intro w hSw; (try dsimp only at hSw); go_simp; try with_reducible rfl)
  try simp only [Act.put, List.getElem_toArray, List.getElem_cons_zero, List.setIfInBounds_toArray, List.set_cons_zero, List.set_cons_succ]
  refine wpAnyH_take (i := 1) (v := ?_) rfl (by kernel_rfl) (by kernel_rfl) (by kernel_rfl) (fun _ _ _ h => h) (Or.inl ⟨by rfl, ?_⟩) hHeld ?_
  rotate_left
  · (intro w hSw; (try dsimp only at hSw); go_simp; try with_reducible rfl)
  try simp only [Act.put, List.getElem_toArray, List.getElem_cons_zero, List.getElem_cons_succ, List.setIfInBounds_toArray, List.set_cons_zero, List.set_cons_succ]
  refine wpAnyH_ready (rs := [2]) (by kernel_rfl) (by simp) ?_
  refine AllReadyH.cons rfl (fun K hK => ?_) AllReadyH.nil
  go_simp
  refine (c1 _).mono ?_
  rintro e w2 ⟨rfl, hb2⟩
  have hb3 := hb.trans (((Below.refl _ _).drew.trans (hb2.mono (by simp))).mono hb.size)
  have B2 := B.below (((Below.refl _ _).drew.trans (hb2.mono (by simp)))) (Nat.le_refl _)
  go_wp2_with fail
  refine hK.out _ _ ?_ (fun hHeld2 => ?_)
  · exact B2.all
  clear hK K hHeld
  have hHeld := hHeld2
  clear hHeld2
  try simp only [Act.put, List.setIfInBounds_toArray, List.set_cons_zero, List.set_cons_succ]
  refine wpAnyH_ready (rs := [3]) (by kernel_rfl) (by simp) ?_
  refine AllReadyH.cons rfl (fun K hK => ?_) AllReadyH.nil
  go_simp
  refine (ct _ _).mono ?_
  rintro e w4 ⟨rfl, hb4⟩
  have B4 := B2.below hb4 (Nat.le_refl _)
  have hb5 := hb3.trans (hb4.mono hb3.size)
  clear hb3 hb4 B2 hb2 hb B
  go_wp2_with fail
  refine hK.out _ _ ?_ (fun hHeld2 => ?_)
  · exact B4.all
  clear hK K hHeld
  have hHeld := hHeld2
  clear hHeld2
  try simp only [Act.put, List.setIfInBounds_toArray, List.set_cons_zero, List.set_cons_succ]
  refine wpAnyH_take (i := 4) (v := ?_) rfl (by kernel_rfl) (by kernel_rfl) (by kernel_rfl) (fun _ _ _ h => h) (Or.inl ⟨by rfl, ?_⟩) hHeld ?_
  rotate_left
  · (intro w hSw; (try dsimp only at hSw); go_simp; try with_reducible rfl)
  try simp only [Act.put, List.getElem_toArray, List.getElem_cons_zero, List.getElem_cons_succ, List.setIfInBounds_toArray, List.set_cons_zero, List.set_cons_succ]
  refine wpAnyH_take (i := 5) (v := ?_) rfl (by kernel_rfl) (by kernel_rfl) (by kernel_rfl) (fun _ _ _ h => h) (Or.inl ⟨by rfl, ?_⟩) hHeld ?_
  rotate_left
  · (intro w hSw; (try dsimp only at hSw); go_simp; try with_reducible rfl)
  try simp only [Act.put, List.getElem_toArray, List.getElem_cons_zero, List.getElem_cons_succ, List.setIfInBounds_toArray, List.set_cons_zero, List.set_cons_succ]
  refine wpAnyH_take (i := 6) (v := ?_) rfl (by kernel_rfl) (by kernel_rfl) (by kernel_rfl) (fun _ _ _ h => h) (Or.inl ⟨by rfl, ?_⟩) hHeld ?_
  rotate_left
  · (intro w hSw; (try dsimp only at hSw); go_simp; try with_reducible rfl)
  try simp only [Act.put, List.getElem_toArray, List.getElem_cons_zero, List.getElem_cons_succ, List.setIfInBounds_toArray, List.set_cons_zero, List.set_cons_succ]
  refine wpAnyH_take (i := 7) (v := ?_) rfl (by kernel_rfl) (by kernel_rfl) (by kernel_rfl) (fun _ _ _ h => h) (Or.inl ⟨by rfl, ?_⟩) hHeld ?_
  rotate_left
  · (intro w hSw; (try dsimp only at hSw); go_simp; try with_reducible rfl)
  try simp only [Act.put, List.getElem_toArray, List.getElem_cons_zero, List.getElem_cons_succ, List.setIfInBounds_toArray, List.set_cons_zero, List.set_cons_succ]
  refine wpAnyH_done (by kernel_rfl) ?_ _
  go_wp2
  go_ret2
  exact ⟨ret_pair (by simpa only [IntWalk.i64_left] using E.out) rfl, hb5⟩

end Go.Proofs.Ytcngonedcnddlaa
