/- freeboardlaw04.DiskNames: for every input the law answers true, and what is handed in reads as it did. Conditions: none. -/
import Derived.Test.YtedgjnmjpgmffaaDevOpen
import Derived.Test.YtedgjnmjpgmffaaDiskP
import Derived.Test.YtedgjnmjpgmffaaDiskM
import Derived.Deep.DeepCutAuto
namespace Go.Proofs.Ytedgjnmjpgmffaa
open Go.ChangeShapes Go.WideShapes Go.ChangeAt Go.RowKit PolyM PackM FoldM DevM
def devK : Dev := ⟨[[], []], [], true⟩
theorem names_1 : useE dev0 2 [] = 2 := by decide +kernel
theorem names_2 : writeE dev0 0 ((fullL 120).take 1) = 3 := by decide +kernel
theorem names_3 : chk dev0 = 0 ∧ MayD dev0 := by decide +kernel
theorem names_4 : useE devK 0 [] = 40 := by decide +kernel
theorem names_5 : useE devK 9 [] = 2 := by decide +kernel
theorem names_6 : chk ⟨[], [], false⟩ = 8 := by decide +kernel
theorem DevN.form4 {K : Nat} {w : World} {v : Value} {d : Dev} (h : DevN K w v d) (hd : d.dead = true) : ∃ A n C B m D, v = .agg #[.slice A n C, .slice B m D, .bool true] ∧ n = d.blocks.length := by
  obtain ⟨A, n, C, B, m, D, e, hn, _⟩ := h.form
  rw [hd] at e
  exact ⟨A, n, C, B, m, D, e, hn⟩
set_option maxHeartbeats 8000000 in
set_option maxRecDepth 100000 in
theorem diskNames_walk (w : World) : Calls Try.prog 3 #[] w fun e w' => e = .returned (.bool true) ∧ Below w.heap.size w w' := by
  have hB := Below.refl w.heap.size w
  have c1 := fun W => new_no 0 W (.inl (by omega))
  have c2 := fun W => new_no 257 W (.inr ⟨by omega, by omega⟩)
  have c3 : ∀ W, Calls Try.prog 9 #[.int .i64 2] W (DevIs W 0 dev0) := fun W => new_yes 2 W (by omega) (by omega)
  have c4 := fun W u (h : DevV W u dev0) => read_calls u dev0 2 W h
  rw [names_1] at c4
  have cw := fun (W : World) (u : Value) (A : Option Addr) (L C : Nat) (h : DevV W u dev0) (hz : Ints .u8 W A L ((fullL 120).take 1)) => write_calls u dev0 0 A L C _ W h hz
  rw [names_2] at cw
  have ck := fun W u (h : DevV W u dev0) => kill_calls u dev0 W h
  rw [names_3.1, if_pos names_3.2] at ck
  have c5 := fun W u (h : DevV W u devK) => read_calls u devK 0 W h
  rw [names_4] at c5
  have c6 := fun W u (h : DevV W u devK) => read_calls u devK 9 W h
  rw [names_5] at c6
  have ca := fun W => alive_calls W
  have cc := fun W => check_calls noDev ⟨[], [], false⟩ W (noDev_is 0 W).devV
  rw [names_6] at cc
  unfold noDev at cc
  go_enter Try.func3, Try.ntmps3
  go_wp2_with fail
  (with_reducible refine (c1 _).mono ?_)
  rintro e w1 ⟨v_u1, rfl, hN_u1, hb1⟩
  obtain ⟨A_u1, n_u1, C_u1, B_u1, m_u1, D_u1, rfl, hm_u1⟩ := hN_u1.form2 rfl
  replace hb1 := hb1.alloc hb1.size (.cells #[.slice A_u1 n_u1 C_u1, .slice B_u1 m_u1 D_u1, .bool false] 25)
  have u1 := InBox.new hN_u1 (Eq.symm rfl)
  replace hB := hB.trans (hb1.mono hB.size)
  clear hN_u1 hm_u1 hb1 c1
  clear u1
  go_wp2_with fail
  (with_reducible refine (c2 _).mono ?_)
  rintro e w2 ⟨v_u2, rfl, hN_u2, hb2⟩
  obtain ⟨A_u2, n_u2, C_u2, B_u2, m_u2, D_u2, rfl, hm_u2⟩ := hN_u2.form2 rfl
  replace hb2 := hb2.alloc hb2.size (.cells #[.slice A_u2 n_u2 C_u2, .slice B_u2 m_u2 D_u2, .bool false] 25)
  have u2 := InBox.new hN_u2 (Eq.symm rfl)
  replace hB := hB.trans (hb2.mono hB.size)
  clear hN_u2 hm_u2 hb2 c2
  clear u2
  go_wp2_with fail
  (with_reducible refine (c3 _).mono ?_)
  rintro e w3 ⟨v_xd, rfl, hN_xd, hb3⟩
  obtain ⟨A_xd, n_xd, C_xd, B_xd, m_xd, D_xd, rfl, hm_xd⟩ := hN_xd.form2 rfl
  replace hb3 := hb3.alloc hb3.size (.cells #[.slice A_xd n_xd C_xd, .slice B_xd m_xd D_xd, .bool false] 25)
  have xd : InBox _ _ _ dev0 := InBox.new hN_xd (Eq.symm rfl)
  replace hB := hB.trans (hb3.mono hB.size)
  clear hN_xd hm_xd hb3 c3
  obtain ⟨c0_xd, c1_xd, c2_xd, -, d_xd, -⟩ := xd.cells
  go_wp2_with fail
  (with_reducible refine (c4 _ _ d_xd).mono ?_)
  rintro e w4 ⟨A_r1, L_r1, C_r1, rfl, r1, hb4⟩
  replace xd := xd.below hb4
  replace hB := hB.trans (hb4.mono hB.size)
  clear c0_xd c1_xd c2_xd d_xd
  replace r1 := Lib.hid r1
  clear hb4 c4
  clear r1
  obtain ⟨c0_xd, c1_xd, c2_xd, -, d_xd, -⟩ := xd.cells
  go_upto_region 5 with fail
  go_cut [10] (fun s10 wx => s10 = .int .i64 3 ∧ Below w4.heap.size w4 wx)
  case first =>
    have hsK : w3.heap.size < w4.heap.size := cell_lt c0_xd
    refine wp_region_held_drew (S := (fun W => Below w4.heap.size w4 W ∧ W.cell? ⟨w3.heap.size, 0, none⟩ = some (.slice A_xd n_xd C_xd) ∧ W.cell? ⟨w3.heap.size, 1, none⟩ = some (.slice B_xd m_xd D_xd) ∧ W.cell? ⟨w3.heap.size, 2, none⟩ = some (.bool false))) (by kernel_rfl) ?_ (fun hHeld => ?_)
    · first | assumption | exact ⟨(Below.refl _ _).drew, c0_xd, c1_xd, c2_xd⟩ | exact heldD_call (by assumption) (by assumption) | exact heldD_call (by assumption) ((Below.refl _ _).alloc (Nat.le_refl _) _) | exact heldD_call hS8 ((Below.refl _ _).alloc (Nat.le_refl _) _) | exact heldD_set (heldD_set (heldD_set (by assumption) (Nat.le_refl _) hsK _) (Nat.le_refl _) hsK _) (Nat.le_refl _) hsK _ | exact heldD_set (heldD_set (heldD_set (by assumption) hz9 hsK _) hz9 hsK _) hz9 hsK _
    refine wpAnyH_take (i := 0) (v := ?_) rfl (by kernel_rfl) (by kernel_rfl) (by kernel_rfl) (fun _ _ _ h => h) (Or.inl ⟨by rfl, ?_⟩) (by assumption) ?_
    rotate_left
    · (intro w hSw; (try dsimp only at hSw); go_simp; try with_reducible rfl)
    try simp only [Act.put, List.setIfInBounds_toArray, List.set_cons_zero, List.set_cons_succ]
    refine wpAnyH_ready (rs := [1, 7]) (by kernel_rfl) (by simp) ?_
    refine AllReadyH.cons rfl (fun K hK => ?_) (AllReadyH.cons rfl (fun K hK => ?_) AllReadyH.nil)
    ·
      go_simp
      refine (full_calls 120 _ (by omega) (by omega)).mono ?_
      rintro e v9 ⟨g9, hg9, rfl, hc9, hb9⟩
      have hS9 := heldD_call hHeld hb9
      have hz9 : w4.heap.size ≤ v9.heap.size := hS9.1.size
      have hsl : ∀ W, (Instr.slice 29 (.slice (some ⟨g9, 0, none⟩) 128 128) none (some (.int .i64 1)) none).run Try.prog W = .ok (.slice (some ⟨g9, 0, none⟩) 1 128) W := fun W => slice_to _ 128 128 1 (by omega) W
      first | (have bq := ((BoxD.new w4 (.slice none 0 0) (.slice none 0 0) (.bool false)).below ((Below.refl _ _).drew)).below hb9) | skip
      go_wp2_with fail
      refine hK.out _ _ ?_ (fun hHeld2 => ?_)
      · first | assumption | exact ⟨(Below.refl _ _).drew, c0_xd, c1_xd, c2_xd⟩ | exact heldD_call (by assumption) (by assumption) | exact heldD_call (by assumption) ((Below.refl _ _).alloc (Nat.le_refl _) _) | exact heldD_call hS8 ((Below.refl _ _).alloc (Nat.le_refl _) _) | exact heldD_set (heldD_set (heldD_set (by assumption) (Nat.le_refl _) hsK _) (Nat.le_refl _) hsK _) (Nat.le_refl _) hsK _ | exact heldD_set (heldD_set (heldD_set (by assumption) hz9 hsK _) hz9 hsK _) hz9 hsK _
      clear hK K hHeld
      have hHeld := hHeld2
      clear hHeld2
      try simp only [Act.put, List.setIfInBounds_toArray, List.set_cons_zero, List.set_cons_succ]
      refine wpAnyH_take (i := 2) (v := ?_) rfl (by kernel_rfl) (by kernel_rfl) (by kernel_rfl) (fun _ _ _ h => h) (Or.inl ⟨by rfl, ?_⟩) (by assumption) ?_
      rotate_left
      · (intro w hSw; (try dsimp only at hSw); go_simp; try with_reducible rfl)
      try simp only [Act.put, List.setIfInBounds_toArray, List.set_cons_zero, List.set_cons_succ]
      refine wpAnyH_ready (rs := [3, 7]) (by kernel_rfl) (by simp) ?_
      refine AllReadyH.cons rfl (fun K hK => ?_) (AllReadyH.cons rfl (fun K hK => ?_) AllReadyH.nil)
      ·
        go_simp
        have hFi := (Ints.ofCells hc9 (fullL_len 120) (by omega) (fullL_bytes ⟨by omega, by omega⟩)).take (N := 1) (by omega)
        first | (with_reducible refine (cw _ _ _ _ _ (d_xd.below hHeld.1 (Nat.le_refl _)) hFi).mono ?_) | (with_reducible refine (cw _ _ _ _ _ (d_xd.below hHeld.1 (Nat.le_refl _)) (hFi.below ((Below.refl _ _).alloc (Nat.le_refl _) _) (Nat.le_refl _))).mono ?_)
        rintro e v8 ⟨u8, rfl, hN8, hb8⟩
        obtain ⟨A8, n8, C8, B8, m8, D8, rfl, hm8⟩ := hN8.form2 rfl
        clear hm8
        have hS8 := heldD_call hHeld hb8
        first | (have b3 := bq.below hb8; have q0 := b3.c0; have q1 := b3.c1; have q2 := b3.c2; have p0' := b3.fr (o := 0); have p1' := b3.fr (o := 1); have p2' := b3.fr (o := 2)) | (have b3 := (BoxD.new v9 (.slice none 0 0) (.slice none 0 0) (.bool false)).below hb8; have q0 := b3.c0; have q1 := b3.c1; have q2 := b3.c2; have p0' := b3.fr (o := 0); have p1' := b3.fr (o := 1); have p2' := b3.fr (o := 2)) | (have b3 := BoxD.new v8 (.slice none 0 0) (.slice none 0 0) (.bool false); have q0 := b3.c0; have q1 := b3.c1; have q2 := b3.c2; have p0' := b3.fr (o := 0); have p1' := b3.fr (o := 1); have p2' := b3.fr (o := 2))
        go_wp2_with fail
        refine hK.out _ _ ?_ (fun hHeld2 => ?_)
        · first | assumption | exact ⟨(Below.refl _ _).drew, c0_xd, c1_xd, c2_xd⟩ | exact heldD_call (by assumption) (by assumption) | exact heldD_call (by assumption) ((Below.refl _ _).alloc (Nat.le_refl _) _) | exact heldD_call hS8 ((Below.refl _ _).alloc (Nat.le_refl _) _) | exact heldD_set (heldD_set (heldD_set (by assumption) (Nat.le_refl _) hsK _) (Nat.le_refl _) hsK _) (Nat.le_refl _) hsK _ | exact heldD_set (heldD_set (heldD_set (by assumption) hz9 hsK _) hz9 hsK _) hz9 hsK _
        clear hK K hHeld
        have hHeld := hHeld2
        clear hHeld2
        try simp only [Act.put, List.setIfInBounds_toArray, List.set_cons_zero, List.set_cons_succ]
        refine wpAnyH_take (i := 4) (v := ?_) rfl (by kernel_rfl) (by kernel_rfl) (by kernel_rfl) (fun _ _ _ h => h) (Or.inl ⟨by rfl, ?_⟩) (by assumption) ?_
        rotate_left
        · (intro w hSw; (try dsimp only at hSw); go_simp; try with_reducible rfl)
        try simp only [Act.put, List.setIfInBounds_toArray, List.set_cons_zero, List.set_cons_succ]
        refine wpAnyH_take (i := 5) (v := ?_) rfl (by kernel_rfl) (by kernel_rfl) (by kernel_rfl) (fun _ _ _ h => h) (Or.inl ⟨by rfl, ?_⟩) (by assumption) ?_
        rotate_left
        · (intro w hSw; (try dsimp only at hSw); go_simp; try with_reducible rfl)
        try simp only [Act.put, List.setIfInBounds_toArray, List.set_cons_zero, List.set_cons_succ]
        refine wpAnyH_take (i := 6) (v := ?_) rfl (by kernel_rfl) (by kernel_rfl) (by kernel_rfl) (fun _ _ _ h => h) (Or.inl ⟨by rfl, ?_⟩) (by assumption) ?_
        rotate_left
        · (intro w hSw; (try dsimp only at hSw); go_simp; try with_reducible rfl)
        try simp only [Act.put, List.setIfInBounds_toArray, List.set_cons_zero, List.set_cons_succ]
        refine wpAnyH_ready (rs := [7]) (by kernel_rfl) (by simp) ?_
        refine AllReadyH.cons rfl (fun K hK => ?_) AllReadyH.nil
        go_simp
        refine hK.out _ _ ?_ (fun hHeld2 => ?_)
        · first | assumption | exact ⟨(Below.refl _ _).drew, c0_xd, c1_xd, c2_xd⟩ | exact heldD_call (by assumption) (by assumption) | exact heldD_call (by assumption) ((Below.refl _ _).alloc (Nat.le_refl _) _) | exact heldD_call hS8 ((Below.refl _ _).alloc (Nat.le_refl _) _) | exact heldD_set (heldD_set (heldD_set (by assumption) (Nat.le_refl _) hsK _) (Nat.le_refl _) hsK _) (Nat.le_refl _) hsK _ | exact heldD_set (heldD_set (heldD_set (by assumption) hz9 hsK _) hz9 hsK _) hz9 hsK _
        clear hK K hHeld
        have hHeld := hHeld2
        clear hHeld2
        try simp only [Act.put, List.setIfInBounds_toArray, List.set_cons_zero, List.set_cons_succ]
        refine wpAnyH_ready (rs := [8]) (by kernel_rfl) (by simp) ?_
        refine AllReadyH.cons rfl (fun K hK => ?_) AllReadyH.nil
        go_simp
        refine hK.out _ _ ?_ (fun hHeld2 => ?_)
        · first | assumption | exact ⟨(Below.refl _ _).drew, c0_xd, c1_xd, c2_xd⟩ | exact heldD_call (by assumption) (by assumption) | exact heldD_call (by assumption) ((Below.refl _ _).alloc (Nat.le_refl _) _) | exact heldD_call hS8 ((Below.refl _ _).alloc (Nat.le_refl _) _) | exact heldD_set (heldD_set (heldD_set (by assumption) (Nat.le_refl _) hsK _) (Nat.le_refl _) hsK _) (Nat.le_refl _) hsK _ | exact heldD_set (heldD_set (heldD_set (by assumption) hz9 hsK _) hz9 hsK _) hz9 hsK _
        clear hK K hHeld
        have hHeld := hHeld2
        clear hHeld2
        try simp only [Act.put, List.setIfInBounds_toArray, List.set_cons_zero, List.set_cons_succ]
        refine wpAnyH_ready (rs := [9]) (by kernel_rfl) (by simp) ?_
        refine AllReadyH.cons rfl (fun K hK => ?_) AllReadyH.nil
        go_simp
        refine hK.out _ _ ?_ (fun hHeld2 => ?_)
        · first | assumption | exact ⟨(Below.refl _ _).drew, c0_xd, c1_xd, c2_xd⟩ | exact heldD_call (by assumption) (by assumption) | exact heldD_call (by assumption) ((Below.refl _ _).alloc (Nat.le_refl _) _) | exact heldD_call hS8 ((Below.refl _ _).alloc (Nat.le_refl _) _) | exact heldD_set (heldD_set (heldD_set (by assumption) (Nat.le_refl _) hsK _) (Nat.le_refl _) hsK _) (Nat.le_refl _) hsK _ | exact heldD_set (heldD_set (heldD_set (by assumption) hz9 hsK _) hz9 hsK _) hz9 hsK _
        clear hK K hHeld
        have hHeld := hHeld2
        clear hHeld2
        try simp only [Act.put, List.setIfInBounds_toArray, List.set_cons_zero, List.set_cons_succ]
        refine wpAnyH_done (by kernel_rfl) ?_ _
        have hT := Lib.hid hHeld.1
        clear hHeld hS8 hS9 q0 q1 q2 p0' p1' p2' hN8 hsl
        go_wp2_with fail
        go_meet
        case rel => exact ⟨rfl, hT.out⟩
      ·
        go_simp
        refine hK.out _ _ ?_ (fun hHeld2 => ?_)
        · first | assumption | exact ⟨(Below.refl _ _).drew, c0_xd, c1_xd, c2_xd⟩ | exact heldD_call (by assumption) (by assumption) | exact heldD_call (by assumption) ((Below.refl _ _).alloc (Nat.le_refl _) _) | exact heldD_call hS8 ((Below.refl _ _).alloc (Nat.le_refl _) _) | exact heldD_set (heldD_set (heldD_set (by assumption) (Nat.le_refl _) hsK _) (Nat.le_refl _) hsK _) (Nat.le_refl _) hsK _ | exact heldD_set (heldD_set (heldD_set (by assumption) hz9 hsK _) hz9 hsK _) hz9 hsK _
        clear hK K hHeld
        have hHeld := hHeld2
        clear hHeld2
        try simp only [Act.put, List.setIfInBounds_toArray, List.set_cons_zero, List.set_cons_succ]
        refine wpAnyH_ready (rs := [3]) (by kernel_rfl) (by simp) ?_
        refine AllReadyH.cons rfl (fun K hK => ?_) AllReadyH.nil
        go_simp
        have hFi := (Ints.ofCells hc9 (fullL_len 120) (by omega) (fullL_bytes ⟨by omega, by omega⟩)).take (N := 1) (by omega)
        first | (with_reducible refine (cw _ _ _ _ _ (d_xd.below hHeld.1 (Nat.le_refl _)) hFi).mono ?_) | (with_reducible refine (cw _ _ _ _ _ (d_xd.below hHeld.1 (Nat.le_refl _)) (hFi.below ((Below.refl _ _).alloc (Nat.le_refl _) _) (Nat.le_refl _))).mono ?_)
        rintro e v8 ⟨u8, rfl, hN8, hb8⟩
        obtain ⟨A8, n8, C8, B8, m8, D8, rfl, hm8⟩ := hN8.form2 rfl
        clear hm8
        have hS8 := heldD_call hHeld hb8
        first | (have b3 := bq.below hb8; have q0 := b3.c0; have q1 := b3.c1; have q2 := b3.c2; have p0' := b3.fr (o := 0); have p1' := b3.fr (o := 1); have p2' := b3.fr (o := 2)) | (have b3 := (BoxD.new v9 (.slice none 0 0) (.slice none 0 0) (.bool false)).below hb8; have q0 := b3.c0; have q1 := b3.c1; have q2 := b3.c2; have p0' := b3.fr (o := 0); have p1' := b3.fr (o := 1); have p2' := b3.fr (o := 2)) | (have b3 := BoxD.new v8 (.slice none 0 0) (.slice none 0 0) (.bool false); have q0 := b3.c0; have q1 := b3.c1; have q2 := b3.c2; have p0' := b3.fr (o := 0); have p1' := b3.fr (o := 1); have p2' := b3.fr (o := 2))
        go_wp2_with fail
        refine hK.out _ _ ?_ (fun hHeld2 => ?_)
        · first | assumption | exact ⟨(Below.refl _ _).drew, c0_xd, c1_xd, c2_xd⟩ | exact heldD_call (by assumption) (by assumption) | exact heldD_call (by assumption) ((Below.refl _ _).alloc (Nat.le_refl _) _) | exact heldD_call hS8 ((Below.refl _ _).alloc (Nat.le_refl _) _) | exact heldD_set (heldD_set (heldD_set (by assumption) (Nat.le_refl _) hsK _) (Nat.le_refl _) hsK _) (Nat.le_refl _) hsK _ | exact heldD_set (heldD_set (heldD_set (by assumption) hz9 hsK _) hz9 hsK _) hz9 hsK _
        clear hK K hHeld
        have hHeld := hHeld2
        clear hHeld2
        try simp only [Act.put, List.setIfInBounds_toArray, List.set_cons_zero, List.set_cons_succ]
        refine wpAnyH_take (i := 4) (v := ?_) rfl (by kernel_rfl) (by kernel_rfl) (by kernel_rfl) (fun _ _ _ h => h) (Or.inl ⟨by rfl, ?_⟩) (by assumption) ?_
        rotate_left
        · (intro w hSw; (try dsimp only at hSw); go_simp; try with_reducible rfl)
        try simp only [Act.put, List.setIfInBounds_toArray, List.set_cons_zero, List.set_cons_succ]
        refine wpAnyH_take (i := 5) (v := ?_) rfl (by kernel_rfl) (by kernel_rfl) (by kernel_rfl) (fun _ _ _ h => h) (Or.inl ⟨by rfl, ?_⟩) (by assumption) ?_
        rotate_left
        · (intro w hSw; (try dsimp only at hSw); go_simp; try with_reducible rfl)
        try simp only [Act.put, List.setIfInBounds_toArray, List.set_cons_zero, List.set_cons_succ]
        refine wpAnyH_take (i := 6) (v := ?_) rfl (by kernel_rfl) (by kernel_rfl) (by kernel_rfl) (fun _ _ _ h => h) (Or.inl ⟨by rfl, ?_⟩) (by assumption) ?_
        rotate_left
        · (intro w hSw; (try dsimp only at hSw); go_simp; try with_reducible rfl)
        try simp only [Act.put, List.setIfInBounds_toArray, List.set_cons_zero, List.set_cons_succ]
        refine wpAnyH_ready (rs := [8]) (by kernel_rfl) (by simp) ?_
        refine AllReadyH.cons rfl (fun K hK => ?_) AllReadyH.nil
        go_simp
        refine hK.out _ _ ?_ (fun hHeld2 => ?_)
        · first | assumption | exact ⟨(Below.refl _ _).drew, c0_xd, c1_xd, c2_xd⟩ | exact heldD_call (by assumption) (by assumption) | exact heldD_call (by assumption) ((Below.refl _ _).alloc (Nat.le_refl _) _) | exact heldD_call hS8 ((Below.refl _ _).alloc (Nat.le_refl _) _) | exact heldD_set (heldD_set (heldD_set (by assumption) (Nat.le_refl _) hsK _) (Nat.le_refl _) hsK _) (Nat.le_refl _) hsK _ | exact heldD_set (heldD_set (heldD_set (by assumption) hz9 hsK _) hz9 hsK _) hz9 hsK _
        clear hK K hHeld
        have hHeld := hHeld2
        clear hHeld2
        try simp only [Act.put, List.setIfInBounds_toArray, List.set_cons_zero, List.set_cons_succ]
        refine wpAnyH_ready (rs := [9]) (by kernel_rfl) (by simp) ?_
        refine AllReadyH.cons rfl (fun K hK => ?_) AllReadyH.nil
        go_simp
        refine hK.out _ _ ?_ (fun hHeld2 => ?_)
        · first | assumption | exact ⟨(Below.refl _ _).drew, c0_xd, c1_xd, c2_xd⟩ | exact heldD_call (by assumption) (by assumption) | exact heldD_call (by assumption) ((Below.refl _ _).alloc (Nat.le_refl _) _) | exact heldD_call hS8 ((Below.refl _ _).alloc (Nat.le_refl _) _) | exact heldD_set (heldD_set (heldD_set (by assumption) (Nat.le_refl _) hsK _) (Nat.le_refl _) hsK _) (Nat.le_refl _) hsK _ | exact heldD_set (heldD_set (heldD_set (by assumption) hz9 hsK _) hz9 hsK _) hz9 hsK _
        clear hK K hHeld
        have hHeld := hHeld2
        clear hHeld2
        try simp only [Act.put, List.setIfInBounds_toArray, List.set_cons_zero, List.set_cons_succ]
        refine wpAnyH_done (by kernel_rfl) ?_ _
        have hT := Lib.hid hHeld.1
        clear hHeld hS8 hS9 q0 q1 q2 p0' p1' p2' hN8 hsl
        go_wp2_with fail
        go_meet
        case rel => exact ⟨rfl, hT.out⟩
    ·
      go_simp
      refine hK.out _ _ ?_ (fun hHeld2 => ?_)
      · first | assumption | exact ⟨(Below.refl _ _).drew, c0_xd, c1_xd, c2_xd⟩ | exact heldD_call (by assumption) (by assumption) | exact heldD_call (by assumption) ((Below.refl _ _).alloc (Nat.le_refl _) _) | exact heldD_call hS8 ((Below.refl _ _).alloc (Nat.le_refl _) _) | exact heldD_set (heldD_set (heldD_set (by assumption) (Nat.le_refl _) hsK _) (Nat.le_refl _) hsK _) (Nat.le_refl _) hsK _ | exact heldD_set (heldD_set (heldD_set (by assumption) hz9 hsK _) hz9 hsK _) hz9 hsK _
      clear hK K hHeld
      have hHeld := hHeld2
      clear hHeld2
      try simp only [Act.put, List.setIfInBounds_toArray, List.set_cons_zero, List.set_cons_succ]
      refine wpAnyH_ready (rs := [1]) (by kernel_rfl) (by simp) ?_
      refine AllReadyH.cons rfl (fun K hK => ?_) AllReadyH.nil
      go_simp
      refine (full_calls 120 _ (by omega) (by omega)).mono ?_
      rintro e v9 ⟨g9, hg9, rfl, hc9, hb9⟩
      have hS9 := heldD_call hHeld hb9
      have hz9 : w4.heap.size ≤ v9.heap.size := hS9.1.size
      have hsl : ∀ W, (Instr.slice 29 (.slice (some ⟨g9, 0, none⟩) 128 128) none (some (.int .i64 1)) none).run Try.prog W = .ok (.slice (some ⟨g9, 0, none⟩) 1 128) W := fun W => slice_to _ 128 128 1 (by omega) W
      first | (have bq := ((BoxD.new w4 (.slice none 0 0) (.slice none 0 0) (.bool false)).below ((Below.refl _ _).drew)).below hb9) | skip
      go_wp2_with fail
      refine hK.out _ _ ?_ (fun hHeld2 => ?_)
      · first | assumption | exact ⟨(Below.refl _ _).drew, c0_xd, c1_xd, c2_xd⟩ | exact heldD_call (by assumption) (by assumption) | exact heldD_call (by assumption) ((Below.refl _ _).alloc (Nat.le_refl _) _) | exact heldD_call hS8 ((Below.refl _ _).alloc (Nat.le_refl _) _) | exact heldD_set (heldD_set (heldD_set (by assumption) (Nat.le_refl _) hsK _) (Nat.le_refl _) hsK _) (Nat.le_refl _) hsK _ | exact heldD_set (heldD_set (heldD_set (by assumption) hz9 hsK _) hz9 hsK _) hz9 hsK _
      clear hK K hHeld
      have hHeld := hHeld2
      clear hHeld2
      try simp only [Act.put, List.setIfInBounds_toArray, List.set_cons_zero, List.set_cons_succ]
      refine wpAnyH_take (i := 2) (v := ?_) rfl (by kernel_rfl) (by kernel_rfl) (by kernel_rfl) (fun _ _ _ h => h) (Or.inl ⟨by rfl, ?_⟩) (by assumption) ?_
      rotate_left
      · (intro w hSw; (try dsimp only at hSw); go_simp; try with_reducible rfl)
      try simp only [Act.put, List.setIfInBounds_toArray, List.set_cons_zero, List.set_cons_succ]
      refine wpAnyH_ready (rs := [3]) (by kernel_rfl) (by simp) ?_
      refine AllReadyH.cons rfl (fun K hK => ?_) AllReadyH.nil
      go_simp
      have hFi := (Ints.ofCells hc9 (fullL_len 120) (by omega) (fullL_bytes ⟨by omega, by omega⟩)).take (N := 1) (by omega)
      first | (with_reducible refine (cw _ _ _ _ _ (d_xd.below hHeld.1 (Nat.le_refl _)) hFi).mono ?_) | (with_reducible refine (cw _ _ _ _ _ (d_xd.below hHeld.1 (Nat.le_refl _)) (hFi.below ((Below.refl _ _).alloc (Nat.le_refl _) _) (Nat.le_refl _))).mono ?_)
      rintro e v8 ⟨u8, rfl, hN8, hb8⟩
      obtain ⟨A8, n8, C8, B8, m8, D8, rfl, hm8⟩ := hN8.form2 rfl
      clear hm8
      have hS8 := heldD_call hHeld hb8
      first | (have b3 := bq.below hb8; have q0 := b3.c0; have q1 := b3.c1; have q2 := b3.c2; have p0' := b3.fr (o := 0); have p1' := b3.fr (o := 1); have p2' := b3.fr (o := 2)) | (have b3 := (BoxD.new v9 (.slice none 0 0) (.slice none 0 0) (.bool false)).below hb8; have q0 := b3.c0; have q1 := b3.c1; have q2 := b3.c2; have p0' := b3.fr (o := 0); have p1' := b3.fr (o := 1); have p2' := b3.fr (o := 2)) | (have b3 := BoxD.new v8 (.slice none 0 0) (.slice none 0 0) (.bool false); have q0 := b3.c0; have q1 := b3.c1; have q2 := b3.c2; have p0' := b3.fr (o := 0); have p1' := b3.fr (o := 1); have p2' := b3.fr (o := 2))
      go_wp2_with fail
      refine hK.out _ _ ?_ (fun hHeld2 => ?_)
      · first | assumption | exact ⟨(Below.refl _ _).drew, c0_xd, c1_xd, c2_xd⟩ | exact heldD_call (by assumption) (by assumption) | exact heldD_call (by assumption) ((Below.refl _ _).alloc (Nat.le_refl _) _) | exact heldD_call hS8 ((Below.refl _ _).alloc (Nat.le_refl _) _) | exact heldD_set (heldD_set (heldD_set (by assumption) (Nat.le_refl _) hsK _) (Nat.le_refl _) hsK _) (Nat.le_refl _) hsK _ | exact heldD_set (heldD_set (heldD_set (by assumption) hz9 hsK _) hz9 hsK _) hz9 hsK _
      clear hK K hHeld
      have hHeld := hHeld2
      clear hHeld2
      try simp only [Act.put, List.setIfInBounds_toArray, List.set_cons_zero, List.set_cons_succ]
      refine wpAnyH_take (i := 4) (v := ?_) rfl (by kernel_rfl) (by kernel_rfl) (by kernel_rfl) (fun _ _ _ h => h) (Or.inl ⟨by rfl, ?_⟩) (by assumption) ?_
      rotate_left
      · (intro w hSw; (try dsimp only at hSw); go_simp; try with_reducible rfl)
      try simp only [Act.put, List.setIfInBounds_toArray, List.set_cons_zero, List.set_cons_succ]
      refine wpAnyH_take (i := 5) (v := ?_) rfl (by kernel_rfl) (by kernel_rfl) (by kernel_rfl) (fun _ _ _ h => h) (Or.inl ⟨by rfl, ?_⟩) (by assumption) ?_
      rotate_left
      · (intro w hSw; (try dsimp only at hSw); go_simp; try with_reducible rfl)
      try simp only [Act.put, List.setIfInBounds_toArray, List.set_cons_zero, List.set_cons_succ]
      refine wpAnyH_take (i := 6) (v := ?_) rfl (by kernel_rfl) (by kernel_rfl) (by kernel_rfl) (fun _ _ _ h => h) (Or.inl ⟨by rfl, ?_⟩) (by assumption) ?_
      rotate_left
      · (intro w hSw; (try dsimp only at hSw); go_simp; try with_reducible rfl)
      try simp only [Act.put, List.setIfInBounds_toArray, List.set_cons_zero, List.set_cons_succ]
      refine wpAnyH_ready (rs := [8]) (by kernel_rfl) (by simp) ?_
      refine AllReadyH.cons rfl (fun K hK => ?_) AllReadyH.nil
      go_simp
      refine hK.out _ _ ?_ (fun hHeld2 => ?_)
      · first | assumption | exact ⟨(Below.refl _ _).drew, c0_xd, c1_xd, c2_xd⟩ | exact heldD_call (by assumption) (by assumption) | exact heldD_call (by assumption) ((Below.refl _ _).alloc (Nat.le_refl _) _) | exact heldD_call hS8 ((Below.refl _ _).alloc (Nat.le_refl _) _) | exact heldD_set (heldD_set (heldD_set (by assumption) (Nat.le_refl _) hsK _) (Nat.le_refl _) hsK _) (Nat.le_refl _) hsK _ | exact heldD_set (heldD_set (heldD_set (by assumption) hz9 hsK _) hz9 hsK _) hz9 hsK _
      clear hK K hHeld
      have hHeld := hHeld2
      clear hHeld2
      try simp only [Act.put, List.setIfInBounds_toArray, List.set_cons_zero, List.set_cons_succ]
      refine wpAnyH_ready (rs := [9]) (by kernel_rfl) (by simp) ?_
      refine AllReadyH.cons rfl (fun K hK => ?_) AllReadyH.nil
      go_simp
      refine hK.out _ _ ?_ (fun hHeld2 => ?_)
      · first | assumption | exact ⟨(Below.refl _ _).drew, c0_xd, c1_xd, c2_xd⟩ | exact heldD_call (by assumption) (by assumption) | exact heldD_call (by assumption) ((Below.refl _ _).alloc (Nat.le_refl _) _) | exact heldD_call hS8 ((Below.refl _ _).alloc (Nat.le_refl _) _) | exact heldD_set (heldD_set (heldD_set (by assumption) (Nat.le_refl _) hsK _) (Nat.le_refl _) hsK _) (Nat.le_refl _) hsK _ | exact heldD_set (heldD_set (heldD_set (by assumption) hz9 hsK _) hz9 hsK _) hz9 hsK _
      clear hK K hHeld
      have hHeld := hHeld2
      clear hHeld2
      try simp only [Act.put, List.setIfInBounds_toArray, List.set_cons_zero, List.set_cons_succ]
      refine wpAnyH_done (by kernel_rfl) ?_ _
      have hT := Lib.hid hHeld.1
      clear hHeld hS8 hS9 q0 q1 q2 p0' p1' p2' hN8 hsl
      go_wp2_with fail
      go_meet
      case rel => exact ⟨rfl, hT.out⟩
  case rest =>
    obtain ⟨rfl, hb5⟩ := hcut
    replace xd := xd.below hb5
    replace hB := hB.trans (hb5.mono hB.size)
    clear c0_xd c1_xd c2_xd d_xd
    clear hb5 cw
    obtain ⟨c0_xd, c1_xd, c2_xd, -, d_xd, -⟩ := xd.cells
    go_wp2_with fail
    (with_reducible refine (ck _ _ d_xd).mono ?_)
    rintro e w5 ⟨v_xk, rfl, hN_xk, hb5⟩
    obtain ⟨A_xk, n_xk, C_xk, B_xk, m_xk, D_xk, rfl, hm_xk⟩ := hN_xk.form4 rfl
    replace hb5 := hb5.alloc hb5.size (.cells #[.slice A_xk n_xk C_xk, .slice B_xk m_xk D_xk, .bool true] 25)
    have xk : InBox _ _ _ devK := InBox.new hN_xk (Eq.symm rfl)
    replace xd := xd.below hb5
    replace hB := hB.trans (hb5.mono hB.size)
    clear c0_xd c1_xd c2_xd d_xd
    clear hN_xk hm_xk hb5 ck
    obtain ⟨c0_xk, c1_xk, c2_xk, -, d_xk, -⟩ := xk.cells
    go_wp2_with fail
    (with_reducible refine (c5 _ _ d_xk).mono ?_)
    rintro e w6 ⟨A_r5, L_r5, C_r5, rfl, r5, hb6⟩
    replace xd := xd.below hb6
    replace xk := xk.below hb6
    replace hB := hB.trans (hb6.mono hB.size)
    clear c0_xk c1_xk c2_xk d_xk
    replace r5 := Lib.hid r5
    clear hb6 c5
    clear r5
    obtain ⟨c0_xk, c1_xk, c2_xk, -, d_xk, -⟩ := xk.cells
    go_wp2_with fail
    (with_reducible refine (c6 _ _ d_xk).mono ?_)
    rintro e w7 ⟨A_r6, L_r6, C_r6, rfl, r6, hb7⟩
    replace xd := xd.below hb7
    replace xk := xk.below hb7
    replace hB := hB.trans (hb7.mono hB.size)
    clear c0_xk c1_xk c2_xk d_xk
    replace r6 := Lib.hid r6
    clear hb7 c6
    clear r6
    go_wp2_with fail
    (with_reducible refine (ca _).mono ?_)
    rintro e w8 ⟨rfl, hb8⟩
    replace xd := xd.below hb8
    replace xk := xk.below hb8
    replace hB := hB.trans (hb8.mono hB.size)
    clear hb8 ca
    go_wp2_with fail
    (with_reducible refine (cc _).mono ?_)
    rintro e w9 ⟨rfl, hb9⟩
    replace xd := xd.below hb9
    replace xk := xk.below hb9
    replace hB := hB.trans (hb9.mono hB.size)
    clear hb9 cc
    go_wp2
    go_ret
    exact ⟨rfl, hB⟩

namespace diskNames
set_option linter.unusedVariables false
set_option maxRecDepth 100000 in
theorem lifted (os : Os) (started : os.Started) (H : Type) (enc : TypeId × Value → H) :
    ReturnsInHanded {} Try.checked os 3 .any (Rows.diskNamesSpec.pre6 enc Try.prog Try.f3 Rows.diskNamesRow.domain false) (Rows.diskNamesSpec.post enc Try.prog Try.f3 false true false false) := by
  refine returnsInHanded_of_change (C := Try.checked) Try.own started (by kernel_rfl) Try.func3
    (ChangeSpec.witness6 (enc := enc) (C := Try.checked) false ⟨#[], #[], []⟩ 8 (by kernel_rfl) (by kernel_rfl) (by kernel_rfl) (by kernel_rfl)) ?_
  intro W base args ds gs before hval0 hW hcnd _
  have hval : ∀ (j : Nat) t v, Try.f3.params[j]? = some t → args[j]? = some v → Value.okWide Try.prog W .any base t v := hval0
  have hW' := hW
  obtain ⟨p, q, hA0, hV, rfl, hfz, hnd⟩ := hW
  have hA : DataW.TrodAll enc Try.prog W 0 (fun _ => true) true Try.f3.params.toList args.toList ds p := hA0
  rw [Try.params3] at hA hval
  obtain ⟨hargs, rfl, rfl⟩ := trodAll_nil hA
  obtain rfl : args = #[] := by cases args; simp_all
  obtain ⟨rfl, rfl⟩ := trodVars_none hV
  clear hA0 hval0
  refine (diskNames_walk W).mono fun e W' ⟨he, bel⟩ => ?_
  subst he
  exact ⟨_, rfl, _, _, _, [], _, [], hW', trodAll_mk1 (shut_bool Try.underlying4 _), trodAll_mk0, rfl, bel.frame _, fun h => by cases h⟩

theorem holds : Rows.DiskNamesSaid :=
  OpenClaim.holds_of_wide 3 Try.f3 rfl rfl rfl rfl rfl rfl rfl ⟨rfl, rfl, rfl, rfl, rfl⟩ rfl rfl rfl rfl rfl (by kernel_rfl) Try.func3 (by kernel_rfl)
    (of_decide_eq_true (by kernel_rfl)) (by unfold Func.isWrapper; first | (rw [if_pos (by decide +kernel)]; kernel_rfl) | (rw [if_neg (by decide +kernel)]; exact ⟨rfl, rfl⟩))
    (fun os started H enc _ => lifted os started H enc)
end diskNames
end Go.Proofs.Ytedgjnmjpgmffaa
