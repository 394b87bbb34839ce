/- The walk of the laws' own helper alive: the chapter's first examples. -/
import Derived.Test.YtldgpkaecfgagaaDiskL
import Derived.Test.YtldgpkaecfgagaaDiskI
import Derived.Test.YtldgpkaecfgagaaDiskG
import Derived.Deep.DeepCutAuto
namespace Go.Proofs.Ytldgpkaecfgagaa
open Go.RowKit PolyM PackM FoldM DevM

/-- Two blocks, none. -/
def dev0 : Dev := ⟨[[], []], [], false⟩
def devA : Dev := ⟨[[], []], [(1, fullL 120)], false⟩
def devB : Dev := ⟨[[], fullL 120], [], false⟩
theorem alive_w : writeE dev0 1 (fullL 120) = 0 := by decide +kernel
theorem alive_f : flushE devA = 0 := by decide +kernel
theorem alive_u : useE devA 1 [] = 0 := by decide +kernel
theorem alive_1 : decide (useE devA 1 [] = 0 ∧ seen devA 1 = fullL 120) = true := by decide +kernel
theorem alive_2 : decide (useE devA 1 [] = 0 ∧ lies devA 1 = fullL 0) = true := by decide +kernel
theorem alive_3 : decide (useE devB 1 [] = 0 ∧ lies devB 1 = fullL 120) = true := by decide +kernel
theorem alive_4 : decide (useE dev0 1 [] = 0 ∧ seen dev0 1 = fullL 0) = true := by decide +kernel

/-- A device that lies in a box. -/
def InBox (W : World) (b : Nat) (v : Value) (d : Dev) : Prop := ∃ A n C B m D, v = .agg #[.slice A n C, .slice B m D, .bool d.dead] ∧ BoxD W b (.slice A n C) (.slice B m D) (.bool d.dead) ∧ DevV W v d
theorem InBox.below {W W' : World} {b : Nat} {v : Value} {d : Dev} (h : InBox W b v d) (hb : Below W.heap.size W W') : InBox W' b v d := by
  obtain ⟨A, n, C, B, m, D, e, x, hd⟩ := h
  exact ⟨A, n, C, B, m, D, e, x.below hb, hd.below hb (Nat.le_refl _)⟩
theorem InBox.new {K : Nat} {W : World} {d : Dev} {A B : Option Addr} {n C m D : Nat} {dd : Bool} (h : DevN K W (.agg #[.slice A n C, .slice B m D, .bool dd]) d) (hdd : dd = d.dead) : InBox (W.alloc (.cells #[.slice A n C, .slice B m D, .bool dd] 25)) W.heap.size (.agg #[.slice A n C, .slice B m D, .bool dd]) d := by
  subst hdd
  exact ⟨A, n, C, B, m, D, rfl, BoxD.new _ _ _ _, h.devV.below ((Below.refl _ _).alloc (Nat.le_refl _) _) (Nat.le_refl _)⟩
theorem InBox.cells {W : World} {b : Nat} {d : Dev} {A B : Option Addr} {n C m D : Nat} {dd : Bool} (h : InBox W b (.agg #[.slice A n C, .slice B m D, .bool dd]) d) : W.cell? ⟨b, 0, none⟩ = some (.slice A n C) ∧ W.cell? ⟨b, 1, none⟩ = some (.slice B m D) ∧ W.cell? ⟨b, 2, none⟩ = some (.bool dd) ∧ BoxD W b (.slice A n C) (.slice B m D) (.bool dd) ∧ DevV W (.agg #[.slice A n C, .slice B m D, .bool dd]) d ∧ dd = d.dead := by
  obtain ⟨A', n', C', B', m', D', e, x, hd⟩ := h
  simp only [Value.agg.injEq, Array.mk.injEq, List.cons.injEq, Value.slice.injEq, Value.bool.injEq, and_true] at e
  obtain ⟨⟨rfl, rfl, rfl⟩, ⟨rfl, rfl, rfl⟩, rfl⟩ := e
  exact ⟨x.c0, x.c1, x.c2, x, hd, rfl⟩

theorem DevN.form2 {K : Nat} {w : World} {v : Value} {d : Dev} (h : DevN K w v d) (hd : d.dead = false) : ∃ A n C B m D, v = .agg #[.slice A n C, .slice B m D, .bool false] ∧ m = d.wait.length := by
  obtain ⟨A, n, C, B, m, D, e, _, hm⟩ := h.form
  rw [hd] at e
  exact ⟨A, n, C, B, m, D, e, hm⟩
set_option maxRecDepth 100000 in
set_option maxHeartbeats 4000000 in
theorem alive_calls (w : World) : Calls Try.prog 20 #[] w fun e w' => e = .returned (.bool true) ∧ Below w.heap.size w w' := by
  have cn : Calls Try.prog 15 #[.int .i64 2] w (DevIs w 0 dev0) := new_yes 2 w (by omega) (by omega)
  have cw := fun (W : World) (v : Value) (A : Option Addr) (L C : Nat) (h : DevV W v dev0) (hz : Ints .u8 W A L (fullL 120)) => write_calls v dev0 1 A L C (fullL 120) W h hz
  rw [alive_w] at cw
  rw [show resD 0 ⟨dev0.blocks, dev0.wait ++ [(1, fullL 120)], false⟩ = devA from rfl] at cw
  have cf := fun (W : World) (v : Value) (h : DevV W v devA) => flush_calls v devA W h
  rw [alive_f] at cf
  rw [show resD 0 ⟨flushL devA.blocks devA.wait, [], false⟩ = devB from rfl] at cf
  have cu := fun (W : World) (v : Value) (h : DevV W v devA) => fua_calls v devA 1 none 0 0 [] W h (nil_ints .u8 W 0)
  rw [alive_u] at cu
  rw [show resD 0 ⟨devA.blocks.set (1 : Int).toNat [], devA.wait.filter (keepB 1), false⟩ = dev0 from rfl] at cu
  have r1 := fun (W : World) (v : Value) (h : DevV W v devA) => reads_calls v devA 1 120 W h (by omega) (by omega)
  have r2 := fun (W : World) (v : Value) (h : DevV W v devA) => lasts_calls v devA 1 0 W h (by omega) (by omega)
  have r3 := fun (W : World) (v : Value) (h : DevV W v devB) => lasts_calls v devB 1 120 W h (by omega) (by omega)
  have r4 := fun (W : World) (v : Value) (h : DevV W v dev0) => reads_calls v dev0 1 0 W h (by omega) (by omega)
  rw [alive_1] at r1
  rw [alive_2] at r2
  rw [alive_3] at r3
  rw [alive_4] at r4
  go_enter Try.func20, Try.ntmps20
  go_wp2_with fail
  (with_reducible refine cn.mono ?_)
  rintro e w1 ⟨v1, rfl, hN1, hb1⟩
  obtain ⟨A1, n1, C1, B1, m1, D1, rfl, hm1⟩ := hN1.form2 rfl
  have x1 := InBox.new hN1 rfl
  obtain ⟨a0, a1, a2, xb1, hd1, -⟩ := x1.cells
  have hb2 := hb1.alloc hb1.size (.cells #[.slice A1 n1 C1, .slice B1 m1 D1, .bool false] 25)
  clear cn hN1 hm1 hb1
  go_upto_region 2 with fail
  generalize hwq : w1.alloc (.cells #[.slice A1 n1 C1, .slice B1 m1 D1, .bool false] 25) = wq at *
  clear hwq
  go_cut [3, 4] (fun s3 s4 wx => ∃ (b : Nat) (A' B' : Option Addr) (n' C' m' D' : Nat), s3 = .pointer (some ⟨b, 0, none⟩) ∧ s4 = .int .i64 0 ∧ InBox wx b (.agg #[.slice A' n' C', .slice B' m' D', .bool false]) devA ∧ Below w.heap.size w wx)
  case first =>
    have hsK : w1.heap.size < wq.heap.size := xb1.lt
    refine wp_region_held_drew (S := (fun W => Below wq.heap.size wq W ∧ W.cell? ⟨w1.heap.size, 0, none⟩ = some (.slice A1 n1 C1) ∧ W.cell? ⟨w1.heap.size, 1, none⟩ = some (.slice B1 m1 D1) ∧ W.cell? ⟨w1.heap.size, 2, none⟩ = some (.bool false))) (by kernel_rfl) ?_ (fun hHeld => ?_)
    · first | assumption | exact ⟨(Below.refl _ _).drew, a0, a1, a2⟩ | exact heldD_call (by assumption) (by assumption) | exact heldD_call (by assumption) ((Below.refl _ _).alloc (Nat.le_refl _) _) | exact heldD_call hS8 ((Below.refl _ _).alloc (Nat.le_refl _) _) | exact heldD_set (heldD_set (heldD_set (by assumption) (Nat.le_refl _) hsK _) (Nat.le_refl _) hsK _) (Nat.le_refl _) hsK _ | exact heldD_set (heldD_set (heldD_set (by assumption) hz9 hsK _) hz9 hsK _) hz9 hsK _
    refine wpAnyH_take (i := 0) (v := ?_) rfl (by kernel_rfl) (by kernel_rfl) (by kernel_rfl) (fun _ _ _ h => h) (Or.inl ⟨by rfl, ?_⟩) (by assumption) ?_
    rotate_left
    · (intro w hSw; (try dsimp only at hSw); go_simp; try with_reducible rfl)
    try simp only [Act.put, List.setIfInBounds_toArray]
    refine wpAnyH_ready (rs := [1, 6]) (by kernel_rfl) (by simp) ?_
    refine AllReadyH.cons rfl (fun K hK => ?_) (AllReadyH.cons rfl (fun K hK => ?_) AllReadyH.nil)
    ·
      go_simp
      refine (full_calls 120 _ (by omega) (by omega)).mono ?_
      rintro e w9 ⟨g9, hg9, rfl, hc9, hb9⟩
      have hS9 := heldD_call hHeld hb9
      have hz9 : wq.heap.size ≤ w9.heap.size := hS9.1.size
      first | (have bq := ((BoxD.new wq (.slice none 0 0) (.slice none 0 0) (.bool false)).below ((Below.refl _ _).drew)).below hb9) | skip
      go_wp2_with fail
      refine hK.out _ _ ?_ (fun hHeld2 => ?_)
      · first | assumption | exact ⟨(Below.refl _ _).drew, a0, a1, a2⟩ | exact heldD_call (by assumption) (by assumption) | exact heldD_call (by assumption) ((Below.refl _ _).alloc (Nat.le_refl _) _) | exact heldD_call hS8 ((Below.refl _ _).alloc (Nat.le_refl _) _) | exact heldD_set (heldD_set (heldD_set (by assumption) (Nat.le_refl _) hsK _) (Nat.le_refl _) hsK _) (Nat.le_refl _) hsK _ | exact heldD_set (heldD_set (heldD_set (by assumption) hz9 hsK _) hz9 hsK _) hz9 hsK _
      clear hK K hHeld
      have hHeld := hHeld2
      clear hHeld2
      try simp only [Act.put, List.setIfInBounds_toArray, List.set_cons_zero, List.set_cons_succ]
      refine wpAnyH_ready (rs := [2, 6]) (by kernel_rfl) (by simp) ?_
      refine AllReadyH.cons rfl (fun K hK => ?_) (AllReadyH.cons rfl (fun K hK => ?_) AllReadyH.nil)
      ·
        go_simp
        have hb8 := Below.refl wq.heap.size wq
        have hFi := Ints.ofCells hc9 (fullL_len 120) (by omega) (fullL_bytes ⟨by omega, by omega⟩)
        first | (with_reducible refine (cw _ _ _ _ _ (hd1.below hHeld.1 (Nat.le_refl _)) hFi).mono ?_) | (with_reducible refine (cw _ _ _ _ _ (hd1.below hHeld.1 (Nat.le_refl _)) (hFi.below ((Below.refl _ _).alloc (Nat.le_refl _) _) (Nat.le_refl _))).mono ?_)
        rintro e w8 ⟨v8, rfl, hN8, hb8⟩
        obtain ⟨A8, n8, C8, B8, m8, D8, rfl, hm8⟩ := hN8.form2 rfl
        clear hm8
        have hS8 := heldD_call hHeld hb8
        first | (have b3 := bq.below hb8; have q0 := b3.c0; have q1 := b3.c1; have q2 := b3.c2; have r0 := b3.fr (o := 0); have r1' := b3.fr (o := 1); have r2' := b3.fr (o := 2)) | (have b3 := (BoxD.new w9 (.slice none 0 0) (.slice none 0 0) (.bool false)).below hb8; have q0 := b3.c0; have q1 := b3.c1; have q2 := b3.c2; have r0 := b3.fr (o := 0); have r1' := b3.fr (o := 1); have r2' := b3.fr (o := 2)) | (have b3 := BoxD.new w8 (.slice none 0 0) (.slice none 0 0) (.bool false); have q0 := b3.c0; have q1 := b3.c1; have q2 := b3.c2; have r0 := b3.fr (o := 0); have r1' := b3.fr (o := 1); have r2' := b3.fr (o := 2))
        go_wp2_with fail
        refine hK.out _ _ ?_ (fun hHeld2 => ?_)
        · first | assumption | exact ⟨(Below.refl _ _).drew, a0, a1, a2⟩ | exact heldD_call (by assumption) (by assumption) | exact heldD_call (by assumption) ((Below.refl _ _).alloc (Nat.le_refl _) _) | exact heldD_call hS8 ((Below.refl _ _).alloc (Nat.le_refl _) _) | exact heldD_set (heldD_set (heldD_set (by assumption) (Nat.le_refl _) hsK _) (Nat.le_refl _) hsK _) (Nat.le_refl _) hsK _ | exact heldD_set (heldD_set (heldD_set (by assumption) hz9 hsK _) hz9 hsK _) hz9 hsK _
        clear hK K hHeld
        have hHeld := hHeld2
        clear hHeld2
        try simp only [Act.put, List.setIfInBounds_toArray, List.set_cons_zero, List.set_cons_succ]
        refine wpAnyH_take (i := 3) (v := ?_) rfl (by kernel_rfl) (by kernel_rfl) (by kernel_rfl) (fun _ _ _ h => h) (Or.inl ⟨by rfl, ?_⟩) (by assumption) ?_
        rotate_left
        · (intro w hSw; (try dsimp only at hSw); go_simp; try with_reducible rfl)
        try simp only [Act.put, List.setIfInBounds_toArray]
        refine wpAnyH_take (i := 4) (v := ?_) rfl (by kernel_rfl) (by kernel_rfl) (by kernel_rfl) (fun _ _ _ h => h) (Or.inl ⟨by rfl, ?_⟩) (by assumption) ?_
        rotate_left
        · (intro w hSw; (try dsimp only at hSw); go_simp; try with_reducible rfl)
        try simp only [Act.put]
        refine wpAnyH_take (i := 5) (v := ?_) rfl (by kernel_rfl) (by kernel_rfl) (by kernel_rfl) (fun _ _ _ h => h) (Or.inl ⟨by rfl, ?_⟩) (by assumption) ?_
        rotate_left
        · (intro w hSw; (try dsimp only at hSw); go_simp; try with_reducible rfl)
        try simp only [Act.put]
        refine wpAnyH_ready (rs := [6]) (by kernel_rfl) (by simp) ?_
        refine AllReadyH.cons rfl (fun K hK => ?_) AllReadyH.nil
        go_simp
        refine hK.out _ _ ?_ (fun hHeld2 => ?_)
        · first | assumption | exact ⟨(Below.refl _ _).drew, a0, a1, a2⟩ | exact heldD_call (by assumption) (by assumption) | exact heldD_call (by assumption) ((Below.refl _ _).alloc (Nat.le_refl _) _) | exact heldD_call hS8 ((Below.refl _ _).alloc (Nat.le_refl _) _) | exact heldD_set (heldD_set (heldD_set (by assumption) (Nat.le_refl _) hsK _) (Nat.le_refl _) hsK _) (Nat.le_refl _) hsK _ | exact heldD_set (heldD_set (heldD_set (by assumption) hz9 hsK _) hz9 hsK _) hz9 hsK _
        clear hK K hHeld
        have hHeld := hHeld2
        clear hHeld2
        try simp only [Act.put, List.setIfInBounds_toArray, List.set_cons_zero, List.set_cons_succ]
        refine wpAnyH_ready (rs := [7]) (by kernel_rfl) (by simp) ?_
        refine AllReadyH.cons rfl (fun K hK => ?_) AllReadyH.nil
        go_simp
        refine hK.out _ _ ?_ (fun hHeld2 => ?_)
        · first | assumption | exact ⟨(Below.refl _ _).drew, a0, a1, a2⟩ | exact heldD_call (by assumption) (by assumption) | exact heldD_call (by assumption) ((Below.refl _ _).alloc (Nat.le_refl _) _) | exact heldD_call hS8 ((Below.refl _ _).alloc (Nat.le_refl _) _) | exact heldD_set (heldD_set (heldD_set (by assumption) (Nat.le_refl _) hsK _) (Nat.le_refl _) hsK _) (Nat.le_refl _) hsK _ | exact heldD_set (heldD_set (heldD_set (by assumption) hz9 hsK _) hz9 hsK _) hz9 hsK _
        clear hK K hHeld
        have hHeld := hHeld2
        clear hHeld2
        try simp only [Act.put, List.setIfInBounds_toArray, List.set_cons_zero, List.set_cons_succ]
        refine wpAnyH_ready (rs := [8]) (by kernel_rfl) (by simp) ?_
        refine AllReadyH.cons rfl (fun K hK => ?_) AllReadyH.nil
        go_simp
        refine hK.out _ _ ?_ (fun hHeld2 => ?_)
        · first | assumption | exact ⟨(Below.refl _ _).drew, a0, a1, a2⟩ | exact heldD_call (by assumption) (by assumption) | exact heldD_call (by assumption) ((Below.refl _ _).alloc (Nat.le_refl _) _) | exact heldD_call hS8 ((Below.refl _ _).alloc (Nat.le_refl _) _) | exact heldD_set (heldD_set (heldD_set (by assumption) (Nat.le_refl _) hsK _) (Nat.le_refl _) hsK _) (Nat.le_refl _) hsK _ | exact heldD_set (heldD_set (heldD_set (by assumption) hz9 hsK _) hz9 hsK _) hz9 hsK _
        clear hK K hHeld
        have hHeld := hHeld2
        clear hHeld2
        try simp only [Act.put, List.setIfInBounds_toArray, List.set_cons_zero, List.set_cons_succ]
        refine wpAnyH_done (by kernel_rfl) ?_ _
        have hB8 := hb2.trans (hS8.1.mono hb2.size)
        have hT : Hid (InBox _ _ _ devA) := Lib.hid (InBox.new hN8 rfl)
        have hBB := hB8.alloc hB8.size (.cells #[.slice A8 n8 C8, .slice B8 m8 D8, .bool false] 25)
        clear hHeld hS8 hS9 q0 q1 q2 r0 r1' r2' hN8 cf cu r1 r2 r3 r4
        go_wp2_with fail
        go_meet
        case rel => exact ⟨_, _, _, _, _, _, _, rfl, rfl, hT.out, hBB⟩
      ·
        go_simp
        refine hK.out _ _ ?_ (fun hHeld2 => ?_)
        · first | assumption | exact ⟨(Below.refl _ _).drew, a0, a1, a2⟩ | exact heldD_call (by assumption) (by assumption) | exact heldD_call (by assumption) ((Below.refl _ _).alloc (Nat.le_refl _) _) | exact heldD_call hS8 ((Below.refl _ _).alloc (Nat.le_refl _) _) | exact heldD_set (heldD_set (heldD_set (by assumption) (Nat.le_refl _) hsK _) (Nat.le_refl _) hsK _) (Nat.le_refl _) hsK _ | exact heldD_set (heldD_set (heldD_set (by assumption) hz9 hsK _) hz9 hsK _) hz9 hsK _
        clear hK K hHeld
        have hHeld := hHeld2
        clear hHeld2
        try simp only [Act.put, List.setIfInBounds_toArray, List.set_cons_zero, List.set_cons_succ]
        refine wpAnyH_ready (rs := [2]) (by kernel_rfl) (by simp) ?_
        refine AllReadyH.cons rfl (fun K hK => ?_) AllReadyH.nil
        go_simp
        have hb8 := Below.refl wq.heap.size wq
        have hFi := Ints.ofCells hc9 (fullL_len 120) (by omega) (fullL_bytes ⟨by omega, by omega⟩)
        first | (with_reducible refine (cw _ _ _ _ _ (hd1.below hHeld.1 (Nat.le_refl _)) hFi).mono ?_) | (with_reducible refine (cw _ _ _ _ _ (hd1.below hHeld.1 (Nat.le_refl _)) (hFi.below ((Below.refl _ _).alloc (Nat.le_refl _) _) (Nat.le_refl _))).mono ?_)
        rintro e w8 ⟨v8, rfl, hN8, hb8⟩
        obtain ⟨A8, n8, C8, B8, m8, D8, rfl, hm8⟩ := hN8.form2 rfl
        clear hm8
        have hS8 := heldD_call hHeld hb8
        first | (have b3 := bq.below hb8; have q0 := b3.c0; have q1 := b3.c1; have q2 := b3.c2; have r0 := b3.fr (o := 0); have r1' := b3.fr (o := 1); have r2' := b3.fr (o := 2)) | (have b3 := (BoxD.new w9 (.slice none 0 0) (.slice none 0 0) (.bool false)).below hb8; have q0 := b3.c0; have q1 := b3.c1; have q2 := b3.c2; have r0 := b3.fr (o := 0); have r1' := b3.fr (o := 1); have r2' := b3.fr (o := 2)) | (have b3 := BoxD.new w8 (.slice none 0 0) (.slice none 0 0) (.bool false); have q0 := b3.c0; have q1 := b3.c1; have q2 := b3.c2; have r0 := b3.fr (o := 0); have r1' := b3.fr (o := 1); have r2' := b3.fr (o := 2))
        go_wp2_with fail
        refine hK.out _ _ ?_ (fun hHeld2 => ?_)
        · first | assumption | exact ⟨(Below.refl _ _).drew, a0, a1, a2⟩ | exact heldD_call (by assumption) (by assumption) | exact heldD_call (by assumption) ((Below.refl _ _).alloc (Nat.le_refl _) _) | exact heldD_call hS8 ((Below.refl _ _).alloc (Nat.le_refl _) _) | exact heldD_set (heldD_set (heldD_set (by assumption) (Nat.le_refl _) hsK _) (Nat.le_refl _) hsK _) (Nat.le_refl _) hsK _ | exact heldD_set (heldD_set (heldD_set (by assumption) hz9 hsK _) hz9 hsK _) hz9 hsK _
        clear hK K hHeld
        have hHeld := hHeld2
        clear hHeld2
        try simp only [Act.put, List.setIfInBounds_toArray, List.set_cons_zero, List.set_cons_succ]
        refine wpAnyH_take (i := 3) (v := ?_) rfl (by kernel_rfl) (by kernel_rfl) (by kernel_rfl) (fun _ _ _ h => h) (Or.inl ⟨by rfl, ?_⟩) (by assumption) ?_
        rotate_left
        · (intro w hSw; (try dsimp only at hSw); go_simp; try with_reducible rfl)
        try simp only [Act.put, List.setIfInBounds_toArray]
        refine wpAnyH_take (i := 4) (v := ?_) rfl (by kernel_rfl) (by kernel_rfl) (by kernel_rfl) (fun _ _ _ h => h) (Or.inl ⟨by rfl, ?_⟩) (by assumption) ?_
        rotate_left
        · (intro w hSw; (try dsimp only at hSw); go_simp; try with_reducible rfl)
        try simp only [Act.put]
        refine wpAnyH_take (i := 5) (v := ?_) rfl (by kernel_rfl) (by kernel_rfl) (by kernel_rfl) (fun _ _ _ h => h) (Or.inl ⟨by rfl, ?_⟩) (by assumption) ?_
        rotate_left
        · (intro w hSw; (try dsimp only at hSw); go_simp; try with_reducible rfl)
        try simp only [Act.put]
        refine wpAnyH_ready (rs := [7]) (by kernel_rfl) (by simp) ?_
        refine AllReadyH.cons rfl (fun K hK => ?_) AllReadyH.nil
        go_simp
        refine hK.out _ _ ?_ (fun hHeld2 => ?_)
        · first | assumption | exact ⟨(Below.refl _ _).drew, a0, a1, a2⟩ | exact heldD_call (by assumption) (by assumption) | exact heldD_call (by assumption) ((Below.refl _ _).alloc (Nat.le_refl _) _) | exact heldD_call hS8 ((Below.refl _ _).alloc (Nat.le_refl _) _) | exact heldD_set (heldD_set (heldD_set (by assumption) (Nat.le_refl _) hsK _) (Nat.le_refl _) hsK _) (Nat.le_refl _) hsK _ | exact heldD_set (heldD_set (heldD_set (by assumption) hz9 hsK _) hz9 hsK _) hz9 hsK _
        clear hK K hHeld
        have hHeld := hHeld2
        clear hHeld2
        try simp only [Act.put, List.setIfInBounds_toArray, List.set_cons_zero, List.set_cons_succ]
        refine wpAnyH_ready (rs := [8]) (by kernel_rfl) (by simp) ?_
        refine AllReadyH.cons rfl (fun K hK => ?_) AllReadyH.nil
        go_simp
        refine hK.out _ _ ?_ (fun hHeld2 => ?_)
        · first | assumption | exact ⟨(Below.refl _ _).drew, a0, a1, a2⟩ | exact heldD_call (by assumption) (by assumption) | exact heldD_call (by assumption) ((Below.refl _ _).alloc (Nat.le_refl _) _) | exact heldD_call hS8 ((Below.refl _ _).alloc (Nat.le_refl _) _) | exact heldD_set (heldD_set (heldD_set (by assumption) (Nat.le_refl _) hsK _) (Nat.le_refl _) hsK _) (Nat.le_refl _) hsK _ | exact heldD_set (heldD_set (heldD_set (by assumption) hz9 hsK _) hz9 hsK _) hz9 hsK _
        clear hK K hHeld
        have hHeld := hHeld2
        clear hHeld2
        try simp only [Act.put, List.setIfInBounds_toArray, List.set_cons_zero, List.set_cons_succ]
        refine wpAnyH_done (by kernel_rfl) ?_ _
        have hB8 := hb2.trans (hS8.1.mono hb2.size)
        have hN8' := DevN.setBox3 (K := w.heap.size) (hN8.mono (Nat.le_trans hb2.size (Nat.le_trans (Nat.le_refl _) (by first | exact hz9 | (have := hz9; simp; omega))))) b3 (.slice A8 n8 C8) (.slice B8 m8 D8) (.bool false)
        have hT : Hid (InBox _ _ (.agg #[.slice A8 n8 C8, .slice B8 m8 D8, .bool false]) devA) := Lib.hid ⟨_, _, _, _, _, _, rfl, hN8'.2, hN8'.1.devV⟩
        have hBB := ((hB8.setCell (p := ⟨w9.heap.size, 0, none⟩) (by show w.heap.size ≤ w9.heap.size; have := hb2.size; omega) (.slice A8 n8 C8)).setCell (p := ⟨w9.heap.size, 1, none⟩) (by show w.heap.size ≤ w9.heap.size; have := hb2.size; omega) (.slice B8 m8 D8)).setCell (p := ⟨w9.heap.size, 2, none⟩) (by show w.heap.size ≤ w9.heap.size; have := hb2.size; omega) (.bool false)
        clear hHeld hS8 hS9 q0 q1 q2 r0 r1' r2' hN8 cf cu r1 r2 r3 r4
        go_wp2_with fail
        go_meet
        case rel => exact ⟨_, _, _, _, _, _, _, rfl, rfl, hT.out, hBB⟩
    ·
      go_simp
      refine hK.out _ _ ?_ (fun hHeld2 => ?_)
      · first | assumption | exact ⟨(Below.refl _ _).drew, a0, a1, a2⟩ | exact heldD_call (by assumption) (by assumption) | exact heldD_call (by assumption) ((Below.refl _ _).alloc (Nat.le_refl _) _) | exact heldD_call hS8 ((Below.refl _ _).alloc (Nat.le_refl _) _) | exact heldD_set (heldD_set (heldD_set (by assumption) (Nat.le_refl _) hsK _) (Nat.le_refl _) hsK _) (Nat.le_refl _) hsK _ | exact heldD_set (heldD_set (heldD_set (by assumption) hz9 hsK _) hz9 hsK _) hz9 hsK _
      clear hK K hHeld
      have hHeld := hHeld2
      clear hHeld2
      try simp only [Act.put, List.setIfInBounds_toArray, List.set_cons_zero, List.set_cons_succ]
      refine wpAnyH_ready (rs := [1]) (by kernel_rfl) (by simp) ?_
      refine AllReadyH.cons rfl (fun K hK => ?_) AllReadyH.nil
      go_simp
      refine (full_calls 120 _ (by omega) (by omega)).mono ?_
      rintro e w9 ⟨g9, hg9, rfl, hc9, hb9⟩
      have hS9 := heldD_call hHeld hb9
      have hz9 : wq.heap.size ≤ w9.heap.size := hS9.1.size
      first | (have bq := ((BoxD.new wq (.slice none 0 0) (.slice none 0 0) (.bool false)).below ((Below.refl _ _).drew)).below hb9) | skip
      go_wp2_with fail
      refine hK.out _ _ ?_ (fun hHeld2 => ?_)
      · first | assumption | exact ⟨(Below.refl _ _).drew, a0, a1, a2⟩ | exact heldD_call (by assumption) (by assumption) | exact heldD_call (by assumption) ((Below.refl _ _).alloc (Nat.le_refl _) _) | exact heldD_call hS8 ((Below.refl _ _).alloc (Nat.le_refl _) _) | exact heldD_set (heldD_set (heldD_set (by assumption) (Nat.le_refl _) hsK _) (Nat.le_refl _) hsK _) (Nat.le_refl _) hsK _ | exact heldD_set (heldD_set (heldD_set (by assumption) hz9 hsK _) hz9 hsK _) hz9 hsK _
      clear hK K hHeld
      have hHeld := hHeld2
      clear hHeld2
      try simp only [Act.put, List.setIfInBounds_toArray, List.set_cons_zero, List.set_cons_succ]
      refine wpAnyH_ready (rs := [2]) (by kernel_rfl) (by simp) ?_
      refine AllReadyH.cons rfl (fun K hK => ?_) AllReadyH.nil
      go_simp
      have hb8 := Below.refl wq.heap.size wq
      have hFi := Ints.ofCells hc9 (fullL_len 120) (by omega) (fullL_bytes ⟨by omega, by omega⟩)
      first | (with_reducible refine (cw _ _ _ _ _ (hd1.below hHeld.1 (Nat.le_refl _)) hFi).mono ?_) | (with_reducible refine (cw _ _ _ _ _ (hd1.below hHeld.1 (Nat.le_refl _)) (hFi.below ((Below.refl _ _).alloc (Nat.le_refl _) _) (Nat.le_refl _))).mono ?_)
      rintro e w8 ⟨v8, rfl, hN8, hb8⟩
      obtain ⟨A8, n8, C8, B8, m8, D8, rfl, hm8⟩ := hN8.form2 rfl
      clear hm8
      have hS8 := heldD_call hHeld hb8
      first | (have b3 := bq.below hb8; have q0 := b3.c0; have q1 := b3.c1; have q2 := b3.c2; have r0 := b3.fr (o := 0); have r1' := b3.fr (o := 1); have r2' := b3.fr (o := 2)) | (have b3 := (BoxD.new w9 (.slice none 0 0) (.slice none 0 0) (.bool false)).below hb8; have q0 := b3.c0; have q1 := b3.c1; have q2 := b3.c2; have r0 := b3.fr (o := 0); have r1' := b3.fr (o := 1); have r2' := b3.fr (o := 2)) | (have b3 := BoxD.new w8 (.slice none 0 0) (.slice none 0 0) (.bool false); have q0 := b3.c0; have q1 := b3.c1; have q2 := b3.c2; have r0 := b3.fr (o := 0); have r1' := b3.fr (o := 1); have r2' := b3.fr (o := 2))
      go_wp2_with fail
      refine hK.out _ _ ?_ (fun hHeld2 => ?_)
      · first | assumption | exact ⟨(Below.refl _ _).drew, a0, a1, a2⟩ | exact heldD_call (by assumption) (by assumption) | exact heldD_call (by assumption) ((Below.refl _ _).alloc (Nat.le_refl _) _) | exact heldD_call hS8 ((Below.refl _ _).alloc (Nat.le_refl _) _) | exact heldD_set (heldD_set (heldD_set (by assumption) (Nat.le_refl _) hsK _) (Nat.le_refl _) hsK _) (Nat.le_refl _) hsK _ | exact heldD_set (heldD_set (heldD_set (by assumption) hz9 hsK _) hz9 hsK _) hz9 hsK _
      clear hK K hHeld
      have hHeld := hHeld2
      clear hHeld2
      try simp only [Act.put, List.setIfInBounds_toArray, List.set_cons_zero, List.set_cons_succ]
      refine wpAnyH_take (i := 3) (v := ?_) rfl (by kernel_rfl) (by kernel_rfl) (by kernel_rfl) (fun _ _ _ h => h) (Or.inl ⟨by rfl, ?_⟩) (by assumption) ?_
      rotate_left
      · (intro w hSw; (try dsimp only at hSw); go_simp; try with_reducible rfl)
      try simp only [Act.put, List.setIfInBounds_toArray]
      refine wpAnyH_take (i := 4) (v := ?_) rfl (by kernel_rfl) (by kernel_rfl) (by kernel_rfl) (fun _ _ _ h => h) (Or.inl ⟨by rfl, ?_⟩) (by assumption) ?_
      rotate_left
      · (intro w hSw; (try dsimp only at hSw); go_simp; try with_reducible rfl)
      try simp only [Act.put]
      refine wpAnyH_take (i := 5) (v := ?_) rfl (by kernel_rfl) (by kernel_rfl) (by kernel_rfl) (fun _ _ _ h => h) (Or.inl ⟨by rfl, ?_⟩) (by assumption) ?_
      rotate_left
      · (intro w hSw; (try dsimp only at hSw); go_simp; try with_reducible rfl)
      try simp only [Act.put]
      refine wpAnyH_ready (rs := [7]) (by kernel_rfl) (by simp) ?_
      refine AllReadyH.cons rfl (fun K hK => ?_) AllReadyH.nil
      go_simp
      refine hK.out _ _ ?_ (fun hHeld2 => ?_)
      · first | assumption | exact ⟨(Below.refl _ _).drew, a0, a1, a2⟩ | exact heldD_call (by assumption) (by assumption) | exact heldD_call (by assumption) ((Below.refl _ _).alloc (Nat.le_refl _) _) | exact heldD_call hS8 ((Below.refl _ _).alloc (Nat.le_refl _) _) | exact heldD_set (heldD_set (heldD_set (by assumption) (Nat.le_refl _) hsK _) (Nat.le_refl _) hsK _) (Nat.le_refl _) hsK _ | exact heldD_set (heldD_set (heldD_set (by assumption) hz9 hsK _) hz9 hsK _) hz9 hsK _
      clear hK K hHeld
      have hHeld := hHeld2
      clear hHeld2
      try simp only [Act.put, List.setIfInBounds_toArray, List.set_cons_zero, List.set_cons_succ]
      refine wpAnyH_ready (rs := [8]) (by kernel_rfl) (by simp) ?_
      refine AllReadyH.cons rfl (fun K hK => ?_) AllReadyH.nil
      go_simp
      refine hK.out _ _ ?_ (fun hHeld2 => ?_)
      · first | assumption | exact ⟨(Below.refl _ _).drew, a0, a1, a2⟩ | exact heldD_call (by assumption) (by assumption) | exact heldD_call (by assumption) ((Below.refl _ _).alloc (Nat.le_refl _) _) | exact heldD_call hS8 ((Below.refl _ _).alloc (Nat.le_refl _) _) | exact heldD_set (heldD_set (heldD_set (by assumption) (Nat.le_refl _) hsK _) (Nat.le_refl _) hsK _) (Nat.le_refl _) hsK _ | exact heldD_set (heldD_set (heldD_set (by assumption) hz9 hsK _) hz9 hsK _) hz9 hsK _
      clear hK K hHeld
      have hHeld := hHeld2
      clear hHeld2
      try simp only [Act.put, List.setIfInBounds_toArray, List.set_cons_zero, List.set_cons_succ]
      refine wpAnyH_done (by kernel_rfl) ?_ _
      have hB8 := hb2.trans (hS8.1.mono hb2.size)
      have hN8' := DevN.setBox3 (K := w.heap.size) (hN8.mono (Nat.le_trans hb2.size (Nat.le_trans (Nat.le_refl _) (by first | exact hz9 | (have := hz9; simp; omega))))) b3 (.slice A8 n8 C8) (.slice B8 m8 D8) (.bool false)
      have hT : Hid (InBox _ _ (.agg #[.slice A8 n8 C8, .slice B8 m8 D8, .bool false]) devA) := Lib.hid ⟨_, _, _, _, _, _, rfl, hN8'.2, hN8'.1.devV⟩
      have hBB := ((hB8.setCell (p := ⟨wq.heap.size, 0, none⟩) (by show w.heap.size ≤ wq.heap.size; have := hb2.size; omega) (.slice A8 n8 C8)).setCell (p := ⟨wq.heap.size, 1, none⟩) (by show w.heap.size ≤ wq.heap.size; have := hb2.size; omega) (.slice B8 m8 D8)).setCell (p := ⟨wq.heap.size, 2, none⟩) (by show w.heap.size ≤ wq.heap.size; have := hb2.size; omega) (.bool false)
      clear hHeld hS8 hS9 q0 q1 q2 r0 r1' r2' hN8 cf cu r1 r2 r3 r4
      go_wp2_with fail
      go_meet
      case rel => exact ⟨_, _, _, _, _, _, _, rfl, rfl, hT.out, hBB⟩
  case rest =>
    obtain ⟨b, A', B', n', C', m', D', rfl, rfl, xA, hbA⟩ := hcut
    obtain ⟨a0', a1', a2', xbA, hdA, -⟩ := xA.cells
    clear cw a0 a1 a2 xb1 hd1 x1 hb2
    go_wp2_with fail
    (with_reducible refine (cf _ _ hdA).mono ?_)
    rintro e w5 ⟨v5, rfl, hN5, hb5⟩
    obtain ⟨A5, n5, C5, B5, m5, D5, rfl, hm5⟩ := hN5.form2 rfl
    clear hm5
    have hb6 := hb5.alloc hb5.size (.cells #[.slice A5 n5 C5, .slice B5 m5 D5, .bool false] 25)
    have xB : InBox _ w5.heap.size _ devB := InBox.new hN5 rfl
    have xA6 := xA.below hb6
    obtain ⟨p0, p1, p2, _, hd6, -⟩ := xA6.cells
    have hB6 := hbA.trans (hb6.mono hbA.size)
    clear cf hN5 hb5 a0' a1' a2' xbA hdA xA hb6 hbA
    go_wp2_with fail
    (with_reducible refine (cu _ _ hd6).mono ?_)
    rintro e w7 ⟨v7, rfl, hN7, hb7⟩
    obtain ⟨A7, n7, C7, B7, m7, D7, rfl, hm7⟩ := hN7.form2 rfl
    have hm70 : m7 = 0 := hm7
    clear hm7
    subst hm70
    have hb8 := hb7.alloc hb7.size (.cells #[.slice A7 n7 C7, .slice B7 0 D7, .bool false] 25)
    have xC : InBox _ w7.heap.size _ dev0 := InBox.new hN7 rfl
    have xA8 := xA6.below hb8
    have xB8 := xB.below hb8
    obtain ⟨q0, q1, q2, _, hd8, -⟩ := xA8.cells
    have hB8 := hB6.trans (hb8.mono hB6.size)
    clear cu hN7 hb7 p0 p1 p2 hd6 xA6 xB hb8 hB6
    go_wp2_with fail
    (with_reducible refine (r1 _ _ hd8).mono ?_)
    rintro e w9 ⟨rfl, hb9⟩
    have xA9 := xA8.below hb9
    have xB9 := xB8.below hb9
    have xC9 := xC.below hb9
    obtain ⟨s0, s1, s2, _, hd9, -⟩ := xA9.cells
    have hB9 := hB8.trans (hb9.mono hB8.size)
    clear r1 q0 q1 q2 hd8 xA8 xB8 xC hb9 hB8
    go_wp2_with fail
    (with_reducible refine (r2 _ _ hd9).mono ?_)
    rintro e w10 ⟨rfl, hb10⟩
    have xB10 := xB9.below hb10
    have xC10 := xC9.below hb10
    obtain ⟨t0, t1, t2, _, hd10, -⟩ := xB10.cells
    have hB10 := hB9.trans (hb10.mono hB9.size)
    clear r2 s0 s1 s2 hd9 xA9 xB9 xC9 hb10 hB9
    go_wp2_with fail
    (with_reducible refine (r3 _ _ hd10).mono ?_)
    rintro e w11 ⟨rfl, hb11⟩
    have xC11 := xC10.below hb11
    obtain ⟨t0', t1', t2', _, hd11, -⟩ := xC11.cells
    have hB11 := hB10.trans (hb11.mono hB10.size)
    clear r3 t0 t1 t2 hd10 xB10 xC10 hb11 hB10
    go_wp2_with fail
    (with_reducible refine (r4 _ _ hd11).mono ?_)
    rintro e w12 ⟨rfl, hb12⟩
    have xC12 := xC11.below hb12
    obtain ⟨u0, u1, u2, _, hd12, -⟩ := xC12.cells
    have hB12 := hB11.trans (hb12.mono hB11.size)
    clear r4 t0' t1' t2' hd11 xC11 hb12 hB11
    go_wp2
    go_ret
    exact ⟨rfl, hB12⟩
end Go.Proofs.Ytldgpkaecfgagaa
