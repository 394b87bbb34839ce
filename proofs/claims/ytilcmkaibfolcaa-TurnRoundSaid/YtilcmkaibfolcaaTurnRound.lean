/- freeboardlaw07.TurnRound: for every input the law answers true, and what is handed in reads as it did. Conditions: none. -/
import Derived.Test.YtilcmkaibfolcaaTurnAlive
import Derived.Deep.LoopGhost
namespace Go.Proofs.Ytilcmkaibfolcaa
open Go.ChangeShapes Go.WideShapes Go.ChangeAt Go.RowKit ShapeM TurnM
set_option linter.unusedVariables false

/-- What TurnRound meets where a stripe is there. -/
theorem roundF {c : Cfg} (h : MayC c) {s : Int} (hs : amongB s (strC c) = true) : ∃ N K x p r t0 : Nat, c.mem = N ∧ c.chunk = K ∧ s = x ∧ 3 ≤ N ∧ N < 17 ∧ 1 ≤ K ∧ K < 9 ∧ x < 64 ∧ p < 17 ∧ r < 64 ∧ t0 < 64 ∧ (x : Int) / (K : Int) = (r : Int) ∧ (r : Int) * (K : Int) = (t0 : Int) ∧ ePar c s = 0 ∧ vPar c s = p ∧ ePar c t0 = 0 ∧ vPar c t0 = p ∧ ∀ i : Nat, i < 16 → ∃ t : Nat, t < 128 ∧ (i : Int) * (K : Int) = (t : Int) ∧ (ePar c ((x : Int) + t) ≠ 0 ∨ (ePar c ((x : Int) + t) = 0 ∧ ∃ q l : Nat, vPar c ((x : Int) + t) = q ∧ (i : Int) % (N : Int) = (l : Int) ∧ ((((q : Int) == (p : Int)) = true ∧ ((l : Int) == 0) = true) ∨ (((q : Int) == (p : Int)) = false ∧ ((l : Int) == 0) = false)))) := by
  have M := may3 h
  have e0 : ePar c s = 0 := by unfold ePar; rw [hs]; exact okE_ok h
  have hst := strC_n h
  have h64 := str_64 h
  rw [hst] at hs
  obtain ⟨x, rfl, hx⟩ := among_lt hs
  have n1 := M.n1
  have k1 := M.k1
  have p1 := par_lt M x
  have d1 : x / nK c ≤ x := Nat.div_le_self _ _
  have f1 := first_le (K := nK c) x
  refine ⟨nN c, nK c, x, par (nN c) (nK c) x, x / nK c, x / nK c * nK c, mem_nN h, chunk_nK h, rfl, M.n0, M.n1, M.k0, M.k1, by omega, by omega, Nat.lt_of_le_of_lt d1 (by omega), by omega, by simp, by simp, e0, by unfold vPar; rw [Int.toNat_natCast], ?_, ?_, fun i hi => ?_⟩
  · unfold ePar
    rw [show amongB ((x / nK c * nK c : Nat) : Int) (strC c) = true from decide_eq_true ⟨by omega, by rw [hst]; omega⟩]
    exact okE_ok h
  · unfold vPar
    rw [Int.toNat_natCast, par_first M]
  · have t1 : i * nK c ≤ 15 * 8 := Nat.mul_le_mul (by omega) (by omega)
    refine ⟨i * nK c, by omega, by simp, ?_⟩
    by_cases q : ePar c ((x : Int) + (i * nK c : Nat)) = 0
    · refine .inr ⟨q, par (nN c) (nK c) (x + i * nK c), i % nN c, ?_, by simp, ?_⟩
      · unfold vPar
        rw [← Int.natCast_add, Int.toNat_natCast]
      · have g := par_round M hx hi
        by_cases q2 : i % nN c = 0
        · exact .inl ⟨by rw [g.2 q2]; exact beq_self_eq_true _, by rw [q2]; rfl⟩
        · exact .inr ⟨beq_eq_false_iff_ne.2 (fun e => q2 (g.1 (Int.ofNat.inj e))), beq_eq_false_iff_ne.2 (fun e => q2 (Int.natCast_eq_zero.mp e))⟩
    · exact .inl q

set_option maxRecDepth 100000 in
set_option maxHeartbeats 4000000 in
theorem turnRound_walk (w : World) (c : Cfg) (_hw : Wide c) (s : Int) (_ws : (Lit.int .i64 s).wf = true) : Calls Try.prog 7 #[cfgV c, .int .i64 s] w fun e w' => e = .returned (.bool true) ∧ Below w.heap.size w w' := by
  have ka := fun W => alive7_calls W
  have q1 := fun W => turnParity c s W
  have hx : ePar c s ≠ 0 ∨ (MayC c ∧ amongB s (strC c) = true) := by
    by_cases h : MayC c
    · cases hs : amongB s (strC c)
      · refine .inl ?_
        have : ePar c s = 2 := by unfold ePar; rw [hs]; exact okE_arg h
        rw [this]
        decide
      · exact .inr ⟨h, rfl⟩
    · refine .inl ?_
      have : ePar c s = 8 := okE_no h _
      rw [this]
      decide
  rcases hx with h1 | ⟨hM, hs⟩
  · generalize pickE (ePar c s) (vPar c s) = v at *
    generalize ePar c s = e1 at *
    clear _hw
    obtain ⟨id, m, ch, ro, lo, he⟩ := c
    unfold cfgV at *
    dsimp only at *
    have B := Box6.new w (.int .u32 id) (.int .i64 m) (.int .i64 ch) (.int .i64 ro) (.int .i64 lo) (.int .i64 he) 27
    have hb : Below w.heap.size w (w.alloc (.cells #[.int .u32 id, .int .i64 m, .int .i64 ch, .int .i64 ro, .int .i64 lo, .int .i64 he] 27 (0, 0))) := (Below.refl _ _).alloc (Nat.le_refl _) _
    obtain ⟨c0, c1, c2, c3, c4, c5⟩ := B.all
    go_enter Try.func7, Try.ntmps7
    go_wp2_with (first
      | (go_at_call 13; refine (ka _).mono ?_; rintro e w2 ⟨rfl, hb2⟩; replace hb := hb.trans (hb2.mono hb.size); clear c0 c1 c2 c3 c4 c5; replace B := B.below hb2 (Nat.le_refl _); obtain ⟨c0, c1, c2, c3, c4, c5⟩ := B.all; clear hb2)
      | (go_at_call 16; refine (q1 _).mono ?_; rintro e w2 ⟨rfl, hb2⟩; replace hb := hb.trans (hb2.mono hb.size); clear c0 c1 c2 c3 c4 c5; replace B := B.below hb2 (Nat.le_refl _); obtain ⟨c0, c1, c2, c3, c4, c5⟩ := B.all; clear hb2))
    go_ret
    exact ⟨rfl, hb⟩
  · obtain ⟨N, K, x, p, r, t0, mem, chunk, rfl, n0, n1, k0, k1, hx64, p1, r1, t1, hq, hr, e1, v1, e2, v2, hR⟩ := roundF hM hs
    simp only [e1, v1, pickE_0] at q1
    have q3 := fun z W => turnParity c z W
    have q4 : ∀ z : Int, z = t0 → ∀ W, Calls Try.prog 16 #[cfgV c, .int .i64 z] W fun e w' => e = .returned (.tuple #[.int .i64 p, .int .i64 0]) ∧ Below W.heap.size W w' := by
      rintro z rfl W
      have q := turnParity c t0 W
      rw [e2, v2] at q
      exact q
    have E : Hid (wrap64 (wrap64 (r : Int) * (K : Int)) = (t0 : Int)) := by
      refine Lib.hid ?_
      rw [wrap64_in (n := (r : Int)) (by omega) (by omega), hr]
      exact wrap64_in (by omega) (by omega)
    clear e1 v1 e2 v2 hM hs _hw
    obtain ⟨ec, hec⟩ : ∃ ec : Int → Int, ∀ z, ePar c z = ec z := ⟨_, fun _ => rfl⟩
    obtain ⟨vc, hvc⟩ : ∃ vc : Int → Int, ∀ z, vPar c z = vc z := ⟨_, fun _ => rfl⟩
    simp only [hec, hvc] at q3 hR
    clear hec hvc
    replace hR := Lib.hid hR
    replace hr := Lib.hid hr
    have hK0 : ¬ K = 0 := by omega
    obtain ⟨id, m, ch, ro, lo, he⟩ := c
    unfold cfgV at *
    dsimp only at *
    subst mem chunk
    have B := Box6.new w (.int .u32 id) (.int .i64 N) (.int .i64 K) (.int .i64 ro) (.int .i64 lo) (.int .i64 he) 27
    have hb : Below w.heap.size w (w.alloc (.cells #[.int .u32 id, .int .i64 N, .int .i64 K, .int .i64 ro, .int .i64 lo, .int .i64 he] 27 (0, 0))) := (Below.refl _ _).alloc (Nat.le_refl _) _
    obtain ⟨c0, c1, c2, c3, c4, c5⟩ := B.all
    go_enter Try.func7, Try.ntmps7
    go_wp2_with (first
      | (go_at_call 13; refine (ka _).mono ?_; rintro e w2 ⟨rfl, hb2⟩; replace hb := hb.trans (hb2.mono hb.size); clear c0 c1 c2 c3 c4 c5; replace B := B.below hb2 (Nat.le_refl _); obtain ⟨c0, c1, c2, c3, c4, c5⟩ := B.all; clear hb2)
      | (go_at_call 16; refine (q1 _).mono ?_; rintro e w2 ⟨rfl, hb2⟩; replace hb := hb.trans (hb2.mono hb.size); clear c0 c1 c2 c3 c4 c5; replace B := B.below hb2 (Nat.le_refl _); obtain ⟨c0, c1, c2, c3, c4, c5⟩ := B.all; clear hb2))
    go_loopg [8] 16 (fun r s8 wr => ∃ i : Nat, i + r = 17 ∧ i ≤ 16 ∧ s8 = .int .i64 i ∧ Below w.heap.size w wr ∧ Box6 wr w.heap.size (.int .u32 id) (.int .i64 N) (.int .i64 K) (.int .i64 ro) (.int .i64 lo) (.int .i64 he))
    case atStart => exact ⟨1, by omega, by omega, rfl, hb, B⟩
    case round =>
      obtain ⟨i, hi, hi1, rfl, hbj, Bj⟩ := hrel
      clear B hb c0 c1 c2 c3 c4 c5
      obtain ⟨c0, c1, c2, c3, c4, c5⟩ := Bj.all
      by_cases h16 : i < 16
      · obtain ⟨t, ht, hit, hcase⟩ := hR.out i h16
        have q5 := fun W => q3 ((x : Int) + t) W
        clear q3
        rcases hcase with h0 | ⟨h0, q, l, hv, hl, ⟨ha, hb2⟩ | ⟨ha, hb2⟩⟩
        · generalize pickE (ec ((x : Int) + t)) (vc ((x : Int) + t)) = v at *
          generalize ec ((x : Int) + t) = e5 at *
          clear q1
          go_wp2_with (refine (q5 _).mono ?_; rintro e w3 ⟨rfl, hb3⟩; replace hbj := hbj.trans (hb3.mono hbj.size); clear c0 c1 c2 c3 c4 c5; replace Bj := Bj.below hb3 (Nat.le_refl _); clear hb3; obtain ⟨c0, c1, c2, c3, c4, c5⟩ := Bj.all)
          refine wp_region_held_drew (S := (fun W => W.cell? ⟨w.heap.size, 0, none⟩ = some (.int .u32 id) ∧ W.cell? ⟨w.heap.size, 1, none⟩ = some (.int .i64 N) ∧ W.cell? ⟨w.heap.size, 2, none⟩ = some (.int .i64 K) ∧ W.cell? ⟨w.heap.size, 3, none⟩ = some (.int .i64 ro) ∧ W.cell? ⟨w.heap.size, 4, none⟩ = some (.int .i64 lo) ∧ W.cell? ⟨w.heap.size, 5, none⟩ = some (.int .i64 he))) (by kernel_rfl) ?_ (fun hHeld => ?_)
          · exact (Bj.below ((Below.refl _ _).drew) (Nat.le_refl _)).all
          refine wpAnyH_take (i := 0) (v := ?_) rfl (by kernel_rfl) (by kernel_rfl) (by kernel_rfl) (fun _ _ _ h => h) (Or.inl ⟨by rfl, ?_⟩) hHeld ?_
          rotate_left
          · (intro w hSw; (try dsimp only at hSw); go_simp; try with_reducible rfl)
          try simp only [Act.put, List.getElem_toArray, List.getElem_cons_zero, List.setIfInBounds_toArray, List.set_cons_zero, List.set_cons_succ]
          refine wpAnyH_take (i := 1) (v := ?_) rfl (by kernel_rfl) (by kernel_rfl) (by kernel_rfl) (fun _ _ _ h => h) (Or.inl ⟨by rfl, ?_⟩) hHeld ?_
          rotate_left
          · (intro w hSw; (try dsimp only at hSw); go_simp; try with_reducible rfl)
          try simp only [Act.put, List.getElem_toArray, List.getElem_cons_zero, List.getElem_cons_succ, List.setIfInBounds_toArray, List.set_cons_zero, List.set_cons_succ]
          refine wpAnyH_take (i := 2) (v := ?_) rfl (by kernel_rfl) (by kernel_rfl) (by kernel_rfl) (fun _ _ _ h => h) (Or.inl ⟨by rfl, ?_⟩) hHeld ?_
          rotate_left
          · (intro w hSw; (try dsimp only at hSw); go_simp; try with_reducible rfl)
          try simp only [Act.put, List.getElem_toArray, List.getElem_cons_zero, List.getElem_cons_succ, List.setIfInBounds_toArray, List.set_cons_zero, List.set_cons_succ]
          refine wpAnyH_take (i := 3) (v := ?_) rfl (by kernel_rfl) (by kernel_rfl) (by kernel_rfl) (fun _ _ _ h => h) (Or.inl ⟨by rfl, ?_⟩) hHeld ?_
          rotate_left
          · (intro w hSw; (try dsimp only at hSw); go_simp; try with_reducible rfl)
          try simp only [Act.put, List.getElem_toArray, List.getElem_cons_zero, List.getElem_cons_succ, List.setIfInBounds_toArray, List.set_cons_zero, List.set_cons_succ]
          refine wpAnyH_take (i := 4) (v := ?_) rfl (by kernel_rfl) (by kernel_rfl) (by kernel_rfl) (fun _ _ _ h => h) (Or.inl ⟨by rfl, ?_⟩) hHeld ?_
          rotate_left
          · (intro w hSw; (try dsimp only at hSw); go_simp; try with_reducible rfl)
          try simp only [Act.put, List.getElem_toArray, List.getElem_cons_zero, List.getElem_cons_succ, List.setIfInBounds_toArray, List.set_cons_zero, List.set_cons_succ]
          refine wpAnyH_take (i := 5) (v := ?_) rfl (by kernel_rfl) (by kernel_rfl) (by kernel_rfl) (fun _ _ _ h => h) (Or.inl ⟨by rfl, ?_⟩) hHeld ?_
          rotate_left
          · (intro w hSw; (try dsimp only at hSw); go_simp; try with_reducible rfl)
          try simp only [Act.put, List.getElem_toArray, List.getElem_cons_zero, List.getElem_cons_succ, List.setIfInBounds_toArray, List.set_cons_zero, List.set_cons_succ]
          refine wpAnyH_take (i := 6) (v := ?_) rfl (by kernel_rfl) (by kernel_rfl) (by kernel_rfl) (fun _ _ _ h => h) (Or.inl ⟨by rfl, ?_⟩) hHeld ?_
          rotate_left
          · (intro w hSw; (try dsimp only at hSw); go_simp; try with_reducible rfl)
          try simp only [Act.put, List.getElem_toArray, List.getElem_cons_zero, List.getElem_cons_succ, List.setIfInBounds_toArray, List.set_cons_zero, List.set_cons_succ]
          refine wpAnyH_take (i := 7) (v := ?_) rfl (by kernel_rfl) (by kernel_rfl) (by kernel_rfl) (fun _ _ _ h => h) (Or.inl ⟨by rfl, ?_⟩) hHeld ?_
          rotate_left
          · (intro w hSw; (try dsimp only at hSw); go_simp; try with_reducible rfl)
          try simp only [Act.put, List.getElem_toArray, List.getElem_cons_zero, List.getElem_cons_succ, List.setIfInBounds_toArray, List.set_cons_zero, List.set_cons_succ]
          refine wpAnyH_ready (rs := [8]) (by kernel_rfl) (by simp) ?_
          refine AllReadyH.cons rfl (fun K hK => ?_) AllReadyH.nil
          go_simp
          refine (q4 _ (by simp only [IntWalk.i64_left]; first | exact E.out | rfl) _).mono ?_
          rintro e v1 ⟨rfl, g1⟩
          have f1 := ((Below.refl w3.heap.size w3).drew).trans (g1.mono (by simp))
          have hb8 := hbj.trans (f1.mono hbj.size)
          have B8 := Bj.below f1 (Nat.le_refl _)
          go_wp2_with fail
          refine hK.out _ _ ?_ (fun hHeld2 => ?_)
          · exact B8.all
          clear hK K hHeld
          have hHeld := hHeld2
          clear hHeld2
          try simp only [Act.put, List.setIfInBounds_toArray, List.set_cons_zero, List.set_cons_succ]
          refine wpAnyH_take (i := 9) (v := ?_) rfl (by kernel_rfl) (by kernel_rfl) (by kernel_rfl) (fun _ _ _ h => h) (Or.inl ⟨by rfl, ?_⟩) hHeld ?_
          rotate_left
          · (intro w hSw; (try dsimp only at hSw); go_simp; try with_reducible rfl)
          try simp only [Act.put, List.getElem_toArray, List.getElem_cons_zero, List.getElem_cons_succ, List.setIfInBounds_toArray, List.set_cons_zero, List.set_cons_succ]
          refine wpAnyH_take (i := 10) (v := ?_) rfl (by kernel_rfl) (by kernel_rfl) (by kernel_rfl) (fun _ _ _ h => h) (Or.inl ⟨by rfl, ?_⟩) hHeld ?_
          rotate_left
          · (intro w hSw; (try dsimp only at hSw); go_simp; try with_reducible rfl)
          try simp only [Act.put, List.getElem_toArray, List.getElem_cons_zero, List.getElem_cons_succ, List.setIfInBounds_toArray, List.set_cons_zero, List.set_cons_succ]
          refine wpAnyH_take (i := 11) (v := ?_) rfl (by kernel_rfl) (by kernel_rfl) (by kernel_rfl) (fun _ _ _ h => h) (Or.inl ⟨by rfl, ?_⟩) hHeld ?_
          rotate_left
          · (intro w hSw; (try dsimp only at hSw); go_simp; try with_reducible rfl)
          try simp only [Act.put, List.getElem_toArray, List.getElem_cons_zero, List.getElem_cons_succ, List.setIfInBounds_toArray, List.set_cons_zero, List.set_cons_succ]
          refine wpAnyH_take (i := 12) (v := ?_) rfl (by kernel_rfl) (by kernel_rfl) (by kernel_rfl) (fun _ _ _ h => h) (Or.inl ⟨by rfl, ?_⟩) hHeld ?_
          rotate_left
          · (intro w hSw; (try dsimp only at hSw); go_simp; try with_reducible rfl)
          try simp only [Act.put, List.getElem_toArray, List.getElem_cons_zero, List.getElem_cons_succ, List.setIfInBounds_toArray, List.set_cons_zero, List.set_cons_succ]
          refine wpAnyH_take (i := 13) (v := ?_) rfl (by kernel_rfl) (by kernel_rfl) (by kernel_rfl) (fun _ _ _ h => h) (Or.inl ⟨by rfl, ?_⟩) hHeld ?_
          rotate_left
          · (intro w hSw; (try dsimp only at hSw); go_simp; try with_reducible rfl)
          try simp only [Act.put, List.getElem_toArray, List.getElem_cons_zero, List.getElem_cons_succ, List.setIfInBounds_toArray, List.set_cons_zero, List.set_cons_succ]
          refine wpAnyH_done (by kernel_rfl) ?_ _
          go_wp2_with fail
          go_ret
          exact ⟨rfl, hb8⟩
        all_goals
          simp only [h0, hv, pickE_0] at q5
          clear h0 hv q1 q4
          go_wp2_with (refine (q5 _).mono ?_; rintro e w3 ⟨rfl, hb3⟩; replace hbj := hbj.trans (hb3.mono hbj.size); clear c0 c1 c2 c3 c4 c5; replace Bj := Bj.below hb3 (Nat.le_refl _); clear hb3; obtain ⟨c0, c1, c2, c3, c4, c5⟩ := Bj.all)
          go_roundg (17 - (i + 1))
          case measure => omega
          case rel => exact ⟨i + 1, by omega, by omega, by go_num, hbj, Bj⟩
      · have e16 : i = 16 := by omega
        subst e16
        clear q1 q3
        go_wp2_with fail
        refine wp_region_held_drew (S := (fun W => W.cell? ⟨w.heap.size, 0, none⟩ = some (.int .u32 id) ∧ W.cell? ⟨w.heap.size, 1, none⟩ = some (.int .i64 N) ∧ W.cell? ⟨w.heap.size, 2, none⟩ = some (.int .i64 K) ∧ W.cell? ⟨w.heap.size, 3, none⟩ = some (.int .i64 ro) ∧ W.cell? ⟨w.heap.size, 4, none⟩ = some (.int .i64 lo) ∧ W.cell? ⟨w.heap.size, 5, none⟩ = some (.int .i64 he))) (by kernel_rfl) ?_ (fun hHeld => ?_)
        · exact (Bj.below ((Below.refl _ _).drew) (Nat.le_refl _)).all
        refine wpAnyH_take (i := 0) (v := ?_) rfl (by kernel_rfl) (by kernel_rfl) (by kernel_rfl) (fun _ _ _ h => h) (Or.inl ⟨by rfl, ?_⟩) hHeld ?_
        rotate_left
        · (intro w hSw; (try dsimp only at hSw); go_simp; try with_reducible rfl)
        try simp only [Act.put, List.getElem_toArray, List.getElem_cons_zero, List.setIfInBounds_toArray, List.set_cons_zero, List.set_cons_succ]
        refine wpAnyH_take (i := 1) (v := ?_) rfl (by kernel_rfl) (by kernel_rfl) (by kernel_rfl) (fun _ _ _ h => h) (Or.inl ⟨by rfl, ?_⟩) hHeld ?_
        rotate_left
        · (intro w hSw; (try dsimp only at hSw); go_simp; try with_reducible rfl)
        try simp only [Act.put, List.getElem_toArray, List.getElem_cons_zero, List.getElem_cons_succ, List.setIfInBounds_toArray, List.set_cons_zero, List.set_cons_succ]
        refine wpAnyH_take (i := 2) (v := ?_) rfl (by kernel_rfl) (by kernel_rfl) (by kernel_rfl) (fun _ _ _ h => h) (Or.inl ⟨by rfl, ?_⟩) hHeld ?_
        rotate_left
        · (intro w hSw; (try dsimp only at hSw); go_simp; try with_reducible rfl)
        try simp only [Act.put, List.getElem_toArray, List.getElem_cons_zero, List.getElem_cons_succ, List.setIfInBounds_toArray, List.set_cons_zero, List.set_cons_succ]
        refine wpAnyH_take (i := 3) (v := ?_) rfl (by kernel_rfl) (by kernel_rfl) (by kernel_rfl) (fun _ _ _ h => h) (Or.inl ⟨by rfl, ?_⟩) hHeld ?_
        rotate_left
        · (intro w hSw; (try dsimp only at hSw); go_simp; try with_reducible rfl)
        try simp only [Act.put, List.getElem_toArray, List.getElem_cons_zero, List.getElem_cons_succ, List.setIfInBounds_toArray, List.set_cons_zero, List.set_cons_succ]
        refine wpAnyH_take (i := 4) (v := ?_) rfl (by kernel_rfl) (by kernel_rfl) (by kernel_rfl) (fun _ _ _ h => h) (Or.inl ⟨by rfl, ?_⟩) hHeld ?_
        rotate_left
        · (intro w hSw; (try dsimp only at hSw); go_simp; try with_reducible rfl)
        try simp only [Act.put, List.getElem_toArray, List.getElem_cons_zero, List.getElem_cons_succ, List.setIfInBounds_toArray, List.set_cons_zero, List.set_cons_succ]
        refine wpAnyH_take (i := 5) (v := ?_) rfl (by kernel_rfl) (by kernel_rfl) (by kernel_rfl) (fun _ _ _ h => h) (Or.inl ⟨by rfl, ?_⟩) hHeld ?_
        rotate_left
        · (intro w hSw; (try dsimp only at hSw); go_simp; try with_reducible rfl)
        try simp only [Act.put, List.getElem_toArray, List.getElem_cons_zero, List.getElem_cons_succ, List.setIfInBounds_toArray, List.set_cons_zero, List.set_cons_succ]
        refine wpAnyH_take (i := 6) (v := ?_) rfl (by kernel_rfl) (by kernel_rfl) (by kernel_rfl) (fun _ _ _ h => h) (Or.inl ⟨by rfl, ?_⟩) hHeld ?_
        rotate_left
        · (intro w hSw; (try dsimp only at hSw); go_simp; try with_reducible rfl)
        try simp only [Act.put, List.getElem_toArray, List.getElem_cons_zero, List.getElem_cons_succ, List.setIfInBounds_toArray, List.set_cons_zero, List.set_cons_succ]
        refine wpAnyH_take (i := 7) (v := ?_) rfl (by kernel_rfl) (by kernel_rfl) (by kernel_rfl) (fun _ _ _ h => h) (Or.inl ⟨by rfl, ?_⟩) hHeld ?_
        rotate_left
        · (intro w hSw; (try dsimp only at hSw); go_simp; try with_reducible rfl)
        try simp only [Act.put, List.getElem_toArray, List.getElem_cons_zero, List.getElem_cons_succ, List.setIfInBounds_toArray, List.set_cons_zero, List.set_cons_succ]
        refine wpAnyH_ready (rs := [8]) (by kernel_rfl) (by simp) ?_
        refine AllReadyH.cons rfl (fun K hK => ?_) AllReadyH.nil
        go_simp
        refine (q4 _ (by simp only [IntWalk.i64_left]; first | exact E.out | rfl) _).mono ?_
        rintro e v1 ⟨rfl, g1⟩
        have f1 := ((Below.refl wr.heap.size wr).drew).trans (g1.mono (by simp))
        have hb8 := hbj.trans (f1.mono hbj.size)
        have B8 := Bj.below f1 (Nat.le_refl _)
        go_wp2_with fail
        refine hK.out _ _ ?_ (fun hHeld2 => ?_)
        · exact B8.all
        clear hK K hHeld
        have hHeld := hHeld2
        clear hHeld2
        try simp only [Act.put, List.setIfInBounds_toArray, List.set_cons_zero, List.set_cons_succ]
        refine wpAnyH_take (i := 9) (v := ?_) rfl (by kernel_rfl) (by kernel_rfl) (by kernel_rfl) (fun _ _ _ h => h) (Or.inl ⟨by rfl, ?_⟩) hHeld ?_
        rotate_left
        · (intro w hSw; (try dsimp only at hSw); go_simp; try with_reducible rfl)
        try simp only [Act.put, List.getElem_toArray, List.getElem_cons_zero, List.getElem_cons_succ, List.setIfInBounds_toArray, List.set_cons_zero, List.set_cons_succ]
        refine wpAnyH_take (i := 10) (v := ?_) rfl (by kernel_rfl) (by kernel_rfl) (by kernel_rfl) (fun _ _ _ h => h) (Or.inl ⟨by rfl, ?_⟩) hHeld ?_
        rotate_left
        · (intro w hSw; (try dsimp only at hSw); go_simp; try with_reducible rfl)
        try simp only [Act.put, List.getElem_toArray, List.getElem_cons_zero, List.getElem_cons_succ, List.setIfInBounds_toArray, List.set_cons_zero, List.set_cons_succ]
        refine wpAnyH_take (i := 11) (v := ?_) rfl (by kernel_rfl) (by kernel_rfl) (by kernel_rfl) (fun _ _ _ h => h) (Or.inl ⟨by rfl, ?_⟩) hHeld ?_
        rotate_left
        · (intro w hSw; (try dsimp only at hSw); go_simp; try with_reducible rfl)
        try simp only [Act.put, List.getElem_toArray, List.getElem_cons_zero, List.getElem_cons_succ, List.setIfInBounds_toArray, List.set_cons_zero, List.set_cons_succ]
        refine wpAnyH_take (i := 12) (v := ?_) rfl (by kernel_rfl) (by kernel_rfl) (by kernel_rfl) (fun _ _ _ h => h) (Or.inl ⟨by rfl, ?_⟩) hHeld ?_
        rotate_left
        · (intro w hSw; (try dsimp only at hSw); go_simp; try with_reducible rfl)
        try simp only [Act.put, List.getElem_toArray, List.getElem_cons_zero, List.getElem_cons_succ, List.setIfInBounds_toArray, List.set_cons_zero, List.set_cons_succ]
        refine wpAnyH_take (i := 13) (v := ?_) rfl (by kernel_rfl) (by kernel_rfl) (by kernel_rfl) (fun _ _ _ h => h) (Or.inl ⟨by rfl, ?_⟩) hHeld ?_
        rotate_left
        · (intro w hSw; (try dsimp only at hSw); go_simp; try with_reducible rfl)
        try simp only [Act.put, List.getElem_toArray, List.getElem_cons_zero, List.getElem_cons_succ, List.setIfInBounds_toArray, List.set_cons_zero, List.set_cons_succ]
        refine wpAnyH_done (by kernel_rfl) ?_ _
        go_wp2_with fail
        go_ret
        exact ⟨rfl, hb8⟩


namespace turnRound
set_option linter.unusedVariables false
set_option maxRecDepth 100000 in
theorem lifted (os : Os) (started : os.Started) (H : Type) (enc : TypeId × Value → H) :
    ReturnsInHanded {} Try.checked os 7 .any (Rows.turnRoundSpec.pre6 enc Try.prog Try.f7 Rows.turnRoundRow.domain false) (Rows.turnRoundSpec.post enc Try.prog Try.f7 false true false false) := by
  refine returnsInHanded_of_change (C := Try.checked) Try.own started (by kernel_rfl) Try.func7
    (ChangeSpec.witness6 (enc := enc) (C := Try.checked) false ⟨#[], #[.agg #[.int .u32 0, .int .i64 0, .int .i64 0, .int .i64 0, .int .i64 0, .int .i64 0], .int .i64 0], []⟩ 8 (by kernel_rfl) (by kernel_rfl) (by kernel_rfl) (by kernel_rfl)) ?_
  intro W base args ds gs before hval0 hW hcnd _
  have hval : ∀ (j : Nat) t v, Try.f7.params[j]? = some t → args[j]? = some v → Value.okWide Try.prog W .any base t v := hval0
  have hW' := hW
  obtain ⟨p, q, hA0, hV, rfl, hfz, hnd⟩ := hW
  have hA : DataW.TrodAll enc Try.prog W 0 (fun _ => true) true Try.f7.params.toList args.toList ds p := hA0
  rw [Try.params7] at hA hval
  obtain ⟨v0, vs0, d0, ds0, p0, q0, hargs, rfl, rfl, h0, r0⟩ := trodAll_cons hA
  obtain ⟨v1, vs1, d1, ds1, p1, q1, rfl, rfl, rfl, h1, r1⟩ := trodAll_cons r0
  obtain ⟨rfl, rfl, rfl⟩ := trodAll_nil r1
  obtain rfl : args = #[v0, v1] := by cases args; simp_all
  obtain ⟨rfl, rfl⟩ := trodVars_none hV
  have k0 := h0
  have lt0 : ∀ x ∈ p0, x.block < W.heap.size := by obtain ⟨m, hm⟩ := k0; exact DataW.trod_lt m _ _ _ hm
  obtain ⟨z0, rfl, w0⟩ := cfg_in (hval 0 27 v0 rfl rfl) h0
  obtain ⟨a1, rfl, rfl, rfl, w1⟩ := open_int Try.underlying3 (hval 1 3 v1 rfl rfl) h1
  clear hA0 hval0
  refine (turnRound_walk W z0 w0 a1 w1).mono fun e W' ⟨he, bel⟩ => ?_
  subst he
  exact ⟨_, rfl, _, _, _, [], _, [], hW', trodAll_mk1 (shut_bool Try.underlying4 _), (trodAll_cons_mk (Below.trod Try.laidOut (by kernel_rfl) (of_decide_eq_true (by kernel_rfl)) k0 bel lt0) (trodAll_cons_mk (shut_int Try.underlying3 w1) trodAll_mk0)), rfl, bel.frame _, fun h => by cases h⟩

theorem holds : Rows.TurnRoundSaid :=
  OpenClaim.holds_of_wide 7 Try.f7 rfl rfl rfl rfl rfl rfl rfl ⟨rfl, rfl, rfl, rfl, rfl⟩ rfl rfl rfl rfl rfl (by kernel_rfl) Try.func7 (by kernel_rfl)
    (of_decide_eq_true (by kernel_rfl)) (by unfold Func.isWrapper; first | (rw [if_pos (by decide +kernel)]; kernel_rfl) | (rw [if_neg (by decide +kernel)]; exact ⟨rfl, rfl⟩))
    (fun os started H enc _ => lifted os started H enc)
end turnRound
end Go.Proofs.Ytilcmkaibfolcaa
