/- The walk of the reference's Spot of layer 7; what its five answer for every config and number. -/
import Derived.Test.YtilcmkaibfolcaaTurnRefB
import Derived.Deep.LoopGhost
namespace Go.Proofs.Ytilcmkaibfolcaa
open Go.RowKit ShapeM TurnM
set_option linter.unusedVariables false

set_option maxRecDepth 100000 in
set_option maxHeartbeats 4000000 in
theorem refSpot_gen (id m ch ro lo he bi Bn er : Int) (S T b s0 k0 o : Nat)
    (g : Nat → Nat → Nat)
    (k1 : ∀ W, Calls Try.prog 30 #[.agg #[.int .u32 id, .int .i64 m, .int .i64 ch, .int .i64 ro, .int .i64 lo, .int .i64 he]] W fun e w' => e = .returned (.int .i64 Bn) ∧ Below W.heap.size W w')
    (k2 : ∀ W, Calls Try.prog 29 #[.agg #[.int .u32 id, .int .i64 m, .int .i64 ch, .int .i64 ro, .int .i64 lo, .int .i64 he], .int .i64 bi, .int .i64 Bn, .int .i64 0, .int .i64 1] W fun e w' => e = .returned (.int .i64 er) ∧ Below W.heap.size W w')
    (kS : er = 0 → ∀ W, Calls Try.prog 31 #[.agg #[.int .u32 id, .int .i64 m, .int .i64 ch, .int .i64 ro, .int .i64 lo, .int .i64 he]] W fun e w' => e = .returned (.int .i64 T) ∧ Below W.heap.size W w')
    (kA : er = 0 → ∀ s k, s < T → k < S → ∀ W, Calls Try.prog 32 #[.agg #[.int .u32 id, .int .i64 m, .int .i64 ch, .int .i64 ro, .int .i64 lo, .int .i64 he], .int .i64 s, .int .i64 k] W fun e w' => e = .returned (.int .i64 (g s k : Nat)) ∧ Below W.heap.size W w')
    (kO : er = 0 → ∀ W, Calls Try.prog 33 #[.agg #[.int .u32 id, .int .i64 m, .int .i64 ch, .int .i64 ro, .int .i64 lo, .int .i64 he], .int .i64 s0, .int .i64 k0] W fun e w' => e = .returned (.int .i64 o) ∧ Below W.heap.size W w')
    (kU : er = 0 → m - 1 = (S : Int) ∧ S < 17 ∧ T < 1000 ∧ bi = b ∧ s0 < T ∧ k0 < S ∧ g s0 k0 = b ∧ ∀ s k, s < T → k < S → g s k = b → s = s0 ∧ k = k0)
    (w : World) : Calls Try.prog 14 #[.agg #[.int .u32 id, .int .i64 m, .int .i64 ch, .int .i64 ro, .int .i64 lo, .int .i64 he], .int .i64 bi] w fun e w' => e = .returned (.tuple #[spotV (pickE er s0) (pickE er k0) (pickE er o), .int .i64 er]) ∧ Below w.heap.size w w' := by
  unfold spotV
  have B := Box6.new w (.int .u32 id) (.int .i64 m) (.int .i64 ch) (.int .i64 ro) (.int .i64 lo) (.int .i64 he) 27
  have hb : Below w.heap.size w (w.alloc (.cells #[.int .u32 id, .int .i64 m, .int .i64 ch, .int .i64 ro, .int .i64 lo, .int .i64 he] 27 (0, 0))) := (Below.refl _ _).alloc (Nat.le_refl _) _
  have D := CellsAt.new (w.alloc (.cells #[.int .u32 id, .int .i64 m, .int .i64 ch, .int .i64 ro, .int .i64 lo, .int .i64 he] 27 (0, 0))) [.int .i64 0, .int .i64 0, .int .i64 0] 30
  replace B := B.below ((Below.refl _ _).alloc (Nat.le_refl _) (.cells #[.int .i64 0, .int .i64 0, .int .i64 0] 30 (0, 0))) (Nat.le_refl _)
  replace hb := hb.alloc hb.size (.cells #[.int .i64 0, .int .i64 0, .int .i64 0] 30 (0, 0))
  simp only [World.size_alloc] at D
  have hr := Below.refl ((w.alloc (.cells #[.int .u32 id, .int .i64 m, .int .i64 ch, .int .i64 ro, .int .i64 lo, .int .i64 he] 27 (0, 0))).alloc (.cells #[.int .i64 0, .int .i64 0, .int .i64 0] 30 (0, 0))).heap.size ((w.alloc (.cells #[.int .u32 id, .int .i64 m, .int .i64 ch, .int .i64 ro, .int .i64 lo, .int .i64 he] 27 (0, 0))).alloc (.cells #[.int .i64 0, .int .i64 0, .int .i64 0] 30 (0, 0)))
  go_enter Try.func14, Try.ntmps14
  go_wp2_with fail
  refine wp_region_held_drew (S := (fun W => W.cell? ⟨w.heap.size, 0, none⟩ = some (.int .u32 id) ∧ W.cell? ⟨w.heap.size, 1, none⟩ = some (.int .i64 m) ∧ W.cell? ⟨w.heap.size, 2, none⟩ = some (.int .i64 ch) ∧ W.cell? ⟨w.heap.size, 3, none⟩ = some (.int .i64 ro) ∧ W.cell? ⟨w.heap.size, 4, none⟩ = some (.int .i64 lo) ∧ W.cell? ⟨w.heap.size, 5, none⟩ = some (.int .i64 he))) (by kernel_rfl) ?_ (fun hHeld => ?_)
  · exact (B.below ((Below.refl _ _).drew) (Nat.le_refl _)).all
  refine wpAnyH_take (i := 0) (v := ?_) rfl (by kernel_rfl) (by kernel_rfl) (by kernel_rfl) (fun _ _ _ h => h) (Or.inl ⟨by rfl, ?_⟩) hHeld ?_
  rotate_left
  · (intro w hSw; (try dsimp only at hSw); go_simp; try with_reducible rfl)
  try simp only [Act.put, List.getElem_toArray, List.getElem_cons_zero, List.setIfInBounds_toArray, List.set_cons_zero, List.set_cons_succ]
  refine wpAnyH_take (i := 1) (v := ?_) rfl (by kernel_rfl) (by kernel_rfl) (by kernel_rfl) (fun _ _ _ h => h) (Or.inl ⟨by rfl, ?_⟩) hHeld ?_
  rotate_left
  · (intro w hSw; (try dsimp only at hSw); go_simp; try with_reducible rfl)
  try simp only [Act.put, List.getElem_toArray, List.getElem_cons_zero, List.getElem_cons_succ, List.setIfInBounds_toArray, List.set_cons_zero, List.set_cons_succ]
  refine wpAnyH_take (i := 2) (v := ?_) rfl (by kernel_rfl) (by kernel_rfl) (by kernel_rfl) (fun _ _ _ h => h) (Or.inl ⟨by rfl, ?_⟩) hHeld ?_
  rotate_left
  · (intro w hSw; (try dsimp only at hSw); go_simp; try with_reducible rfl)
  try simp only [Act.put, List.getElem_toArray, List.getElem_cons_zero, List.getElem_cons_succ, List.setIfInBounds_toArray, List.set_cons_zero, List.set_cons_succ]
  refine wpAnyH_ready (rs := [3]) (by kernel_rfl) (by simp) ?_
  refine AllReadyH.cons rfl (fun K hK => ?_) AllReadyH.nil
  go_simp
  refine (k1 _).mono ?_
  rintro e v1 ⟨rfl, g1⟩
  have f1 := hr.drew.trans (g1.mono (by simp))
  have hb1 := hb.trans (f1.mono hb.size)
  have B1 := B.below f1 (Nat.le_refl _)
  have D1 := D.below f1 (Nat.le_refl _)
  go_wp2_with fail
  refine hK.out _ _ ?_ (fun hHeld2 => ?_)
  · exact B1.all
  clear hK K hHeld
  have hHeld := hHeld2
  clear hHeld2
  try simp only [Act.put, List.setIfInBounds_toArray, List.set_cons_zero, List.set_cons_succ]
  refine wpAnyH_ready (rs := [4]) (by kernel_rfl) (by simp) ?_
  refine AllReadyH.cons rfl (fun K hK => ?_) AllReadyH.nil
  go_simp
  refine (k2 _).mono ?_
  rintro e v2 ⟨rfl, g2⟩
  have f2 := g2
  have hb2 := hb1.trans (g2.mono hb1.size)
  have B2 := B1.below g2 (Nat.le_refl _)
  have D2 := D1.below f2 (Nat.le_refl _)
  go_wp2_with fail
  refine hK.out _ _ ?_ (fun hHeld2 => ?_)
  · exact B2.all
  clear hK K hHeld
  have hHeld := hHeld2
  clear hHeld2
  try simp only [Act.put, List.setIfInBounds_toArray, List.set_cons_zero, List.set_cons_succ]
  refine wpAnyH_take (i := 5) (v := ?_) rfl (by kernel_rfl) (by kernel_rfl) (by kernel_rfl) (fun _ _ _ h => h) (Or.inl ⟨by rfl, ?_⟩) hHeld ?_
  rotate_left
  · (intro w hSw; (try dsimp only at hSw); go_simp; try with_reducible rfl)
  try simp only [Act.put, List.getElem_toArray, List.getElem_cons_zero, List.getElem_cons_succ, List.setIfInBounds_toArray, List.set_cons_zero, List.set_cons_succ]
  refine wpAnyH_done (by kernel_rfl) ?_ _
  by_cases h0 : er = 0
  case neg =>
    obtain ⟨d0, d1, d2⟩ := D2.all3
    have f := D2.fr
    have hlt := D2.lt
    clear kS kA kO kU k1 k2
    go_wp2_with fail
    exact bodyPost_ret (v := .tuple #[.agg #[.int .i64 0, .int .i64 0, .int .i64 0], .int .i64 er]) (by simp [results, Try.results14, go_sem, d0, d1, d2]) rfl ⟨by first | rfl | rw [pickE_ne h0, pickE_ne h0, pickE_ne h0], ((hb2.setCell (by simp) _).setCell (by simp) _).setCell (by simp) _⟩
  obtain ⟨hSN, hS, hT, rfl, hs0, hk0, hg0, hu⟩ := kU h0
  have hu := Lib.hid hu
  replace kS := kS h0
  replace kA := kA h0
  replace kO := kO h0
  subst h0
  clear kU k1 k2 B hb D hr f1 f2 g1 g2 D1 B1 hb1
  have hb := hb2
  have B := B2
  have D := D2
  clear hb2 B2 D2
  go_wp2_with fail
  go_loopg [7, 8] T (fun r s7 _s8 wr => ∃ s : Nat, s + r = T ∧ s ≤ s0 ∧ s7 = .int .i64 s ∧ Below w.heap.size w wr ∧ Box6 wr w.heap.size (.int .u32 id) (.int .i64 m) (.int .i64 ch) (.int .i64 ro) (.int .i64 lo) (.int .i64 he) ∧ CellsAt wr (w.heap.size + 1) [.int .i64 0, .int .i64 0, .int .i64 0])
  case atStart => exact ⟨0, by omega, by omega, rfl, hb, B, D⟩
  case round =>
    obtain ⟨s, hsr, hss, rfl, hbk, Bk, Dk⟩ := hrel
    clear B D hb
    obtain ⟨c0, c1, c2, c3, c4, c5⟩ := Bk.all
    have hsT : s < T := by omega
    go_wp2_with (first
      | (go_at_call 31; refine (kS _).mono ?_; rintro e w2 ⟨rfl, hb2⟩; replace hbk := hbk.trans (hb2.mono hbk.size); clear c0 c1 c2 c3 c4 c5; replace Bk := Bk.below hb2 (Nat.le_refl _); replace Dk := Dk.below hb2 (Nat.le_refl _); clear hb2))
    go_loopg [8] S (fun r s8 wq => ∃ k : Nat, k + r = S ∧ Hid (s = s0 → k ≤ k0) ∧ s8 = .int .i64 k ∧ Below w.heap.size w wq ∧ Box6 wq w.heap.size (.int .u32 id) (.int .i64 m) (.int .i64 ch) (.int .i64 ro) (.int .i64 lo) (.int .i64 he) ∧ CellsAt wq (w.heap.size + 1) [.int .i64 0, .int .i64 0, .int .i64 0])
    case atStart => exact ⟨0, by omega, Lib.hid fun _ => by omega, rfl, hbk, Bk, Dk⟩
    case round =>
      obtain ⟨k, hkr, hkk, rfl, hbm, Bm, Dm⟩ := hrel
      clear Bk Dk hbk
      obtain ⟨c0, c1, c2, c3, c4, c5⟩ := Bm.all
      by_cases hkS : k < S
      · by_cases q : g s k = b
        · obtain ⟨rfl, rfl⟩ := hu.out s k hsT hkS q
          go_wp2_with (first
            | (go_at_call 32; refine (kA _ _ hsT hkS _).mono ?_; rintro e w2 ⟨rfl, hb2⟩; replace hbm := hbm.trans (hb2.mono hbm.size); clear c0 c1 c2 c3 c4 c5; replace Bm := Bm.below hb2 (Nat.le_refl _); replace Dm := Dm.below hb2 (Nat.le_refl _); clear hb2; obtain ⟨c0, c1, c2, c3, c4, c5⟩ := Bm.all)
            | (go_at_call 33; refine (kO _).mono ?_; rintro e w3 ⟨rfl, hb2⟩; replace hbm := hbm.trans (hb2.mono hbm.size); clear c0 c1 c2 c3 c4 c5; replace Dm := Dm.below hb2 (Nat.le_refl _); clear hb2; obtain ⟨d0, d1, d2⟩ := Dm.all3; have f := Dm.fr; have hlt := Dm.lt))
          exact bodyPost_ret (v := .tuple #[.agg #[.int .i64 s, .int .i64 k, .int .i64 o], .int .i64 0]) (by simp [results, Try.results14, go_sem, d0, d1, d2]) rfl ⟨by first | rfl | rw [pickE_ne h0, pickE_ne h0, pickE_ne h0], ((hbm.setCell (by simp) _).setCell (by simp) _).setCell (by simp) _⟩
        · have hn : Hid (s = s0 → k + 1 ≤ k0) := by
            refine Lib.hid fun e => ?_
            have h1 := hkk.out e
            rcases Nat.lt_or_ge k k0 with h2 | h2
            · exact h2
            · exact absurd hg0 (by rw [← e, show k0 = k by omega]; exact q)
          go_wp2_with (go_at_call 32; refine (kA _ _ hsT hkS _).mono ?_; rintro e w2 ⟨rfl, hb2⟩; replace hbm := hbm.trans (hb2.mono hbm.size); clear c0 c1 c2 c3 c4 c5; replace Bm := Bm.below hb2 (Nat.le_refl _); replace Dm := Dm.below hb2 (Nat.le_refl _); clear hb2)
          go_roundg (S - (k + 1))
          case measure => omega
          case rel => exact ⟨k + 1, by omega, hn, by go_num, hbm, Bm, Dm⟩
      · have hne : s + 1 ≤ s0 := by
          rcases Nat.lt_or_ge s s0 with h2 | h2
          · exact h2
          · have := hkk.out (by omega); omega
        obtain rfl : k = S := by omega
        go_wp2_with fail
        go_roundg (T - (s + 1))
        case measure => omega
        case rel => exact ⟨s + 1, by omega, hne, by go_num, hbm, Bm, Dm⟩

theorem str_w {c : Cfg} (h : MayC c) : wrap64 (c.chunk * c.rows) = strC c := by have := strC_box h; unfold strC at *; exact wrap64_in (by omega) (by omega)
theorem mem_w {c : Cfg} (h : MayC c) : wrap64 (c.mem - 1) = c.mem - 1 := by have := h.1; have := h.2.1; exact wrap64_in (by omega) (by omega)
theorem blk_w {c : Cfg} (h : MayC c) : wrap64 (wrap64 (c.chunk * c.rows) * wrap64 (c.mem - 1)) = blkC c := by
  rw [str_w h, mem_w h, Int.mul_comm]
  have := blkC_box h
  unfold blkC at *
  exact wrap64_in (by omega) (by omega)
theorem cfgV_n {c : Cfg} (h : MayC c) : cfgV c = .agg #[.int .u32 c.id, .int .i64 (nN c), .int .i64 (nK c), .int .i64 c.rows, .int .i64 c.log, .int .i64 c.heads] := by unfold cfgV; rw [← mem_nN h, ← chunk_nK h]

theorem refSpot (c : Cfg) (b : Int) (w : World) : Calls Try.prog 14 #[cfgV c, .int .i64 b] w fun e w' => e = .returned (.tuple #[spotV (pickE (eSpot c b) (vSpS c b)) (pickE (eSpot c b) (vSpK c b)) (pickE (eSpot c b) (vSpM c b)), .int .i64 (eSpot c b)]) ∧ Below w.heap.size w w' := by
  have E : okE c (amongB b (wrap64 (wrap64 (c.chunk * c.rows) * wrap64 (c.mem - 1))) && amongB 0 1) = eSpot c b := by
    refine okE_eq fun h => ?_
    rw [blk_w h, show amongB 0 1 = true from by decide, Bool.and_true]
  have ok : eSpot c b = 0 → MayC c ∧ ∃ x : Nat, b = x ∧ x < (nN c - 1) * (nK c * nR c) := by
    intro h0
    obtain ⟨h, q⟩ := okE_zero h0
    rw [blkC_n h] at q
    exact ⟨h, among_lt q⟩
  refine refSpot_gen c.id c.mem c.chunk c.rows c.log c.heads b _ (eSpot c b) (nN c - 1) (nK c * nR c) b.toNat (spS (nN c) (nK c) b.toNat) (spK (nN c) (nK c) b.toNat) (mem (nN c) (nK c) (spS (nN c) (nK c) b.toNat) (spK (nN c) (nK c) b.toNat)) (fun s k => blk (nN c) (nK c) s k) (blocks_ref c) (fun W => ?_) (fun h0 W => ?_) (fun h0 s k hs hk W => ?_) (fun h0 W => ?_) (fun h0 => ?_) w
  · rw [← E]
    exact asked_ref c _ _ _ _ W
  · obtain ⟨h, x, rfl, hx⟩ := ok h0
    have q := stripes_ref c W
    rw [str_w h, strC_n h] at q
    exact q
  · obtain ⟨h, x, rfl, hx⟩ := ok h0
    have M := may3 h
    have := str_64 h
    have := M.n1
    have q := at_ref c.id c.rows c.log c.heads (nN c) (nK c) M.n0 M.n1 M.k0 M.k1 s (by omega) k (by omega) W
    rw [← cfgV_n h] at q
    exact q
  · obtain ⟨h, x, rfl, hx⟩ := ok h0
    have M := may3 h
    have := str_64 h
    have hl := spS_lt M hx
    have := spK_lt M x
    rw [show ((x : Nat) : Int).toNat = x by omega]
    have q := on_ref c.id c.rows c.log c.heads (nN c) (nK c) M.n0 M.n1 M.k0 M.k1 (spS (nN c) (nK c) x) (by omega) (nR c) M.r0 M.r1 hl (spK (nN c) (nK c) x) (by omega) W
    rw [← cfgV_n h] at q
    exact q
  · obtain ⟨h, x, rfl, hx⟩ := ok h0
    have M := may3 h
    have := str_64 h
    have := M.n1
    rw [show ((x : Nat) : Int).toNat = x by omega]
    refine ⟨mem_minus h, by omega, by omega, rfl, spS_lt M hx, spK_lt M x, blk_sp M, fun s k hs hk e => ?_⟩
    rw [← e]
    exact ⟨(spS_blk M hk).symm, (spK_blk M hk).symm⟩
theorem refBlock (c : Cfg) (s k : Int) (w : World) : Calls Try.prog 15 #[cfgV c, .int .i64 s, .int .i64 k] w fun e w' => e = .returned (.tuple #[.int .i64 (pickE (eBlk c s k) (vBlk c s k)), .int .i64 (eBlk c s k)]) ∧ Below w.heap.size w w' := by
  have E : okE c (amongB s (wrap64 (c.chunk * c.rows)) && amongB k (wrap64 (c.mem - 1))) = eBlk c s k := okE_eq fun h => by rw [str_w h, mem_w h]
  refine refBlock_gen c.id c.mem c.chunk c.rows c.log c.heads s k (eBlk c s k) (vBlk c s k) _ (stripes_ref c) (fun x hx W => ?_) (fun h0 W => ?_) w
  · rw [← E, hx]
    exact asked_ref c _ _ _ _ W
  · obtain ⟨h, q⟩ := okE_zero h0
    rw [Bool.and_eq_true, strC_n h, mem_minus h] at q
    obtain ⟨x, rfl, hx⟩ := among_lt q.1
    obtain ⟨y, rfl, hy⟩ := among_lt q.2
    have M := may3 h
    have := str_64 h
    have := M.n1
    have q := at_ref c.id c.rows c.log c.heads (nN c) (nK c) M.n0 M.n1 M.k0 M.k1 x (by omega) y (by omega) W
    rw [← cfgV_n h] at q
    exact q
theorem refParity (c : Cfg) (s : Int) (w : World) : Calls Try.prog 17 #[cfgV c, .int .i64 s] w fun e w' => e = .returned (.tuple #[.int .i64 (pickE (ePar c s) (vPar c s)), .int .i64 (ePar c s)]) ∧ Below w.heap.size w w' := by
  have E : okE c (amongB s (wrap64 (c.chunk * c.rows)) && amongB 0 1) = ePar c s := okE_eq fun h => by rw [str_w h, show amongB 0 1 = true from by decide, Bool.and_true]
  refine refParity_gen c.id c.mem c.chunk c.rows c.log c.heads s (ePar c s) (vPar c s) _ (stripes_ref c) (fun W => ?_) (fun h0 W => ?_) w
  · rw [← E]
    exact asked_ref c _ _ _ _ W
  · obtain ⟨h, q⟩ := okE_zero h0
    rw [strC_n h] at q
    obtain ⟨x, rfl, hx⟩ := among_lt q
    have M := may3 h
    have := str_64 h
    have q := on_par c.id c.rows c.log c.heads (nN c) (nK c) M.n0 M.n1 M.k0 M.k1 x (by omega) (nR c) M.r0 M.r1 hx W
    rw [← cfgV_n h, ← mem_minus h, ← mem_w h] at q
    exact q
theorem refMember (c : Cfg) (s k : Int) (w : World) : Calls Try.prog 18 #[cfgV c, .int .i64 s, .int .i64 k] w fun e w' => e = .returned (.tuple #[.int .i64 (pickE (eMem c s k) (vMem c s k)), .int .i64 (eMem c s k)]) ∧ Below w.heap.size w w' := by
  have E : okE c (amongB s (wrap64 (c.chunk * c.rows)) && amongB k c.mem) = eMem c s k := okE_eq fun h => by rw [str_w h]
  refine refMember_gen c.id c.mem c.chunk c.rows c.log c.heads s k (eMem c s k) (vMem c s k) _ (stripes_ref c) (fun W => ?_) (fun h0 W => ?_) w
  · rw [← E]
    exact asked_ref c _ _ _ _ W
  · obtain ⟨h, q⟩ := okE_zero h0
    rw [Bool.and_eq_true, strC_n h, mem_nN h] at q
    obtain ⟨x, rfl, hx⟩ := among_lt q.1
    obtain ⟨y, rfl, hy⟩ := among_lt q.2
    have M := may3 h
    have := str_64 h
    have q := on_ref c.id c.rows c.log c.heads (nN c) (nK c) M.n0 M.n1 M.k0 M.k1 x (by omega) (nR c) M.r0 M.r1 hx y hy W
    rw [← cfgV_n h] at q
    exact q
theorem refSlot (c : Cfg) (s k : Int) (w : World) : Calls Try.prog 19 #[cfgV c, .int .i64 s, .int .i64 k] w fun e w' => e = .returned (.tuple #[.int .i64 (pickE (eMem c s k) (vSlot c s k)), .int .i64 (eMem c s k)]) ∧ Below w.heap.size w w' := by
  have E : okE c (amongB s (wrap64 (c.chunk * c.rows)) && amongB k c.mem) = eMem c s k := okE_eq fun h => by rw [str_w h]
  refine refSlot_gen c.id c.mem c.chunk c.rows c.log c.heads s k (eMem c s k) (vSlot c s k) _ (stripes_ref c) (fun W => ?_) (fun h0 W => ?_) w
  · rw [← E]
    exact asked_ref c _ _ _ _ W
  · obtain ⟨h, q⟩ := okE_zero h0
    rw [Bool.and_eq_true, strC_n h, mem_nN h] at q
    obtain ⟨x, rfl, hx⟩ := among_lt q.1
    obtain ⟨y, rfl, hy⟩ := among_lt q.2
    have M := may3 h
    have := str_64 h
    have q := in_ref7 c.id c.rows c.log c.heads (nN c) (nK c) M.n0 M.n1 M.k0 M.k1 x (by omega) (nR c) M.r0 M.r1 hx y hy W
    rw [← cfgV_n h] at q
    exact q

end Go.Proofs.Ytilcmkaibfolcaa
