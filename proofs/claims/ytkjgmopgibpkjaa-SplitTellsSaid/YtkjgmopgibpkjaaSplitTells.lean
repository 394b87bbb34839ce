/- freeboardlaw08.SplitTells: for every input the law answers true, and what is handed in reads as it did. Conditions: none. -/
import Derived.Test.YtkjgmopgibpkjaaSplitRefB
import Derived.Test.YtkjgmopgibpkjaaSplitAlive
import Derived.Deep.DeepCutAuto
namespace Go.Proofs.Ytkjgmopgibpkjaa
open Go.ChangeShapes Go.WideShapes Go.ChangeAt Go.RowKit ShapeM SplitM
set_option linter.unusedVariables false
set_option maxRecDepth 100000 in
set_option maxHeartbeats 4000000 in
theorem tells_g1 (id m ch ro lo he k a mn k2 a2 mn2 : Int) (A A2 : Option Addr) (n cp n2 cp2 : Nat) (w : World) (h : 5000 < n) : Calls Try.prog 4 #[.agg #[.int .u32 id, .int .i64 m, .int .i64 ch, .int .i64 ro, .int .i64 lo, .int .i64 he], .agg #[.int .u8 k, .int .i64 a, .int .i64 mn, .slice A n cp], .agg #[.int .u8 k2, .int .i64 a2, .int .i64 mn2, .slice A2 n2 cp2]] w fun e w' => e = .returned (.bool true) ∧ Below w.heap.size w w' := by
  have B := Box6.new w (.int .u32 id) (.int .i64 m) (.int .i64 ch) (.int .i64 ro) (.int .i64 lo) (.int .i64 he) 24
  have hb : Below w.heap.size w (w.alloc (.cells #[.int .u32 id, .int .i64 m, .int .i64 ch, .int .i64 ro, .int .i64 lo, .int .i64 he] 24 (0, 0))) := (Below.refl _ _).alloc (Nat.le_refl _) _
  replace B := B.alloc (.cells #[.int .u8 k, .int .i64 a, .int .i64 mn, .slice A n cp] 32 (0, 0))
  have G := CellsAt.new (w.alloc (.cells #[.int .u32 id, .int .i64 m, .int .i64 ch, .int .i64 ro, .int .i64 lo, .int .i64 he] 24 (0, 0))) [.int .u8 k, .int .i64 a, .int .i64 mn, .slice A n cp] 32
  replace hb := hb.alloc hb.size (.cells #[.int .u8 k, .int .i64 a, .int .i64 mn, .slice A n cp] 32 (0, 0))
  replace B := B.alloc (.cells #[.int .u8 k2, .int .i64 a2, .int .i64 mn2, .slice A2 n2 cp2] 32 (0, 0))
  replace G := G.alloc (.cells #[.int .u8 k2, .int .i64 a2, .int .i64 mn2, .slice A2 n2 cp2] 32 (0, 0))
  have G2 := CellsAt.new ((w.alloc (.cells #[.int .u32 id, .int .i64 m, .int .i64 ch, .int .i64 ro, .int .i64 lo, .int .i64 he] 24 (0, 0))).alloc (.cells #[.int .u8 k, .int .i64 a, .int .i64 mn, .slice A n cp] 32 (0, 0))) [.int .u8 k2, .int .i64 a2, .int .i64 mn2, .slice A2 n2 cp2] 32
  replace hb := hb.alloc hb.size (.cells #[.int .u8 k2, .int .i64 a2, .int .i64 mn2, .slice A2 n2 cp2] 32 (0, 0))
  simp only [World.size_alloc] at G G2
  obtain ⟨c0, c1, c2, c3, c4, c5⟩ := B.all
  obtain ⟨g0, g1, g2, g3⟩ := G.all4
  obtain ⟨g02, g12, g22, g32⟩ := G2.all4
  go_enter Try.func4, Try.ntmps4
  go_wp2
  go_ret
  exact ⟨rfl, hb⟩
set_option maxRecDepth 100000 in
set_option maxHeartbeats 4000000 in
theorem tells_g2 (id m ch ro lo he k a mn k2 a2 mn2 : Int) (A A2 : Option Addr) (n cp n2 cp2 : Nat) (w : World) (h : n ≤ 5000) (h2 : 5000 < n2) : Calls Try.prog 4 #[.agg #[.int .u32 id, .int .i64 m, .int .i64 ch, .int .i64 ro, .int .i64 lo, .int .i64 he], .agg #[.int .u8 k, .int .i64 a, .int .i64 mn, .slice A n cp], .agg #[.int .u8 k2, .int .i64 a2, .int .i64 mn2, .slice A2 n2 cp2]] w fun e w' => e = .returned (.bool true) ∧ Below w.heap.size w w' := by
  have B := Box6.new w (.int .u32 id) (.int .i64 m) (.int .i64 ch) (.int .i64 ro) (.int .i64 lo) (.int .i64 he) 24
  have hb : Below w.heap.size w (w.alloc (.cells #[.int .u32 id, .int .i64 m, .int .i64 ch, .int .i64 ro, .int .i64 lo, .int .i64 he] 24 (0, 0))) := (Below.refl _ _).alloc (Nat.le_refl _) _
  replace B := B.alloc (.cells #[.int .u8 k, .int .i64 a, .int .i64 mn, .slice A n cp] 32 (0, 0))
  have G := CellsAt.new (w.alloc (.cells #[.int .u32 id, .int .i64 m, .int .i64 ch, .int .i64 ro, .int .i64 lo, .int .i64 he] 24 (0, 0))) [.int .u8 k, .int .i64 a, .int .i64 mn, .slice A n cp] 32
  replace hb := hb.alloc hb.size (.cells #[.int .u8 k, .int .i64 a, .int .i64 mn, .slice A n cp] 32 (0, 0))
  replace B := B.alloc (.cells #[.int .u8 k2, .int .i64 a2, .int .i64 mn2, .slice A2 n2 cp2] 32 (0, 0))
  replace G := G.alloc (.cells #[.int .u8 k2, .int .i64 a2, .int .i64 mn2, .slice A2 n2 cp2] 32 (0, 0))
  have G2 := CellsAt.new ((w.alloc (.cells #[.int .u32 id, .int .i64 m, .int .i64 ch, .int .i64 ro, .int .i64 lo, .int .i64 he] 24 (0, 0))).alloc (.cells #[.int .u8 k, .int .i64 a, .int .i64 mn, .slice A n cp] 32 (0, 0))) [.int .u8 k2, .int .i64 a2, .int .i64 mn2, .slice A2 n2 cp2] 32
  replace hb := hb.alloc hb.size (.cells #[.int .u8 k2, .int .i64 a2, .int .i64 mn2, .slice A2 n2 cp2] 32 (0, 0))
  simp only [World.size_alloc] at G G2
  obtain ⟨c0, c1, c2, c3, c4, c5⟩ := B.all
  obtain ⟨g0, g1, g2, g3⟩ := G.all4
  obtain ⟨g02, g12, g22, g32⟩ := G2.all4
  go_enter Try.func4, Try.ntmps4
  go_wp2
  go_ret
  exact ⟨rfl, hb⟩
set_option maxRecDepth 100000 in
set_option maxHeartbeats 4000000 in
theorem tells_ok (id m ch ro lo he k a mn k2 a2 mn2 : Int) (A A2 : Option Addr) (n cp n2 cp2 : Nat) (w : World) (zs zs2 : List Int) (J : Ints .u8 w A n zs) (J2 : Ints .u8 w A2 n2 zs2) (h : n ≤ 5000) (h2 : n2 ≤ 5000) (t1 : ∀ W, Ints .u8 W A n zs → Calls Try.prog 15 #[.agg #[.int .u8 k, .int .i64 a, .int .i64 mn, .slice A n cp]] W fun e w' => ∃ A' c', e = .returned (.agg #[.int .u8 k, .int .i64 a, .int .i64 mn, .slice A' n c']) ∧ Ints .u8 w' A' n zs ∧ (∀ x, A' = some x → W.heap.size ≤ x.block) ∧ Below W.heap.size W w') (t2 : ∀ W, Ints .u8 W A2 n2 zs2 → Calls Try.prog 15 #[.agg #[.int .u8 k2, .int .i64 a2, .int .i64 mn2, .slice A2 n2 cp2]] W fun e w' => ∃ A' c', e = .returned (.agg #[.int .u8 k2, .int .i64 a2, .int .i64 mn2, .slice A' n2 c']) ∧ Ints .u8 w' A' n2 zs2 ∧ (∀ x, A' = some x → W.heap.size ≤ x.block) ∧ Below W.heap.size W w') (l : List Int) (er fr : Int) (T : Bool) (hb1 : ∀ A' c' W, Calls Try.prog 10 #[.agg #[.int .u32 id, .int .i64 m, .int .i64 ch, .int .i64 ro, .int .i64 lo, .int .i64 he], .agg #[.int .u8 k, .int .i64 a, .int .i64 mn, .slice A' n c']] W fun e w' => ∃ A3 c3, e = .returned (.tuple #[.slice A3 l.length c3, .int .i64 er]) ∧ Ints .i64 w' A3 l.length l ∧ Below W.heap.size W w') (hr1 : ∀ W, Calls Try.prog 16 #[.agg #[.int .u32 id, .int .i64 m, .int .i64 ch, .int .i64 ro, .int .i64 lo, .int .i64 he], .agg #[.int .u8 k, .int .i64 a, .int .i64 mn, .slice A n cp]] W fun e w' => ∃ A3 c3, e = .returned (.tuple #[.slice A3 l.length c3, .int .i64 er]) ∧ Ints .i64 w' A3 l.length l ∧ Below W.heap.size W w') (ht : ∀ A' c' A'' c'' W, Calls Try.prog 12 #[.agg #[.int .u32 id, .int .i64 m, .int .i64 ch, .int .i64 ro, .int .i64 lo, .int .i64 he], .agg #[.int .u8 k, .int .i64 a, .int .i64 mn, .slice A' n c'], .agg #[.int .u8 k2, .int .i64 a2, .int .i64 mn2, .slice A'' n2 c'']] W fun e w' => e = .returned (.tuple #[.bool T, .int .i64 fr]) ∧ Below W.heap.size W w') (hrt : ∀ W, Calls Try.prog 17 #[.agg #[.int .u32 id, .int .i64 m, .int .i64 ch, .int .i64 ro, .int .i64 lo, .int .i64 he], .agg #[.int .u8 k, .int .i64 a, .int .i64 mn, .slice A n cp], .agg #[.int .u8 k2, .int .i64 a2, .int .i64 mn2, .slice A2 n2 cp2]] W fun e w' => e = .returned (.tuple #[.bool T, .int .i64 fr]) ∧ Below W.heap.size W w') (hc : ∀ A' c' W, Calls Try.prog 13 #[.agg #[.int .u32 id, .int .i64 m, .int .i64 ch, .int .i64 ro, .int .i64 lo, .int .i64 he], .agg #[.int .u8 k, .int .i64 a, .int .i64 mn, .slice A' n c']] W fun e w' => e = .returned (.int .i64 er) ∧ Below W.heap.size W w') (hrc : ∀ W, Calls Try.prog 18 #[.agg #[.int .u32 id, .int .i64 m, .int .i64 ch, .int .i64 ro, .int .i64 lo, .int .i64 he], .agg #[.int .u8 k, .int .i64 a, .int .i64 mn, .slice A n cp]] W fun e w' => e = .returned (.int .i64 er) ∧ Below W.heap.size W w') (ks1 : ∀ D E W, Ints .u8 W D n zs → Ints .u8 W A n zs → Calls Try.prog 19 #[.agg #[.int .u8 k, .int .i64 a, .int .i64 mn, .slice D n E], .agg #[.int .u8 k, .int .i64 a, .int .i64 mn, .slice A n cp]] W fun e w' => e = .returned (.bool true) ∧ Below W.heap.size W w') (ks2 : ∀ D E W, Ints .u8 W D n2 zs2 → Ints .u8 W A2 n2 zs2 → Calls Try.prog 19 #[.agg #[.int .u8 k2, .int .i64 a2, .int .i64 mn2, .slice D n2 E], .agg #[.int .u8 k2, .int .i64 a2, .int .i64 mn2, .slice A2 n2 cp2]] W fun e w' => e = .returned (.bool true) ∧ Below W.heap.size W w') : Calls Try.prog 4 #[.agg #[.int .u32 id, .int .i64 m, .int .i64 ch, .int .i64 ro, .int .i64 lo, .int .i64 he], .agg #[.int .u8 k, .int .i64 a, .int .i64 mn, .slice A n cp], .agg #[.int .u8 k2, .int .i64 a2, .int .i64 mn2, .slice A2 n2 cp2]] w fun e w' => e = .returned (.bool true) ∧ Below w.heap.size w w' := by
  have B := Box6.new w (.int .u32 id) (.int .i64 m) (.int .i64 ch) (.int .i64 ro) (.int .i64 lo) (.int .i64 he) 24
  have hb : Below w.heap.size w (w.alloc (.cells #[.int .u32 id, .int .i64 m, .int .i64 ch, .int .i64 ro, .int .i64 lo, .int .i64 he] 24 (0, 0))) := (Below.refl _ _).alloc (Nat.le_refl _) _
  replace B := B.alloc (.cells #[.int .u8 k, .int .i64 a, .int .i64 mn, .slice A n cp] 32 (0, 0))
  have G := CellsAt.new (w.alloc (.cells #[.int .u32 id, .int .i64 m, .int .i64 ch, .int .i64 ro, .int .i64 lo, .int .i64 he] 24 (0, 0))) [.int .u8 k, .int .i64 a, .int .i64 mn, .slice A n cp] 32
  replace hb := hb.alloc hb.size (.cells #[.int .u8 k, .int .i64 a, .int .i64 mn, .slice A n cp] 32 (0, 0))
  replace B := B.alloc (.cells #[.int .u8 k2, .int .i64 a2, .int .i64 mn2, .slice A2 n2 cp2] 32 (0, 0))
  replace G := G.alloc (.cells #[.int .u8 k2, .int .i64 a2, .int .i64 mn2, .slice A2 n2 cp2] 32 (0, 0))
  have G2 := CellsAt.new ((w.alloc (.cells #[.int .u32 id, .int .i64 m, .int .i64 ch, .int .i64 ro, .int .i64 lo, .int .i64 he] 24 (0, 0))).alloc (.cells #[.int .u8 k, .int .i64 a, .int .i64 mn, .slice A n cp] 32 (0, 0))) [.int .u8 k2, .int .i64 a2, .int .i64 mn2, .slice A2 n2 cp2] 32
  replace hb := hb.alloc hb.size (.cells #[.int .u8 k2, .int .i64 a2, .int .i64 mn2, .slice A2 n2 cp2] 32 (0, 0))
  simp only [World.size_alloc] at G G2
  obtain ⟨c0, c1, c2, c3, c4, c5⟩ := B.all
  obtain ⟨g0, g1, g2, g3⟩ := G.all4
  obtain ⟨g02, g12, g22, g32⟩ := G2.all4
  go_enter Try.func4, Try.ntmps4
  go_upto_region 3 with fail
  clear c0 c1 c2 c3 c4 c5 g0 g1 g2 g3 g02 g12 g22 g32
  go_cut [7, 8] (fun s7 s8 wx => ∃ (p q : Nat) (D1 : Option Addr) (E1 : Nat) (D2 : Option Addr) (E2 : Nat), s7 = .pointer (some ⟨p, 0, none⟩) ∧ s8 = .pointer (some ⟨q, 0, none⟩) ∧ CellsAt wx p [.int .u8 k, .int .i64 a, .int .i64 mn, .slice D1 n E1] ∧ CellsAt wx q [.int .u8 k2, .int .i64 a2, .int .i64 mn2, .slice D2 n2 E2] ∧ Ints .u8 wx D1 n zs ∧ Ints .u8 wx D2 n2 zs2 ∧ Box6 wx w.heap.size (.int .u32 id) (.int .i64 m) (.int .i64 ch) (.int .i64 ro) (.int .i64 lo) (.int .i64 he) ∧ CellsAt wx (w.heap.size + 1) [.int .u8 k, .int .i64 a, .int .i64 mn, .slice A n cp] ∧ CellsAt wx (w.heap.size + 1 + 1) [.int .u8 k2, .int .i64 a2, .int .i64 mn2, .slice A2 n2 cp2] ∧ Below w.heap.size w wx)
  case first =>
    have hd := Below.refl (((w.alloc (.cells #[.int .u32 id, .int .i64 m, .int .i64 ch, .int .i64 ro, .int .i64 lo, .int .i64 he] 24 (0, 0))).alloc (.cells #[.int .u8 k, .int .i64 a, .int .i64 mn, .slice A n cp] 32 (0, 0))).alloc (.cells #[.int .u8 k2, .int .i64 a2, .int .i64 mn2, .slice A2 n2 cp2] 32 (0, 0))).heap.size (((w.alloc (.cells #[.int .u32 id, .int .i64 m, .int .i64 ch, .int .i64 ro, .int .i64 lo, .int .i64 he] 24 (0, 0))).alloc (.cells #[.int .u8 k, .int .i64 a, .int .i64 mn, .slice A n cp] 32 (0, 0))).alloc (.cells #[.int .u8 k2, .int .i64 a2, .int .i64 mn2, .slice A2 n2 cp2] 32 (0, 0)))
    replace hd := hd.drew
    replace B := B.below hd (Nat.le_refl _)
    replace G := G.below hd (Nat.le_refl _)
    replace G2 := G2.below hd (Nat.le_refl _)
    have hw : Below w.heap.size w (((w.alloc (.cells #[.int .u32 id, .int .i64 m, .int .i64 ch, .int .i64 ro, .int .i64 lo, .int .i64 he] 24 (0, 0))).alloc (.cells #[.int .u8 k, .int .i64 a, .int .i64 mn, .slice A n cp] 32 (0, 0))).alloc (.cells #[.int .u8 k2, .int .i64 a2, .int .i64 mn2, .slice A2 n2 cp2] 32 (0, 0))).drew := hb.trans (hd.mono hb.size)
    have J0 := J.below hw (Nat.le_refl _)
    have J20 := J2.below hw (Nat.le_refl _)
    clear hd hb
    have bl0 := B.lt
    have gl0 := G.lt
    have gl20 := G2.lt
    refine wp_region_held_drew (S := (fun W => (W.cell? ⟨w.heap.size + 1, 0, none⟩ = some (.int .u8 k) ∧ W.cell? ⟨w.heap.size + 1, 1, none⟩ = some (.int .i64 a) ∧ W.cell? ⟨w.heap.size + 1, 2, none⟩ = some (.int .i64 mn) ∧ W.cell? ⟨w.heap.size + 1, 3, none⟩ = some (.slice A n cp)) ∧ W.cell? ⟨w.heap.size + 1 + 1, 0, none⟩ = some (.int .u8 k2) ∧ W.cell? ⟨w.heap.size + 1 + 1, 1, none⟩ = some (.int .i64 a2) ∧ W.cell? ⟨w.heap.size + 1 + 1, 2, none⟩ = some (.int .i64 mn2) ∧ W.cell? ⟨w.heap.size + 1 + 1, 3, none⟩ = some (.slice A2 n2 cp2))) (by kernel_rfl) ?_ (fun hHeld => ?_)
    · exact ⟨G.all4, G2.all4⟩
    generalize (((w.alloc (.cells #[.int .u32 id, .int .i64 m, .int .i64 ch, .int .i64 ro, .int .i64 lo, .int .i64 he] 24 (0, 0))).alloc (.cells #[.int .u8 k, .int .i64 a, .int .i64 mn, .slice A n cp] 32 (0, 0))).alloc (.cells #[.int .u8 k2, .int .i64 a2, .int .i64 mn2, .slice A2 n2 cp2] 32 (0, 0))).drew = v0 at *
    have hz := Below.refl v0.heap.size v0
    refine wpAnyH_take (i := 0) (v := ?_) rfl (by kernel_rfl) (by kernel_rfl) (by kernel_rfl) (fun _ _ _ h => h) (Or.inl ⟨by rfl, ?_⟩) hHeld ?_
    rotate_left
    · (intro w hSw; (try dsimp only at hSw); go_simp; try with_reducible rfl)
    try simp only [Act.put, List.getElem_toArray, List.getElem_cons_zero, List.setIfInBounds_toArray, List.set_cons_zero, List.set_cons_succ]
    refine wpAnyH_take (i := 2) (v := ?_) rfl (by kernel_rfl) (by kernel_rfl) (by kernel_rfl) (fun _ _ _ h => h) (Or.inl ⟨by rfl, ?_⟩) hHeld ?_
    rotate_left
    · (intro w hSw; (try dsimp only at hSw); go_simp; try with_reducible rfl)
    try simp only [Act.put, List.getElem_toArray, List.getElem_cons_zero, List.getElem_cons_succ, List.setIfInBounds_toArray, List.set_cons_zero, List.set_cons_succ]
    refine wpAnyH_ready (rs := [1, 4, 5]) (by kernel_rfl) (by simp) ?_
    refine AllReadyH.cons rfl (fun K hK => ?_) (AllReadyH.cons rfl (fun K hK => ?_) (AllReadyH.cons rfl (fun K hK => ?_) AllReadyH.nil))
    ·
      go_simp
      refine (t1 _ (J0.below hz (Nat.le_refl _))).mono ?_
      rintro e v1 ⟨D1, E1, rfl, I1, hl1, g⟩
      replace B := B.below g (Nat.le_refl _)
      replace G := G.below g (Nat.le_refl _)
      replace G2 := G2.below g (Nat.le_refl _)
      replace hz := hz.trans (g.mono hz.size)
      clear g
      go_wp2_with fail
      refine hK.out _ _ ?_ (fun hHeld2 => ?_)
      · exact ⟨G.all4, G2.all4⟩
      clear hK K hHeld
      have hHeld := hHeld2
      clear hHeld2
      try simp only [Act.put, List.setIfInBounds_toArray, List.set_cons_zero, List.set_cons_succ]
      refine wpAnyH_ready (rs := [3, 4, 5]) (by kernel_rfl) (by simp) ?_
      refine AllReadyH.cons rfl (fun K hK => ?_) (AllReadyH.cons rfl (fun K hK => ?_) (AllReadyH.cons rfl (fun K hK => ?_) AllReadyH.nil))
      ·
        go_simp
        refine (t2 _ (J20.below hz (Nat.le_refl _))).mono ?_
        rintro e v2 ⟨D2, E2, rfl, I2, hl2, g⟩
        replace B := B.below g (Nat.le_refl _)
        replace G := G.below g (Nat.le_refl _)
        replace G2 := G2.below g (Nat.le_refl _)
        replace I1 := I1.below g (Nat.le_refl _)
        replace hz := hz.trans (g.mono hz.size)
        clear g
        go_wp2_with fail
        refine hK.out _ _ ?_ (fun hHeld2 => ?_)
        · exact ⟨G.all4, G2.all4⟩
        clear hK K hHeld
        have hHeld := hHeld2
        clear hHeld2
        try simp only [Act.put, List.setIfInBounds_toArray, List.set_cons_zero, List.set_cons_succ]
        refine wpAnyH_ready (rs := [4, 5]) (by kernel_rfl) (by simp) ?_
        refine AllReadyH.cons rfl (fun K hK => ?_) (AllReadyH.cons rfl (fun K hK => ?_) AllReadyH.nil)
        ·
          go_simp
          have X := CellsAt.new v2 [.int .u8 0, .int .i64 0, .int .i64 0, .slice none 0 0] 32
          have g : Below v2.heap.size v2 (v2.alloc (.cells #[.int .u8 0, .int .i64 0, .int .i64 0, .slice none 0 0] 32 (0, 0))) := (Below.refl _ _).alloc (Nat.le_refl _) _
          have ap1X : Apart D1 n v2.heap.size := I1.apartNew
          have ap2X : Apart D2 n2 v2.heap.size := I2.apartNew
          have hp : v0.heap.size ≤ v2.heap.size := hz.size
          replace B := B.below g (Nat.le_refl _)
          replace G := G.below g (Nat.le_refl _)
          replace G2 := G2.below g (Nat.le_refl _)
          replace I1 := I1.below g (Nat.le_refl _)
          replace I2 := I2.below g (Nat.le_refl _)
          replace hz := hz.trans (g.mono hz.size)
          clear g
          generalize v2.alloc (.cells #[.int .u8 0, .int .i64 0, .int .i64 0, .slice none 0 0] 32 (0, 0)) = v3 at *
          go_wp2_with fail
          refine hK.out _ _ ?_ (fun hHeld2 => ?_)
          · exact ⟨G.all4, G2.all4⟩
          clear hK K hHeld
          have hHeld := hHeld2
          clear hHeld2
          try simp only [Act.put, List.setIfInBounds_toArray, List.set_cons_zero, List.set_cons_succ]
          refine wpAnyH_ready (rs := [5]) (by kernel_rfl) (by simp) ?_
          refine AllReadyH.cons rfl (fun K hK => ?_) AllReadyH.nil
          ·
            go_simp
            have Y := CellsAt.new v3 [.int .u8 0, .int .i64 0, .int .i64 0, .slice none 0 0] 32
            have g : Below v3.heap.size v3 (v3.alloc (.cells #[.int .u8 0, .int .i64 0, .int .i64 0, .slice none 0 0] 32 (0, 0))) := (Below.refl _ _).alloc (Nat.le_refl _) _
            have ap1Y : Apart D1 n v3.heap.size := I1.apartNew
            have ap2Y : Apart D2 n2 v3.heap.size := I2.apartNew
            have hne : v2.heap.size < v3.heap.size := X.lt
            have hq : v0.heap.size ≤ v3.heap.size := hz.size
            replace B := B.below g (Nat.le_refl _)
            replace G := G.below g (Nat.le_refl _)
            replace G2 := G2.below g (Nat.le_refl _)
            replace X := X.below g (Nat.le_refl _)
            replace I1 := I1.below g (Nat.le_refl _)
            replace I2 := I2.below g (Nat.le_refl _)
            replace hz := hz.trans (g.mono hz.size)
            clear g
            generalize v3.alloc (.cells #[.int .u8 0, .int .i64 0, .int .i64 0, .slice none 0 0] 32 (0, 0)) = v4 at *
            go_wp2_with fail
            refine hK.out _ _ ?_ (fun hHeld2 => ?_)
            · exact ⟨G.all4, G2.all4⟩
            clear hK K hHeld
            have hHeld := hHeld2
            clear hHeld2
            try simp only [Act.put, List.setIfInBounds_toArray, List.set_cons_zero, List.set_cons_succ]
            refine wpAnyH_ready (rs := [6]) (by kernel_rfl) (by simp) ?_
            refine AllReadyH.cons rfl (fun K hK => ?_) AllReadyH.nil
            ·
              obtain ⟨x0, x1, x2, x3⟩ := X.all4
              have xf := X.fr
              have xl := X.lt
              go_simp
              clear x0 x1 x2 x3 xf xl
              replace B := ((((B.other (p := ⟨v2.heap.size, 0, none⟩) (by dsimp only; omega) (.int .u8 k)).other (p := ⟨v2.heap.size, 1, none⟩) (by dsimp only; omega) (.int .i64 a)).other (p := ⟨v2.heap.size, 2, none⟩) (by dsimp only; omega) (.int .i64 mn)).other (p := ⟨v2.heap.size, 3, none⟩) (by dsimp only; omega) (.slice D1 n E1))
              replace G := ((((G.other (p := ⟨v2.heap.size, 0, none⟩) (by dsimp only; omega) (.int .u8 k)).other (p := ⟨v2.heap.size, 1, none⟩) (by dsimp only; omega) (.int .i64 a)).other (p := ⟨v2.heap.size, 2, none⟩) (by dsimp only; omega) (.int .i64 mn)).other (p := ⟨v2.heap.size, 3, none⟩) (by dsimp only; omega) (.slice D1 n E1))
              replace G2 := ((((G2.other (p := ⟨v2.heap.size, 0, none⟩) (by dsimp only; omega) (.int .u8 k)).other (p := ⟨v2.heap.size, 1, none⟩) (by dsimp only; omega) (.int .i64 a)).other (p := ⟨v2.heap.size, 2, none⟩) (by dsimp only; omega) (.int .i64 mn)).other (p := ⟨v2.heap.size, 3, none⟩) (by dsimp only; omega) (.slice D1 n E1))
              replace Y := ((((Y.other (p := ⟨v2.heap.size, 0, none⟩) (by dsimp only; omega) (.int .u8 k)).other (p := ⟨v2.heap.size, 1, none⟩) (by dsimp only; omega) (.int .i64 a)).other (p := ⟨v2.heap.size, 2, none⟩) (by dsimp only; omega) (.int .i64 mn)).other (p := ⟨v2.heap.size, 3, none⟩) (by dsimp only; omega) (.slice D1 n E1))
              replace X := ((((X.put (i := 0) rfl (.int .u8 k)).put (i := 1) rfl (.int .i64 a)).put (i := 2) rfl (.int .i64 mn)).put (i := 3) rfl (.slice D1 n E1))
              simp only [List.set_cons_zero, List.set_cons_succ] at X
              replace I1 := (Ints.offA (p := ⟨v2.heap.size, 3, none⟩) (u := .slice D1 n E1) (Ints.offA (p := ⟨v2.heap.size, 2, none⟩) (u := .int .i64 mn) (Ints.offA (p := ⟨v2.heap.size, 1, none⟩) (u := .int .i64 a) (Ints.offA (p := ⟨v2.heap.size, 0, none⟩) (u := .int .u8 k) I1 ap1X) ap1X) ap1X) ap1X)
              replace I2 := (Ints.offA (p := ⟨v2.heap.size, 3, none⟩) (u := .slice D1 n E1) (Ints.offA (p := ⟨v2.heap.size, 2, none⟩) (u := .int .i64 mn) (Ints.offA (p := ⟨v2.heap.size, 1, none⟩) (u := .int .i64 a) (Ints.offA (p := ⟨v2.heap.size, 0, none⟩) (u := .int .u8 k) I2 ap2X) ap2X) ap2X) ap2X)
              replace hz := (Below.setCell (p := ⟨v2.heap.size, 3, none⟩) (Below.setCell (p := ⟨v2.heap.size, 2, none⟩) (Below.setCell (p := ⟨v2.heap.size, 1, none⟩) (Below.setCell (p := ⟨v2.heap.size, 0, none⟩) hz (by dsimp only; omega) (.int .u8 k)) (by dsimp only; omega) (.int .i64 a)) (by dsimp only; omega) (.int .i64 mn)) (by dsimp only; omega) (.slice D1 n E1))
              generalize ((((v4.setCell ⟨v2.heap.size, 0, none⟩ (.int .u8 k)).setCell ⟨v2.heap.size, 1, none⟩ (.int .i64 a)).setCell ⟨v2.heap.size, 2, none⟩ (.int .i64 mn)).setCell ⟨v2.heap.size, 3, none⟩ (.slice D1 n E1)) = v5 at *
              go_wp2_with fail
              refine hK.out _ _ ?_ (fun hHeld2 => ?_)
              · exact ⟨G.all4, G2.all4⟩
              clear hK K hHeld
              have hHeld := hHeld2
              clear hHeld2
              try simp only [Act.put, List.setIfInBounds_toArray, List.set_cons_zero, List.set_cons_succ]
              refine wpAnyH_ready (rs := [7]) (by kernel_rfl) (by simp) ?_
              refine AllReadyH.cons rfl (fun K hK => ?_) AllReadyH.nil
              ·
                obtain ⟨x0, x1, x2, x3⟩ := Y.all4
                have xf := Y.fr
                have xl := Y.lt
                go_simp
                clear x0 x1 x2 x3 xf xl
                replace B := ((((B.other (p := ⟨v3.heap.size, 0, none⟩) (by dsimp only; omega) (.int .u8 k2)).other (p := ⟨v3.heap.size, 1, none⟩) (by dsimp only; omega) (.int .i64 a2)).other (p := ⟨v3.heap.size, 2, none⟩) (by dsimp only; omega) (.int .i64 mn2)).other (p := ⟨v3.heap.size, 3, none⟩) (by dsimp only; omega) (.slice D2 n2 E2))
                replace G := ((((G.other (p := ⟨v3.heap.size, 0, none⟩) (by dsimp only; omega) (.int .u8 k2)).other (p := ⟨v3.heap.size, 1, none⟩) (by dsimp only; omega) (.int .i64 a2)).other (p := ⟨v3.heap.size, 2, none⟩) (by dsimp only; omega) (.int .i64 mn2)).other (p := ⟨v3.heap.size, 3, none⟩) (by dsimp only; omega) (.slice D2 n2 E2))
                replace G2 := ((((G2.other (p := ⟨v3.heap.size, 0, none⟩) (by dsimp only; omega) (.int .u8 k2)).other (p := ⟨v3.heap.size, 1, none⟩) (by dsimp only; omega) (.int .i64 a2)).other (p := ⟨v3.heap.size, 2, none⟩) (by dsimp only; omega) (.int .i64 mn2)).other (p := ⟨v3.heap.size, 3, none⟩) (by dsimp only; omega) (.slice D2 n2 E2))
                replace X := ((((X.other (p := ⟨v3.heap.size, 0, none⟩) (by dsimp only; omega) (.int .u8 k2)).other (p := ⟨v3.heap.size, 1, none⟩) (by dsimp only; omega) (.int .i64 a2)).other (p := ⟨v3.heap.size, 2, none⟩) (by dsimp only; omega) (.int .i64 mn2)).other (p := ⟨v3.heap.size, 3, none⟩) (by dsimp only; omega) (.slice D2 n2 E2))
                replace Y := ((((Y.put (i := 0) rfl (.int .u8 k2)).put (i := 1) rfl (.int .i64 a2)).put (i := 2) rfl (.int .i64 mn2)).put (i := 3) rfl (.slice D2 n2 E2))
                simp only [List.set_cons_zero, List.set_cons_succ] at Y
                replace I1 := (Ints.offA (p := ⟨v3.heap.size, 3, none⟩) (u := .slice D2 n2 E2) (Ints.offA (p := ⟨v3.heap.size, 2, none⟩) (u := .int .i64 mn2) (Ints.offA (p := ⟨v3.heap.size, 1, none⟩) (u := .int .i64 a2) (Ints.offA (p := ⟨v3.heap.size, 0, none⟩) (u := .int .u8 k2) I1 ap1Y) ap1Y) ap1Y) ap1Y)
                replace I2 := (Ints.offA (p := ⟨v3.heap.size, 3, none⟩) (u := .slice D2 n2 E2) (Ints.offA (p := ⟨v3.heap.size, 2, none⟩) (u := .int .i64 mn2) (Ints.offA (p := ⟨v3.heap.size, 1, none⟩) (u := .int .i64 a2) (Ints.offA (p := ⟨v3.heap.size, 0, none⟩) (u := .int .u8 k2) I2 ap2Y) ap2Y) ap2Y) ap2Y)
                replace hz := (Below.setCell (p := ⟨v3.heap.size, 3, none⟩) (Below.setCell (p := ⟨v3.heap.size, 2, none⟩) (Below.setCell (p := ⟨v3.heap.size, 1, none⟩) (Below.setCell (p := ⟨v3.heap.size, 0, none⟩) hz (by dsimp only; omega) (.int .u8 k2)) (by dsimp only; omega) (.int .i64 a2)) (by dsimp only; omega) (.int .i64 mn2)) (by dsimp only; omega) (.slice D2 n2 E2))
                generalize ((((v5.setCell ⟨v3.heap.size, 0, none⟩ (.int .u8 k2)).setCell ⟨v3.heap.size, 1, none⟩ (.int .i64 a2)).setCell ⟨v3.heap.size, 2, none⟩ (.int .i64 mn2)).setCell ⟨v3.heap.size, 3, none⟩ (.slice D2 n2 E2)) = v6 at *
                go_wp2_with fail
                refine hK.out _ _ ?_ (fun hHeld2 => ?_)
                · exact ⟨G.all4, G2.all4⟩
                clear hK K hHeld
                have hHeld := hHeld2
                clear hHeld2
                try simp only [Act.put, List.setIfInBounds_toArray, List.set_cons_zero, List.set_cons_succ]
                refine wpAnyH_done (by kernel_rfl) ?_ _
                go_wp2
                go_meet
                exact ⟨_, _, D1, E1, D2, E2, rfl, rfl, X, Y, I1, I2, B, G, G2, hw.trans (hz.mono hw.size)⟩
        ·
          go_simp
          have Y := CellsAt.new v2 [.int .u8 0, .int .i64 0, .int .i64 0, .slice none 0 0] 32
          have g : Below v2.heap.size v2 (v2.alloc (.cells #[.int .u8 0, .int .i64 0, .int .i64 0, .slice none 0 0] 32 (0, 0))) := (Below.refl _ _).alloc (Nat.le_refl _) _
          have ap1Y : Apart D1 n v2.heap.size := I1.apartNew
          have ap2Y : Apart D2 n2 v2.heap.size := I2.apartNew
          have hq : v0.heap.size ≤ v2.heap.size := hz.size
          replace B := B.below g (Nat.le_refl _)
          replace G := G.below g (Nat.le_refl _)
          replace G2 := G2.below g (Nat.le_refl _)
          replace I1 := I1.below g (Nat.le_refl _)
          replace I2 := I2.below g (Nat.le_refl _)
          replace hz := hz.trans (g.mono hz.size)
          clear g
          generalize v2.alloc (.cells #[.int .u8 0, .int .i64 0, .int .i64 0, .slice none 0 0] 32 (0, 0)) = v7 at *
          go_wp2_with fail
          refine hK.out _ _ ?_ (fun hHeld2 => ?_)
          · exact ⟨G.all4, G2.all4⟩
          clear hK K hHeld
          have hHeld := hHeld2
          clear hHeld2
          try simp only [Act.put, List.setIfInBounds_toArray, List.set_cons_zero, List.set_cons_succ]
          refine wpAnyH_ready (rs := [4]) (by kernel_rfl) (by simp) ?_
          refine AllReadyH.cons rfl (fun K hK => ?_) AllReadyH.nil
          ·
            go_simp
            have X := CellsAt.new v7 [.int .u8 0, .int .i64 0, .int .i64 0, .slice none 0 0] 32
            have g : Below v7.heap.size v7 (v7.alloc (.cells #[.int .u8 0, .int .i64 0, .int .i64 0, .slice none 0 0] 32 (0, 0))) := (Below.refl _ _).alloc (Nat.le_refl _) _
            have ap1X : Apart D1 n v7.heap.size := I1.apartNew
            have ap2X : Apart D2 n2 v7.heap.size := I2.apartNew
            have hne : v2.heap.size < v7.heap.size := Y.lt
            have hp : v0.heap.size ≤ v7.heap.size := hz.size
            replace B := B.below g (Nat.le_refl _)
            replace G := G.below g (Nat.le_refl _)
            replace G2 := G2.below g (Nat.le_refl _)
            replace Y := Y.below g (Nat.le_refl _)
            replace I1 := I1.below g (Nat.le_refl _)
            replace I2 := I2.below g (Nat.le_refl _)
            replace hz := hz.trans (g.mono hz.size)
            clear g
            generalize v7.alloc (.cells #[.int .u8 0, .int .i64 0, .int .i64 0, .slice none 0 0] 32 (0, 0)) = v8 at *
            go_wp2_with fail
            refine hK.out _ _ ?_ (fun hHeld2 => ?_)
            · exact ⟨G.all4, G2.all4⟩
            clear hK K hHeld
            have hHeld := hHeld2
            clear hHeld2
            try simp only [Act.put, List.setIfInBounds_toArray, List.set_cons_zero, List.set_cons_succ]
            refine wpAnyH_ready (rs := [6]) (by kernel_rfl) (by simp) ?_
            refine AllReadyH.cons rfl (fun K hK => ?_) AllReadyH.nil
            ·
              obtain ⟨x0, x1, x2, x3⟩ := X.all4
              have xf := X.fr
              have xl := X.lt
              go_simp
              clear x0 x1 x2 x3 xf xl
              replace B := ((((B.other (p := ⟨v7.heap.size, 0, none⟩) (by dsimp only; omega) (.int .u8 k)).other (p := ⟨v7.heap.size, 1, none⟩) (by dsimp only; omega) (.int .i64 a)).other (p := ⟨v7.heap.size, 2, none⟩) (by dsimp only; omega) (.int .i64 mn)).other (p := ⟨v7.heap.size, 3, none⟩) (by dsimp only; omega) (.slice D1 n E1))
              replace G := ((((G.other (p := ⟨v7.heap.size, 0, none⟩) (by dsimp only; omega) (.int .u8 k)).other (p := ⟨v7.heap.size, 1, none⟩) (by dsimp only; omega) (.int .i64 a)).other (p := ⟨v7.heap.size, 2, none⟩) (by dsimp only; omega) (.int .i64 mn)).other (p := ⟨v7.heap.size, 3, none⟩) (by dsimp only; omega) (.slice D1 n E1))
              replace G2 := ((((G2.other (p := ⟨v7.heap.size, 0, none⟩) (by dsimp only; omega) (.int .u8 k)).other (p := ⟨v7.heap.size, 1, none⟩) (by dsimp only; omega) (.int .i64 a)).other (p := ⟨v7.heap.size, 2, none⟩) (by dsimp only; omega) (.int .i64 mn)).other (p := ⟨v7.heap.size, 3, none⟩) (by dsimp only; omega) (.slice D1 n E1))
              replace Y := ((((Y.other (p := ⟨v7.heap.size, 0, none⟩) (by dsimp only; omega) (.int .u8 k)).other (p := ⟨v7.heap.size, 1, none⟩) (by dsimp only; omega) (.int .i64 a)).other (p := ⟨v7.heap.size, 2, none⟩) (by dsimp only; omega) (.int .i64 mn)).other (p := ⟨v7.heap.size, 3, none⟩) (by dsimp only; omega) (.slice D1 n E1))
              replace X := ((((X.put (i := 0) rfl (.int .u8 k)).put (i := 1) rfl (.int .i64 a)).put (i := 2) rfl (.int .i64 mn)).put (i := 3) rfl (.slice D1 n E1))
              simp only [List.set_cons_zero, List.set_cons_succ] at X
              replace I1 := (Ints.offA (p := ⟨v7.heap.size, 3, none⟩) (u := .slice D1 n E1) (Ints.offA (p := ⟨v7.heap.size, 2, none⟩) (u := .int .i64 mn) (Ints.offA (p := ⟨v7.heap.size, 1, none⟩) (u := .int .i64 a) (Ints.offA (p := ⟨v7.heap.size, 0, none⟩) (u := .int .u8 k) I1 ap1X) ap1X) ap1X) ap1X)
              replace I2 := (Ints.offA (p := ⟨v7.heap.size, 3, none⟩) (u := .slice D1 n E1) (Ints.offA (p := ⟨v7.heap.size, 2, none⟩) (u := .int .i64 mn) (Ints.offA (p := ⟨v7.heap.size, 1, none⟩) (u := .int .i64 a) (Ints.offA (p := ⟨v7.heap.size, 0, none⟩) (u := .int .u8 k) I2 ap2X) ap2X) ap2X) ap2X)
              replace hz := (Below.setCell (p := ⟨v7.heap.size, 3, none⟩) (Below.setCell (p := ⟨v7.heap.size, 2, none⟩) (Below.setCell (p := ⟨v7.heap.size, 1, none⟩) (Below.setCell (p := ⟨v7.heap.size, 0, none⟩) hz (by dsimp only; omega) (.int .u8 k)) (by dsimp only; omega) (.int .i64 a)) (by dsimp only; omega) (.int .i64 mn)) (by dsimp only; omega) (.slice D1 n E1))
              generalize ((((v8.setCell ⟨v7.heap.size, 0, none⟩ (.int .u8 k)).setCell ⟨v7.heap.size, 1, none⟩ (.int .i64 a)).setCell ⟨v7.heap.size, 2, none⟩ (.int .i64 mn)).setCell ⟨v7.heap.size, 3, none⟩ (.slice D1 n E1)) = v9 at *
              go_wp2_with fail
              refine hK.out _ _ ?_ (fun hHeld2 => ?_)
              · exact ⟨G.all4, G2.all4⟩
              clear hK K hHeld
              have hHeld := hHeld2
              clear hHeld2
              try simp only [Act.put, List.setIfInBounds_toArray, List.set_cons_zero, List.set_cons_succ]
              refine wpAnyH_ready (rs := [7]) (by kernel_rfl) (by simp) ?_
              refine AllReadyH.cons rfl (fun K hK => ?_) AllReadyH.nil
              ·
                obtain ⟨x0, x1, x2, x3⟩ := Y.all4
                have xf := Y.fr
                have xl := Y.lt
                go_simp
                clear x0 x1 x2 x3 xf xl
                replace B := ((((B.other (p := ⟨v2.heap.size, 0, none⟩) (by dsimp only; omega) (.int .u8 k2)).other (p := ⟨v2.heap.size, 1, none⟩) (by dsimp only; omega) (.int .i64 a2)).other (p := ⟨v2.heap.size, 2, none⟩) (by dsimp only; omega) (.int .i64 mn2)).other (p := ⟨v2.heap.size, 3, none⟩) (by dsimp only; omega) (.slice D2 n2 E2))
                replace G := ((((G.other (p := ⟨v2.heap.size, 0, none⟩) (by dsimp only; omega) (.int .u8 k2)).other (p := ⟨v2.heap.size, 1, none⟩) (by dsimp only; omega) (.int .i64 a2)).other (p := ⟨v2.heap.size, 2, none⟩) (by dsimp only; omega) (.int .i64 mn2)).other (p := ⟨v2.heap.size, 3, none⟩) (by dsimp only; omega) (.slice D2 n2 E2))
                replace G2 := ((((G2.other (p := ⟨v2.heap.size, 0, none⟩) (by dsimp only; omega) (.int .u8 k2)).other (p := ⟨v2.heap.size, 1, none⟩) (by dsimp only; omega) (.int .i64 a2)).other (p := ⟨v2.heap.size, 2, none⟩) (by dsimp only; omega) (.int .i64 mn2)).other (p := ⟨v2.heap.size, 3, none⟩) (by dsimp only; omega) (.slice D2 n2 E2))
                replace X := ((((X.other (p := ⟨v2.heap.size, 0, none⟩) (by dsimp only; omega) (.int .u8 k2)).other (p := ⟨v2.heap.size, 1, none⟩) (by dsimp only; omega) (.int .i64 a2)).other (p := ⟨v2.heap.size, 2, none⟩) (by dsimp only; omega) (.int .i64 mn2)).other (p := ⟨v2.heap.size, 3, none⟩) (by dsimp only; omega) (.slice D2 n2 E2))
                replace Y := ((((Y.put (i := 0) rfl (.int .u8 k2)).put (i := 1) rfl (.int .i64 a2)).put (i := 2) rfl (.int .i64 mn2)).put (i := 3) rfl (.slice D2 n2 E2))
                simp only [List.set_cons_zero, List.set_cons_succ] at Y
                replace I1 := (Ints.offA (p := ⟨v2.heap.size, 3, none⟩) (u := .slice D2 n2 E2) (Ints.offA (p := ⟨v2.heap.size, 2, none⟩) (u := .int .i64 mn2) (Ints.offA (p := ⟨v2.heap.size, 1, none⟩) (u := .int .i64 a2) (Ints.offA (p := ⟨v2.heap.size, 0, none⟩) (u := .int .u8 k2) I1 ap1Y) ap1Y) ap1Y) ap1Y)
                replace I2 := (Ints.offA (p := ⟨v2.heap.size, 3, none⟩) (u := .slice D2 n2 E2) (Ints.offA (p := ⟨v2.heap.size, 2, none⟩) (u := .int .i64 mn2) (Ints.offA (p := ⟨v2.heap.size, 1, none⟩) (u := .int .i64 a2) (Ints.offA (p := ⟨v2.heap.size, 0, none⟩) (u := .int .u8 k2) I2 ap2Y) ap2Y) ap2Y) ap2Y)
                replace hz := (Below.setCell (p := ⟨v2.heap.size, 3, none⟩) (Below.setCell (p := ⟨v2.heap.size, 2, none⟩) (Below.setCell (p := ⟨v2.heap.size, 1, none⟩) (Below.setCell (p := ⟨v2.heap.size, 0, none⟩) hz (by dsimp only; omega) (.int .u8 k2)) (by dsimp only; omega) (.int .i64 a2)) (by dsimp only; omega) (.int .i64 mn2)) (by dsimp only; omega) (.slice D2 n2 E2))
                generalize ((((v9.setCell ⟨v2.heap.size, 0, none⟩ (.int .u8 k2)).setCell ⟨v2.heap.size, 1, none⟩ (.int .i64 a2)).setCell ⟨v2.heap.size, 2, none⟩ (.int .i64 mn2)).setCell ⟨v2.heap.size, 3, none⟩ (.slice D2 n2 E2)) = v10 at *
                go_wp2_with fail
                refine hK.out _ _ ?_ (fun hHeld2 => ?_)
                · exact ⟨G.all4, G2.all4⟩
                clear hK K hHeld
                have hHeld := hHeld2
                clear hHeld2
                try simp only [Act.put, List.setIfInBounds_toArray, List.set_cons_zero, List.set_cons_succ]
                refine wpAnyH_done (by kernel_rfl) ?_ _
                go_wp2
                go_meet
                exact ⟨_, _, D1, E1, D2, E2, rfl, rfl, X, Y, I1, I2, B, G, G2, hw.trans (hz.mono hw.size)⟩
      ·
        go_simp
        have X := CellsAt.new v1 [.int .u8 0, .int .i64 0, .int .i64 0, .slice none 0 0] 32
        have g : Below v1.heap.size v1 (v1.alloc (.cells #[.int .u8 0, .int .i64 0, .int .i64 0, .slice none 0 0] 32 (0, 0))) := (Below.refl _ _).alloc (Nat.le_refl _) _
        have ap1X : Apart D1 n v1.heap.size := I1.apartNew
        have hp : v0.heap.size ≤ v1.heap.size := hz.size
        replace B := B.below g (Nat.le_refl _)
        replace G := G.below g (Nat.le_refl _)
        replace G2 := G2.below g (Nat.le_refl _)
        replace I1 := I1.below g (Nat.le_refl _)
        replace hz := hz.trans (g.mono hz.size)
        clear g
        generalize v1.alloc (.cells #[.int .u8 0, .int .i64 0, .int .i64 0, .slice none 0 0] 32 (0, 0)) = v11 at *
        go_wp2_with fail
        refine hK.out _ _ ?_ (fun hHeld2 => ?_)
        · exact ⟨G.all4, G2.all4⟩
        clear hK K hHeld
        have hHeld := hHeld2
        clear hHeld2
        try simp only [Act.put, List.setIfInBounds_toArray, List.set_cons_zero, List.set_cons_succ]
        refine wpAnyH_ready (rs := [3, 5]) (by kernel_rfl) (by simp) ?_
        refine AllReadyH.cons rfl (fun K hK => ?_) (AllReadyH.cons rfl (fun K hK => ?_) AllReadyH.nil)
        ·
          go_simp
          refine (t2 _ (J20.below hz (Nat.le_refl _))).mono ?_
          rintro e v12 ⟨D2, E2, rfl, I2, hl2, g⟩
          have ap2X : Apart D2 n2 v1.heap.size := apartOld hl2 X.lt
          replace B := B.below g (Nat.le_refl _)
          replace G := G.below g (Nat.le_refl _)
          replace G2 := G2.below g (Nat.le_refl _)
          replace X := X.below g (Nat.le_refl _)
          replace I1 := I1.below g (Nat.le_refl _)
          replace hz := hz.trans (g.mono hz.size)
          clear g
          go_wp2_with fail
          refine hK.out _ _ ?_ (fun hHeld2 => ?_)
          · exact ⟨G.all4, G2.all4⟩
          clear hK K hHeld
          have hHeld := hHeld2
          clear hHeld2
          try simp only [Act.put, List.setIfInBounds_toArray, List.set_cons_zero, List.set_cons_succ]
          refine wpAnyH_ready (rs := [5]) (by kernel_rfl) (by simp) ?_
          refine AllReadyH.cons rfl (fun K hK => ?_) AllReadyH.nil
          ·
            go_simp
            have Y := CellsAt.new v12 [.int .u8 0, .int .i64 0, .int .i64 0, .slice none 0 0] 32
            have g : Below v12.heap.size v12 (v12.alloc (.cells #[.int .u8 0, .int .i64 0, .int .i64 0, .slice none 0 0] 32 (0, 0))) := (Below.refl _ _).alloc (Nat.le_refl _) _
            have ap1Y : Apart D1 n v12.heap.size := I1.apartNew
            have ap2Y : Apart D2 n2 v12.heap.size := I2.apartNew
            have hne : v1.heap.size < v12.heap.size := X.lt
            have hq : v0.heap.size ≤ v12.heap.size := hz.size
            replace B := B.below g (Nat.le_refl _)
            replace G := G.below g (Nat.le_refl _)
            replace G2 := G2.below g (Nat.le_refl _)
            replace X := X.below g (Nat.le_refl _)
            replace I1 := I1.below g (Nat.le_refl _)
            replace I2 := I2.below g (Nat.le_refl _)
            replace hz := hz.trans (g.mono hz.size)
            clear g
            generalize v12.alloc (.cells #[.int .u8 0, .int .i64 0, .int .i64 0, .slice none 0 0] 32 (0, 0)) = v13 at *
            go_wp2_with fail
            refine hK.out _ _ ?_ (fun hHeld2 => ?_)
            · exact ⟨G.all4, G2.all4⟩
            clear hK K hHeld
            have hHeld := hHeld2
            clear hHeld2
            try simp only [Act.put, List.setIfInBounds_toArray, List.set_cons_zero, List.set_cons_succ]
            refine wpAnyH_ready (rs := [6]) (by kernel_rfl) (by simp) ?_
            refine AllReadyH.cons rfl (fun K hK => ?_) AllReadyH.nil
            ·
              obtain ⟨x0, x1, x2, x3⟩ := X.all4
              have xf := X.fr
              have xl := X.lt
              go_simp
              clear x0 x1 x2 x3 xf xl
              replace B := ((((B.other (p := ⟨v1.heap.size, 0, none⟩) (by dsimp only; omega) (.int .u8 k)).other (p := ⟨v1.heap.size, 1, none⟩) (by dsimp only; omega) (.int .i64 a)).other (p := ⟨v1.heap.size, 2, none⟩) (by dsimp only; omega) (.int .i64 mn)).other (p := ⟨v1.heap.size, 3, none⟩) (by dsimp only; omega) (.slice D1 n E1))
              replace G := ((((G.other (p := ⟨v1.heap.size, 0, none⟩) (by dsimp only; omega) (.int .u8 k)).other (p := ⟨v1.heap.size, 1, none⟩) (by dsimp only; omega) (.int .i64 a)).other (p := ⟨v1.heap.size, 2, none⟩) (by dsimp only; omega) (.int .i64 mn)).other (p := ⟨v1.heap.size, 3, none⟩) (by dsimp only; omega) (.slice D1 n E1))
              replace G2 := ((((G2.other (p := ⟨v1.heap.size, 0, none⟩) (by dsimp only; omega) (.int .u8 k)).other (p := ⟨v1.heap.size, 1, none⟩) (by dsimp only; omega) (.int .i64 a)).other (p := ⟨v1.heap.size, 2, none⟩) (by dsimp only; omega) (.int .i64 mn)).other (p := ⟨v1.heap.size, 3, none⟩) (by dsimp only; omega) (.slice D1 n E1))
              replace Y := ((((Y.other (p := ⟨v1.heap.size, 0, none⟩) (by dsimp only; omega) (.int .u8 k)).other (p := ⟨v1.heap.size, 1, none⟩) (by dsimp only; omega) (.int .i64 a)).other (p := ⟨v1.heap.size, 2, none⟩) (by dsimp only; omega) (.int .i64 mn)).other (p := ⟨v1.heap.size, 3, none⟩) (by dsimp only; omega) (.slice D1 n E1))
              replace X := ((((X.put (i := 0) rfl (.int .u8 k)).put (i := 1) rfl (.int .i64 a)).put (i := 2) rfl (.int .i64 mn)).put (i := 3) rfl (.slice D1 n E1))
              simp only [List.set_cons_zero, List.set_cons_succ] at X
              replace I1 := (Ints.offA (p := ⟨v1.heap.size, 3, none⟩) (u := .slice D1 n E1) (Ints.offA (p := ⟨v1.heap.size, 2, none⟩) (u := .int .i64 mn) (Ints.offA (p := ⟨v1.heap.size, 1, none⟩) (u := .int .i64 a) (Ints.offA (p := ⟨v1.heap.size, 0, none⟩) (u := .int .u8 k) I1 ap1X) ap1X) ap1X) ap1X)
              replace I2 := (Ints.offA (p := ⟨v1.heap.size, 3, none⟩) (u := .slice D1 n E1) (Ints.offA (p := ⟨v1.heap.size, 2, none⟩) (u := .int .i64 mn) (Ints.offA (p := ⟨v1.heap.size, 1, none⟩) (u := .int .i64 a) (Ints.offA (p := ⟨v1.heap.size, 0, none⟩) (u := .int .u8 k) I2 ap2X) ap2X) ap2X) ap2X)
              replace hz := (Below.setCell (p := ⟨v1.heap.size, 3, none⟩) (Below.setCell (p := ⟨v1.heap.size, 2, none⟩) (Below.setCell (p := ⟨v1.heap.size, 1, none⟩) (Below.setCell (p := ⟨v1.heap.size, 0, none⟩) hz (by dsimp only; omega) (.int .u8 k)) (by dsimp only; omega) (.int .i64 a)) (by dsimp only; omega) (.int .i64 mn)) (by dsimp only; omega) (.slice D1 n E1))
              generalize ((((v13.setCell ⟨v1.heap.size, 0, none⟩ (.int .u8 k)).setCell ⟨v1.heap.size, 1, none⟩ (.int .i64 a)).setCell ⟨v1.heap.size, 2, none⟩ (.int .i64 mn)).setCell ⟨v1.heap.size, 3, none⟩ (.slice D1 n E1)) = v14 at *
              go_wp2_with fail
              refine hK.out _ _ ?_ (fun hHeld2 => ?_)
              · exact ⟨G.all4, G2.all4⟩
              clear hK K hHeld
              have hHeld := hHeld2
              clear hHeld2
              try simp only [Act.put, List.setIfInBounds_toArray, List.set_cons_zero, List.set_cons_succ]
              refine wpAnyH_ready (rs := [7]) (by kernel_rfl) (by simp) ?_
              refine AllReadyH.cons rfl (fun K hK => ?_) AllReadyH.nil
              ·
                obtain ⟨x0, x1, x2, x3⟩ := Y.all4
                have xf := Y.fr
                have xl := Y.lt
                go_simp
                clear x0 x1 x2 x3 xf xl
                replace B := ((((B.other (p := ⟨v12.heap.size, 0, none⟩) (by dsimp only; omega) (.int .u8 k2)).other (p := ⟨v12.heap.size, 1, none⟩) (by dsimp only; omega) (.int .i64 a2)).other (p := ⟨v12.heap.size, 2, none⟩) (by dsimp only; omega) (.int .i64 mn2)).other (p := ⟨v12.heap.size, 3, none⟩) (by dsimp only; omega) (.slice D2 n2 E2))
                replace G := ((((G.other (p := ⟨v12.heap.size, 0, none⟩) (by dsimp only; omega) (.int .u8 k2)).other (p := ⟨v12.heap.size, 1, none⟩) (by dsimp only; omega) (.int .i64 a2)).other (p := ⟨v12.heap.size, 2, none⟩) (by dsimp only; omega) (.int .i64 mn2)).other (p := ⟨v12.heap.size, 3, none⟩) (by dsimp only; omega) (.slice D2 n2 E2))
                replace G2 := ((((G2.other (p := ⟨v12.heap.size, 0, none⟩) (by dsimp only; omega) (.int .u8 k2)).other (p := ⟨v12.heap.size, 1, none⟩) (by dsimp only; omega) (.int .i64 a2)).other (p := ⟨v12.heap.size, 2, none⟩) (by dsimp only; omega) (.int .i64 mn2)).other (p := ⟨v12.heap.size, 3, none⟩) (by dsimp only; omega) (.slice D2 n2 E2))
                replace X := ((((X.other (p := ⟨v12.heap.size, 0, none⟩) (by dsimp only; omega) (.int .u8 k2)).other (p := ⟨v12.heap.size, 1, none⟩) (by dsimp only; omega) (.int .i64 a2)).other (p := ⟨v12.heap.size, 2, none⟩) (by dsimp only; omega) (.int .i64 mn2)).other (p := ⟨v12.heap.size, 3, none⟩) (by dsimp only; omega) (.slice D2 n2 E2))
                replace Y := ((((Y.put (i := 0) rfl (.int .u8 k2)).put (i := 1) rfl (.int .i64 a2)).put (i := 2) rfl (.int .i64 mn2)).put (i := 3) rfl (.slice D2 n2 E2))
                simp only [List.set_cons_zero, List.set_cons_succ] at Y
                replace I1 := (Ints.offA (p := ⟨v12.heap.size, 3, none⟩) (u := .slice D2 n2 E2) (Ints.offA (p := ⟨v12.heap.size, 2, none⟩) (u := .int .i64 mn2) (Ints.offA (p := ⟨v12.heap.size, 1, none⟩) (u := .int .i64 a2) (Ints.offA (p := ⟨v12.heap.size, 0, none⟩) (u := .int .u8 k2) I1 ap1Y) ap1Y) ap1Y) ap1Y)
                replace I2 := (Ints.offA (p := ⟨v12.heap.size, 3, none⟩) (u := .slice D2 n2 E2) (Ints.offA (p := ⟨v12.heap.size, 2, none⟩) (u := .int .i64 mn2) (Ints.offA (p := ⟨v12.heap.size, 1, none⟩) (u := .int .i64 a2) (Ints.offA (p := ⟨v12.heap.size, 0, none⟩) (u := .int .u8 k2) I2 ap2Y) ap2Y) ap2Y) ap2Y)
                replace hz := (Below.setCell (p := ⟨v12.heap.size, 3, none⟩) (Below.setCell (p := ⟨v12.heap.size, 2, none⟩) (Below.setCell (p := ⟨v12.heap.size, 1, none⟩) (Below.setCell (p := ⟨v12.heap.size, 0, none⟩) hz (by dsimp only; omega) (.int .u8 k2)) (by dsimp only; omega) (.int .i64 a2)) (by dsimp only; omega) (.int .i64 mn2)) (by dsimp only; omega) (.slice D2 n2 E2))
                generalize ((((v14.setCell ⟨v12.heap.size, 0, none⟩ (.int .u8 k2)).setCell ⟨v12.heap.size, 1, none⟩ (.int .i64 a2)).setCell ⟨v12.heap.size, 2, none⟩ (.int .i64 mn2)).setCell ⟨v12.heap.size, 3, none⟩ (.slice D2 n2 E2)) = v15 at *
                go_wp2_with fail
                refine hK.out _ _ ?_ (fun hHeld2 => ?_)
                · exact ⟨G.all4, G2.all4⟩
                clear hK K hHeld
                have hHeld := hHeld2
                clear hHeld2
                try simp only [Act.put, List.setIfInBounds_toArray, List.set_cons_zero, List.set_cons_succ]
                refine wpAnyH_done (by kernel_rfl) ?_ _
                go_wp2
                go_meet
                exact ⟨_, _, D1, E1, D2, E2, rfl, rfl, X, Y, I1, I2, B, G, G2, hw.trans (hz.mono hw.size)⟩
        ·
          go_simp
          have Y := CellsAt.new v11 [.int .u8 0, .int .i64 0, .int .i64 0, .slice none 0 0] 32
          have g : Below v11.heap.size v11 (v11.alloc (.cells #[.int .u8 0, .int .i64 0, .int .i64 0, .slice none 0 0] 32 (0, 0))) := (Below.refl _ _).alloc (Nat.le_refl _) _
          have ap1Y : Apart D1 n v11.heap.size := I1.apartNew
          have hne : v1.heap.size < v11.heap.size := X.lt
          have hq : v0.heap.size ≤ v11.heap.size := hz.size
          replace B := B.below g (Nat.le_refl _)
          replace G := G.below g (Nat.le_refl _)
          replace G2 := G2.below g (Nat.le_refl _)
          replace X := X.below g (Nat.le_refl _)
          replace I1 := I1.below g (Nat.le_refl _)
          replace hz := hz.trans (g.mono hz.size)
          clear g
          generalize v11.alloc (.cells #[.int .u8 0, .int .i64 0, .int .i64 0, .slice none 0 0] 32 (0, 0)) = v16 at *
          go_wp2_with fail
          refine hK.out _ _ ?_ (fun hHeld2 => ?_)
          · exact ⟨G.all4, G2.all4⟩
          clear hK K hHeld
          have hHeld := hHeld2
          clear hHeld2
          try simp only [Act.put, List.setIfInBounds_toArray, List.set_cons_zero, List.set_cons_succ]
          refine wpAnyH_ready (rs := [3]) (by kernel_rfl) (by simp) ?_
          refine AllReadyH.cons rfl (fun K hK => ?_) AllReadyH.nil
          ·
            go_simp
            refine (t2 _ (J20.below hz (Nat.le_refl _))).mono ?_
            rintro e v17 ⟨D2, E2, rfl, I2, hl2, g⟩
            have ap2X : Apart D2 n2 v1.heap.size := apartOld hl2 X.lt
            have ap2Y : Apart D2 n2 v11.heap.size := apartOld hl2 Y.lt
            replace B := B.below g (Nat.le_refl _)
            replace G := G.below g (Nat.le_refl _)
            replace G2 := G2.below g (Nat.le_refl _)
            replace X := X.below g (Nat.le_refl _)
            replace Y := Y.below g (Nat.le_refl _)
            replace I1 := I1.below g (Nat.le_refl _)
            replace hz := hz.trans (g.mono hz.size)
            clear g
            go_wp2_with fail
            refine hK.out _ _ ?_ (fun hHeld2 => ?_)
            · exact ⟨G.all4, G2.all4⟩
            clear hK K hHeld
            have hHeld := hHeld2
            clear hHeld2
            try simp only [Act.put, List.setIfInBounds_toArray, List.set_cons_zero, List.set_cons_succ]
            refine wpAnyH_ready (rs := [6]) (by kernel_rfl) (by simp) ?_
            refine AllReadyH.cons rfl (fun K hK => ?_) AllReadyH.nil
            ·
              obtain ⟨x0, x1, x2, x3⟩ := X.all4
              have xf := X.fr
              have xl := X.lt
              go_simp
              clear x0 x1 x2 x3 xf xl
              replace B := ((((B.other (p := ⟨v1.heap.size, 0, none⟩) (by dsimp only; omega) (.int .u8 k)).other (p := ⟨v1.heap.size, 1, none⟩) (by dsimp only; omega) (.int .i64 a)).other (p := ⟨v1.heap.size, 2, none⟩) (by dsimp only; omega) (.int .i64 mn)).other (p := ⟨v1.heap.size, 3, none⟩) (by dsimp only; omega) (.slice D1 n E1))
              replace G := ((((G.other (p := ⟨v1.heap.size, 0, none⟩) (by dsimp only; omega) (.int .u8 k)).other (p := ⟨v1.heap.size, 1, none⟩) (by dsimp only; omega) (.int .i64 a)).other (p := ⟨v1.heap.size, 2, none⟩) (by dsimp only; omega) (.int .i64 mn)).other (p := ⟨v1.heap.size, 3, none⟩) (by dsimp only; omega) (.slice D1 n E1))
              replace G2 := ((((G2.other (p := ⟨v1.heap.size, 0, none⟩) (by dsimp only; omega) (.int .u8 k)).other (p := ⟨v1.heap.size, 1, none⟩) (by dsimp only; omega) (.int .i64 a)).other (p := ⟨v1.heap.size, 2, none⟩) (by dsimp only; omega) (.int .i64 mn)).other (p := ⟨v1.heap.size, 3, none⟩) (by dsimp only; omega) (.slice D1 n E1))
              replace Y := ((((Y.other (p := ⟨v1.heap.size, 0, none⟩) (by dsimp only; omega) (.int .u8 k)).other (p := ⟨v1.heap.size, 1, none⟩) (by dsimp only; omega) (.int .i64 a)).other (p := ⟨v1.heap.size, 2, none⟩) (by dsimp only; omega) (.int .i64 mn)).other (p := ⟨v1.heap.size, 3, none⟩) (by dsimp only; omega) (.slice D1 n E1))
              replace X := ((((X.put (i := 0) rfl (.int .u8 k)).put (i := 1) rfl (.int .i64 a)).put (i := 2) rfl (.int .i64 mn)).put (i := 3) rfl (.slice D1 n E1))
              simp only [List.set_cons_zero, List.set_cons_succ] at X
              replace I1 := (Ints.offA (p := ⟨v1.heap.size, 3, none⟩) (u := .slice D1 n E1) (Ints.offA (p := ⟨v1.heap.size, 2, none⟩) (u := .int .i64 mn) (Ints.offA (p := ⟨v1.heap.size, 1, none⟩) (u := .int .i64 a) (Ints.offA (p := ⟨v1.heap.size, 0, none⟩) (u := .int .u8 k) I1 ap1X) ap1X) ap1X) ap1X)
              replace I2 := (Ints.offA (p := ⟨v1.heap.size, 3, none⟩) (u := .slice D1 n E1) (Ints.offA (p := ⟨v1.heap.size, 2, none⟩) (u := .int .i64 mn) (Ints.offA (p := ⟨v1.heap.size, 1, none⟩) (u := .int .i64 a) (Ints.offA (p := ⟨v1.heap.size, 0, none⟩) (u := .int .u8 k) I2 ap2X) ap2X) ap2X) ap2X)
              replace hz := (Below.setCell (p := ⟨v1.heap.size, 3, none⟩) (Below.setCell (p := ⟨v1.heap.size, 2, none⟩) (Below.setCell (p := ⟨v1.heap.size, 1, none⟩) (Below.setCell (p := ⟨v1.heap.size, 0, none⟩) hz (by dsimp only; omega) (.int .u8 k)) (by dsimp only; omega) (.int .i64 a)) (by dsimp only; omega) (.int .i64 mn)) (by dsimp only; omega) (.slice D1 n E1))
              generalize ((((v17.setCell ⟨v1.heap.size, 0, none⟩ (.int .u8 k)).setCell ⟨v1.heap.size, 1, none⟩ (.int .i64 a)).setCell ⟨v1.heap.size, 2, none⟩ (.int .i64 mn)).setCell ⟨v1.heap.size, 3, none⟩ (.slice D1 n E1)) = v18 at *
              go_wp2_with fail
              refine hK.out _ _ ?_ (fun hHeld2 => ?_)
              · exact ⟨G.all4, G2.all4⟩
              clear hK K hHeld
              have hHeld := hHeld2
              clear hHeld2
              try simp only [Act.put, List.setIfInBounds_toArray, List.set_cons_zero, List.set_cons_succ]
              refine wpAnyH_ready (rs := [7]) (by kernel_rfl) (by simp) ?_
              refine AllReadyH.cons rfl (fun K hK => ?_) AllReadyH.nil
              ·
                obtain ⟨x0, x1, x2, x3⟩ := Y.all4
                have xf := Y.fr
                have xl := Y.lt
                go_simp
                clear x0 x1 x2 x3 xf xl
                replace B := ((((B.other (p := ⟨v11.heap.size, 0, none⟩) (by dsimp only; omega) (.int .u8 k2)).other (p := ⟨v11.heap.size, 1, none⟩) (by dsimp only; omega) (.int .i64 a2)).other (p := ⟨v11.heap.size, 2, none⟩) (by dsimp only; omega) (.int .i64 mn2)).other (p := ⟨v11.heap.size, 3, none⟩) (by dsimp only; omega) (.slice D2 n2 E2))
                replace G := ((((G.other (p := ⟨v11.heap.size, 0, none⟩) (by dsimp only; omega) (.int .u8 k2)).other (p := ⟨v11.heap.size, 1, none⟩) (by dsimp only; omega) (.int .i64 a2)).other (p := ⟨v11.heap.size, 2, none⟩) (by dsimp only; omega) (.int .i64 mn2)).other (p := ⟨v11.heap.size, 3, none⟩) (by dsimp only; omega) (.slice D2 n2 E2))
                replace G2 := ((((G2.other (p := ⟨v11.heap.size, 0, none⟩) (by dsimp only; omega) (.int .u8 k2)).other (p := ⟨v11.heap.size, 1, none⟩) (by dsimp only; omega) (.int .i64 a2)).other (p := ⟨v11.heap.size, 2, none⟩) (by dsimp only; omega) (.int .i64 mn2)).other (p := ⟨v11.heap.size, 3, none⟩) (by dsimp only; omega) (.slice D2 n2 E2))
                replace X := ((((X.other (p := ⟨v11.heap.size, 0, none⟩) (by dsimp only; omega) (.int .u8 k2)).other (p := ⟨v11.heap.size, 1, none⟩) (by dsimp only; omega) (.int .i64 a2)).other (p := ⟨v11.heap.size, 2, none⟩) (by dsimp only; omega) (.int .i64 mn2)).other (p := ⟨v11.heap.size, 3, none⟩) (by dsimp only; omega) (.slice D2 n2 E2))
                replace Y := ((((Y.put (i := 0) rfl (.int .u8 k2)).put (i := 1) rfl (.int .i64 a2)).put (i := 2) rfl (.int .i64 mn2)).put (i := 3) rfl (.slice D2 n2 E2))
                simp only [List.set_cons_zero, List.set_cons_succ] at Y
                replace I1 := (Ints.offA (p := ⟨v11.heap.size, 3, none⟩) (u := .slice D2 n2 E2) (Ints.offA (p := ⟨v11.heap.size, 2, none⟩) (u := .int .i64 mn2) (Ints.offA (p := ⟨v11.heap.size, 1, none⟩) (u := .int .i64 a2) (Ints.offA (p := ⟨v11.heap.size, 0, none⟩) (u := .int .u8 k2) I1 ap1Y) ap1Y) ap1Y) ap1Y)
                replace I2 := (Ints.offA (p := ⟨v11.heap.size, 3, none⟩) (u := .slice D2 n2 E2) (Ints.offA (p := ⟨v11.heap.size, 2, none⟩) (u := .int .i64 mn2) (Ints.offA (p := ⟨v11.heap.size, 1, none⟩) (u := .int .i64 a2) (Ints.offA (p := ⟨v11.heap.size, 0, none⟩) (u := .int .u8 k2) I2 ap2Y) ap2Y) ap2Y) ap2Y)
                replace hz := (Below.setCell (p := ⟨v11.heap.size, 3, none⟩) (Below.setCell (p := ⟨v11.heap.size, 2, none⟩) (Below.setCell (p := ⟨v11.heap.size, 1, none⟩) (Below.setCell (p := ⟨v11.heap.size, 0, none⟩) hz (by dsimp only; omega) (.int .u8 k2)) (by dsimp only; omega) (.int .i64 a2)) (by dsimp only; omega) (.int .i64 mn2)) (by dsimp only; omega) (.slice D2 n2 E2))
                generalize ((((v18.setCell ⟨v11.heap.size, 0, none⟩ (.int .u8 k2)).setCell ⟨v11.heap.size, 1, none⟩ (.int .i64 a2)).setCell ⟨v11.heap.size, 2, none⟩ (.int .i64 mn2)).setCell ⟨v11.heap.size, 3, none⟩ (.slice D2 n2 E2)) = v19 at *
                go_wp2_with fail
                refine hK.out _ _ ?_ (fun hHeld2 => ?_)
                · exact ⟨G.all4, G2.all4⟩
                clear hK K hHeld
                have hHeld := hHeld2
                clear hHeld2
                try simp only [Act.put, List.setIfInBounds_toArray, List.set_cons_zero, List.set_cons_succ]
                refine wpAnyH_done (by kernel_rfl) ?_ _
                go_wp2
                go_meet
                exact ⟨_, _, D1, E1, D2, E2, rfl, rfl, X, Y, I1, I2, B, G, G2, hw.trans (hz.mono hw.size)⟩
      ·
        go_simp
        have Y := CellsAt.new v1 [.int .u8 0, .int .i64 0, .int .i64 0, .slice none 0 0] 32
        have g : Below v1.heap.size v1 (v1.alloc (.cells #[.int .u8 0, .int .i64 0, .int .i64 0, .slice none 0 0] 32 (0, 0))) := (Below.refl _ _).alloc (Nat.le_refl _) _
        have ap1Y : Apart D1 n v1.heap.size := I1.apartNew
        have hq : v0.heap.size ≤ v1.heap.size := hz.size
        replace B := B.below g (Nat.le_refl _)
        replace G := G.below g (Nat.le_refl _)
        replace G2 := G2.below g (Nat.le_refl _)
        replace I1 := I1.below g (Nat.le_refl _)
        replace hz := hz.trans (g.mono hz.size)
        clear g
        generalize v1.alloc (.cells #[.int .u8 0, .int .i64 0, .int .i64 0, .slice none 0 0] 32 (0, 0)) = v20 at *
        go_wp2_with fail
        refine hK.out _ _ ?_ (fun hHeld2 => ?_)
        · exact ⟨G.all4, G2.all4⟩
        clear hK K hHeld
        have hHeld := hHeld2
        clear hHeld2
        try simp only [Act.put, List.setIfInBounds_toArray, List.set_cons_zero, List.set_cons_succ]
        refine wpAnyH_ready (rs := [3, 4]) (by kernel_rfl) (by simp) ?_
        refine AllReadyH.cons rfl (fun K hK => ?_) (AllReadyH.cons rfl (fun K hK => ?_) AllReadyH.nil)
        ·
          go_simp
          refine (t2 _ (J20.below hz (Nat.le_refl _))).mono ?_
          rintro e v21 ⟨D2, E2, rfl, I2, hl2, g⟩
          have ap2Y : Apart D2 n2 v1.heap.size := apartOld hl2 Y.lt
          replace B := B.below g (Nat.le_refl _)
          replace G := G.below g (Nat.le_refl _)
          replace G2 := G2.below g (Nat.le_refl _)
          replace Y := Y.below g (Nat.le_refl _)
          replace I1 := I1.below g (Nat.le_refl _)
          replace hz := hz.trans (g.mono hz.size)
          clear g
          go_wp2_with fail
          refine hK.out _ _ ?_ (fun hHeld2 => ?_)
          · exact ⟨G.all4, G2.all4⟩
          clear hK K hHeld
          have hHeld := hHeld2
          clear hHeld2
          try simp only [Act.put, List.setIfInBounds_toArray, List.set_cons_zero, List.set_cons_succ]
          refine wpAnyH_ready (rs := [4]) (by kernel_rfl) (by simp) ?_
          refine AllReadyH.cons rfl (fun K hK => ?_) AllReadyH.nil
          ·
            go_simp
            have X := CellsAt.new v21 [.int .u8 0, .int .i64 0, .int .i64 0, .slice none 0 0] 32
            have g : Below v21.heap.size v21 (v21.alloc (.cells #[.int .u8 0, .int .i64 0, .int .i64 0, .slice none 0 0] 32 (0, 0))) := (Below.refl _ _).alloc (Nat.le_refl _) _
            have ap1X : Apart D1 n v21.heap.size := I1.apartNew
            have ap2X : Apart D2 n2 v21.heap.size := I2.apartNew
            have hne : v1.heap.size < v21.heap.size := Y.lt
            have hp : v0.heap.size ≤ v21.heap.size := hz.size
            replace B := B.below g (Nat.le_refl _)
            replace G := G.below g (Nat.le_refl _)
            replace G2 := G2.below g (Nat.le_refl _)
            replace Y := Y.below g (Nat.le_refl _)
            replace I1 := I1.below g (Nat.le_refl _)
            replace I2 := I2.below g (Nat.le_refl _)
            replace hz := hz.trans (g.mono hz.size)
            clear g
            generalize v21.alloc (.cells #[.int .u8 0, .int .i64 0, .int .i64 0, .slice none 0 0] 32 (0, 0)) = v22 at *
            go_wp2_with fail
            refine hK.out _ _ ?_ (fun hHeld2 => ?_)
            · exact ⟨G.all4, G2.all4⟩
            clear hK K hHeld
            have hHeld := hHeld2
            clear hHeld2
            try simp only [Act.put, List.setIfInBounds_toArray, List.set_cons_zero, List.set_cons_succ]
            refine wpAnyH_ready (rs := [6]) (by kernel_rfl) (by simp) ?_
            refine AllReadyH.cons rfl (fun K hK => ?_) AllReadyH.nil
            ·
              obtain ⟨x0, x1, x2, x3⟩ := X.all4
              have xf := X.fr
              have xl := X.lt
              go_simp
              clear x0 x1 x2 x3 xf xl
              replace B := ((((B.other (p := ⟨v21.heap.size, 0, none⟩) (by dsimp only; omega) (.int .u8 k)).other (p := ⟨v21.heap.size, 1, none⟩) (by dsimp only; omega) (.int .i64 a)).other (p := ⟨v21.heap.size, 2, none⟩) (by dsimp only; omega) (.int .i64 mn)).other (p := ⟨v21.heap.size, 3, none⟩) (by dsimp only; omega) (.slice D1 n E1))
              replace G := ((((G.other (p := ⟨v21.heap.size, 0, none⟩) (by dsimp only; omega) (.int .u8 k)).other (p := ⟨v21.heap.size, 1, none⟩) (by dsimp only; omega) (.int .i64 a)).other (p := ⟨v21.heap.size, 2, none⟩) (by dsimp only; omega) (.int .i64 mn)).other (p := ⟨v21.heap.size, 3, none⟩) (by dsimp only; omega) (.slice D1 n E1))
              replace G2 := ((((G2.other (p := ⟨v21.heap.size, 0, none⟩) (by dsimp only; omega) (.int .u8 k)).other (p := ⟨v21.heap.size, 1, none⟩) (by dsimp only; omega) (.int .i64 a)).other (p := ⟨v21.heap.size, 2, none⟩) (by dsimp only; omega) (.int .i64 mn)).other (p := ⟨v21.heap.size, 3, none⟩) (by dsimp only; omega) (.slice D1 n E1))
              replace Y := ((((Y.other (p := ⟨v21.heap.size, 0, none⟩) (by dsimp only; omega) (.int .u8 k)).other (p := ⟨v21.heap.size, 1, none⟩) (by dsimp only; omega) (.int .i64 a)).other (p := ⟨v21.heap.size, 2, none⟩) (by dsimp only; omega) (.int .i64 mn)).other (p := ⟨v21.heap.size, 3, none⟩) (by dsimp only; omega) (.slice D1 n E1))
              replace X := ((((X.put (i := 0) rfl (.int .u8 k)).put (i := 1) rfl (.int .i64 a)).put (i := 2) rfl (.int .i64 mn)).put (i := 3) rfl (.slice D1 n E1))
              simp only [List.set_cons_zero, List.set_cons_succ] at X
              replace I1 := (Ints.offA (p := ⟨v21.heap.size, 3, none⟩) (u := .slice D1 n E1) (Ints.offA (p := ⟨v21.heap.size, 2, none⟩) (u := .int .i64 mn) (Ints.offA (p := ⟨v21.heap.size, 1, none⟩) (u := .int .i64 a) (Ints.offA (p := ⟨v21.heap.size, 0, none⟩) (u := .int .u8 k) I1 ap1X) ap1X) ap1X) ap1X)
              replace I2 := (Ints.offA (p := ⟨v21.heap.size, 3, none⟩) (u := .slice D1 n E1) (Ints.offA (p := ⟨v21.heap.size, 2, none⟩) (u := .int .i64 mn) (Ints.offA (p := ⟨v21.heap.size, 1, none⟩) (u := .int .i64 a) (Ints.offA (p := ⟨v21.heap.size, 0, none⟩) (u := .int .u8 k) I2 ap2X) ap2X) ap2X) ap2X)
              replace hz := (Below.setCell (p := ⟨v21.heap.size, 3, none⟩) (Below.setCell (p := ⟨v21.heap.size, 2, none⟩) (Below.setCell (p := ⟨v21.heap.size, 1, none⟩) (Below.setCell (p := ⟨v21.heap.size, 0, none⟩) hz (by dsimp only; omega) (.int .u8 k)) (by dsimp only; omega) (.int .i64 a)) (by dsimp only; omega) (.int .i64 mn)) (by dsimp only; omega) (.slice D1 n E1))
              generalize ((((v22.setCell ⟨v21.heap.size, 0, none⟩ (.int .u8 k)).setCell ⟨v21.heap.size, 1, none⟩ (.int .i64 a)).setCell ⟨v21.heap.size, 2, none⟩ (.int .i64 mn)).setCell ⟨v21.heap.size, 3, none⟩ (.slice D1 n E1)) = v23 at *
              go_wp2_with fail
              refine hK.out _ _ ?_ (fun hHeld2 => ?_)
              · exact ⟨G.all4, G2.all4⟩
              clear hK K hHeld
              have hHeld := hHeld2
              clear hHeld2
              try simp only [Act.put, List.setIfInBounds_toArray, List.set_cons_zero, List.set_cons_succ]
              refine wpAnyH_ready (rs := [7]) (by kernel_rfl) (by simp) ?_
              refine AllReadyH.cons rfl (fun K hK => ?_) AllReadyH.nil
              ·
                obtain ⟨x0, x1, x2, x3⟩ := Y.all4
                have xf := Y.fr
                have xl := Y.lt
                go_simp
                clear x0 x1 x2 x3 xf xl
                replace B := ((((B.other (p := ⟨v1.heap.size, 0, none⟩) (by dsimp only; omega) (.int .u8 k2)).other (p := ⟨v1.heap.size, 1, none⟩) (by dsimp only; omega) (.int .i64 a2)).other (p := ⟨v1.heap.size, 2, none⟩) (by dsimp only; omega) (.int .i64 mn2)).other (p := ⟨v1.heap.size, 3, none⟩) (by dsimp only; omega) (.slice D2 n2 E2))
                replace G := ((((G.other (p := ⟨v1.heap.size, 0, none⟩) (by dsimp only; omega) (.int .u8 k2)).other (p := ⟨v1.heap.size, 1, none⟩) (by dsimp only; omega) (.int .i64 a2)).other (p := ⟨v1.heap.size, 2, none⟩) (by dsimp only; omega) (.int .i64 mn2)).other (p := ⟨v1.heap.size, 3, none⟩) (by dsimp only; omega) (.slice D2 n2 E2))
                replace G2 := ((((G2.other (p := ⟨v1.heap.size, 0, none⟩) (by dsimp only; omega) (.int .u8 k2)).other (p := ⟨v1.heap.size, 1, none⟩) (by dsimp only; omega) (.int .i64 a2)).other (p := ⟨v1.heap.size, 2, none⟩) (by dsimp only; omega) (.int .i64 mn2)).other (p := ⟨v1.heap.size, 3, none⟩) (by dsimp only; omega) (.slice D2 n2 E2))
                replace X := ((((X.other (p := ⟨v1.heap.size, 0, none⟩) (by dsimp only; omega) (.int .u8 k2)).other (p := ⟨v1.heap.size, 1, none⟩) (by dsimp only; omega) (.int .i64 a2)).other (p := ⟨v1.heap.size, 2, none⟩) (by dsimp only; omega) (.int .i64 mn2)).other (p := ⟨v1.heap.size, 3, none⟩) (by dsimp only; omega) (.slice D2 n2 E2))
                replace Y := ((((Y.put (i := 0) rfl (.int .u8 k2)).put (i := 1) rfl (.int .i64 a2)).put (i := 2) rfl (.int .i64 mn2)).put (i := 3) rfl (.slice D2 n2 E2))
                simp only [List.set_cons_zero, List.set_cons_succ] at Y
                replace I1 := (Ints.offA (p := ⟨v1.heap.size, 3, none⟩) (u := .slice D2 n2 E2) (Ints.offA (p := ⟨v1.heap.size, 2, none⟩) (u := .int .i64 mn2) (Ints.offA (p := ⟨v1.heap.size, 1, none⟩) (u := .int .i64 a2) (Ints.offA (p := ⟨v1.heap.size, 0, none⟩) (u := .int .u8 k2) I1 ap1Y) ap1Y) ap1Y) ap1Y)
                replace I2 := (Ints.offA (p := ⟨v1.heap.size, 3, none⟩) (u := .slice D2 n2 E2) (Ints.offA (p := ⟨v1.heap.size, 2, none⟩) (u := .int .i64 mn2) (Ints.offA (p := ⟨v1.heap.size, 1, none⟩) (u := .int .i64 a2) (Ints.offA (p := ⟨v1.heap.size, 0, none⟩) (u := .int .u8 k2) I2 ap2Y) ap2Y) ap2Y) ap2Y)
                replace hz := (Below.setCell (p := ⟨v1.heap.size, 3, none⟩) (Below.setCell (p := ⟨v1.heap.size, 2, none⟩) (Below.setCell (p := ⟨v1.heap.size, 1, none⟩) (Below.setCell (p := ⟨v1.heap.size, 0, none⟩) hz (by dsimp only; omega) (.int .u8 k2)) (by dsimp only; omega) (.int .i64 a2)) (by dsimp only; omega) (.int .i64 mn2)) (by dsimp only; omega) (.slice D2 n2 E2))
                generalize ((((v23.setCell ⟨v1.heap.size, 0, none⟩ (.int .u8 k2)).setCell ⟨v1.heap.size, 1, none⟩ (.int .i64 a2)).setCell ⟨v1.heap.size, 2, none⟩ (.int .i64 mn2)).setCell ⟨v1.heap.size, 3, none⟩ (.slice D2 n2 E2)) = v24 at *
                go_wp2_with fail
                refine hK.out _ _ ?_ (fun hHeld2 => ?_)
                · exact ⟨G.all4, G2.all4⟩
                clear hK K hHeld
                have hHeld := hHeld2
                clear hHeld2
                try simp only [Act.put, List.setIfInBounds_toArray, List.set_cons_zero, List.set_cons_succ]
                refine wpAnyH_done (by kernel_rfl) ?_ _
                go_wp2
                go_meet
                exact ⟨_, _, D1, E1, D2, E2, rfl, rfl, X, Y, I1, I2, B, G, G2, hw.trans (hz.mono hw.size)⟩
        ·
          go_simp
          have X := CellsAt.new v20 [.int .u8 0, .int .i64 0, .int .i64 0, .slice none 0 0] 32
          have g : Below v20.heap.size v20 (v20.alloc (.cells #[.int .u8 0, .int .i64 0, .int .i64 0, .slice none 0 0] 32 (0, 0))) := (Below.refl _ _).alloc (Nat.le_refl _) _
          have ap1X : Apart D1 n v20.heap.size := I1.apartNew
          have hne : v1.heap.size < v20.heap.size := Y.lt
          have hp : v0.heap.size ≤ v20.heap.size := hz.size
          replace B := B.below g (Nat.le_refl _)
          replace G := G.below g (Nat.le_refl _)
          replace G2 := G2.below g (Nat.le_refl _)
          replace Y := Y.below g (Nat.le_refl _)
          replace I1 := I1.below g (Nat.le_refl _)
          replace hz := hz.trans (g.mono hz.size)
          clear g
          generalize v20.alloc (.cells #[.int .u8 0, .int .i64 0, .int .i64 0, .slice none 0 0] 32 (0, 0)) = v25 at *
          go_wp2_with fail
          refine hK.out _ _ ?_ (fun hHeld2 => ?_)
          · exact ⟨G.all4, G2.all4⟩
          clear hK K hHeld
          have hHeld := hHeld2
          clear hHeld2
          try simp only [Act.put, List.setIfInBounds_toArray, List.set_cons_zero, List.set_cons_succ]
          refine wpAnyH_ready (rs := [3]) (by kernel_rfl) (by simp) ?_
          refine AllReadyH.cons rfl (fun K hK => ?_) AllReadyH.nil
          ·
            go_simp
            refine (t2 _ (J20.below hz (Nat.le_refl _))).mono ?_
            rintro e v26 ⟨D2, E2, rfl, I2, hl2, g⟩
            have ap2X : Apart D2 n2 v20.heap.size := apartOld hl2 X.lt
            have ap2Y : Apart D2 n2 v1.heap.size := apartOld hl2 Y.lt
            replace B := B.below g (Nat.le_refl _)
            replace G := G.below g (Nat.le_refl _)
            replace G2 := G2.below g (Nat.le_refl _)
            replace X := X.below g (Nat.le_refl _)
            replace Y := Y.below g (Nat.le_refl _)
            replace I1 := I1.below g (Nat.le_refl _)
            replace hz := hz.trans (g.mono hz.size)
            clear g
            go_wp2_with fail
            refine hK.out _ _ ?_ (fun hHeld2 => ?_)
            · exact ⟨G.all4, G2.all4⟩
            clear hK K hHeld
            have hHeld := hHeld2
            clear hHeld2
            try simp only [Act.put, List.setIfInBounds_toArray, List.set_cons_zero, List.set_cons_succ]
            refine wpAnyH_ready (rs := [6]) (by kernel_rfl) (by simp) ?_
            refine AllReadyH.cons rfl (fun K hK => ?_) AllReadyH.nil
            ·
              obtain ⟨x0, x1, x2, x3⟩ := X.all4
              have xf := X.fr
              have xl := X.lt
              go_simp
              clear x0 x1 x2 x3 xf xl
              replace B := ((((B.other (p := ⟨v20.heap.size, 0, none⟩) (by dsimp only; omega) (.int .u8 k)).other (p := ⟨v20.heap.size, 1, none⟩) (by dsimp only; omega) (.int .i64 a)).other (p := ⟨v20.heap.size, 2, none⟩) (by dsimp only; omega) (.int .i64 mn)).other (p := ⟨v20.heap.size, 3, none⟩) (by dsimp only; omega) (.slice D1 n E1))
              replace G := ((((G.other (p := ⟨v20.heap.size, 0, none⟩) (by dsimp only; omega) (.int .u8 k)).other (p := ⟨v20.heap.size, 1, none⟩) (by dsimp only; omega) (.int .i64 a)).other (p := ⟨v20.heap.size, 2, none⟩) (by dsimp only; omega) (.int .i64 mn)).other (p := ⟨v20.heap.size, 3, none⟩) (by dsimp only; omega) (.slice D1 n E1))
              replace G2 := ((((G2.other (p := ⟨v20.heap.size, 0, none⟩) (by dsimp only; omega) (.int .u8 k)).other (p := ⟨v20.heap.size, 1, none⟩) (by dsimp only; omega) (.int .i64 a)).other (p := ⟨v20.heap.size, 2, none⟩) (by dsimp only; omega) (.int .i64 mn)).other (p := ⟨v20.heap.size, 3, none⟩) (by dsimp only; omega) (.slice D1 n E1))
              replace Y := ((((Y.other (p := ⟨v20.heap.size, 0, none⟩) (by dsimp only; omega) (.int .u8 k)).other (p := ⟨v20.heap.size, 1, none⟩) (by dsimp only; omega) (.int .i64 a)).other (p := ⟨v20.heap.size, 2, none⟩) (by dsimp only; omega) (.int .i64 mn)).other (p := ⟨v20.heap.size, 3, none⟩) (by dsimp only; omega) (.slice D1 n E1))
              replace X := ((((X.put (i := 0) rfl (.int .u8 k)).put (i := 1) rfl (.int .i64 a)).put (i := 2) rfl (.int .i64 mn)).put (i := 3) rfl (.slice D1 n E1))
              simp only [List.set_cons_zero, List.set_cons_succ] at X
              replace I1 := (Ints.offA (p := ⟨v20.heap.size, 3, none⟩) (u := .slice D1 n E1) (Ints.offA (p := ⟨v20.heap.size, 2, none⟩) (u := .int .i64 mn) (Ints.offA (p := ⟨v20.heap.size, 1, none⟩) (u := .int .i64 a) (Ints.offA (p := ⟨v20.heap.size, 0, none⟩) (u := .int .u8 k) I1 ap1X) ap1X) ap1X) ap1X)
              replace I2 := (Ints.offA (p := ⟨v20.heap.size, 3, none⟩) (u := .slice D1 n E1) (Ints.offA (p := ⟨v20.heap.size, 2, none⟩) (u := .int .i64 mn) (Ints.offA (p := ⟨v20.heap.size, 1, none⟩) (u := .int .i64 a) (Ints.offA (p := ⟨v20.heap.size, 0, none⟩) (u := .int .u8 k) I2 ap2X) ap2X) ap2X) ap2X)
              replace hz := (Below.setCell (p := ⟨v20.heap.size, 3, none⟩) (Below.setCell (p := ⟨v20.heap.size, 2, none⟩) (Below.setCell (p := ⟨v20.heap.size, 1, none⟩) (Below.setCell (p := ⟨v20.heap.size, 0, none⟩) hz (by dsimp only; omega) (.int .u8 k)) (by dsimp only; omega) (.int .i64 a)) (by dsimp only; omega) (.int .i64 mn)) (by dsimp only; omega) (.slice D1 n E1))
              generalize ((((v26.setCell ⟨v20.heap.size, 0, none⟩ (.int .u8 k)).setCell ⟨v20.heap.size, 1, none⟩ (.int .i64 a)).setCell ⟨v20.heap.size, 2, none⟩ (.int .i64 mn)).setCell ⟨v20.heap.size, 3, none⟩ (.slice D1 n E1)) = v27 at *
              go_wp2_with fail
              refine hK.out _ _ ?_ (fun hHeld2 => ?_)
              · exact ⟨G.all4, G2.all4⟩
              clear hK K hHeld
              have hHeld := hHeld2
              clear hHeld2
              try simp only [Act.put, List.setIfInBounds_toArray, List.set_cons_zero, List.set_cons_succ]
              refine wpAnyH_ready (rs := [7]) (by kernel_rfl) (by simp) ?_
              refine AllReadyH.cons rfl (fun K hK => ?_) AllReadyH.nil
              ·
                obtain ⟨x0, x1, x2, x3⟩ := Y.all4
                have xf := Y.fr
                have xl := Y.lt
                go_simp
                clear x0 x1 x2 x3 xf xl
                replace B := ((((B.other (p := ⟨v1.heap.size, 0, none⟩) (by dsimp only; omega) (.int .u8 k2)).other (p := ⟨v1.heap.size, 1, none⟩) (by dsimp only; omega) (.int .i64 a2)).other (p := ⟨v1.heap.size, 2, none⟩) (by dsimp only; omega) (.int .i64 mn2)).other (p := ⟨v1.heap.size, 3, none⟩) (by dsimp only; omega) (.slice D2 n2 E2))
                replace G := ((((G.other (p := ⟨v1.heap.size, 0, none⟩) (by dsimp only; omega) (.int .u8 k2)).other (p := ⟨v1.heap.size, 1, none⟩) (by dsimp only; omega) (.int .i64 a2)).other (p := ⟨v1.heap.size, 2, none⟩) (by dsimp only; omega) (.int .i64 mn2)).other (p := ⟨v1.heap.size, 3, none⟩) (by dsimp only; omega) (.slice D2 n2 E2))
                replace G2 := ((((G2.other (p := ⟨v1.heap.size, 0, none⟩) (by dsimp only; omega) (.int .u8 k2)).other (p := ⟨v1.heap.size, 1, none⟩) (by dsimp only; omega) (.int .i64 a2)).other (p := ⟨v1.heap.size, 2, none⟩) (by dsimp only; omega) (.int .i64 mn2)).other (p := ⟨v1.heap.size, 3, none⟩) (by dsimp only; omega) (.slice D2 n2 E2))
                replace X := ((((X.other (p := ⟨v1.heap.size, 0, none⟩) (by dsimp only; omega) (.int .u8 k2)).other (p := ⟨v1.heap.size, 1, none⟩) (by dsimp only; omega) (.int .i64 a2)).other (p := ⟨v1.heap.size, 2, none⟩) (by dsimp only; omega) (.int .i64 mn2)).other (p := ⟨v1.heap.size, 3, none⟩) (by dsimp only; omega) (.slice D2 n2 E2))
                replace Y := ((((Y.put (i := 0) rfl (.int .u8 k2)).put (i := 1) rfl (.int .i64 a2)).put (i := 2) rfl (.int .i64 mn2)).put (i := 3) rfl (.slice D2 n2 E2))
                simp only [List.set_cons_zero, List.set_cons_succ] at Y
                replace I1 := (Ints.offA (p := ⟨v1.heap.size, 3, none⟩) (u := .slice D2 n2 E2) (Ints.offA (p := ⟨v1.heap.size, 2, none⟩) (u := .int .i64 mn2) (Ints.offA (p := ⟨v1.heap.size, 1, none⟩) (u := .int .i64 a2) (Ints.offA (p := ⟨v1.heap.size, 0, none⟩) (u := .int .u8 k2) I1 ap1Y) ap1Y) ap1Y) ap1Y)
                replace I2 := (Ints.offA (p := ⟨v1.heap.size, 3, none⟩) (u := .slice D2 n2 E2) (Ints.offA (p := ⟨v1.heap.size, 2, none⟩) (u := .int .i64 mn2) (Ints.offA (p := ⟨v1.heap.size, 1, none⟩) (u := .int .i64 a2) (Ints.offA (p := ⟨v1.heap.size, 0, none⟩) (u := .int .u8 k2) I2 ap2Y) ap2Y) ap2Y) ap2Y)
                replace hz := (Below.setCell (p := ⟨v1.heap.size, 3, none⟩) (Below.setCell (p := ⟨v1.heap.size, 2, none⟩) (Below.setCell (p := ⟨v1.heap.size, 1, none⟩) (Below.setCell (p := ⟨v1.heap.size, 0, none⟩) hz (by dsimp only; omega) (.int .u8 k2)) (by dsimp only; omega) (.int .i64 a2)) (by dsimp only; omega) (.int .i64 mn2)) (by dsimp only; omega) (.slice D2 n2 E2))
                generalize ((((v27.setCell ⟨v1.heap.size, 0, none⟩ (.int .u8 k2)).setCell ⟨v1.heap.size, 1, none⟩ (.int .i64 a2)).setCell ⟨v1.heap.size, 2, none⟩ (.int .i64 mn2)).setCell ⟨v1.heap.size, 3, none⟩ (.slice D2 n2 E2)) = v28 at *
                go_wp2_with fail
                refine hK.out _ _ ?_ (fun hHeld2 => ?_)
                · exact ⟨G.all4, G2.all4⟩
                clear hK K hHeld
                have hHeld := hHeld2
                clear hHeld2
                try simp only [Act.put, List.setIfInBounds_toArray, List.set_cons_zero, List.set_cons_succ]
                refine wpAnyH_done (by kernel_rfl) ?_ _
                go_wp2
                go_meet
                exact ⟨_, _, D1, E1, D2, E2, rfl, rfl, X, Y, I1, I2, B, G, G2, hw.trans (hz.mono hw.size)⟩
    ·
      go_simp
      have X := CellsAt.new v0 [.int .u8 0, .int .i64 0, .int .i64 0, .slice none 0 0] 32
      have g : Below v0.heap.size v0 (v0.alloc (.cells #[.int .u8 0, .int .i64 0, .int .i64 0, .slice none 0 0] 32 (0, 0))) := (Below.refl _ _).alloc (Nat.le_refl _) _
      have hp : v0.heap.size ≤ v0.heap.size := hz.size
      replace B := B.below g (Nat.le_refl _)
      replace G := G.below g (Nat.le_refl _)
      replace G2 := G2.below g (Nat.le_refl _)
      replace hz := hz.trans (g.mono hz.size)
      clear g
      generalize v0.alloc (.cells #[.int .u8 0, .int .i64 0, .int .i64 0, .slice none 0 0] 32 (0, 0)) = v29 at *
      go_wp2_with fail
      refine hK.out _ _ ?_ (fun hHeld2 => ?_)
      · exact ⟨G.all4, G2.all4⟩
      clear hK K hHeld
      have hHeld := hHeld2
      clear hHeld2
      try simp only [Act.put, List.setIfInBounds_toArray, List.set_cons_zero, List.set_cons_succ]
      refine wpAnyH_ready (rs := [1, 5]) (by kernel_rfl) (by simp) ?_
      refine AllReadyH.cons rfl (fun K hK => ?_) (AllReadyH.cons rfl (fun K hK => ?_) AllReadyH.nil)
      ·
        go_simp
        refine (t1 _ (J0.below hz (Nat.le_refl _))).mono ?_
        rintro e v30 ⟨D1, E1, rfl, I1, hl1, g⟩
        have ap1X : Apart D1 n v0.heap.size := apartOld hl1 X.lt
        replace B := B.below g (Nat.le_refl _)
        replace G := G.below g (Nat.le_refl _)
        replace G2 := G2.below g (Nat.le_refl _)
        replace X := X.below g (Nat.le_refl _)
        replace hz := hz.trans (g.mono hz.size)
        clear g
        go_wp2_with fail
        refine hK.out _ _ ?_ (fun hHeld2 => ?_)
        · exact ⟨G.all4, G2.all4⟩
        clear hK K hHeld
        have hHeld := hHeld2
        clear hHeld2
        try simp only [Act.put, List.setIfInBounds_toArray, List.set_cons_zero, List.set_cons_succ]
        refine wpAnyH_ready (rs := [3, 5]) (by kernel_rfl) (by simp) ?_
        refine AllReadyH.cons rfl (fun K hK => ?_) (AllReadyH.cons rfl (fun K hK => ?_) AllReadyH.nil)
        ·
          go_simp
          refine (t2 _ (J20.below hz (Nat.le_refl _))).mono ?_
          rintro e v31 ⟨D2, E2, rfl, I2, hl2, g⟩
          have ap2X : Apart D2 n2 v0.heap.size := apartOld hl2 X.lt
          replace B := B.below g (Nat.le_refl _)
          replace G := G.below g (Nat.le_refl _)
          replace G2 := G2.below g (Nat.le_refl _)
          replace X := X.below g (Nat.le_refl _)
          replace I1 := I1.below g (Nat.le_refl _)
          replace hz := hz.trans (g.mono hz.size)
          clear g
          go_wp2_with fail
          refine hK.out _ _ ?_ (fun hHeld2 => ?_)
          · exact ⟨G.all4, G2.all4⟩
          clear hK K hHeld
          have hHeld := hHeld2
          clear hHeld2
          try simp only [Act.put, List.setIfInBounds_toArray, List.set_cons_zero, List.set_cons_succ]
          refine wpAnyH_ready (rs := [5]) (by kernel_rfl) (by simp) ?_
          refine AllReadyH.cons rfl (fun K hK => ?_) AllReadyH.nil
          ·
            go_simp
            have Y := CellsAt.new v31 [.int .u8 0, .int .i64 0, .int .i64 0, .slice none 0 0] 32
            have g : Below v31.heap.size v31 (v31.alloc (.cells #[.int .u8 0, .int .i64 0, .int .i64 0, .slice none 0 0] 32 (0, 0))) := (Below.refl _ _).alloc (Nat.le_refl _) _
            have ap1Y : Apart D1 n v31.heap.size := I1.apartNew
            have ap2Y : Apart D2 n2 v31.heap.size := I2.apartNew
            have hne : v0.heap.size < v31.heap.size := X.lt
            have hq : v0.heap.size ≤ v31.heap.size := hz.size
            replace B := B.below g (Nat.le_refl _)
            replace G := G.below g (Nat.le_refl _)
            replace G2 := G2.below g (Nat.le_refl _)
            replace X := X.below g (Nat.le_refl _)
            replace I1 := I1.below g (Nat.le_refl _)
            replace I2 := I2.below g (Nat.le_refl _)
            replace hz := hz.trans (g.mono hz.size)
            clear g
            generalize v31.alloc (.cells #[.int .u8 0, .int .i64 0, .int .i64 0, .slice none 0 0] 32 (0, 0)) = v32 at *
            go_wp2_with fail
            refine hK.out _ _ ?_ (fun hHeld2 => ?_)
            · exact ⟨G.all4, G2.all4⟩
            clear hK K hHeld
            have hHeld := hHeld2
            clear hHeld2
            try simp only [Act.put, List.setIfInBounds_toArray, List.set_cons_zero, List.set_cons_succ]
            refine wpAnyH_ready (rs := [6]) (by kernel_rfl) (by simp) ?_
            refine AllReadyH.cons rfl (fun K hK => ?_) AllReadyH.nil
            ·
              obtain ⟨x0, x1, x2, x3⟩ := X.all4
              have xf := X.fr
              have xl := X.lt
              go_simp
              clear x0 x1 x2 x3 xf xl
              replace B := ((((B.other (p := ⟨v0.heap.size, 0, none⟩) (by dsimp only; omega) (.int .u8 k)).other (p := ⟨v0.heap.size, 1, none⟩) (by dsimp only; omega) (.int .i64 a)).other (p := ⟨v0.heap.size, 2, none⟩) (by dsimp only; omega) (.int .i64 mn)).other (p := ⟨v0.heap.size, 3, none⟩) (by dsimp only; omega) (.slice D1 n E1))
              replace G := ((((G.other (p := ⟨v0.heap.size, 0, none⟩) (by dsimp only; omega) (.int .u8 k)).other (p := ⟨v0.heap.size, 1, none⟩) (by dsimp only; omega) (.int .i64 a)).other (p := ⟨v0.heap.size, 2, none⟩) (by dsimp only; omega) (.int .i64 mn)).other (p := ⟨v0.heap.size, 3, none⟩) (by dsimp only; omega) (.slice D1 n E1))
              replace G2 := ((((G2.other (p := ⟨v0.heap.size, 0, none⟩) (by dsimp only; omega) (.int .u8 k)).other (p := ⟨v0.heap.size, 1, none⟩) (by dsimp only; omega) (.int .i64 a)).other (p := ⟨v0.heap.size, 2, none⟩) (by dsimp only; omega) (.int .i64 mn)).other (p := ⟨v0.heap.size, 3, none⟩) (by dsimp only; omega) (.slice D1 n E1))
              replace Y := ((((Y.other (p := ⟨v0.heap.size, 0, none⟩) (by dsimp only; omega) (.int .u8 k)).other (p := ⟨v0.heap.size, 1, none⟩) (by dsimp only; omega) (.int .i64 a)).other (p := ⟨v0.heap.size, 2, none⟩) (by dsimp only; omega) (.int .i64 mn)).other (p := ⟨v0.heap.size, 3, none⟩) (by dsimp only; omega) (.slice D1 n E1))
              replace X := ((((X.put (i := 0) rfl (.int .u8 k)).put (i := 1) rfl (.int .i64 a)).put (i := 2) rfl (.int .i64 mn)).put (i := 3) rfl (.slice D1 n E1))
              simp only [List.set_cons_zero, List.set_cons_succ] at X
              replace I1 := (Ints.offA (p := ⟨v0.heap.size, 3, none⟩) (u := .slice D1 n E1) (Ints.offA (p := ⟨v0.heap.size, 2, none⟩) (u := .int .i64 mn) (Ints.offA (p := ⟨v0.heap.size, 1, none⟩) (u := .int .i64 a) (Ints.offA (p := ⟨v0.heap.size, 0, none⟩) (u := .int .u8 k) I1 ap1X) ap1X) ap1X) ap1X)
              replace I2 := (Ints.offA (p := ⟨v0.heap.size, 3, none⟩) (u := .slice D1 n E1) (Ints.offA (p := ⟨v0.heap.size, 2, none⟩) (u := .int .i64 mn) (Ints.offA (p := ⟨v0.heap.size, 1, none⟩) (u := .int .i64 a) (Ints.offA (p := ⟨v0.heap.size, 0, none⟩) (u := .int .u8 k) I2 ap2X) ap2X) ap2X) ap2X)
              replace hz := (Below.setCell (p := ⟨v0.heap.size, 3, none⟩) (Below.setCell (p := ⟨v0.heap.size, 2, none⟩) (Below.setCell (p := ⟨v0.heap.size, 1, none⟩) (Below.setCell (p := ⟨v0.heap.size, 0, none⟩) hz (by dsimp only; omega) (.int .u8 k)) (by dsimp only; omega) (.int .i64 a)) (by dsimp only; omega) (.int .i64 mn)) (by dsimp only; omega) (.slice D1 n E1))
              generalize ((((v32.setCell ⟨v0.heap.size, 0, none⟩ (.int .u8 k)).setCell ⟨v0.heap.size, 1, none⟩ (.int .i64 a)).setCell ⟨v0.heap.size, 2, none⟩ (.int .i64 mn)).setCell ⟨v0.heap.size, 3, none⟩ (.slice D1 n E1)) = v33 at *
              go_wp2_with fail
              refine hK.out _ _ ?_ (fun hHeld2 => ?_)
              · exact ⟨G.all4, G2.all4⟩
              clear hK K hHeld
              have hHeld := hHeld2
              clear hHeld2
              try simp only [Act.put, List.setIfInBounds_toArray, List.set_cons_zero, List.set_cons_succ]
              refine wpAnyH_ready (rs := [7]) (by kernel_rfl) (by simp) ?_
              refine AllReadyH.cons rfl (fun K hK => ?_) AllReadyH.nil
              ·
                obtain ⟨x0, x1, x2, x3⟩ := Y.all4
                have xf := Y.fr
                have xl := Y.lt
                go_simp
                clear x0 x1 x2 x3 xf xl
                replace B := ((((B.other (p := ⟨v31.heap.size, 0, none⟩) (by dsimp only; omega) (.int .u8 k2)).other (p := ⟨v31.heap.size, 1, none⟩) (by dsimp only; omega) (.int .i64 a2)).other (p := ⟨v31.heap.size, 2, none⟩) (by dsimp only; omega) (.int .i64 mn2)).other (p := ⟨v31.heap.size, 3, none⟩) (by dsimp only; omega) (.slice D2 n2 E2))
                replace G := ((((G.other (p := ⟨v31.heap.size, 0, none⟩) (by dsimp only; omega) (.int .u8 k2)).other (p := ⟨v31.heap.size, 1, none⟩) (by dsimp only; omega) (.int .i64 a2)).other (p := ⟨v31.heap.size, 2, none⟩) (by dsimp only; omega) (.int .i64 mn2)).other (p := ⟨v31.heap.size, 3, none⟩) (by dsimp only; omega) (.slice D2 n2 E2))
                replace G2 := ((((G2.other (p := ⟨v31.heap.size, 0, none⟩) (by dsimp only; omega) (.int .u8 k2)).other (p := ⟨v31.heap.size, 1, none⟩) (by dsimp only; omega) (.int .i64 a2)).other (p := ⟨v31.heap.size, 2, none⟩) (by dsimp only; omega) (.int .i64 mn2)).other (p := ⟨v31.heap.size, 3, none⟩) (by dsimp only; omega) (.slice D2 n2 E2))
                replace X := ((((X.other (p := ⟨v31.heap.size, 0, none⟩) (by dsimp only; omega) (.int .u8 k2)).other (p := ⟨v31.heap.size, 1, none⟩) (by dsimp only; omega) (.int .i64 a2)).other (p := ⟨v31.heap.size, 2, none⟩) (by dsimp only; omega) (.int .i64 mn2)).other (p := ⟨v31.heap.size, 3, none⟩) (by dsimp only; omega) (.slice D2 n2 E2))
                replace Y := ((((Y.put (i := 0) rfl (.int .u8 k2)).put (i := 1) rfl (.int .i64 a2)).put (i := 2) rfl (.int .i64 mn2)).put (i := 3) rfl (.slice D2 n2 E2))
                simp only [List.set_cons_zero, List.set_cons_succ] at Y
                replace I1 := (Ints.offA (p := ⟨v31.heap.size, 3, none⟩) (u := .slice D2 n2 E2) (Ints.offA (p := ⟨v31.heap.size, 2, none⟩) (u := .int .i64 mn2) (Ints.offA (p := ⟨v31.heap.size, 1, none⟩) (u := .int .i64 a2) (Ints.offA (p := ⟨v31.heap.size, 0, none⟩) (u := .int .u8 k2) I1 ap1Y) ap1Y) ap1Y) ap1Y)
                replace I2 := (Ints.offA (p := ⟨v31.heap.size, 3, none⟩) (u := .slice D2 n2 E2) (Ints.offA (p := ⟨v31.heap.size, 2, none⟩) (u := .int .i64 mn2) (Ints.offA (p := ⟨v31.heap.size, 1, none⟩) (u := .int .i64 a2) (Ints.offA (p := ⟨v31.heap.size, 0, none⟩) (u := .int .u8 k2) I2 ap2Y) ap2Y) ap2Y) ap2Y)
                replace hz := (Below.setCell (p := ⟨v31.heap.size, 3, none⟩) (Below.setCell (p := ⟨v31.heap.size, 2, none⟩) (Below.setCell (p := ⟨v31.heap.size, 1, none⟩) (Below.setCell (p := ⟨v31.heap.size, 0, none⟩) hz (by dsimp only; omega) (.int .u8 k2)) (by dsimp only; omega) (.int .i64 a2)) (by dsimp only; omega) (.int .i64 mn2)) (by dsimp only; omega) (.slice D2 n2 E2))
                generalize ((((v33.setCell ⟨v31.heap.size, 0, none⟩ (.int .u8 k2)).setCell ⟨v31.heap.size, 1, none⟩ (.int .i64 a2)).setCell ⟨v31.heap.size, 2, none⟩ (.int .i64 mn2)).setCell ⟨v31.heap.size, 3, none⟩ (.slice D2 n2 E2)) = v34 at *
                go_wp2_with fail
                refine hK.out _ _ ?_ (fun hHeld2 => ?_)
                · exact ⟨G.all4, G2.all4⟩
                clear hK K hHeld
                have hHeld := hHeld2
                clear hHeld2
                try simp only [Act.put, List.setIfInBounds_toArray, List.set_cons_zero, List.set_cons_succ]
                refine wpAnyH_done (by kernel_rfl) ?_ _
                go_wp2
                go_meet
                exact ⟨_, _, D1, E1, D2, E2, rfl, rfl, X, Y, I1, I2, B, G, G2, hw.trans (hz.mono hw.size)⟩
        ·
          go_simp
          have Y := CellsAt.new v30 [.int .u8 0, .int .i64 0, .int .i64 0, .slice none 0 0] 32
          have g : Below v30.heap.size v30 (v30.alloc (.cells #[.int .u8 0, .int .i64 0, .int .i64 0, .slice none 0 0] 32 (0, 0))) := (Below.refl _ _).alloc (Nat.le_refl _) _
          have ap1Y : Apart D1 n v30.heap.size := I1.apartNew
          have hne : v0.heap.size < v30.heap.size := X.lt
          have hq : v0.heap.size ≤ v30.heap.size := hz.size
          replace B := B.below g (Nat.le_refl _)
          replace G := G.below g (Nat.le_refl _)
          replace G2 := G2.below g (Nat.le_refl _)
          replace X := X.below g (Nat.le_refl _)
          replace I1 := I1.below g (Nat.le_refl _)
          replace hz := hz.trans (g.mono hz.size)
          clear g
          generalize v30.alloc (.cells #[.int .u8 0, .int .i64 0, .int .i64 0, .slice none 0 0] 32 (0, 0)) = v35 at *
          go_wp2_with fail
          refine hK.out _ _ ?_ (fun hHeld2 => ?_)
          · exact ⟨G.all4, G2.all4⟩
          clear hK K hHeld
          have hHeld := hHeld2
          clear hHeld2
          try simp only [Act.put, List.setIfInBounds_toArray, List.set_cons_zero, List.set_cons_succ]
          refine wpAnyH_ready (rs := [3]) (by kernel_rfl) (by simp) ?_
          refine AllReadyH.cons rfl (fun K hK => ?_) AllReadyH.nil
          ·
            go_simp
            refine (t2 _ (J20.below hz (Nat.le_refl _))).mono ?_
            rintro e v36 ⟨D2, E2, rfl, I2, hl2, g⟩
            have ap2X : Apart D2 n2 v0.heap.size := apartOld hl2 X.lt
            have ap2Y : Apart D2 n2 v30.heap.size := apartOld hl2 Y.lt
            replace B := B.below g (Nat.le_refl _)
            replace G := G.below g (Nat.le_refl _)
            replace G2 := G2.below g (Nat.le_refl _)
            replace X := X.below g (Nat.le_refl _)
            replace Y := Y.below g (Nat.le_refl _)
            replace I1 := I1.below g (Nat.le_refl _)
            replace hz := hz.trans (g.mono hz.size)
            clear g
            go_wp2_with fail
            refine hK.out _ _ ?_ (fun hHeld2 => ?_)
            · exact ⟨G.all4, G2.all4⟩
            clear hK K hHeld
            have hHeld := hHeld2
            clear hHeld2
            try simp only [Act.put, List.setIfInBounds_toArray, List.set_cons_zero, List.set_cons_succ]
            refine wpAnyH_ready (rs := [6]) (by kernel_rfl) (by simp) ?_
            refine AllReadyH.cons rfl (fun K hK => ?_) AllReadyH.nil
            ·
              obtain ⟨x0, x1, x2, x3⟩ := X.all4
              have xf := X.fr
              have xl := X.lt
              go_simp
              clear x0 x1 x2 x3 xf xl
              replace B := ((((B.other (p := ⟨v0.heap.size, 0, none⟩) (by dsimp only; omega) (.int .u8 k)).other (p := ⟨v0.heap.size, 1, none⟩) (by dsimp only; omega) (.int .i64 a)).other (p := ⟨v0.heap.size, 2, none⟩) (by dsimp only; omega) (.int .i64 mn)).other (p := ⟨v0.heap.size, 3, none⟩) (by dsimp only; omega) (.slice D1 n E1))
              replace G := ((((G.other (p := ⟨v0.heap.size, 0, none⟩) (by dsimp only; omega) (.int .u8 k)).other (p := ⟨v0.heap.size, 1, none⟩) (by dsimp only; omega) (.int .i64 a)).other (p := ⟨v0.heap.size, 2, none⟩) (by dsimp only; omega) (.int .i64 mn)).other (p := ⟨v0.heap.size, 3, none⟩) (by dsimp only; omega) (.slice D1 n E1))
              replace G2 := ((((G2.other (p := ⟨v0.heap.size, 0, none⟩) (by dsimp only; omega) (.int .u8 k)).other (p := ⟨v0.heap.size, 1, none⟩) (by dsimp only; omega) (.int .i64 a)).other (p := ⟨v0.heap.size, 2, none⟩) (by dsimp only; omega) (.int .i64 mn)).other (p := ⟨v0.heap.size, 3, none⟩) (by dsimp only; omega) (.slice D1 n E1))
              replace Y := ((((Y.other (p := ⟨v0.heap.size, 0, none⟩) (by dsimp only; omega) (.int .u8 k)).other (p := ⟨v0.heap.size, 1, none⟩) (by dsimp only; omega) (.int .i64 a)).other (p := ⟨v0.heap.size, 2, none⟩) (by dsimp only; omega) (.int .i64 mn)).other (p := ⟨v0.heap.size, 3, none⟩) (by dsimp only; omega) (.slice D1 n E1))
              replace X := ((((X.put (i := 0) rfl (.int .u8 k)).put (i := 1) rfl (.int .i64 a)).put (i := 2) rfl (.int .i64 mn)).put (i := 3) rfl (.slice D1 n E1))
              simp only [List.set_cons_zero, List.set_cons_succ] at X
              replace I1 := (Ints.offA (p := ⟨v0.heap.size, 3, none⟩) (u := .slice D1 n E1) (Ints.offA (p := ⟨v0.heap.size, 2, none⟩) (u := .int .i64 mn) (Ints.offA (p := ⟨v0.heap.size, 1, none⟩) (u := .int .i64 a) (Ints.offA (p := ⟨v0.heap.size, 0, none⟩) (u := .int .u8 k) I1 ap1X) ap1X) ap1X) ap1X)
              replace I2 := (Ints.offA (p := ⟨v0.heap.size, 3, none⟩) (u := .slice D1 n E1) (Ints.offA (p := ⟨v0.heap.size, 2, none⟩) (u := .int .i64 mn) (Ints.offA (p := ⟨v0.heap.size, 1, none⟩) (u := .int .i64 a) (Ints.offA (p := ⟨v0.heap.size, 0, none⟩) (u := .int .u8 k) I2 ap2X) ap2X) ap2X) ap2X)
              replace hz := (Below.setCell (p := ⟨v0.heap.size, 3, none⟩) (Below.setCell (p := ⟨v0.heap.size, 2, none⟩) (Below.setCell (p := ⟨v0.heap.size, 1, none⟩) (Below.setCell (p := ⟨v0.heap.size, 0, none⟩) hz (by dsimp only; omega) (.int .u8 k)) (by dsimp only; omega) (.int .i64 a)) (by dsimp only; omega) (.int .i64 mn)) (by dsimp only; omega) (.slice D1 n E1))
              generalize ((((v36.setCell ⟨v0.heap.size, 0, none⟩ (.int .u8 k)).setCell ⟨v0.heap.size, 1, none⟩ (.int .i64 a)).setCell ⟨v0.heap.size, 2, none⟩ (.int .i64 mn)).setCell ⟨v0.heap.size, 3, none⟩ (.slice D1 n E1)) = v37 at *
              go_wp2_with fail
              refine hK.out _ _ ?_ (fun hHeld2 => ?_)
              · exact ⟨G.all4, G2.all4⟩
              clear hK K hHeld
              have hHeld := hHeld2
              clear hHeld2
              try simp only [Act.put, List.setIfInBounds_toArray, List.set_cons_zero, List.set_cons_succ]
              refine wpAnyH_ready (rs := [7]) (by kernel_rfl) (by simp) ?_
              refine AllReadyH.cons rfl (fun K hK => ?_) AllReadyH.nil
              ·
                obtain ⟨x0, x1, x2, x3⟩ := Y.all4
                have xf := Y.fr
                have xl := Y.lt
                go_simp
                clear x0 x1 x2 x3 xf xl
                replace B := ((((B.other (p := ⟨v30.heap.size, 0, none⟩) (by dsimp only; omega) (.int .u8 k2)).other (p := ⟨v30.heap.size, 1, none⟩) (by dsimp only; omega) (.int .i64 a2)).other (p := ⟨v30.heap.size, 2, none⟩) (by dsimp only; omega) (.int .i64 mn2)).other (p := ⟨v30.heap.size, 3, none⟩) (by dsimp only; omega) (.slice D2 n2 E2))
                replace G := ((((G.other (p := ⟨v30.heap.size, 0, none⟩) (by dsimp only; omega) (.int .u8 k2)).other (p := ⟨v30.heap.size, 1, none⟩) (by dsimp only; omega) (.int .i64 a2)).other (p := ⟨v30.heap.size, 2, none⟩) (by dsimp only; omega) (.int .i64 mn2)).other (p := ⟨v30.heap.size, 3, none⟩) (by dsimp only; omega) (.slice D2 n2 E2))
                replace G2 := ((((G2.other (p := ⟨v30.heap.size, 0, none⟩) (by dsimp only; omega) (.int .u8 k2)).other (p := ⟨v30.heap.size, 1, none⟩) (by dsimp only; omega) (.int .i64 a2)).other (p := ⟨v30.heap.size, 2, none⟩) (by dsimp only; omega) (.int .i64 mn2)).other (p := ⟨v30.heap.size, 3, none⟩) (by dsimp only; omega) (.slice D2 n2 E2))
                replace X := ((((X.other (p := ⟨v30.heap.size, 0, none⟩) (by dsimp only; omega) (.int .u8 k2)).other (p := ⟨v30.heap.size, 1, none⟩) (by dsimp only; omega) (.int .i64 a2)).other (p := ⟨v30.heap.size, 2, none⟩) (by dsimp only; omega) (.int .i64 mn2)).other (p := ⟨v30.heap.size, 3, none⟩) (by dsimp only; omega) (.slice D2 n2 E2))
                replace Y := ((((Y.put (i := 0) rfl (.int .u8 k2)).put (i := 1) rfl (.int .i64 a2)).put (i := 2) rfl (.int .i64 mn2)).put (i := 3) rfl (.slice D2 n2 E2))
                simp only [List.set_cons_zero, List.set_cons_succ] at Y
                replace I1 := (Ints.offA (p := ⟨v30.heap.size, 3, none⟩) (u := .slice D2 n2 E2) (Ints.offA (p := ⟨v30.heap.size, 2, none⟩) (u := .int .i64 mn2) (Ints.offA (p := ⟨v30.heap.size, 1, none⟩) (u := .int .i64 a2) (Ints.offA (p := ⟨v30.heap.size, 0, none⟩) (u := .int .u8 k2) I1 ap1Y) ap1Y) ap1Y) ap1Y)
                replace I2 := (Ints.offA (p := ⟨v30.heap.size, 3, none⟩) (u := .slice D2 n2 E2) (Ints.offA (p := ⟨v30.heap.size, 2, none⟩) (u := .int .i64 mn2) (Ints.offA (p := ⟨v30.heap.size, 1, none⟩) (u := .int .i64 a2) (Ints.offA (p := ⟨v30.heap.size, 0, none⟩) (u := .int .u8 k2) I2 ap2Y) ap2Y) ap2Y) ap2Y)
                replace hz := (Below.setCell (p := ⟨v30.heap.size, 3, none⟩) (Below.setCell (p := ⟨v30.heap.size, 2, none⟩) (Below.setCell (p := ⟨v30.heap.size, 1, none⟩) (Below.setCell (p := ⟨v30.heap.size, 0, none⟩) hz (by dsimp only; omega) (.int .u8 k2)) (by dsimp only; omega) (.int .i64 a2)) (by dsimp only; omega) (.int .i64 mn2)) (by dsimp only; omega) (.slice D2 n2 E2))
                generalize ((((v37.setCell ⟨v30.heap.size, 0, none⟩ (.int .u8 k2)).setCell ⟨v30.heap.size, 1, none⟩ (.int .i64 a2)).setCell ⟨v30.heap.size, 2, none⟩ (.int .i64 mn2)).setCell ⟨v30.heap.size, 3, none⟩ (.slice D2 n2 E2)) = v38 at *
                go_wp2_with fail
                refine hK.out _ _ ?_ (fun hHeld2 => ?_)
                · exact ⟨G.all4, G2.all4⟩
                clear hK K hHeld
                have hHeld := hHeld2
                clear hHeld2
                try simp only [Act.put, List.setIfInBounds_toArray, List.set_cons_zero, List.set_cons_succ]
                refine wpAnyH_done (by kernel_rfl) ?_ _
                go_wp2
                go_meet
                exact ⟨_, _, D1, E1, D2, E2, rfl, rfl, X, Y, I1, I2, B, G, G2, hw.trans (hz.mono hw.size)⟩
      ·
        go_simp
        have Y := CellsAt.new v29 [.int .u8 0, .int .i64 0, .int .i64 0, .slice none 0 0] 32
        have g : Below v29.heap.size v29 (v29.alloc (.cells #[.int .u8 0, .int .i64 0, .int .i64 0, .slice none 0 0] 32 (0, 0))) := (Below.refl _ _).alloc (Nat.le_refl _) _
        have hne : v0.heap.size < v29.heap.size := X.lt
        have hq : v0.heap.size ≤ v29.heap.size := hz.size
        replace B := B.below g (Nat.le_refl _)
        replace G := G.below g (Nat.le_refl _)
        replace G2 := G2.below g (Nat.le_refl _)
        replace X := X.below g (Nat.le_refl _)
        replace hz := hz.trans (g.mono hz.size)
        clear g
        generalize v29.alloc (.cells #[.int .u8 0, .int .i64 0, .int .i64 0, .slice none 0 0] 32 (0, 0)) = v39 at *
        go_wp2_with fail
        refine hK.out _ _ ?_ (fun hHeld2 => ?_)
        · exact ⟨G.all4, G2.all4⟩
        clear hK K hHeld
        have hHeld := hHeld2
        clear hHeld2
        try simp only [Act.put, List.setIfInBounds_toArray, List.set_cons_zero, List.set_cons_succ]
        refine wpAnyH_ready (rs := [1]) (by kernel_rfl) (by simp) ?_
        refine AllReadyH.cons rfl (fun K hK => ?_) AllReadyH.nil
        ·
          go_simp
          refine (t1 _ (J0.below hz (Nat.le_refl _))).mono ?_
          rintro e v40 ⟨D1, E1, rfl, I1, hl1, g⟩
          have ap1X : Apart D1 n v0.heap.size := apartOld hl1 X.lt
          have ap1Y : Apart D1 n v29.heap.size := apartOld hl1 Y.lt
          replace B := B.below g (Nat.le_refl _)
          replace G := G.below g (Nat.le_refl _)
          replace G2 := G2.below g (Nat.le_refl _)
          replace X := X.below g (Nat.le_refl _)
          replace Y := Y.below g (Nat.le_refl _)
          replace hz := hz.trans (g.mono hz.size)
          clear g
          go_wp2_with fail
          refine hK.out _ _ ?_ (fun hHeld2 => ?_)
          · exact ⟨G.all4, G2.all4⟩
          clear hK K hHeld
          have hHeld := hHeld2
          clear hHeld2
          try simp only [Act.put, List.setIfInBounds_toArray, List.set_cons_zero, List.set_cons_succ]
          refine wpAnyH_ready (rs := [3]) (by kernel_rfl) (by simp) ?_
          refine AllReadyH.cons rfl (fun K hK => ?_) AllReadyH.nil
          ·
            go_simp
            refine (t2 _ (J20.below hz (Nat.le_refl _))).mono ?_
            rintro e v41 ⟨D2, E2, rfl, I2, hl2, g⟩
            have ap2X : Apart D2 n2 v0.heap.size := apartOld hl2 X.lt
            have ap2Y : Apart D2 n2 v29.heap.size := apartOld hl2 Y.lt
            replace B := B.below g (Nat.le_refl _)
            replace G := G.below g (Nat.le_refl _)
            replace G2 := G2.below g (Nat.le_refl _)
            replace X := X.below g (Nat.le_refl _)
            replace Y := Y.below g (Nat.le_refl _)
            replace I1 := I1.below g (Nat.le_refl _)
            replace hz := hz.trans (g.mono hz.size)
            clear g
            go_wp2_with fail
            refine hK.out _ _ ?_ (fun hHeld2 => ?_)
            · exact ⟨G.all4, G2.all4⟩
            clear hK K hHeld
            have hHeld := hHeld2
            clear hHeld2
            try simp only [Act.put, List.setIfInBounds_toArray, List.set_cons_zero, List.set_cons_succ]
            refine wpAnyH_ready (rs := [6]) (by kernel_rfl) (by simp) ?_
            refine AllReadyH.cons rfl (fun K hK => ?_) AllReadyH.nil
            ·
              obtain ⟨x0, x1, x2, x3⟩ := X.all4
              have xf := X.fr
              have xl := X.lt
              go_simp
              clear x0 x1 x2 x3 xf xl
              replace B := ((((B.other (p := ⟨v0.heap.size, 0, none⟩) (by dsimp only; omega) (.int .u8 k)).other (p := ⟨v0.heap.size, 1, none⟩) (by dsimp only; omega) (.int .i64 a)).other (p := ⟨v0.heap.size, 2, none⟩) (by dsimp only; omega) (.int .i64 mn)).other (p := ⟨v0.heap.size, 3, none⟩) (by dsimp only; omega) (.slice D1 n E1))
              replace G := ((((G.other (p := ⟨v0.heap.size, 0, none⟩) (by dsimp only; omega) (.int .u8 k)).other (p := ⟨v0.heap.size, 1, none⟩) (by dsimp only; omega) (.int .i64 a)).other (p := ⟨v0.heap.size, 2, none⟩) (by dsimp only; omega) (.int .i64 mn)).other (p := ⟨v0.heap.size, 3, none⟩) (by dsimp only; omega) (.slice D1 n E1))
              replace G2 := ((((G2.other (p := ⟨v0.heap.size, 0, none⟩) (by dsimp only; omega) (.int .u8 k)).other (p := ⟨v0.heap.size, 1, none⟩) (by dsimp only; omega) (.int .i64 a)).other (p := ⟨v0.heap.size, 2, none⟩) (by dsimp only; omega) (.int .i64 mn)).other (p := ⟨v0.heap.size, 3, none⟩) (by dsimp only; omega) (.slice D1 n E1))
              replace Y := ((((Y.other (p := ⟨v0.heap.size, 0, none⟩) (by dsimp only; omega) (.int .u8 k)).other (p := ⟨v0.heap.size, 1, none⟩) (by dsimp only; omega) (.int .i64 a)).other (p := ⟨v0.heap.size, 2, none⟩) (by dsimp only; omega) (.int .i64 mn)).other (p := ⟨v0.heap.size, 3, none⟩) (by dsimp only; omega) (.slice D1 n E1))
              replace X := ((((X.put (i := 0) rfl (.int .u8 k)).put (i := 1) rfl (.int .i64 a)).put (i := 2) rfl (.int .i64 mn)).put (i := 3) rfl (.slice D1 n E1))
              simp only [List.set_cons_zero, List.set_cons_succ] at X
              replace I1 := (Ints.offA (p := ⟨v0.heap.size, 3, none⟩) (u := .slice D1 n E1) (Ints.offA (p := ⟨v0.heap.size, 2, none⟩) (u := .int .i64 mn) (Ints.offA (p := ⟨v0.heap.size, 1, none⟩) (u := .int .i64 a) (Ints.offA (p := ⟨v0.heap.size, 0, none⟩) (u := .int .u8 k) I1 ap1X) ap1X) ap1X) ap1X)
              replace I2 := (Ints.offA (p := ⟨v0.heap.size, 3, none⟩) (u := .slice D1 n E1) (Ints.offA (p := ⟨v0.heap.size, 2, none⟩) (u := .int .i64 mn) (Ints.offA (p := ⟨v0.heap.size, 1, none⟩) (u := .int .i64 a) (Ints.offA (p := ⟨v0.heap.size, 0, none⟩) (u := .int .u8 k) I2 ap2X) ap2X) ap2X) ap2X)
              replace hz := (Below.setCell (p := ⟨v0.heap.size, 3, none⟩) (Below.setCell (p := ⟨v0.heap.size, 2, none⟩) (Below.setCell (p := ⟨v0.heap.size, 1, none⟩) (Below.setCell (p := ⟨v0.heap.size, 0, none⟩) hz (by dsimp only; omega) (.int .u8 k)) (by dsimp only; omega) (.int .i64 a)) (by dsimp only; omega) (.int .i64 mn)) (by dsimp only; omega) (.slice D1 n E1))
              generalize ((((v41.setCell ⟨v0.heap.size, 0, none⟩ (.int .u8 k)).setCell ⟨v0.heap.size, 1, none⟩ (.int .i64 a)).setCell ⟨v0.heap.size, 2, none⟩ (.int .i64 mn)).setCell ⟨v0.heap.size, 3, none⟩ (.slice D1 n E1)) = v42 at *
              go_wp2_with fail
              refine hK.out _ _ ?_ (fun hHeld2 => ?_)
              · exact ⟨G.all4, G2.all4⟩
              clear hK K hHeld
              have hHeld := hHeld2
              clear hHeld2
              try simp only [Act.put, List.setIfInBounds_toArray, List.set_cons_zero, List.set_cons_succ]
              refine wpAnyH_ready (rs := [7]) (by kernel_rfl) (by simp) ?_
              refine AllReadyH.cons rfl (fun K hK => ?_) AllReadyH.nil
              ·
                obtain ⟨x0, x1, x2, x3⟩ := Y.all4
                have xf := Y.fr
                have xl := Y.lt
                go_simp
                clear x0 x1 x2 x3 xf xl
                replace B := ((((B.other (p := ⟨v29.heap.size, 0, none⟩) (by dsimp only; omega) (.int .u8 k2)).other (p := ⟨v29.heap.size, 1, none⟩) (by dsimp only; omega) (.int .i64 a2)).other (p := ⟨v29.heap.size, 2, none⟩) (by dsimp only; omega) (.int .i64 mn2)).other (p := ⟨v29.heap.size, 3, none⟩) (by dsimp only; omega) (.slice D2 n2 E2))
                replace G := ((((G.other (p := ⟨v29.heap.size, 0, none⟩) (by dsimp only; omega) (.int .u8 k2)).other (p := ⟨v29.heap.size, 1, none⟩) (by dsimp only; omega) (.int .i64 a2)).other (p := ⟨v29.heap.size, 2, none⟩) (by dsimp only; omega) (.int .i64 mn2)).other (p := ⟨v29.heap.size, 3, none⟩) (by dsimp only; omega) (.slice D2 n2 E2))
                replace G2 := ((((G2.other (p := ⟨v29.heap.size, 0, none⟩) (by dsimp only; omega) (.int .u8 k2)).other (p := ⟨v29.heap.size, 1, none⟩) (by dsimp only; omega) (.int .i64 a2)).other (p := ⟨v29.heap.size, 2, none⟩) (by dsimp only; omega) (.int .i64 mn2)).other (p := ⟨v29.heap.size, 3, none⟩) (by dsimp only; omega) (.slice D2 n2 E2))
                replace X := ((((X.other (p := ⟨v29.heap.size, 0, none⟩) (by dsimp only; omega) (.int .u8 k2)).other (p := ⟨v29.heap.size, 1, none⟩) (by dsimp only; omega) (.int .i64 a2)).other (p := ⟨v29.heap.size, 2, none⟩) (by dsimp only; omega) (.int .i64 mn2)).other (p := ⟨v29.heap.size, 3, none⟩) (by dsimp only; omega) (.slice D2 n2 E2))
                replace Y := ((((Y.put (i := 0) rfl (.int .u8 k2)).put (i := 1) rfl (.int .i64 a2)).put (i := 2) rfl (.int .i64 mn2)).put (i := 3) rfl (.slice D2 n2 E2))
                simp only [List.set_cons_zero, List.set_cons_succ] at Y
                replace I1 := (Ints.offA (p := ⟨v29.heap.size, 3, none⟩) (u := .slice D2 n2 E2) (Ints.offA (p := ⟨v29.heap.size, 2, none⟩) (u := .int .i64 mn2) (Ints.offA (p := ⟨v29.heap.size, 1, none⟩) (u := .int .i64 a2) (Ints.offA (p := ⟨v29.heap.size, 0, none⟩) (u := .int .u8 k2) I1 ap1Y) ap1Y) ap1Y) ap1Y)
                replace I2 := (Ints.offA (p := ⟨v29.heap.size, 3, none⟩) (u := .slice D2 n2 E2) (Ints.offA (p := ⟨v29.heap.size, 2, none⟩) (u := .int .i64 mn2) (Ints.offA (p := ⟨v29.heap.size, 1, none⟩) (u := .int .i64 a2) (Ints.offA (p := ⟨v29.heap.size, 0, none⟩) (u := .int .u8 k2) I2 ap2Y) ap2Y) ap2Y) ap2Y)
                replace hz := (Below.setCell (p := ⟨v29.heap.size, 3, none⟩) (Below.setCell (p := ⟨v29.heap.size, 2, none⟩) (Below.setCell (p := ⟨v29.heap.size, 1, none⟩) (Below.setCell (p := ⟨v29.heap.size, 0, none⟩) hz (by dsimp only; omega) (.int .u8 k2)) (by dsimp only; omega) (.int .i64 a2)) (by dsimp only; omega) (.int .i64 mn2)) (by dsimp only; omega) (.slice D2 n2 E2))
                generalize ((((v42.setCell ⟨v29.heap.size, 0, none⟩ (.int .u8 k2)).setCell ⟨v29.heap.size, 1, none⟩ (.int .i64 a2)).setCell ⟨v29.heap.size, 2, none⟩ (.int .i64 mn2)).setCell ⟨v29.heap.size, 3, none⟩ (.slice D2 n2 E2)) = v43 at *
                go_wp2_with fail
                refine hK.out _ _ ?_ (fun hHeld2 => ?_)
                · exact ⟨G.all4, G2.all4⟩
                clear hK K hHeld
                have hHeld := hHeld2
                clear hHeld2
                try simp only [Act.put, List.setIfInBounds_toArray, List.set_cons_zero, List.set_cons_succ]
                refine wpAnyH_done (by kernel_rfl) ?_ _
                go_wp2
                go_meet
                exact ⟨_, _, D1, E1, D2, E2, rfl, rfl, X, Y, I1, I2, B, G, G2, hw.trans (hz.mono hw.size)⟩
    ·
      go_simp
      have Y := CellsAt.new v0 [.int .u8 0, .int .i64 0, .int .i64 0, .slice none 0 0] 32
      have g : Below v0.heap.size v0 (v0.alloc (.cells #[.int .u8 0, .int .i64 0, .int .i64 0, .slice none 0 0] 32 (0, 0))) := (Below.refl _ _).alloc (Nat.le_refl _) _
      have hq : v0.heap.size ≤ v0.heap.size := hz.size
      replace B := B.below g (Nat.le_refl _)
      replace G := G.below g (Nat.le_refl _)
      replace G2 := G2.below g (Nat.le_refl _)
      replace hz := hz.trans (g.mono hz.size)
      clear g
      generalize v0.alloc (.cells #[.int .u8 0, .int .i64 0, .int .i64 0, .slice none 0 0] 32 (0, 0)) = v44 at *
      go_wp2_with fail
      refine hK.out _ _ ?_ (fun hHeld2 => ?_)
      · exact ⟨G.all4, G2.all4⟩
      clear hK K hHeld
      have hHeld := hHeld2
      clear hHeld2
      try simp only [Act.put, List.setIfInBounds_toArray, List.set_cons_zero, List.set_cons_succ]
      refine wpAnyH_ready (rs := [1, 4]) (by kernel_rfl) (by simp) ?_
      refine AllReadyH.cons rfl (fun K hK => ?_) (AllReadyH.cons rfl (fun K hK => ?_) AllReadyH.nil)
      ·
        go_simp
        refine (t1 _ (J0.below hz (Nat.le_refl _))).mono ?_
        rintro e v45 ⟨D1, E1, rfl, I1, hl1, g⟩
        have ap1Y : Apart D1 n v0.heap.size := apartOld hl1 Y.lt
        replace B := B.below g (Nat.le_refl _)
        replace G := G.below g (Nat.le_refl _)
        replace G2 := G2.below g (Nat.le_refl _)
        replace Y := Y.below g (Nat.le_refl _)
        replace hz := hz.trans (g.mono hz.size)
        clear g
        go_wp2_with fail
        refine hK.out _ _ ?_ (fun hHeld2 => ?_)
        · exact ⟨G.all4, G2.all4⟩
        clear hK K hHeld
        have hHeld := hHeld2
        clear hHeld2
        try simp only [Act.put, List.setIfInBounds_toArray, List.set_cons_zero, List.set_cons_succ]
        refine wpAnyH_ready (rs := [3, 4]) (by kernel_rfl) (by simp) ?_
        refine AllReadyH.cons rfl (fun K hK => ?_) (AllReadyH.cons rfl (fun K hK => ?_) AllReadyH.nil)
        ·
          go_simp
          refine (t2 _ (J20.below hz (Nat.le_refl _))).mono ?_
          rintro e v46 ⟨D2, E2, rfl, I2, hl2, g⟩
          have ap2Y : Apart D2 n2 v0.heap.size := apartOld hl2 Y.lt
          replace B := B.below g (Nat.le_refl _)
          replace G := G.below g (Nat.le_refl _)
          replace G2 := G2.below g (Nat.le_refl _)
          replace Y := Y.below g (Nat.le_refl _)
          replace I1 := I1.below g (Nat.le_refl _)
          replace hz := hz.trans (g.mono hz.size)
          clear g
          go_wp2_with fail
          refine hK.out _ _ ?_ (fun hHeld2 => ?_)
          · exact ⟨G.all4, G2.all4⟩
          clear hK K hHeld
          have hHeld := hHeld2
          clear hHeld2
          try simp only [Act.put, List.setIfInBounds_toArray, List.set_cons_zero, List.set_cons_succ]
          refine wpAnyH_ready (rs := [4]) (by kernel_rfl) (by simp) ?_
          refine AllReadyH.cons rfl (fun K hK => ?_) AllReadyH.nil
          ·
            go_simp
            have X := CellsAt.new v46 [.int .u8 0, .int .i64 0, .int .i64 0, .slice none 0 0] 32
            have g : Below v46.heap.size v46 (v46.alloc (.cells #[.int .u8 0, .int .i64 0, .int .i64 0, .slice none 0 0] 32 (0, 0))) := (Below.refl _ _).alloc (Nat.le_refl _) _
            have ap1X : Apart D1 n v46.heap.size := I1.apartNew
            have ap2X : Apart D2 n2 v46.heap.size := I2.apartNew
            have hne : v0.heap.size < v46.heap.size := Y.lt
            have hp : v0.heap.size ≤ v46.heap.size := hz.size
            replace B := B.below g (Nat.le_refl _)
            replace G := G.below g (Nat.le_refl _)
            replace G2 := G2.below g (Nat.le_refl _)
            replace Y := Y.below g (Nat.le_refl _)
            replace I1 := I1.below g (Nat.le_refl _)
            replace I2 := I2.below g (Nat.le_refl _)
            replace hz := hz.trans (g.mono hz.size)
            clear g
            generalize v46.alloc (.cells #[.int .u8 0, .int .i64 0, .int .i64 0, .slice none 0 0] 32 (0, 0)) = v47 at *
            go_wp2_with fail
            refine hK.out _ _ ?_ (fun hHeld2 => ?_)
            · exact ⟨G.all4, G2.all4⟩
            clear hK K hHeld
            have hHeld := hHeld2
            clear hHeld2
            try simp only [Act.put, List.setIfInBounds_toArray, List.set_cons_zero, List.set_cons_succ]
            refine wpAnyH_ready (rs := [6]) (by kernel_rfl) (by simp) ?_
            refine AllReadyH.cons rfl (fun K hK => ?_) AllReadyH.nil
            ·
              obtain ⟨x0, x1, x2, x3⟩ := X.all4
              have xf := X.fr
              have xl := X.lt
              go_simp
              clear x0 x1 x2 x3 xf xl
              replace B := ((((B.other (p := ⟨v46.heap.size, 0, none⟩) (by dsimp only; omega) (.int .u8 k)).other (p := ⟨v46.heap.size, 1, none⟩) (by dsimp only; omega) (.int .i64 a)).other (p := ⟨v46.heap.size, 2, none⟩) (by dsimp only; omega) (.int .i64 mn)).other (p := ⟨v46.heap.size, 3, none⟩) (by dsimp only; omega) (.slice D1 n E1))
              replace G := ((((G.other (p := ⟨v46.heap.size, 0, none⟩) (by dsimp only; omega) (.int .u8 k)).other (p := ⟨v46.heap.size, 1, none⟩) (by dsimp only; omega) (.int .i64 a)).other (p := ⟨v46.heap.size, 2, none⟩) (by dsimp only; omega) (.int .i64 mn)).other (p := ⟨v46.heap.size, 3, none⟩) (by dsimp only; omega) (.slice D1 n E1))
              replace G2 := ((((G2.other (p := ⟨v46.heap.size, 0, none⟩) (by dsimp only; omega) (.int .u8 k)).other (p := ⟨v46.heap.size, 1, none⟩) (by dsimp only; omega) (.int .i64 a)).other (p := ⟨v46.heap.size, 2, none⟩) (by dsimp only; omega) (.int .i64 mn)).other (p := ⟨v46.heap.size, 3, none⟩) (by dsimp only; omega) (.slice D1 n E1))
              replace Y := ((((Y.other (p := ⟨v46.heap.size, 0, none⟩) (by dsimp only; omega) (.int .u8 k)).other (p := ⟨v46.heap.size, 1, none⟩) (by dsimp only; omega) (.int .i64 a)).other (p := ⟨v46.heap.size, 2, none⟩) (by dsimp only; omega) (.int .i64 mn)).other (p := ⟨v46.heap.size, 3, none⟩) (by dsimp only; omega) (.slice D1 n E1))
              replace X := ((((X.put (i := 0) rfl (.int .u8 k)).put (i := 1) rfl (.int .i64 a)).put (i := 2) rfl (.int .i64 mn)).put (i := 3) rfl (.slice D1 n E1))
              simp only [List.set_cons_zero, List.set_cons_succ] at X
              replace I1 := (Ints.offA (p := ⟨v46.heap.size, 3, none⟩) (u := .slice D1 n E1) (Ints.offA (p := ⟨v46.heap.size, 2, none⟩) (u := .int .i64 mn) (Ints.offA (p := ⟨v46.heap.size, 1, none⟩) (u := .int .i64 a) (Ints.offA (p := ⟨v46.heap.size, 0, none⟩) (u := .int .u8 k) I1 ap1X) ap1X) ap1X) ap1X)
              replace I2 := (Ints.offA (p := ⟨v46.heap.size, 3, none⟩) (u := .slice D1 n E1) (Ints.offA (p := ⟨v46.heap.size, 2, none⟩) (u := .int .i64 mn) (Ints.offA (p := ⟨v46.heap.size, 1, none⟩) (u := .int .i64 a) (Ints.offA (p := ⟨v46.heap.size, 0, none⟩) (u := .int .u8 k) I2 ap2X) ap2X) ap2X) ap2X)
              replace hz := (Below.setCell (p := ⟨v46.heap.size, 3, none⟩) (Below.setCell (p := ⟨v46.heap.size, 2, none⟩) (Below.setCell (p := ⟨v46.heap.size, 1, none⟩) (Below.setCell (p := ⟨v46.heap.size, 0, none⟩) hz (by dsimp only; omega) (.int .u8 k)) (by dsimp only; omega) (.int .i64 a)) (by dsimp only; omega) (.int .i64 mn)) (by dsimp only; omega) (.slice D1 n E1))
              generalize ((((v47.setCell ⟨v46.heap.size, 0, none⟩ (.int .u8 k)).setCell ⟨v46.heap.size, 1, none⟩ (.int .i64 a)).setCell ⟨v46.heap.size, 2, none⟩ (.int .i64 mn)).setCell ⟨v46.heap.size, 3, none⟩ (.slice D1 n E1)) = v48 at *
              go_wp2_with fail
              refine hK.out _ _ ?_ (fun hHeld2 => ?_)
              · exact ⟨G.all4, G2.all4⟩
              clear hK K hHeld
              have hHeld := hHeld2
              clear hHeld2
              try simp only [Act.put, List.setIfInBounds_toArray, List.set_cons_zero, List.set_cons_succ]
              refine wpAnyH_ready (rs := [7]) (by kernel_rfl) (by simp) ?_
              refine AllReadyH.cons rfl (fun K hK => ?_) AllReadyH.nil
              ·
                obtain ⟨x0, x1, x2, x3⟩ := Y.all4
                have xf := Y.fr
                have xl := Y.lt
                go_simp
                clear x0 x1 x2 x3 xf xl
                replace B := ((((B.other (p := ⟨v0.heap.size, 0, none⟩) (by dsimp only; omega) (.int .u8 k2)).other (p := ⟨v0.heap.size, 1, none⟩) (by dsimp only; omega) (.int .i64 a2)).other (p := ⟨v0.heap.size, 2, none⟩) (by dsimp only; omega) (.int .i64 mn2)).other (p := ⟨v0.heap.size, 3, none⟩) (by dsimp only; omega) (.slice D2 n2 E2))
                replace G := ((((G.other (p := ⟨v0.heap.size, 0, none⟩) (by dsimp only; omega) (.int .u8 k2)).other (p := ⟨v0.heap.size, 1, none⟩) (by dsimp only; omega) (.int .i64 a2)).other (p := ⟨v0.heap.size, 2, none⟩) (by dsimp only; omega) (.int .i64 mn2)).other (p := ⟨v0.heap.size, 3, none⟩) (by dsimp only; omega) (.slice D2 n2 E2))
                replace G2 := ((((G2.other (p := ⟨v0.heap.size, 0, none⟩) (by dsimp only; omega) (.int .u8 k2)).other (p := ⟨v0.heap.size, 1, none⟩) (by dsimp only; omega) (.int .i64 a2)).other (p := ⟨v0.heap.size, 2, none⟩) (by dsimp only; omega) (.int .i64 mn2)).other (p := ⟨v0.heap.size, 3, none⟩) (by dsimp only; omega) (.slice D2 n2 E2))
                replace X := ((((X.other (p := ⟨v0.heap.size, 0, none⟩) (by dsimp only; omega) (.int .u8 k2)).other (p := ⟨v0.heap.size, 1, none⟩) (by dsimp only; omega) (.int .i64 a2)).other (p := ⟨v0.heap.size, 2, none⟩) (by dsimp only; omega) (.int .i64 mn2)).other (p := ⟨v0.heap.size, 3, none⟩) (by dsimp only; omega) (.slice D2 n2 E2))
                replace Y := ((((Y.put (i := 0) rfl (.int .u8 k2)).put (i := 1) rfl (.int .i64 a2)).put (i := 2) rfl (.int .i64 mn2)).put (i := 3) rfl (.slice D2 n2 E2))
                simp only [List.set_cons_zero, List.set_cons_succ] at Y
                replace I1 := (Ints.offA (p := ⟨v0.heap.size, 3, none⟩) (u := .slice D2 n2 E2) (Ints.offA (p := ⟨v0.heap.size, 2, none⟩) (u := .int .i64 mn2) (Ints.offA (p := ⟨v0.heap.size, 1, none⟩) (u := .int .i64 a2) (Ints.offA (p := ⟨v0.heap.size, 0, none⟩) (u := .int .u8 k2) I1 ap1Y) ap1Y) ap1Y) ap1Y)
                replace I2 := (Ints.offA (p := ⟨v0.heap.size, 3, none⟩) (u := .slice D2 n2 E2) (Ints.offA (p := ⟨v0.heap.size, 2, none⟩) (u := .int .i64 mn2) (Ints.offA (p := ⟨v0.heap.size, 1, none⟩) (u := .int .i64 a2) (Ints.offA (p := ⟨v0.heap.size, 0, none⟩) (u := .int .u8 k2) I2 ap2Y) ap2Y) ap2Y) ap2Y)
                replace hz := (Below.setCell (p := ⟨v0.heap.size, 3, none⟩) (Below.setCell (p := ⟨v0.heap.size, 2, none⟩) (Below.setCell (p := ⟨v0.heap.size, 1, none⟩) (Below.setCell (p := ⟨v0.heap.size, 0, none⟩) hz (by dsimp only; omega) (.int .u8 k2)) (by dsimp only; omega) (.int .i64 a2)) (by dsimp only; omega) (.int .i64 mn2)) (by dsimp only; omega) (.slice D2 n2 E2))
                generalize ((((v48.setCell ⟨v0.heap.size, 0, none⟩ (.int .u8 k2)).setCell ⟨v0.heap.size, 1, none⟩ (.int .i64 a2)).setCell ⟨v0.heap.size, 2, none⟩ (.int .i64 mn2)).setCell ⟨v0.heap.size, 3, none⟩ (.slice D2 n2 E2)) = v49 at *
                go_wp2_with fail
                refine hK.out _ _ ?_ (fun hHeld2 => ?_)
                · exact ⟨G.all4, G2.all4⟩
                clear hK K hHeld
                have hHeld := hHeld2
                clear hHeld2
                try simp only [Act.put, List.setIfInBounds_toArray, List.set_cons_zero, List.set_cons_succ]
                refine wpAnyH_done (by kernel_rfl) ?_ _
                go_wp2
                go_meet
                exact ⟨_, _, D1, E1, D2, E2, rfl, rfl, X, Y, I1, I2, B, G, G2, hw.trans (hz.mono hw.size)⟩
        ·
          go_simp
          have X := CellsAt.new v45 [.int .u8 0, .int .i64 0, .int .i64 0, .slice none 0 0] 32
          have g : Below v45.heap.size v45 (v45.alloc (.cells #[.int .u8 0, .int .i64 0, .int .i64 0, .slice none 0 0] 32 (0, 0))) := (Below.refl _ _).alloc (Nat.le_refl _) _
          have ap1X : Apart D1 n v45.heap.size := I1.apartNew
          have hne : v0.heap.size < v45.heap.size := Y.lt
          have hp : v0.heap.size ≤ v45.heap.size := hz.size
          replace B := B.below g (Nat.le_refl _)
          replace G := G.below g (Nat.le_refl _)
          replace G2 := G2.below g (Nat.le_refl _)
          replace Y := Y.below g (Nat.le_refl _)
          replace I1 := I1.below g (Nat.le_refl _)
          replace hz := hz.trans (g.mono hz.size)
          clear g
          generalize v45.alloc (.cells #[.int .u8 0, .int .i64 0, .int .i64 0, .slice none 0 0] 32 (0, 0)) = v50 at *
          go_wp2_with fail
          refine hK.out _ _ ?_ (fun hHeld2 => ?_)
          · exact ⟨G.all4, G2.all4⟩
          clear hK K hHeld
          have hHeld := hHeld2
          clear hHeld2
          try simp only [Act.put, List.setIfInBounds_toArray, List.set_cons_zero, List.set_cons_succ]
          refine wpAnyH_ready (rs := [3]) (by kernel_rfl) (by simp) ?_
          refine AllReadyH.cons rfl (fun K hK => ?_) AllReadyH.nil
          ·
            go_simp
            refine (t2 _ (J20.below hz (Nat.le_refl _))).mono ?_
            rintro e v51 ⟨D2, E2, rfl, I2, hl2, g⟩
            have ap2X : Apart D2 n2 v45.heap.size := apartOld hl2 X.lt
            have ap2Y : Apart D2 n2 v0.heap.size := apartOld hl2 Y.lt
            replace B := B.below g (Nat.le_refl _)
            replace G := G.below g (Nat.le_refl _)
            replace G2 := G2.below g (Nat.le_refl _)
            replace X := X.below g (Nat.le_refl _)
            replace Y := Y.below g (Nat.le_refl _)
            replace I1 := I1.below g (Nat.le_refl _)
            replace hz := hz.trans (g.mono hz.size)
            clear g
            go_wp2_with fail
            refine hK.out _ _ ?_ (fun hHeld2 => ?_)
            · exact ⟨G.all4, G2.all4⟩
            clear hK K hHeld
            have hHeld := hHeld2
            clear hHeld2
            try simp only [Act.put, List.setIfInBounds_toArray, List.set_cons_zero, List.set_cons_succ]
            refine wpAnyH_ready (rs := [6]) (by kernel_rfl) (by simp) ?_
            refine AllReadyH.cons rfl (fun K hK => ?_) AllReadyH.nil
            ·
              obtain ⟨x0, x1, x2, x3⟩ := X.all4
              have xf := X.fr
              have xl := X.lt
              go_simp
              clear x0 x1 x2 x3 xf xl
              replace B := ((((B.other (p := ⟨v45.heap.size, 0, none⟩) (by dsimp only; omega) (.int .u8 k)).other (p := ⟨v45.heap.size, 1, none⟩) (by dsimp only; omega) (.int .i64 a)).other (p := ⟨v45.heap.size, 2, none⟩) (by dsimp only; omega) (.int .i64 mn)).other (p := ⟨v45.heap.size, 3, none⟩) (by dsimp only; omega) (.slice D1 n E1))
              replace G := ((((G.other (p := ⟨v45.heap.size, 0, none⟩) (by dsimp only; omega) (.int .u8 k)).other (p := ⟨v45.heap.size, 1, none⟩) (by dsimp only; omega) (.int .i64 a)).other (p := ⟨v45.heap.size, 2, none⟩) (by dsimp only; omega) (.int .i64 mn)).other (p := ⟨v45.heap.size, 3, none⟩) (by dsimp only; omega) (.slice D1 n E1))
              replace G2 := ((((G2.other (p := ⟨v45.heap.size, 0, none⟩) (by dsimp only; omega) (.int .u8 k)).other (p := ⟨v45.heap.size, 1, none⟩) (by dsimp only; omega) (.int .i64 a)).other (p := ⟨v45.heap.size, 2, none⟩) (by dsimp only; omega) (.int .i64 mn)).other (p := ⟨v45.heap.size, 3, none⟩) (by dsimp only; omega) (.slice D1 n E1))
              replace Y := ((((Y.other (p := ⟨v45.heap.size, 0, none⟩) (by dsimp only; omega) (.int .u8 k)).other (p := ⟨v45.heap.size, 1, none⟩) (by dsimp only; omega) (.int .i64 a)).other (p := ⟨v45.heap.size, 2, none⟩) (by dsimp only; omega) (.int .i64 mn)).other (p := ⟨v45.heap.size, 3, none⟩) (by dsimp only; omega) (.slice D1 n E1))
              replace X := ((((X.put (i := 0) rfl (.int .u8 k)).put (i := 1) rfl (.int .i64 a)).put (i := 2) rfl (.int .i64 mn)).put (i := 3) rfl (.slice D1 n E1))
              simp only [List.set_cons_zero, List.set_cons_succ] at X
              replace I1 := (Ints.offA (p := ⟨v45.heap.size, 3, none⟩) (u := .slice D1 n E1) (Ints.offA (p := ⟨v45.heap.size, 2, none⟩) (u := .int .i64 mn) (Ints.offA (p := ⟨v45.heap.size, 1, none⟩) (u := .int .i64 a) (Ints.offA (p := ⟨v45.heap.size, 0, none⟩) (u := .int .u8 k) I1 ap1X) ap1X) ap1X) ap1X)
              replace I2 := (Ints.offA (p := ⟨v45.heap.size, 3, none⟩) (u := .slice D1 n E1) (Ints.offA (p := ⟨v45.heap.size, 2, none⟩) (u := .int .i64 mn) (Ints.offA (p := ⟨v45.heap.size, 1, none⟩) (u := .int .i64 a) (Ints.offA (p := ⟨v45.heap.size, 0, none⟩) (u := .int .u8 k) I2 ap2X) ap2X) ap2X) ap2X)
              replace hz := (Below.setCell (p := ⟨v45.heap.size, 3, none⟩) (Below.setCell (p := ⟨v45.heap.size, 2, none⟩) (Below.setCell (p := ⟨v45.heap.size, 1, none⟩) (Below.setCell (p := ⟨v45.heap.size, 0, none⟩) hz (by dsimp only; omega) (.int .u8 k)) (by dsimp only; omega) (.int .i64 a)) (by dsimp only; omega) (.int .i64 mn)) (by dsimp only; omega) (.slice D1 n E1))
              generalize ((((v51.setCell ⟨v45.heap.size, 0, none⟩ (.int .u8 k)).setCell ⟨v45.heap.size, 1, none⟩ (.int .i64 a)).setCell ⟨v45.heap.size, 2, none⟩ (.int .i64 mn)).setCell ⟨v45.heap.size, 3, none⟩ (.slice D1 n E1)) = v52 at *
              go_wp2_with fail
              refine hK.out _ _ ?_ (fun hHeld2 => ?_)
              · exact ⟨G.all4, G2.all4⟩
              clear hK K hHeld
              have hHeld := hHeld2
              clear hHeld2
              try simp only [Act.put, List.setIfInBounds_toArray, List.set_cons_zero, List.set_cons_succ]
              refine wpAnyH_ready (rs := [7]) (by kernel_rfl) (by simp) ?_
              refine AllReadyH.cons rfl (fun K hK => ?_) AllReadyH.nil
              ·
                obtain ⟨x0, x1, x2, x3⟩ := Y.all4
                have xf := Y.fr
                have xl := Y.lt
                go_simp
                clear x0 x1 x2 x3 xf xl
                replace B := ((((B.other (p := ⟨v0.heap.size, 0, none⟩) (by dsimp only; omega) (.int .u8 k2)).other (p := ⟨v0.heap.size, 1, none⟩) (by dsimp only; omega) (.int .i64 a2)).other (p := ⟨v0.heap.size, 2, none⟩) (by dsimp only; omega) (.int .i64 mn2)).other (p := ⟨v0.heap.size, 3, none⟩) (by dsimp only; omega) (.slice D2 n2 E2))
                replace G := ((((G.other (p := ⟨v0.heap.size, 0, none⟩) (by dsimp only; omega) (.int .u8 k2)).other (p := ⟨v0.heap.size, 1, none⟩) (by dsimp only; omega) (.int .i64 a2)).other (p := ⟨v0.heap.size, 2, none⟩) (by dsimp only; omega) (.int .i64 mn2)).other (p := ⟨v0.heap.size, 3, none⟩) (by dsimp only; omega) (.slice D2 n2 E2))
                replace G2 := ((((G2.other (p := ⟨v0.heap.size, 0, none⟩) (by dsimp only; omega) (.int .u8 k2)).other (p := ⟨v0.heap.size, 1, none⟩) (by dsimp only; omega) (.int .i64 a2)).other (p := ⟨v0.heap.size, 2, none⟩) (by dsimp only; omega) (.int .i64 mn2)).other (p := ⟨v0.heap.size, 3, none⟩) (by dsimp only; omega) (.slice D2 n2 E2))
                replace X := ((((X.other (p := ⟨v0.heap.size, 0, none⟩) (by dsimp only; omega) (.int .u8 k2)).other (p := ⟨v0.heap.size, 1, none⟩) (by dsimp only; omega) (.int .i64 a2)).other (p := ⟨v0.heap.size, 2, none⟩) (by dsimp only; omega) (.int .i64 mn2)).other (p := ⟨v0.heap.size, 3, none⟩) (by dsimp only; omega) (.slice D2 n2 E2))
                replace Y := ((((Y.put (i := 0) rfl (.int .u8 k2)).put (i := 1) rfl (.int .i64 a2)).put (i := 2) rfl (.int .i64 mn2)).put (i := 3) rfl (.slice D2 n2 E2))
                simp only [List.set_cons_zero, List.set_cons_succ] at Y
                replace I1 := (Ints.offA (p := ⟨v0.heap.size, 3, none⟩) (u := .slice D2 n2 E2) (Ints.offA (p := ⟨v0.heap.size, 2, none⟩) (u := .int .i64 mn2) (Ints.offA (p := ⟨v0.heap.size, 1, none⟩) (u := .int .i64 a2) (Ints.offA (p := ⟨v0.heap.size, 0, none⟩) (u := .int .u8 k2) I1 ap1Y) ap1Y) ap1Y) ap1Y)
                replace I2 := (Ints.offA (p := ⟨v0.heap.size, 3, none⟩) (u := .slice D2 n2 E2) (Ints.offA (p := ⟨v0.heap.size, 2, none⟩) (u := .int .i64 mn2) (Ints.offA (p := ⟨v0.heap.size, 1, none⟩) (u := .int .i64 a2) (Ints.offA (p := ⟨v0.heap.size, 0, none⟩) (u := .int .u8 k2) I2 ap2Y) ap2Y) ap2Y) ap2Y)
                replace hz := (Below.setCell (p := ⟨v0.heap.size, 3, none⟩) (Below.setCell (p := ⟨v0.heap.size, 2, none⟩) (Below.setCell (p := ⟨v0.heap.size, 1, none⟩) (Below.setCell (p := ⟨v0.heap.size, 0, none⟩) hz (by dsimp only; omega) (.int .u8 k2)) (by dsimp only; omega) (.int .i64 a2)) (by dsimp only; omega) (.int .i64 mn2)) (by dsimp only; omega) (.slice D2 n2 E2))
                generalize ((((v52.setCell ⟨v0.heap.size, 0, none⟩ (.int .u8 k2)).setCell ⟨v0.heap.size, 1, none⟩ (.int .i64 a2)).setCell ⟨v0.heap.size, 2, none⟩ (.int .i64 mn2)).setCell ⟨v0.heap.size, 3, none⟩ (.slice D2 n2 E2)) = v53 at *
                go_wp2_with fail
                refine hK.out _ _ ?_ (fun hHeld2 => ?_)
                · exact ⟨G.all4, G2.all4⟩
                clear hK K hHeld
                have hHeld := hHeld2
                clear hHeld2
                try simp only [Act.put, List.setIfInBounds_toArray, List.set_cons_zero, List.set_cons_succ]
                refine wpAnyH_done (by kernel_rfl) ?_ _
                go_wp2
                go_meet
                exact ⟨_, _, D1, E1, D2, E2, rfl, rfl, X, Y, I1, I2, B, G, G2, hw.trans (hz.mono hw.size)⟩
      ·
        go_simp
        have X := CellsAt.new v44 [.int .u8 0, .int .i64 0, .int .i64 0, .slice none 0 0] 32
        have g : Below v44.heap.size v44 (v44.alloc (.cells #[.int .u8 0, .int .i64 0, .int .i64 0, .slice none 0 0] 32 (0, 0))) := (Below.refl _ _).alloc (Nat.le_refl _) _
        have hne : v0.heap.size < v44.heap.size := Y.lt
        have hp : v0.heap.size ≤ v44.heap.size := hz.size
        replace B := B.below g (Nat.le_refl _)
        replace G := G.below g (Nat.le_refl _)
        replace G2 := G2.below g (Nat.le_refl _)
        replace Y := Y.below g (Nat.le_refl _)
        replace hz := hz.trans (g.mono hz.size)
        clear g
        generalize v44.alloc (.cells #[.int .u8 0, .int .i64 0, .int .i64 0, .slice none 0 0] 32 (0, 0)) = v54 at *
        go_wp2_with fail
        refine hK.out _ _ ?_ (fun hHeld2 => ?_)
        · exact ⟨G.all4, G2.all4⟩
        clear hK K hHeld
        have hHeld := hHeld2
        clear hHeld2
        try simp only [Act.put, List.setIfInBounds_toArray, List.set_cons_zero, List.set_cons_succ]
        refine wpAnyH_ready (rs := [1]) (by kernel_rfl) (by simp) ?_
        refine AllReadyH.cons rfl (fun K hK => ?_) AllReadyH.nil
        ·
          go_simp
          refine (t1 _ (J0.below hz (Nat.le_refl _))).mono ?_
          rintro e v55 ⟨D1, E1, rfl, I1, hl1, g⟩
          have ap1X : Apart D1 n v44.heap.size := apartOld hl1 X.lt
          have ap1Y : Apart D1 n v0.heap.size := apartOld hl1 Y.lt
          replace B := B.below g (Nat.le_refl _)
          replace G := G.below g (Nat.le_refl _)
          replace G2 := G2.below g (Nat.le_refl _)
          replace X := X.below g (Nat.le_refl _)
          replace Y := Y.below g (Nat.le_refl _)
          replace hz := hz.trans (g.mono hz.size)
          clear g
          go_wp2_with fail
          refine hK.out _ _ ?_ (fun hHeld2 => ?_)
          · exact ⟨G.all4, G2.all4⟩
          clear hK K hHeld
          have hHeld := hHeld2
          clear hHeld2
          try simp only [Act.put, List.setIfInBounds_toArray, List.set_cons_zero, List.set_cons_succ]
          refine wpAnyH_ready (rs := [3]) (by kernel_rfl) (by simp) ?_
          refine AllReadyH.cons rfl (fun K hK => ?_) AllReadyH.nil
          ·
            go_simp
            refine (t2 _ (J20.below hz (Nat.le_refl _))).mono ?_
            rintro e v56 ⟨D2, E2, rfl, I2, hl2, g⟩
            have ap2X : Apart D2 n2 v44.heap.size := apartOld hl2 X.lt
            have ap2Y : Apart D2 n2 v0.heap.size := apartOld hl2 Y.lt
            replace B := B.below g (Nat.le_refl _)
            replace G := G.below g (Nat.le_refl _)
            replace G2 := G2.below g (Nat.le_refl _)
            replace X := X.below g (Nat.le_refl _)
            replace Y := Y.below g (Nat.le_refl _)
            replace I1 := I1.below g (Nat.le_refl _)
            replace hz := hz.trans (g.mono hz.size)
            clear g
            go_wp2_with fail
            refine hK.out _ _ ?_ (fun hHeld2 => ?_)
            · exact ⟨G.all4, G2.all4⟩
            clear hK K hHeld
            have hHeld := hHeld2
            clear hHeld2
            try simp only [Act.put, List.setIfInBounds_toArray, List.set_cons_zero, List.set_cons_succ]
            refine wpAnyH_ready (rs := [6]) (by kernel_rfl) (by simp) ?_
            refine AllReadyH.cons rfl (fun K hK => ?_) AllReadyH.nil
            ·
              obtain ⟨x0, x1, x2, x3⟩ := X.all4
              have xf := X.fr
              have xl := X.lt
              go_simp
              clear x0 x1 x2 x3 xf xl
              replace B := ((((B.other (p := ⟨v44.heap.size, 0, none⟩) (by dsimp only; omega) (.int .u8 k)).other (p := ⟨v44.heap.size, 1, none⟩) (by dsimp only; omega) (.int .i64 a)).other (p := ⟨v44.heap.size, 2, none⟩) (by dsimp only; omega) (.int .i64 mn)).other (p := ⟨v44.heap.size, 3, none⟩) (by dsimp only; omega) (.slice D1 n E1))
              replace G := ((((G.other (p := ⟨v44.heap.size, 0, none⟩) (by dsimp only; omega) (.int .u8 k)).other (p := ⟨v44.heap.size, 1, none⟩) (by dsimp only; omega) (.int .i64 a)).other (p := ⟨v44.heap.size, 2, none⟩) (by dsimp only; omega) (.int .i64 mn)).other (p := ⟨v44.heap.size, 3, none⟩) (by dsimp only; omega) (.slice D1 n E1))
              replace G2 := ((((G2.other (p := ⟨v44.heap.size, 0, none⟩) (by dsimp only; omega) (.int .u8 k)).other (p := ⟨v44.heap.size, 1, none⟩) (by dsimp only; omega) (.int .i64 a)).other (p := ⟨v44.heap.size, 2, none⟩) (by dsimp only; omega) (.int .i64 mn)).other (p := ⟨v44.heap.size, 3, none⟩) (by dsimp only; omega) (.slice D1 n E1))
              replace Y := ((((Y.other (p := ⟨v44.heap.size, 0, none⟩) (by dsimp only; omega) (.int .u8 k)).other (p := ⟨v44.heap.size, 1, none⟩) (by dsimp only; omega) (.int .i64 a)).other (p := ⟨v44.heap.size, 2, none⟩) (by dsimp only; omega) (.int .i64 mn)).other (p := ⟨v44.heap.size, 3, none⟩) (by dsimp only; omega) (.slice D1 n E1))
              replace X := ((((X.put (i := 0) rfl (.int .u8 k)).put (i := 1) rfl (.int .i64 a)).put (i := 2) rfl (.int .i64 mn)).put (i := 3) rfl (.slice D1 n E1))
              simp only [List.set_cons_zero, List.set_cons_succ] at X
              replace I1 := (Ints.offA (p := ⟨v44.heap.size, 3, none⟩) (u := .slice D1 n E1) (Ints.offA (p := ⟨v44.heap.size, 2, none⟩) (u := .int .i64 mn) (Ints.offA (p := ⟨v44.heap.size, 1, none⟩) (u := .int .i64 a) (Ints.offA (p := ⟨v44.heap.size, 0, none⟩) (u := .int .u8 k) I1 ap1X) ap1X) ap1X) ap1X)
              replace I2 := (Ints.offA (p := ⟨v44.heap.size, 3, none⟩) (u := .slice D1 n E1) (Ints.offA (p := ⟨v44.heap.size, 2, none⟩) (u := .int .i64 mn) (Ints.offA (p := ⟨v44.heap.size, 1, none⟩) (u := .int .i64 a) (Ints.offA (p := ⟨v44.heap.size, 0, none⟩) (u := .int .u8 k) I2 ap2X) ap2X) ap2X) ap2X)
              replace hz := (Below.setCell (p := ⟨v44.heap.size, 3, none⟩) (Below.setCell (p := ⟨v44.heap.size, 2, none⟩) (Below.setCell (p := ⟨v44.heap.size, 1, none⟩) (Below.setCell (p := ⟨v44.heap.size, 0, none⟩) hz (by dsimp only; omega) (.int .u8 k)) (by dsimp only; omega) (.int .i64 a)) (by dsimp only; omega) (.int .i64 mn)) (by dsimp only; omega) (.slice D1 n E1))
              generalize ((((v56.setCell ⟨v44.heap.size, 0, none⟩ (.int .u8 k)).setCell ⟨v44.heap.size, 1, none⟩ (.int .i64 a)).setCell ⟨v44.heap.size, 2, none⟩ (.int .i64 mn)).setCell ⟨v44.heap.size, 3, none⟩ (.slice D1 n E1)) = v57 at *
              go_wp2_with fail
              refine hK.out _ _ ?_ (fun hHeld2 => ?_)
              · exact ⟨G.all4, G2.all4⟩
              clear hK K hHeld
              have hHeld := hHeld2
              clear hHeld2
              try simp only [Act.put, List.setIfInBounds_toArray, List.set_cons_zero, List.set_cons_succ]
              refine wpAnyH_ready (rs := [7]) (by kernel_rfl) (by simp) ?_
              refine AllReadyH.cons rfl (fun K hK => ?_) AllReadyH.nil
              ·
                obtain ⟨x0, x1, x2, x3⟩ := Y.all4
                have xf := Y.fr
                have xl := Y.lt
                go_simp
                clear x0 x1 x2 x3 xf xl
                replace B := ((((B.other (p := ⟨v0.heap.size, 0, none⟩) (by dsimp only; omega) (.int .u8 k2)).other (p := ⟨v0.heap.size, 1, none⟩) (by dsimp only; omega) (.int .i64 a2)).other (p := ⟨v0.heap.size, 2, none⟩) (by dsimp only; omega) (.int .i64 mn2)).other (p := ⟨v0.heap.size, 3, none⟩) (by dsimp only; omega) (.slice D2 n2 E2))
                replace G := ((((G.other (p := ⟨v0.heap.size, 0, none⟩) (by dsimp only; omega) (.int .u8 k2)).other (p := ⟨v0.heap.size, 1, none⟩) (by dsimp only; omega) (.int .i64 a2)).other (p := ⟨v0.heap.size, 2, none⟩) (by dsimp only; omega) (.int .i64 mn2)).other (p := ⟨v0.heap.size, 3, none⟩) (by dsimp only; omega) (.slice D2 n2 E2))
                replace G2 := ((((G2.other (p := ⟨v0.heap.size, 0, none⟩) (by dsimp only; omega) (.int .u8 k2)).other (p := ⟨v0.heap.size, 1, none⟩) (by dsimp only; omega) (.int .i64 a2)).other (p := ⟨v0.heap.size, 2, none⟩) (by dsimp only; omega) (.int .i64 mn2)).other (p := ⟨v0.heap.size, 3, none⟩) (by dsimp only; omega) (.slice D2 n2 E2))
                replace X := ((((X.other (p := ⟨v0.heap.size, 0, none⟩) (by dsimp only; omega) (.int .u8 k2)).other (p := ⟨v0.heap.size, 1, none⟩) (by dsimp only; omega) (.int .i64 a2)).other (p := ⟨v0.heap.size, 2, none⟩) (by dsimp only; omega) (.int .i64 mn2)).other (p := ⟨v0.heap.size, 3, none⟩) (by dsimp only; omega) (.slice D2 n2 E2))
                replace Y := ((((Y.put (i := 0) rfl (.int .u8 k2)).put (i := 1) rfl (.int .i64 a2)).put (i := 2) rfl (.int .i64 mn2)).put (i := 3) rfl (.slice D2 n2 E2))
                simp only [List.set_cons_zero, List.set_cons_succ] at Y
                replace I1 := (Ints.offA (p := ⟨v0.heap.size, 3, none⟩) (u := .slice D2 n2 E2) (Ints.offA (p := ⟨v0.heap.size, 2, none⟩) (u := .int .i64 mn2) (Ints.offA (p := ⟨v0.heap.size, 1, none⟩) (u := .int .i64 a2) (Ints.offA (p := ⟨v0.heap.size, 0, none⟩) (u := .int .u8 k2) I1 ap1Y) ap1Y) ap1Y) ap1Y)
                replace I2 := (Ints.offA (p := ⟨v0.heap.size, 3, none⟩) (u := .slice D2 n2 E2) (Ints.offA (p := ⟨v0.heap.size, 2, none⟩) (u := .int .i64 mn2) (Ints.offA (p := ⟨v0.heap.size, 1, none⟩) (u := .int .i64 a2) (Ints.offA (p := ⟨v0.heap.size, 0, none⟩) (u := .int .u8 k2) I2 ap2Y) ap2Y) ap2Y) ap2Y)
                replace hz := (Below.setCell (p := ⟨v0.heap.size, 3, none⟩) (Below.setCell (p := ⟨v0.heap.size, 2, none⟩) (Below.setCell (p := ⟨v0.heap.size, 1, none⟩) (Below.setCell (p := ⟨v0.heap.size, 0, none⟩) hz (by dsimp only; omega) (.int .u8 k2)) (by dsimp only; omega) (.int .i64 a2)) (by dsimp only; omega) (.int .i64 mn2)) (by dsimp only; omega) (.slice D2 n2 E2))
                generalize ((((v57.setCell ⟨v0.heap.size, 0, none⟩ (.int .u8 k2)).setCell ⟨v0.heap.size, 1, none⟩ (.int .i64 a2)).setCell ⟨v0.heap.size, 2, none⟩ (.int .i64 mn2)).setCell ⟨v0.heap.size, 3, none⟩ (.slice D2 n2 E2)) = v58 at *
                go_wp2_with fail
                refine hK.out _ _ ?_ (fun hHeld2 => ?_)
                · exact ⟨G.all4, G2.all4⟩
                clear hK K hHeld
                have hHeld := hHeld2
                clear hHeld2
                try simp only [Act.put, List.setIfInBounds_toArray, List.set_cons_zero, List.set_cons_succ]
                refine wpAnyH_done (by kernel_rfl) ?_ _
                go_wp2
                go_meet
                exact ⟨_, _, D1, E1, D2, E2, rfl, rfl, X, Y, I1, I2, B, G, G2, hw.trans (hz.mono hw.size)⟩
  case rest =>
    obtain ⟨p, q, D1, E1, D2, E2, rfl, rfl, X, Y, I1, I2, Bc, Gc, G2c, hbc⟩ := hcut
    clear hb B G G2
    have B := Bc
    have G := Gc
    have G2 := G2c
    have hb := hbc
    clear Bc Gc G2c hbc t1 t2
    have J0 := J.below hb (Nat.le_refl _)
    have J20 := J2.below hb (Nat.le_refl _)
    clear J J2
    obtain ⟨c0, c1, c2, c3, c4, c5⟩ := B.all
    obtain ⟨g0, g1, g2, g3⟩ := G.all4
    obtain ⟨g02, g12, g22, g32⟩ := G2.all4
    obtain ⟨x0, x1, x2, x3⟩ := X.all4
    obtain ⟨y0, y1, y2, y3⟩ := Y.all4
    go_wp2_with (first
      | (go_at_call 10; (with_reducible refine (hb1 _ _ _).mono ?_); rintro e w9 ⟨A3, C3, rfl, K1, hb2⟩; replace hb := hb.trans (hb2.mono hb.size); clear c0 c1 c2 c3 c4 c5 g0 g1 g2 g3 g02 g12 g22 g32 x0 x1 x2 x3 y0 y1 y2 y3; replace B := B.below hb2 (Nat.le_refl _); replace G := G.below hb2 (Nat.le_refl _); replace G2 := G2.below hb2 (Nat.le_refl _); replace X := X.below hb2 (Nat.le_refl _); replace Y := Y.below hb2 (Nat.le_refl _); replace J0 := J0.below hb2 (Nat.le_refl _); replace J20 := J20.below hb2 (Nat.le_refl _); replace I1 := I1.below hb2 (Nat.le_refl _); replace I2 := I2.below hb2 (Nat.le_refl _); clear hb2; obtain ⟨c0, c1, c2, c3, c4, c5⟩ := B.all; obtain ⟨g0, g1, g2, g3⟩ := G.all4; obtain ⟨g02, g12, g22, g32⟩ := G2.all4; obtain ⟨x0, x1, x2, x3⟩ := X.all4; obtain ⟨y0, y1, y2, y3⟩ := Y.all4)
      | (go_at_call 16; (with_reducible refine (hr1 _).mono ?_); rintro e w9 ⟨A4, C4, rfl, K2, hb2⟩; replace hb := hb.trans (hb2.mono hb.size); clear c0 c1 c2 c3 c4 c5 g0 g1 g2 g3 g02 g12 g22 g32 x0 x1 x2 x3 y0 y1 y2 y3; replace B := B.below hb2 (Nat.le_refl _); replace G := G.below hb2 (Nat.le_refl _); replace G2 := G2.below hb2 (Nat.le_refl _); replace X := X.below hb2 (Nat.le_refl _); replace Y := Y.below hb2 (Nat.le_refl _); replace J0 := J0.below hb2 (Nat.le_refl _); replace J20 := J20.below hb2 (Nat.le_refl _); replace I1 := I1.below hb2 (Nat.le_refl _); replace I2 := I2.below hb2 (Nat.le_refl _); replace K1 := K1.below hb2 (Nat.le_refl _); clear hb2; obtain ⟨c0, c1, c2, c3, c4, c5⟩ := B.all; obtain ⟨g0, g1, g2, g3⟩ := G.all4; obtain ⟨g02, g12, g22, g32⟩ := G2.all4; obtain ⟨x0, x1, x2, x3⟩ := X.all4; obtain ⟨y0, y1, y2, y3⟩ := Y.all4)
      | (go_at_call 12; (with_reducible refine (ht _ _ _ _ _).mono ?_); rintro e w9 ⟨rfl, hb2⟩; replace hb := hb.trans (hb2.mono hb.size); clear c0 c1 c2 c3 c4 c5 g0 g1 g2 g3 g02 g12 g22 g32 x0 x1 x2 x3 y0 y1 y2 y3; replace B := B.below hb2 (Nat.le_refl _); replace G := G.below hb2 (Nat.le_refl _); replace G2 := G2.below hb2 (Nat.le_refl _); replace X := X.below hb2 (Nat.le_refl _); replace Y := Y.below hb2 (Nat.le_refl _); replace J0 := J0.below hb2 (Nat.le_refl _); replace J20 := J20.below hb2 (Nat.le_refl _); replace I1 := I1.below hb2 (Nat.le_refl _); replace I2 := I2.below hb2 (Nat.le_refl _); replace K1 := K1.below hb2 (Nat.le_refl _); replace K2 := K2.below hb2 (Nat.le_refl _); clear hb2; obtain ⟨c0, c1, c2, c3, c4, c5⟩ := B.all; obtain ⟨g0, g1, g2, g3⟩ := G.all4; obtain ⟨g02, g12, g22, g32⟩ := G2.all4; obtain ⟨x0, x1, x2, x3⟩ := X.all4; obtain ⟨y0, y1, y2, y3⟩ := Y.all4)
      | (go_at_call 17; (with_reducible refine (hrt _).mono ?_); rintro e w9 ⟨rfl, hb2⟩; replace hb := hb.trans (hb2.mono hb.size); clear c0 c1 c2 c3 c4 c5 g0 g1 g2 g3 g02 g12 g22 g32 x0 x1 x2 x3 y0 y1 y2 y3; replace B := B.below hb2 (Nat.le_refl _); replace G := G.below hb2 (Nat.le_refl _); replace G2 := G2.below hb2 (Nat.le_refl _); replace X := X.below hb2 (Nat.le_refl _); replace Y := Y.below hb2 (Nat.le_refl _); replace J0 := J0.below hb2 (Nat.le_refl _); replace J20 := J20.below hb2 (Nat.le_refl _); replace I1 := I1.below hb2 (Nat.le_refl _); replace I2 := I2.below hb2 (Nat.le_refl _); replace K1 := K1.below hb2 (Nat.le_refl _); replace K2 := K2.below hb2 (Nat.le_refl _); clear hb2; obtain ⟨c0, c1, c2, c3, c4, c5⟩ := B.all; obtain ⟨g0, g1, g2, g3⟩ := G.all4; obtain ⟨g02, g12, g22, g32⟩ := G2.all4; obtain ⟨x0, x1, x2, x3⟩ := X.all4; obtain ⟨y0, y1, y2, y3⟩ := Y.all4))
    clear c0 c1 c2 c3 c4 c5 g0 g1 g2 g3 g02 g12 g22 g32 x0 x1 x2 x3 y0 y1 y2 y3
    have hd := (Below.refl w9.heap.size w9).drew
    replace hb := hb.trans (hd.mono hb.size); replace B := B.below hd (Nat.le_refl _); replace G := G.below hd (Nat.le_refl _); replace G2 := G2.below hd (Nat.le_refl _); replace X := X.below hd (Nat.le_refl _); replace Y := Y.below hd (Nat.le_refl _); replace J0 := J0.below hd (Nat.le_refl _); replace J20 := J20.below hd (Nat.le_refl _); replace I1 := I1.below hd (Nat.le_refl _); replace I2 := I2.below hd (Nat.le_refl _); replace K1 := K1.below hd (Nat.le_refl _); replace K2 := K2.below hd (Nat.le_refl _); clear hd
    refine wp_region_held_drew (S := (fun W => (W.cell? ⟨w.heap.size, 0, none⟩ = some (.int .u32 id) ∧ W.cell? ⟨w.heap.size, 1, none⟩ = some (.int .i64 m) ∧ W.cell? ⟨w.heap.size, 2, none⟩ = some (.int .i64 ch) ∧ W.cell? ⟨w.heap.size, 3, none⟩ = some (.int .i64 ro) ∧ W.cell? ⟨w.heap.size, 4, none⟩ = some (.int .i64 lo) ∧ W.cell? ⟨w.heap.size, 5, none⟩ = some (.int .i64 he)) ∧ (W.cell? ⟨w.heap.size + 1, 0, none⟩ = some (.int .u8 k) ∧ W.cell? ⟨w.heap.size + 1, 1, none⟩ = some (.int .i64 a) ∧ W.cell? ⟨w.heap.size + 1, 2, none⟩ = some (.int .i64 mn) ∧ W.cell? ⟨w.heap.size + 1, 3, none⟩ = some (.slice A n cp)) ∧ W.cell? ⟨p, 0, none⟩ = some (.int .u8 k) ∧ W.cell? ⟨p, 1, none⟩ = some (.int .i64 a) ∧ W.cell? ⟨p, 2, none⟩ = some (.int .i64 mn) ∧ W.cell? ⟨p, 3, none⟩ = some (.slice D1 n E1))) (by kernel_rfl) ?_ (fun hHeld => ?_)
    · exact ⟨B.all, G.all4, X.all4⟩
    generalize (w9).drew = v8 at *
    refine wpAnyH_take (i := 0) (v := ?_) rfl (by kernel_rfl) (by kernel_rfl) (by kernel_rfl) (fun _ _ _ h => h) (Or.inl ⟨by rfl, ?_⟩) hHeld ?_
    rotate_left
    · (intro w hSw; (try dsimp only at hSw); go_simp; try with_reducible rfl)
    try simp only [Act.put, List.getElem_toArray, List.getElem_cons_zero, List.setIfInBounds_toArray, List.set_cons_zero, List.set_cons_succ]
    refine wpAnyH_take (i := 1) (v := ?_) rfl (by kernel_rfl) (by kernel_rfl) (by kernel_rfl) (fun _ _ _ h => h) (Or.inl ⟨by rfl, ?_⟩) hHeld ?_
    rotate_left
    · (intro w hSw; (try dsimp only at hSw); go_simp; try with_reducible rfl)
    try simp only [Act.put, List.getElem_toArray, List.getElem_cons_zero, List.getElem_cons_succ, List.setIfInBounds_toArray, List.set_cons_zero, List.set_cons_succ]
    refine wpAnyH_take (i := 2) (v := ?_) rfl (by kernel_rfl) (by kernel_rfl) (by kernel_rfl) (fun _ _ _ h => h) (Or.inl ⟨by rfl, ?_⟩) hHeld ?_
    rotate_left
    · (intro w hSw; (try dsimp only at hSw); go_simp; try with_reducible rfl)
    try simp only [Act.put, List.getElem_toArray, List.getElem_cons_zero, List.getElem_cons_succ, List.setIfInBounds_toArray, List.set_cons_zero, List.set_cons_succ]
    refine wpAnyH_take (i := 3) (v := ?_) rfl (by kernel_rfl) (by kernel_rfl) (by kernel_rfl) (fun _ _ _ h => h) (Or.inl ⟨by rfl, ?_⟩) hHeld ?_
    rotate_left
    · (intro w hSw; (try dsimp only at hSw); go_simp; try with_reducible rfl)
    try simp only [Act.put, List.getElem_toArray, List.getElem_cons_zero, List.getElem_cons_succ, List.setIfInBounds_toArray, List.set_cons_zero, List.set_cons_succ]
    refine wpAnyH_take (i := 4) (v := ?_) rfl (by kernel_rfl) (by kernel_rfl) (by kernel_rfl) (fun _ _ _ h => h) (Or.inl ⟨by rfl, ?_⟩) hHeld ?_
    rotate_left
    · (intro w hSw; (try dsimp only at hSw); go_simp; try with_reducible rfl)
    try simp only [Act.put, List.getElem_toArray, List.getElem_cons_zero, List.getElem_cons_succ, List.setIfInBounds_toArray, List.set_cons_zero, List.set_cons_succ]
    refine wpAnyH_take (i := 5) (v := ?_) rfl (by kernel_rfl) (by kernel_rfl) (by kernel_rfl) (fun _ _ _ h => h) (Or.inl ⟨by rfl, ?_⟩) hHeld ?_
    rotate_left
    · (intro w hSw; (try dsimp only at hSw); go_simp; try with_reducible rfl)
    try simp only [Act.put, List.getElem_toArray, List.getElem_cons_zero, List.getElem_cons_succ, List.setIfInBounds_toArray, List.set_cons_zero, List.set_cons_succ]
    refine wpAnyH_take (i := 6) (v := ?_) rfl (by kernel_rfl) (by kernel_rfl) (by kernel_rfl) (fun _ _ _ h => h) (Or.inl ⟨by rfl, ?_⟩) hHeld ?_
    rotate_left
    · (intro w hSw; (try dsimp only at hSw); go_simp; try with_reducible rfl)
    try simp only [Act.put, List.getElem_toArray, List.getElem_cons_zero, List.getElem_cons_succ, List.setIfInBounds_toArray, List.set_cons_zero, List.set_cons_succ]
    refine wpAnyH_take (i := 7) (v := ?_) rfl (by kernel_rfl) (by kernel_rfl) (by kernel_rfl) (fun _ _ _ h => h) (Or.inl ⟨by rfl, ?_⟩) hHeld ?_
    rotate_left
    · (intro w hSw; (try dsimp only at hSw); go_simp; try with_reducible rfl)
    try simp only [Act.put, List.getElem_toArray, List.getElem_cons_zero, List.getElem_cons_succ, List.setIfInBounds_toArray, List.set_cons_zero, List.set_cons_succ]
    refine wpAnyH_take (i := 8) (v := ?_) rfl (by kernel_rfl) (by kernel_rfl) (by kernel_rfl) (fun _ _ _ h => h) (Or.inl ⟨by rfl, ?_⟩) hHeld ?_
    rotate_left
    · (intro w hSw; (try dsimp only at hSw); go_simp; try with_reducible rfl)
    try simp only [Act.put, List.getElem_toArray, List.getElem_cons_zero, List.getElem_cons_succ, List.setIfInBounds_toArray, List.set_cons_zero, List.set_cons_succ]
    refine wpAnyH_take (i := 9) (v := ?_) rfl (by kernel_rfl) (by kernel_rfl) (by kernel_rfl) (fun _ _ _ h => h) (Or.inl ⟨by rfl, ?_⟩) hHeld ?_
    rotate_left
    · (intro w hSw; (try dsimp only at hSw); go_simp; try with_reducible rfl)
    try simp only [Act.put, List.getElem_toArray, List.getElem_cons_zero, List.getElem_cons_succ, List.setIfInBounds_toArray, List.set_cons_zero, List.set_cons_succ]
    refine wpAnyH_take (i := 10) (v := ?_) rfl (by kernel_rfl) (by kernel_rfl) (by kernel_rfl) (fun _ _ _ h => h) (Or.inl ⟨by rfl, ?_⟩) hHeld ?_
    rotate_left
    · (intro w hSw; (try dsimp only at hSw); go_simp; try with_reducible rfl)
    try simp only [Act.put, List.getElem_toArray, List.getElem_cons_zero, List.getElem_cons_succ, List.setIfInBounds_toArray, List.set_cons_zero, List.set_cons_succ]
    refine wpAnyH_take (i := 11) (v := ?_) rfl (by kernel_rfl) (by kernel_rfl) (by kernel_rfl) (fun _ _ _ h => h) (Or.inl ⟨by rfl, ?_⟩) hHeld ?_
    rotate_left
    · (intro w hSw; (try dsimp only at hSw); go_simp; try with_reducible rfl)
    try simp only [Act.put, List.getElem_toArray, List.getElem_cons_zero, List.getElem_cons_succ, List.setIfInBounds_toArray, List.set_cons_zero, List.set_cons_succ]
    refine wpAnyH_take (i := 12) (v := ?_) rfl (by kernel_rfl) (by kernel_rfl) (by kernel_rfl) (fun _ _ _ h => h) (Or.inl ⟨by rfl, ?_⟩) hHeld ?_
    rotate_left
    · (intro w hSw; (try dsimp only at hSw); go_simp; try with_reducible rfl)
    try simp only [Act.put, List.getElem_toArray, List.getElem_cons_zero, List.getElem_cons_succ, List.setIfInBounds_toArray, List.set_cons_zero, List.set_cons_succ]
    refine wpAnyH_take (i := 13) (v := ?_) rfl (by kernel_rfl) (by kernel_rfl) (by kernel_rfl) (fun _ _ _ h => h) (Or.inl ⟨by rfl, ?_⟩) hHeld ?_
    rotate_left
    · (intro w hSw; (try dsimp only at hSw); go_simp; try with_reducible rfl)
    try simp only [Act.put, List.getElem_toArray, List.getElem_cons_zero, List.getElem_cons_succ, List.setIfInBounds_toArray, List.set_cons_zero, List.set_cons_succ]
    refine wpAnyH_take (i := 14) (v := ?_) rfl (by kernel_rfl) (by kernel_rfl) (by kernel_rfl) (fun _ _ _ h => h) (Or.inl ⟨by rfl, ?_⟩) hHeld ?_
    rotate_left
    · (intro w hSw; (try dsimp only at hSw); go_simp; try with_reducible rfl)
    try simp only [Act.put, List.getElem_toArray, List.getElem_cons_zero, List.getElem_cons_succ, List.setIfInBounds_toArray, List.set_cons_zero, List.set_cons_succ]
    refine wpAnyH_take (i := 15) (v := ?_) rfl (by kernel_rfl) (by kernel_rfl) (by kernel_rfl) (fun _ _ _ h => h) (Or.inl ⟨by rfl, ?_⟩) hHeld ?_
    rotate_left
    · (intro w hSw; (try dsimp only at hSw); go_simp; try with_reducible rfl)
    try simp only [Act.put, List.getElem_toArray, List.getElem_cons_zero, List.getElem_cons_succ, List.setIfInBounds_toArray, List.set_cons_zero, List.set_cons_succ]
    refine wpAnyH_take (i := 16) (v := ?_) rfl (by kernel_rfl) (by kernel_rfl) (by kernel_rfl) (fun _ _ _ h => h) (Or.inl ⟨by rfl, ?_⟩) hHeld ?_
    rotate_left
    · (intro w hSw; (try dsimp only at hSw); go_simp; try with_reducible rfl)
    try simp only [Act.put, List.getElem_toArray, List.getElem_cons_zero, List.getElem_cons_succ, List.setIfInBounds_toArray, List.set_cons_zero, List.set_cons_succ]
    refine wpAnyH_take (i := 17) (v := ?_) rfl (by kernel_rfl) (by kernel_rfl) (by kernel_rfl) (fun _ _ _ h => h) (Or.inl ⟨by rfl, ?_⟩) hHeld ?_
    rotate_left
    · (intro w hSw; (try dsimp only at hSw); go_simp; try with_reducible rfl)
    try simp only [Act.put, List.getElem_toArray, List.getElem_cons_zero, List.getElem_cons_succ, List.setIfInBounds_toArray, List.set_cons_zero, List.set_cons_succ]
    refine wpAnyH_take (i := 18) (v := ?_) rfl (by kernel_rfl) (by kernel_rfl) (by kernel_rfl) (fun _ _ _ h => h) (Or.inl ⟨by rfl, ?_⟩) hHeld ?_
    rotate_left
    · (intro w hSw; (try dsimp only at hSw); go_simp; try with_reducible rfl)
    try simp only [Act.put, List.getElem_toArray, List.getElem_cons_zero, List.getElem_cons_succ, List.setIfInBounds_toArray, List.set_cons_zero, List.set_cons_succ]
    refine wpAnyH_take (i := 19) (v := ?_) rfl (by kernel_rfl) (by kernel_rfl) (by kernel_rfl) (fun _ _ _ h => h) (Or.inl ⟨by rfl, ?_⟩) hHeld ?_
    rotate_left
    · (intro w hSw; (try dsimp only at hSw); go_simp; try with_reducible rfl)
    try simp only [Act.put, List.getElem_toArray, List.getElem_cons_zero, List.getElem_cons_succ, List.setIfInBounds_toArray, List.set_cons_zero, List.set_cons_succ]
    refine wpAnyH_take (i := 20) (v := ?_) rfl (by kernel_rfl) (by kernel_rfl) (by kernel_rfl) (fun _ _ _ h => h) (Or.inl ⟨by rfl, ?_⟩) hHeld ?_
    rotate_left
    · (intro w hSw; (try dsimp only at hSw); go_simp; try with_reducible rfl)
    try simp only [Act.put, List.getElem_toArray, List.getElem_cons_zero, List.getElem_cons_succ, List.setIfInBounds_toArray, List.set_cons_zero, List.set_cons_succ]
    refine wpAnyH_take (i := 21) (v := ?_) rfl (by kernel_rfl) (by kernel_rfl) (by kernel_rfl) (fun _ _ _ h => h) (Or.inl ⟨by rfl, ?_⟩) hHeld ?_
    rotate_left
    · (intro w hSw; (try dsimp only at hSw); go_simp; try with_reducible rfl)
    try simp only [Act.put, List.getElem_toArray, List.getElem_cons_zero, List.getElem_cons_succ, List.setIfInBounds_toArray, List.set_cons_zero, List.set_cons_succ]
    refine wpAnyH_take (i := 22) (v := ?_) rfl (by kernel_rfl) (by kernel_rfl) (by kernel_rfl) (fun _ _ _ h => h) (Or.inl ⟨by rfl, ?_⟩) hHeld ?_
    rotate_left
    · (intro w hSw; (try dsimp only at hSw); go_simp; try with_reducible rfl)
    try simp only [Act.put, List.getElem_toArray, List.getElem_cons_zero, List.getElem_cons_succ, List.setIfInBounds_toArray, List.set_cons_zero, List.set_cons_succ]
    refine wpAnyH_take (i := 24) (v := ?_) rfl (by kernel_rfl) (by kernel_rfl) (by kernel_rfl) (fun _ _ _ h => h) (Or.inl ⟨by rfl, ?_⟩) hHeld ?_
    rotate_left
    · (intro w hSw; (try dsimp only at hSw); go_simp; try with_reducible rfl)
    try simp only [Act.put, List.getElem_toArray, List.getElem_cons_zero, List.getElem_cons_succ, List.setIfInBounds_toArray, List.set_cons_zero, List.set_cons_succ]
    refine wpAnyH_take (i := 25) (v := ?_) rfl (by kernel_rfl) (by kernel_rfl) (by kernel_rfl) (fun _ _ _ h => h) (Or.inl ⟨by rfl, ?_⟩) hHeld ?_
    rotate_left
    · (intro w hSw; (try dsimp only at hSw); go_simp; try with_reducible rfl)
    try simp only [Act.put, List.getElem_toArray, List.getElem_cons_zero, List.getElem_cons_succ, List.setIfInBounds_toArray, List.set_cons_zero, List.set_cons_succ]
    refine wpAnyH_ready (rs := [23]) (by kernel_rfl) (by simp) ?_
    refine AllReadyH.cons rfl (fun K hK => ?_) AllReadyH.nil
    go_simp
    refine (hc _ _ _).mono ?_
    rintro e v7 ⟨rfl, hb2⟩
    replace hb := hb.trans (hb2.mono hb.size)
    replace B := B.below hb2 (Nat.le_refl _)
    replace G := G.below hb2 (Nat.le_refl _)
    replace G2 := G2.below hb2 (Nat.le_refl _)
    replace X := X.below hb2 (Nat.le_refl _)
    replace Y := Y.below hb2 (Nat.le_refl _)
    replace J0 := J0.below hb2 (Nat.le_refl _)
    replace J20 := J20.below hb2 (Nat.le_refl _)
    replace I1 := I1.below hb2 (Nat.le_refl _)
    replace I2 := I2.below hb2 (Nat.le_refl _)
    replace K1 := K1.below hb2 (Nat.le_refl _)
    replace K2 := K2.below hb2 (Nat.le_refl _)
    clear hb2
    go_wp2_with fail
    refine hK.out _ _ ?_ (fun hHeld2 => ?_)
    · exact ⟨B.all, G.all4, X.all4⟩
    clear hK K hHeld
    have hHeld := hHeld2
    clear hHeld2
    try simp only [Act.put, List.setIfInBounds_toArray, List.set_cons_zero, List.set_cons_succ]
    refine wpAnyH_ready (rs := [26]) (by kernel_rfl) (by simp) ?_
    refine AllReadyH.cons rfl (fun K hK => ?_) AllReadyH.nil
    go_simp
    refine (hrc _).mono ?_
    rintro e v9 ⟨rfl, hb2⟩
    replace hb := hb.trans (hb2.mono hb.size)
    replace B := B.below hb2 (Nat.le_refl _)
    replace G := G.below hb2 (Nat.le_refl _)
    replace G2 := G2.below hb2 (Nat.le_refl _)
    replace X := X.below hb2 (Nat.le_refl _)
    replace Y := Y.below hb2 (Nat.le_refl _)
    replace J0 := J0.below hb2 (Nat.le_refl _)
    replace J20 := J20.below hb2 (Nat.le_refl _)
    replace I1 := I1.below hb2 (Nat.le_refl _)
    replace I2 := I2.below hb2 (Nat.le_refl _)
    replace K1 := K1.below hb2 (Nat.le_refl _)
    replace K2 := K2.below hb2 (Nat.le_refl _)
    clear hb2
    go_wp2_with fail
    refine hK.out _ _ ?_ (fun hHeld2 => ?_)
    · exact ⟨B.all, G.all4, X.all4⟩
    clear hK K hHeld
    have hHeld := hHeld2
    clear hHeld2
    try simp only [Act.put, List.setIfInBounds_toArray, List.set_cons_zero, List.set_cons_succ]
    refine wpAnyH_take (i := 27) (v := ?_) rfl (by kernel_rfl) (by kernel_rfl) (by kernel_rfl) (fun _ _ _ h => h) (Or.inl ⟨by rfl, ?_⟩) hHeld ?_
    rotate_left
    · (intro w hSw; (try dsimp only at hSw); go_simp; try with_reducible rfl)
    try simp only [Act.put, List.getElem_toArray, List.getElem_cons_zero, List.getElem_cons_succ, List.setIfInBounds_toArray, List.set_cons_zero, List.set_cons_succ]
    refine wpAnyH_take (i := 28) (v := ?_) rfl (by kernel_rfl) (by kernel_rfl) (by kernel_rfl) (fun _ _ _ h => h) (Or.inl ⟨by rfl, ?_⟩) hHeld ?_
    rotate_left
    · (intro w hSw; (try dsimp only at hSw); go_simp; try with_reducible rfl)
    try simp only [Act.put, List.getElem_toArray, List.getElem_cons_zero, List.getElem_cons_succ, List.setIfInBounds_toArray, List.set_cons_zero, List.set_cons_succ]
    refine wpAnyH_done (by kernel_rfl) ?_ _
    obtain ⟨c0, c1, c2, c3, c4, c5⟩ := B.all
    obtain ⟨g0, g1, g2, g3⟩ := G.all4
    obtain ⟨g02, g12, g22, g32⟩ := G2.all4
    obtain ⟨x0, x1, x2, x3⟩ := X.all4
    obtain ⟨y0, y1, y2, y3⟩ := Y.all4
    go_wp2
    have hl := Lib.hid K1.len
    have hmx := K1.max
    have hz0 := Below.refl v9.heap.size v9
    clear c0 c1 c2 c3 c4 c5 g0 g1 g2 g3 g02 g12 g22 g32 x0 x1 x2 x3 y0 y1 y2 y3
    go_loopg [17] l.length (fun r s17 wr => ∃ j : Nat, j + r = l.length ∧ s17 = .int .i64 j ∧ Below v9.heap.size v9 wr)
    case atStart => exact ⟨0, by omega, rfl, hz0⟩
    case round =>
      obtain ⟨j, hj, rfl, hbk⟩ := hrel
      clear hz0
      by_cases hjn : j < l.length
      · obtain ⟨b1, o1, rfl, k1⟩ := K1.at_below hbk hjn
        obtain ⟨b2, o2, rfl, k2⟩ := K2.at_below hbk hjn
        generalize l.getD j 0 = x at *
        clear B G G2 X Y J0 J20 I1 I2 hl
        go_wp2_with fail
        go_quiet (fail)
        go_wp2
        go_roundg (l.length - (j + 1))
        case measure => omega
        case rel => exact ⟨j + 1, by omega, by go_num, below_drewN hbk _⟩
      · obtain rfl : j = l.length := by omega
        clear K1 K2 hl
        replace hb := hb.trans (hbk.mono hb.size)
        replace B := B.below hbk (Nat.le_refl _)
        replace G := G.below hbk (Nat.le_refl _)
        replace G2 := G2.below hbk (Nat.le_refl _)
        replace X := X.below hbk (Nat.le_refl _)
        replace Y := Y.below hbk (Nat.le_refl _)
        replace J0 := J0.below hbk (Nat.le_refl _)
        replace J20 := J20.below hbk (Nat.le_refl _)
        replace I1 := I1.below hbk (Nat.le_refl _)
        replace I2 := I2.below hbk (Nat.le_refl _)
        obtain ⟨c0, c1, c2, c3, c4, c5⟩ := B.all
        obtain ⟨g0, g1, g2, g3⟩ := G.all4
        obtain ⟨g02, g12, g22, g32⟩ := G2.all4
        obtain ⟨x0, x1, x2, x3⟩ := X.all4
        obtain ⟨y0, y1, y2, y3⟩ := Y.all4
        go_wp2_with (first
          | (go_at_call 19; (with_reducible refine (ks1 _ _ _ I1 J0).mono ?_); rintro e w9 ⟨rfl, hb2⟩; replace hb := hb.trans (hb2.mono hb.size); clear c0 c1 c2 c3 c4 c5 g0 g1 g2 g3 g02 g12 g22 g32 x0 x1 x2 x3 y0 y1 y2 y3; replace B := B.below hb2 (Nat.le_refl _); replace G := G.below hb2 (Nat.le_refl _); replace G2 := G2.below hb2 (Nat.le_refl _); replace X := X.below hb2 (Nat.le_refl _); replace Y := Y.below hb2 (Nat.le_refl _); replace J0 := J0.below hb2 (Nat.le_refl _); replace J20 := J20.below hb2 (Nat.le_refl _); replace I1 := I1.below hb2 (Nat.le_refl _); replace I2 := I2.below hb2 (Nat.le_refl _); clear hb2; obtain ⟨c0, c1, c2, c3, c4, c5⟩ := B.all; obtain ⟨g0, g1, g2, g3⟩ := G.all4; obtain ⟨g02, g12, g22, g32⟩ := G2.all4; obtain ⟨x0, x1, x2, x3⟩ := X.all4; obtain ⟨y0, y1, y2, y3⟩ := Y.all4)
          | (go_at_call 19; (with_reducible refine (ks2 _ _ _ I2 J20).mono ?_); rintro e w9 ⟨rfl, hb2⟩; replace hb := hb.trans (hb2.mono hb.size); clear c0 c1 c2 c3 c4 c5 g0 g1 g2 g3 g02 g12 g22 g32 x0 x1 x2 x3 y0 y1 y2 y3; replace B := B.below hb2 (Nat.le_refl _); replace G := G.below hb2 (Nat.le_refl _); replace G2 := G2.below hb2 (Nat.le_refl _); replace X := X.below hb2 (Nat.le_refl _); replace Y := Y.below hb2 (Nat.le_refl _); replace J0 := J0.below hb2 (Nat.le_refl _); replace J20 := J20.below hb2 (Nat.le_refl _); replace I1 := I1.below hb2 (Nat.le_refl _); replace I2 := I2.below hb2 (Nat.le_refl _); clear hb2; obtain ⟨c0, c1, c2, c3, c4, c5⟩ := B.all; obtain ⟨g0, g1, g2, g3⟩ := G.all4; obtain ⟨g02, g12, g22, g32⟩ := G2.all4; obtain ⟨x0, x1, x2, x3⟩ := X.all4; obtain ⟨y0, y1, y2, y3⟩ := Y.all4))
        go_ret
        exact ⟨rfl, hb⟩

theorem splitTells_walk (w : World) (c : Cfg) (_hw : Wide c) (k a mn : Int) (A : Option Addr) (n cp : Nat) (zs : List Int) (wk : (Lit.int .u8 k).wf = true) (wa : (Lit.int .i64 a).wf = true) (wm : (Lit.int .i64 mn).wf = true) (I : Ints .u8 w A n zs) (hcp : n ≤ cp) (k2 a2 mn2 : Int) (A2 : Option Addr) (n2 cp2 : Nat) (zs2 : List Int) (wk2 : (Lit.int .u8 k2).wf = true) (wa2 : (Lit.int .i64 a2).wf = true) (wm2 : (Lit.int .i64 mn2).wf = true) (I2 : Ints .u8 w A2 n2 zs2) (hcp2 : n2 ≤ cp2) : Calls Try.prog 4 #[cfgV c, askV k a mn A n cp, askV k2 a2 mn2 A2 n2 cp2] w fun e w' => e = .returned (.bool true) ∧ Below w.heap.size w w' := by
  have hk := (bounds_u8 wk).1
  have hk2 := (bounds_u8 wk2).1
  by_cases g1 : 5000 < n
  · exact tells_g1 _ _ _ _ _ _ k a mn k2 a2 mn2 A A2 n cp n2 cp2 w g1
  by_cases g2 : 5000 < n2
  · exact tells_g2 _ _ _ _ _ _ k a mn k2 a2 mn2 A A2 n cp n2 cp2 w (by omega) g2
  have t1 := fun W (h : Ints .u8 W A n zs) => refTwin8 k a mn A n cp zs W h (by omega)
  have t2 := fun W (h : Ints .u8 W A2 n2 zs2) => refTwin8 k2 a2 mn2 A2 n2 cp2 zs2 W h (by omega)
  have hb1 := fun A' c' W => splitBlocks c k a mn hk A' n c' W
  have hr1 := fun W => refBlocks8 c k a mn A n cp W
  have ht := fun A' c' A'' c'' W => splitTouch c k a mn hk A' n c' k2 a2 mn2 hk2 A'' n2 c'' W
  have hrt := fun W => refTouch8 c k a mn A n cp k2 a2 mn2 A2 n2 cp2 W
  have hc := fun A' c' W => splitCheck c k a mn hk A' n c' W
  have hrc := fun W => refCheck8 c k a mn A n cp W
  have ks1 := fun D E W (h1 : Ints .u8 W D n zs) (h2 : Ints .u8 W A n zs) => refSame8 k a mn D A n E cp zs W h1 h2
  have ks2 := fun D E W (h1 : Ints .u8 W D n2 zs2) (h2 : Ints .u8 W A2 n2 zs2) => refSame8 k2 a2 mn2 D A2 n2 E cp2 zs2 W h1 h2
  exact tells_ok _ _ _ _ _ _ k a mn k2 a2 mn2 A A2 n cp n2 cp2 w zs zs2 I I2 (by omega) (by omega) t1 t2 _ _ _ _ hb1 hr1 ht hrt hc hrc ks1 ks2


namespace splitTells
set_option linter.unusedVariables false
set_option maxRecDepth 100000 in
theorem lifted (os : Os) (started : os.Started) (H : Type) (enc : TypeId × Value → H) :
    ReturnsInHanded {} Try.checked os 4 .any (Rows.splitTellsSpec.pre6 enc Try.prog Try.f4 Rows.splitTellsRow.domain false) (Rows.splitTellsSpec.post enc Try.prog Try.f4 false true false false) := by
  refine returnsInHanded_of_change (C := Try.checked) Try.own started (by kernel_rfl) Try.func4
    (ChangeSpec.witness6 (enc := enc) (C := Try.checked) false ⟨#[], #[.agg #[.int .u32 0, .int .i64 0, .int .i64 0, .int .i64 0, .int .i64 0, .int .i64 0], .agg #[.int .u8 0, .int .i64 0, .int .i64 0, .slice none 0 0], .agg #[.int .u8 0, .int .i64 0, .int .i64 0, .slice none 0 0]], []⟩ 8 (by kernel_rfl) (by kernel_rfl) (by kernel_rfl) (by kernel_rfl)) ?_
  intro W base args ds gs before hval0 hW hcnd _
  have hval : ∀ (j : Nat) t v, Try.f4.params[j]? = some t → args[j]? = some v → Value.okWide Try.prog W .any base t v := hval0
  have hW' := hW
  obtain ⟨p, q, hA0, hV, rfl, hfz, hnd⟩ := hW
  have hA : DataW.TrodAll enc Try.prog W 0 (fun _ => true) true Try.f4.params.toList args.toList ds p := hA0
  rw [Try.params4] at hA hval
  obtain ⟨v0, vs0, d0, ds0, p0, q0, hargs, rfl, rfl, h0, r0⟩ := trodAll_cons hA
  obtain ⟨v1, vs1, d1, ds1, p1, q1, rfl, rfl, rfl, h1, r1⟩ := trodAll_cons r0
  obtain ⟨v2, vs2, d2, ds2, p2, q2, rfl, rfl, rfl, h2, r2⟩ := trodAll_cons r1
  obtain ⟨rfl, rfl, rfl⟩ := trodAll_nil r2
  obtain rfl : args = #[v0, v1, v2] := by cases args; simp_all
  obtain ⟨rfl, rfl⟩ := trodVars_none hV
  have k0 := h0
  have lt0 : ∀ x ∈ p0, x.block < W.heap.size := by obtain ⟨m, hm⟩ := k0; exact DataW.trod_lt m _ _ _ hm
  obtain ⟨z0, rfl, w0⟩ := cfg_in (hval 0 24 v0 rfl rfl) h0
  have k1 := h1
  have lt1 : ∀ x ∈ p1, x.block < W.heap.size := by obtain ⟨m, hm⟩ := k1; exact DataW.trod_lt m _ _ _ hm
  obtain ⟨kd1, at1, mn1, a1, len1, cap1, z1, rfl, wk1, wa1, wm1, w1, c1⟩ := ask_in (hval 1 32 v1 rfl rfl) h1
  have k2 := h2
  have lt2 : ∀ x ∈ p2, x.block < W.heap.size := by obtain ⟨m, hm⟩ := k2; exact DataW.trod_lt m _ _ _ hm
  obtain ⟨kd2, at2, mn2, a2, len2, cap2, z2, rfl, wk2, wa2, wm2, w2, c2⟩ := ask_in (hval 2 32 v2 rfl rfl) h2
  clear hA0 hval0
  refine (splitTells_walk W z0 w0 kd1 at1 mn1 a1 len1 cap1 z1 wk1 wa1 wm1 w1 c1 kd2 at2 mn2 a2 len2 cap2 z2 wk2 wa2 wm2 w2 c2).mono fun e W' ⟨he, bel⟩ => ?_
  subst he
  exact ⟨_, rfl, _, _, _, [], _, [], hW', trodAll_mk1 (shut_bool Try.underlying4 _), (trodAll_cons_mk (Below.trod Try.laidOut (by kernel_rfl) (of_decide_eq_true (by kernel_rfl)) k0 bel lt0) (trodAll_cons_mk (Below.trod Try.laidOut (by kernel_rfl) (of_decide_eq_true (by kernel_rfl)) k1 bel lt1) (trodAll_cons_mk (Below.trod Try.laidOut (by kernel_rfl) (of_decide_eq_true (by kernel_rfl)) k2 bel lt2) trodAll_mk0))), rfl, bel.frame _, fun h => by cases h⟩

theorem holds : Rows.SplitTellsSaid :=
  OpenClaim.holds_of_wide 4 Try.f4 rfl rfl rfl rfl rfl rfl rfl ⟨rfl, rfl, rfl, rfl, rfl⟩ rfl rfl rfl rfl rfl (by kernel_rfl) Try.func4 (by kernel_rfl)
    (of_decide_eq_true (by kernel_rfl)) (by unfold Func.isWrapper; first | (rw [if_pos (by decide +kernel)]; kernel_rfl) | (rw [if_neg (by decide +kernel)]; exact ⟨rfl, rfl⟩))
    (fun os started H enc _ => lifted os started H enc)
end splitTells
end Go.Proofs.Ytkjgmopgibpkjaa
