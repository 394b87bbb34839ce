/- The walk of the test which devices are great. -/
import Derived.Test.YtldgpkaecfgagaaDevMath
import Derived.Outline
import Derived.IntWalk
namespace Go.Proofs.Ytldgpkaecfgagaa
open Go.RowKit PolyM PackM FoldM DevM

/-- A device that is boxed: the cells of the box, and that nothing below has turned. -/
theorem boxed_dev {w : World} {x y z : Value} {t : TypeId} : (w.alloc (.cells #[x, y, z] t)).cell? ⟨w.heap.size, 0, none⟩ = some x ∧ (w.alloc (.cells #[x, y, z] t)).cell? ⟨w.heap.size, 1, none⟩ = some y ∧ (w.alloc (.cells #[x, y, z] t)).cell? ⟨w.heap.size, 2, none⟩ = some z ∧ Below w.heap.size w (w.alloc (.cells #[x, y, z] t)) := by
  have hg : (w.alloc (.cells #[x, y, z] t)).heap[w.heap.size]? = some (.cells #[x, y, z] t (0, 0)) := heap_alloc_new _ _
  exact ⟨cell_of_row _ _ _ _ _ _ hg, cell_of_row _ _ _ _ _ _ hg, cell_of_row _ _ _ _ _ _ hg, (Below.refl _ _).alloc (Nat.le_refl _) _⟩

set_option maxRecDepth 100000 in
set_option maxHeartbeats 4000000 in
theorem great_calls (v : Value) (d : Dev) (w : World) (h : DevV w v d) :
    Calls Try.prog 22 #[v] w fun e w' => e = .returned (.bool (decide (GreatD d))) ∧ Below w.heap.size w w' := by
  obtain ⟨A, n, C, hs, B, m, D, ht, rfl, h1, h2⟩ := h
  have hm1 := h1.max
  have hm2 := h2.max
  have G0 : Hid (0 = gsum d.blocks 0) := by refine Lib.hid ?_; rw [gsum_zero]
  have G1 : ∀ t, Hid (t = t + gsum (d.wait.map (·.2)) 0) := by intro t; refine Lib.hid ?_; rw [gsum_zero]; rfl
  have hl1 := Lib.hid h1.len
  have hl2 := Lib.hid h2.len
  obtain ⟨c0, c1, c2, hb⟩ := boxed_dev (w := w) (x := .slice A n C) (y := .slice B m D) (z := .bool d.dead) (t := 25)
  go_enter Try.func22, Try.ntmps22
  go_wp2
  generalize World.alloc _ _ = w1 at *
  have k1 := h1.below hb (Nat.le_refl _)
  have k2 := h2.below hb (Nat.le_refl _)
  go_loop [3, 4] (fun s i => ∃ k t : Nat, k ≤ n ∧ k ≤ 400 ∧ i = .int .i64 k ∧ s = .int .i64 t ∧ t ≤ k * 100008 ∧ Hid (t = gsum d.blocks k)) (fun _ i => 400 - (intOf i).toNat)
  case atStart => exact ⟨0, 0, by omega, by omega, rfl, rfl, by omega, G0⟩
  case round =>
    obtain ⟨k, t, hk, hk4, rfl, rfl, ht0, hsum⟩ := hrel
    by_cases hkn : k < n ∧ k < 400
    · obtain ⟨b, off, A1, L, C1, zs, rfl, _, _, hls, hcell, hi⟩ := k1.at hkn.1
      have hkn1 : (k : Int) < (n : Int) := by omega
      have hkn2 : (k : Int) < 400 := by omega
      have hL := Lib.hid hi.len
      have hLm := hi.max
      have F : Hid (((t : Int) + (8 + if 100000 < (L : Int) then 100000 else (L : Int)) = ((t + (8 + min L 100000) : Nat) : Int)) ∧ t + (8 + min L 100000) = gsum d.blocks (k + 1)) := by
        refine Lib.hid ⟨?_, ?_⟩
        · split <;> omega
        · rw [gsum_succ, ← hsum.out, List.getD_eq_getElem?_getD, hls, Option.getD_some, hL.out]
      clear hls hi hkn
      go_wp2
      go_round
      case rel => exact ⟨k + 1, t + (8 + min L 100000), by omega, by omega, by go_num, by rw [F.out.1], by omega, F.out.2⟩
      case measure => simp [intOf]; omega
    · have hkm : k = min 400 n := by omega
      have hg : ((k : Int) < (n : Int) ∧ (400 : Int) ≤ (k : Int)) ∨ ((n : Int) ≤ (k : Int)) := by omega
      clear hkn hk hk4
      have T0 : Hid (t = gsum d.blocks (min 400 n)) := by refine Lib.hid ?_; rw [hsum.out, hkm]
      have ht1 : t ≤ 40003200 := by
        rw [T0.out]
        exact gsum_400 _ _
      clear hsum hkm ht0
      rcases hg with ⟨g1, g2⟩ | g1
      all_goals
        go_wp2
        go_loop [3, 5] (fun s i => ∃ j u : Nat, j ≤ m ∧ j ≤ 1200 ∧ i = .int .i64 j ∧ s = .int .i64 u ∧ u ≤ 40003200 + j * 100008 ∧ Hid (u = t + gsum (d.wait.map (·.2)) j)) (fun _ i => 1200 - (intOf i).toNat)
        case atStart => exact ⟨0, t, by omega, by omega, rfl, rfl, by omega, G1 t⟩
        case round =>
          obtain ⟨j, u, hj, hj4, rfl, rfl, hu0, husum⟩ := hrel
          by_cases hjm : j < m ∧ j < 1200
          · obtain ⟨b, off, A1, L, C1, x, rfl, _, hls, hc1', hcell, _, hi, _, _⟩ := k2.at hjm.1
            have hkn1 : (j : Int) < (m : Int) := by omega
            have hkn2 : (j : Int) < 1200 := by omega
            have hL := Lib.hid hi.len
            have hLm := hi.max
            have F : Hid (((u : Int) + (8 + if 100000 < (L : Int) then 100000 else (L : Int)) = ((u + (8 + min L 100000) : Nat) : Int)) ∧ u + (8 + min L 100000) = t + gsum (d.wait.map (·.2)) (j + 1)) := by
              refine Lib.hid ⟨?_, ?_⟩
              · split <;> omega
              · rw [gsum_succ, husum.out, List.getD_eq_getElem?_getD, List.getElem?_map, hls, Option.map_some, Option.getD_some, hL.out]
                omega
            clear hls hi hjm hc1'
            go_wp2
            go_round
            case rel => exact ⟨j + 1, u + (8 + min L 100000), by omega, by omega, by go_num, by rw [F.out.1], by omega, F.out.2⟩
            case measure => simp [intOf]; omega
          · have hjm' : j = min 1200 m := by omega
            have hg2 : ((j : Int) < (m : Int) ∧ (1200 : Int) ≤ (j : Int)) ∨ ((m : Int) ≤ (j : Int)) := by omega
            have U : Hid (u = gsum d.blocks (min 400 d.blocks.length) + gsum (d.wait.map (·.2)) (min 1200 d.wait.length)) := by
              refine Lib.hid ?_
              rw [hl1.out, hl2.out, husum.out, hjm', ← T0.out]
            clear husum hjm hj hj4 hjm'
            have hend : ((300 : Int) < (n : Int) ∧ Hid (decide (GreatD d) = true)) ∨ ((n : Int) ≤ 300 ∧ (1100 : Int) < (m : Int) ∧ Hid (decide (GreatD d) = true)) ∨ ((n : Int) ≤ 300 ∧ (m : Int) ≤ 1100 ∧ (60000 : Int) < (u : Int) ∧ Hid (decide (GreatD d) = true)) ∨ ((n : Int) ≤ 300 ∧ (m : Int) ≤ 1100 ∧ (u : Int) ≤ 60000 ∧ Hid (decide (GreatD d) = false)) := by
              have e1 := hl1.out
              have e2 := hl2.out
              have e3 := U.out
              by_cases q1 : 300 < n
              · exact .inl ⟨by omega, decide_eq_true (.inl (by omega))⟩
              · by_cases q2 : 1100 < m
                · exact .inr (.inl ⟨by omega, by omega, decide_eq_true (.inr (.inl (by omega)))⟩)
                · by_cases q3 : 60000 < u
                  · exact .inr (.inr (.inl ⟨by omega, by omega, by omega, decide_eq_true (.inr (.inr (by omega)))⟩))
                  · exact .inr (.inr (.inr ⟨by omega, by omega, by omega, decide_eq_false (by rintro (q | q | q) <;> omega)⟩))
            rcases hg2 with ⟨g3, g4⟩ | g3
            all_goals
              rcases hend with ⟨q1, E⟩ | ⟨q1, q2, E⟩ | ⟨q1, q2, q3, E⟩ | ⟨q1, q2, q3, E⟩
            all_goals first
              | (exfalso; omega)
              | (go_wp2
                 go_ret
                 first
                   | exact ⟨ret_bool E.out.symm, hb⟩
                   | exact ⟨ret_bool (by rw [E.out]; simp; omega), hb⟩)
end Go.Proofs.Ytldgpkaecfgagaa
