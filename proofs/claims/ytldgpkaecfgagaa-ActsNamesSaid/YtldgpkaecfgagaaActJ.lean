/- The walk of the laws' own helper alive of layer 5: the chapter's first examples. -/
import Derived.Test.YtldgpkaecfgagaaActI
namespace Go.Proofs.Ytldgpkaecfgagaa
open Go.RowKit PolyM PackM FoldM DevM

def ex1 : List Dev := [devA, dev0]
def ex2 : List Dev := [⟨flushL devA.blocks devA.wait, [], false⟩, dev0]
theorem ex_e1 : runE [dev0, dev0] [act1, act2] 1 = 0 := by decide +kernel
theorem ex_l1 : runL [dev0, dev0] [act1, act2] 1 = ex1 := by kernel_rfl
theorem ex_e2 : runE [dev0, dev0] [act1, act2] 2 = 0 := by decide +kernel
theorem ex_l2 : runL [dev0, dev0] [act1, act2] 2 = ex2 := by kernel_rfl
theorem ex_m1 : MayL ex1 ∧ manyL ex1 = 1 := by decide +kernel
theorem ex_m2 : MayL ex2 ∧ manyL ex2 = 0 := by decide +kernel
theorem ex_c1 : crashE ex1 [true] = 0 := by decide +kernel
theorem ex_c2 : crashE ex1 [false] = 0 := by decide +kernel
theorem ex_c3 : crashE ex1 [] = 0 := by decide +kernel
theorem ex_r1 : crashR ex1 [true] = [keptD devA [true], keptD dev0 []] := by kernel_rfl
theorem ex_r2 : crashR ex1 [false] = [keptD devA [false], keptD dev0 []] := by kernel_rfl
theorem ex_r3 : crashR ex1 [] = [keptD devA [false], keptD dev0 []] := by kernel_rfl
theorem ex_u0 : useE ⟨flushL devA.blocks devA.wait, [], false⟩ 1 [] = 0 ∧ useE (keptD devA [true]) 1 [] = 0 ∧ useE (keptD devA [false]) 1 [] = 0 := by decide +kernel
theorem ex_u1 : lies ⟨flushL devA.blocks devA.wait, [], false⟩ 1 = fullL 120 := by decide +kernel
theorem ex_u2 : lies (keptD devA [true]) 1 = fullL 120 := by decide +kernel
theorem ex_u3 : lies (keptD devA [false]) 1 = fullL 0 := by decide +kernel
theorem nil_row (w : World) : Row w 1 none 0 (([] : List Bool).map Value.bool) := ⟨rfl, .inl rfl⟩
theorem one_row {w : World} {g : Nat} {b : Bool} (h : w.heap[g]? = some (.cells #[.bool b] 4 (0, 0))) : Row w 1 (some ⟨g, 0, none⟩) 1 ([b].map Value.bool) := by
  refine ⟨rfl, .inr ⟨g, 0, rfl, heap_lt h, fun i v hv => ?_⟩⟩
  rw [Nat.zero_add, cell_of_row _ _ _ _ _ _ h, ← Array.getElem?_toList]
  exact hv
set_option maxRecDepth 100000 in
set_option maxHeartbeats 8000000 in
theorem alive5_calls (w : World) : Calls Try.prog 46 #[] w fun e w' => e = .returned (.bool true) ∧ Below w.heap.size w w' := by
  have r1 := fun W a n c hs a0 n0 c0 hs0 (h : DSlab W a n hs [dev0, dev0]) (g : ASlab W a0 n0 hs0 [act1, act2]) (hc : n0 ≤ c0) => run_calls a n c hs _ a0 n0 c0 hs0 _ 1 W h g hc
  have r2 := fun W a n c hs a0 n0 c0 hs0 (h : DSlab W a n hs [dev0, dev0]) (g : ASlab W a0 n0 hs0 [act1, act2]) (hc : n0 ≤ c0) => run_calls a n c hs _ a0 n0 c0 hs0 _ 2 W h g hc
  rw [ex_e1, ex_l1] at r1
  rw [ex_e2, ex_l2] at r2
  have k1 := fun W a n c hs (h : DSlab W a n hs ex1) => actwaits_calls a n c hs _ W h
  have k2 := fun W a n c hs (h : DSlab W a n hs ex2) => actwaits_calls a n c hs _ W h
  rw [if_pos ex_m1.1, ex_m1.2, show chkL ex1 = 0 from if_pos ex_m1.1] at k1
  rw [if_pos ex_m2.1, ex_m2.2, show chkL ex2 = 0 from if_pos ex_m2.1] at k2
  have c1 := fun W a n c hs (h : DSlab W a n hs ex1) aK cK (hk : Row W 1 aK 1 ([true].map Value.bool)) (hc : 1 ≤ cK) => crash_calls a n c hs _ aK 1 cK _ W h hk hc (by omega)
  have c2 := fun W a n c hs (h : DSlab W a n hs ex1) aK cK (hk : Row W 1 aK 1 ([false].map Value.bool)) (hc : 1 ≤ cK) => crash_calls a n c hs _ aK 1 cK _ W h hk hc (by omega)
  have c3 := fun W a n c hs (h : DSlab W a n hs ex1) => crash_calls a n c hs _ none 0 0 [] W h (nil_row W) (by omega) (by omega)
  rw [ex_c1, ex_r1] at c1
  rw [ex_c2, ex_r2] at c2
  rw [ex_c3, ex_r3] at c3
  have l1 := fun W a c hs (h : DSlab W a 2 hs ex2) => lasts5_calls a c hs _ _ 120 W h (by omega) (by omega) ex_u0.1 ex_u1
  have l2 := fun W a c hs (h : DSlab W a 2 hs [keptD devA [true], keptD dev0 []]) => lasts5_calls a c hs _ _ 120 W h (by omega) (by omega) ex_u0.2.1 ex_u2
  have l3 := fun W a c hs (h : DSlab W a 2 hs [keptD devA [false], keptD dev0 []]) => lasts5_calls a c hs _ _ 0 W h (by omega) (by omega) ex_u0.2.2 ex_u3
  have len2 : ∀ {W a n hs} {d d' : Dev}, DSlab W a n hs [d, d'] → n = 2 := fun h => h.len.symm
  generalize hx1 : ex1 = x1 at *
  have e1 : x1.length = 2 := by rw [← hx1]; rfl
  generalize hx2 : ex2 = x2 at *
  have e2 : x2.length = 2 := by rw [← hx2]; rfl
  generalize keptD devA [true] = kt at *
  generalize keptD devA [false] = kf at *
  generalize keptD dev0 [] = k0 at *
  clear hx1 hx2
  go_enter Try.func46, Try.ntmps46
  go_wp2_with fail
  (with_reducible refine (two_calls _).mono ?_)
  rintro e w1 ⟨a1, C1, hs1, rfl, h1, hb1⟩
  go_wp2_with fail
  (with_reducible refine (some_calls _).mono ?_)
  rintro e w2 ⟨a2, C2, hs2, rfl, h2, hc2, hb2⟩
  replace h1 := h1.below hb2 (Nat.le_refl _)
  replace hb1 := hb1.trans (hb2.mono hb1.size)
  clear hb2
  go_wp2_with fail
  (with_reducible refine (r1 _ _ _ _ _ _ _ _ _ h1 h2 hc2).mono ?_)
  rintro e w3 ⟨v3, rfl, hD3, hb3⟩
  obtain ⟨a3, n3, C3, hs3, rfl, h3⟩ := hD3.slab
  obtain rfl : 2 = n3 := by rw [← h3.len, e1]
  replace hb1 := hb1.trans (hb3.mono hb1.size)
  clear h1 h2 hD3 hb3 hc2 r1
  go_wp2_with fail
  (with_reducible refine (k1 _ _ _ _ _ h3).mono ?_)
  rintro e w4 ⟨rfl, hb4⟩
  replace h3 := h3.below hb4 (Nat.le_refl _)
  replace hb1 := hb1.trans (hb4.mono hb1.size)
  clear hb4 k1
  go_wp2_with fail
  (with_reducible refine (two_calls _).mono ?_)
  rintro e w5 ⟨a5, C5, hs5, rfl, h5, hb5⟩
  replace h3 := h3.below hb5 (Nat.le_refl _)
  replace hb1 := hb1.trans (hb5.mono hb1.size)
  clear hb5
  go_wp2_with fail
  (with_reducible refine (some_calls _).mono ?_)
  rintro e w6 ⟨a6, C6, hs6, rfl, h6, hc6, hb6⟩
  replace h3 := h3.below hb6 (Nat.le_refl _)
  replace h5 := h5.below hb6 (Nat.le_refl _)
  replace hb1 := hb1.trans (hb6.mono hb1.size)
  clear hb6
  go_wp2_with fail
  (with_reducible refine (r2 _ _ _ _ _ _ _ _ _ h5 h6 hc6).mono ?_)
  rintro e w7 ⟨v7, rfl, hD7, hb7⟩
  obtain ⟨a7, n7, C7, hs7, rfl, h7⟩ := hD7.slab
  obtain rfl : 2 = n7 := by rw [← h7.len, e2]
  replace h3 := h3.below hb7 (Nat.le_refl _)
  replace hb1 := hb1.trans (hb7.mono hb1.size)
  clear h5 h6 hD7 hb7 hc6 r2
  go_wp2_with fail
  (with_reducible refine (k2 _ _ _ _ _ h7).mono ?_)
  rintro e w8 ⟨rfl, hb8⟩
  replace h3 := h3.below hb8 (Nat.le_refl _)
  replace h7 := h7.below hb8 (Nat.le_refl _)
  replace hb1 := hb1.trans (hb8.mono hb1.size)
  clear hb8 k2
  have ha := (Below.refl w8.heap.size w8).alloc (Nat.le_refl _) (.cells #[.bool true] 4)
  replace h3 := h3.below ha (Nat.le_refl _)
  replace h7 := h7.below ha (Nat.le_refl _)
  replace hb1 := hb1.trans (ha.mono hb1.size)
  have hr := one_row (heap_alloc_new w8 (.cells #[.bool true] 4))
  clear ha
  go_wp2_with fail
  (with_reducible refine (c1 _ _ _ _ _ h3 _ _ hr (Nat.le_refl _)).mono ?_)
  rintro e w9 ⟨v9, rfl, hD9, hb9⟩
  obtain ⟨a9, n9, C9, hs9, rfl, h9⟩ := hD9.slab
  obtain rfl : 2 = n9 := (len2 h9).symm
  replace h3 := h3.below hb9 (Nat.le_refl _)
  replace h7 := h7.below hb9 (Nat.le_refl _)
  replace hb1 := hb1.trans (hb9.mono hb1.size)
  clear hD9 hb9 hr c1
  have ha := (Below.refl w9.heap.size w9).alloc (Nat.le_refl _) (.cells #[.bool false] 4)
  replace h3 := h3.below ha (Nat.le_refl _)
  replace h7 := h7.below ha (Nat.le_refl _)
  replace h9 := h9.below ha (Nat.le_refl _)
  replace hb1 := hb1.trans (ha.mono hb1.size)
  have hr := one_row (heap_alloc_new w9 (.cells #[.bool false] 4))
  clear ha
  go_wp2_with fail
  (with_reducible refine (c2 _ _ _ _ _ h3 _ _ hr (Nat.le_refl _)).mono ?_)
  rintro e w10 ⟨v10, rfl, hD10, hb10⟩
  obtain ⟨a10, n10, C10, hs10, rfl, h10⟩ := hD10.slab
  obtain rfl : 2 = n10 := (len2 h10).symm
  replace h3 := h3.below hb10 (Nat.le_refl _)
  replace h7 := h7.below hb10 (Nat.le_refl _)
  replace h9 := h9.below hb10 (Nat.le_refl _)
  replace hb1 := hb1.trans (hb10.mono hb1.size)
  clear hD10 hb10 hr c2
  go_wp2_with fail
  (with_reducible refine (c3 _ _ _ _ _ h3).mono ?_)
  rintro e w11 ⟨v11, rfl, hD11, hb11⟩
  obtain ⟨a11, n11, C11, hs11, rfl, h11⟩ := hD11.slab
  obtain rfl : 2 = n11 := (len2 h11).symm
  replace h7 := h7.below hb11 (Nat.le_refl _)
  replace h9 := h9.below hb11 (Nat.le_refl _)
  replace h10 := h10.below hb11 (Nat.le_refl _)
  replace hb1 := hb1.trans (hb11.mono hb1.size)
  clear hD11 hb11 h3 c3
  go_wp2_with fail
  (with_reducible refine (l1 _ _ _ _ h7).mono ?_)
  rintro e w12 ⟨rfl, hb12⟩
  replace h9 := h9.below hb12 (Nat.le_refl _)
  replace h10 := h10.below hb12 (Nat.le_refl _)
  replace h11 := h11.below hb12 (Nat.le_refl _)
  replace hb1 := hb1.trans (hb12.mono hb1.size)
  clear hb12 h7 l1
  go_wp2_with fail
  (with_reducible refine (l2 _ _ _ _ h9).mono ?_)
  rintro e w13 ⟨rfl, hb13⟩
  replace h10 := h10.below hb13 (Nat.le_refl _)
  replace h11 := h11.below hb13 (Nat.le_refl _)
  replace hb1 := hb1.trans (hb13.mono hb1.size)
  clear hb13 h9 l2
  go_wp2_with fail
  (with_reducible refine (l3 _ _ _ _ h10).mono ?_)
  rintro e w14 ⟨rfl, hb14⟩
  replace h11 := h11.below hb14 (Nat.le_refl _)
  replace hb1 := hb1.trans (hb14.mono hb1.size)
  clear hb14 h10
  go_wp2_with fail
  (with_reducible refine (l3 _ _ _ _ h11).mono ?_)
  rintro e w15 ⟨rfl, hb15⟩
  replace hb1 := hb1.trans (hb15.mono hb1.size)
  clear hb15 h11
  go_wp2
  go_ret
  exact ⟨rfl, hb1⟩
end Go.Proofs.Ytldgpkaecfgagaa
