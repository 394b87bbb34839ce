/- freeboardlaw05.ActsNames: for every input the law answers true, and what is handed in reads as it did. Conditions: none. -/
import Derived.Test.YtldgpkaecfgagaaActJ
import Derived.Test.YtldgpkaecfgagaaRefEA
import Derived.Deep.RegionHeld3
namespace Go.Proofs.Ytldgpkaecfgagaa
open Go.ChangeShapes Go.WideShapes Go.ChangeAt Go.RowKit PolyM PackM FoldM DevM
theorem make_marks (W : World) : (Instr.makeSlice 65 (.int .i64 2) (.int .i64 2)).run Try.prog W = .ok (.slice (some ⟨W.heap.size, 0, none⟩) 2 2) (W.alloc (.cells (madeCells #[.bool false] 2) 4)) :=
  run_make_row' (P := Try.prog) 65 4 (.bool false) 1 Try.underlying65 (by kernel_rfl) rfl .i64 .i64 2 (by omega) (by omega) W
theorem two_marks {w : World} {g : Nat} (h : w.heap[g]? = some (.cells (madeCells #[.bool false] 2) 4 (0, 0))) : Row w 1 (some ⟨g, 0, none⟩) 2 ([false, false].map Value.bool) := by
  have e : (madeCells #[Value.bool false] 2).toList = [false, false].map Value.bool := by simp [madeCells, List.range_succ]
  refine ⟨rfl, .inr ⟨g, 0, rfl, heap_lt h, fun i v hv => ?_⟩⟩
  rw [Nat.zero_add, cell_of_row _ _ _ _ _ _ h, ← Array.getElem?_toList, e]
  exact hv
theorem act_info : (Try.prog.info? 67).map (fun i => (i.zero, i.size, i.bytes)) = some (some (.agg #[.int .i64 0, .int .u8 0, .int .i64 0, .slice none 0 0]), 4, 48) := by kernel_rfl
theorem make_acts (W : World) : (Instr.makeSlice 62 (.int .i64 1025) (.int .i64 1025)).run Try.prog W = .ok (.slice (some ⟨W.heap.size, 0, none⟩) 1025 1025) (W.alloc (.cells (madeCells #[.int .i64 0, .int .u8 0, .int .i64 0, .slice none 0 0] (1025 * 4)) 67)) := by
  obtain ⟨i, hi, hz, hs, hb⟩ := info_parts act_info
  have hb' : (i.bytes : Int) * ((1025 : Nat) : Int) ≤ 281474976710656 := by rw [hb]; omega
  have hr := run_make (P := Try.prog) W 62 67 i _ Try.underlying62 hi hz .i64 .i64 (1025 : Nat) (1025 : Nat) (by omega) (Int.le_refl _) hb' (by omega)
  simp only [Int.toNat_natCast, hs] at hr
  exact hr
def act0 : Act5 := ⟨0, 0, 0, []⟩
theorem made_acts {w : World} {g : Nat} (h : w.heap[g]? = some (.cells (madeCells #[.int .i64 0, .int .u8 0, .int .i64 0, .slice none 0 0] (1025 * 4)) 67 (0, 0))) : ∃ hs, ASlab w (some ⟨g, 0, none⟩) 1025 hs (List.replicate 1025 act0) := by
  have get : ∀ j, j < 1025 * 4 → (madeCells #[.int .i64 0, .int .u8 0, .int .i64 0, .slice none 0 0] (1025 * 4)).toList[j]? = some ((#[.int .i64 0, .int .u8 0, .int .i64 0, .slice none 0 0] : Array Value)[j % 4]!) := by
    intro j hj
    simp only [madeCells, Array.toList_map, Array.toList_range, List.getElem?_map, List.getElem?_range hj]
    rfl
  refine ⟨(madeCells #[.int .i64 0, .int .u8 0, .int .i64 0, .slice none 0 0] (1025 * 4)).toList, ⟨⟨by rw [Array.length_toList, size_madeCells], .inr ⟨g, 0, rfl, heap_lt h, fun i v hv => ?_⟩⟩, by omega, by rw [Array.length_toList, size_madeCells, List.length_replicate], fun i x hx => ?_⟩⟩
  · rw [Nat.zero_add, cell_of_row _ _ _ _ _ _ h, ← Array.getElem?_toList]
    exact hv
  · have hi : i < 1025 := by have := (List.getElem?_eq_some_iff.1 hx).1; rw [List.length_replicate] at this; exact this
    rw [List.getElem?_replicate, if_pos hi] at hx
    obtain rfl := Option.some.inj hx
    refine ⟨none, 0, 0, ?_, ?_, ?_, ?_, ⟨by rfl, by rfl, by rfl, nil_ints .u8 _ 0⟩⟩
    · rw [get (i * 4) (by omega), show i * 4 % 4 = 0 by omega]; rfl
    · rw [get (i * 4 + 1) (by omega), show (i * 4 + 1) % 4 = 1 by omega]; rfl
    · rw [get (i * 4 + 2) (by omega), show (i * 4 + 2) % 4 = 2 by omega]; rfl
    · rw [get (i * 4 + 3) (by omega), show (i * 4 + 3) % 4 = 3 by omega]; rfl
theorem slab_nil (w : World) : DSlab w none 0 [] [] := ⟨⟨rfl, .inl rfl⟩, by omega, ⟨rfl, fun i d h => by simp at h⟩⟩
theorem aslab_nil (w : World) : ASlab w none 0 [] [] := ⟨⟨rfl, .inl rfl⟩, by omega, ⟨rfl, fun i d h => by simp at h⟩⟩
theorem aslab_one {w : World} {g : Nat} (h : w.heap[g]? = some (.cells #[.int .i64 2, .int .u8 3, .int .i64 0, .slice none 0 0] 67 (0, 0))) : ASlab w (some ⟨g, 0, none⟩) 1 [.int .i64 2, .int .u8 3, .int .i64 0, .slice none 0 0] [⟨2, 3, 0, []⟩] := by
  refine ⟨⟨rfl, .inr ⟨g, 0, rfl, heap_lt h, fun i v hv => ?_⟩⟩, by omega, rfl, fun i x hx => ?_⟩
  · rw [Nat.zero_add, cell_of_row _ _ _ _ _ _ h, ← Array.getElem?_toList]
    exact hv
  · rcases i with _ | i
    · obtain rfl := Option.some.inj hx
      exact ⟨none, 0, 0, rfl, rfl, rfl, rfl, ⟨by rfl, by rfl, by rfl, nil_ints .u8 _ 0⟩⟩
    · simp at hx
def devK : Dev := ⟨List.replicate 2 [], [], true⟩
theorem nm_c : crashE ex1 [false, false] = 2 := by decide +kernel
theorem nm_r3 : runE [dev0, dev0] [act1, act2] 3 = 2 := by decide +kernel
theorem nm_r4 : runE [dev0, dev0] [⟨2, 3, 0, []⟩] 0 = 2 := by decide +kernel
theorem nm_k : MayD dev0 := by decide +kernel
theorem nm_r5 : runE [devK, dev0] [act1, act2] 1 = 0 := by decide +kernel
theorem nm_l5 : runL [devK, dev0] [act1, act2] 1 = [devK, dev0] := by kernel_rfl
theorem nm_m : MayL [dev0, dev0] := by decide +kernel
theorem nm_s : ∀ d ∈ [devK, dev0], MayD d := by decide +kernel
theorem nm_0 : chkA [] [] = 8 := by decide +kernel
theorem nm_4 : chkA (List.replicate 1025 act0) [dev0, dev0] = 4 := by
  unfold chkA
  rw [if_neg (fun q => q nm_m), if_pos (by rw [List.length_replicate]; omega)]

set_option maxHeartbeats 16000000 in
set_option maxRecDepth 100000 in
theorem actsNames_walk (w : World) : Calls Try.prog 9 #[] w fun e w' => e = .returned (.bool true) ∧ Below w.heap.size w w' := by
  have rr := fun k W a n c hs a0 n0 c0 hs0 (h : DSlab W a n hs [dev0, dev0]) (g : ASlab W a0 n0 hs0 [act1, act2]) (hc : n0 ≤ c0) => run_calls a n c hs _ a0 n0 c0 hs0 _ k W h g hc
  have r1 := rr 1
  have r3 := rr 3
  rw [ex_e1, ex_l1] at r1
  rw [nm_r3] at r3
  have r4 := fun W a n c hs a0 hs0 (h : DSlab W a n hs [dev0, dev0]) (g : ASlab W a0 1 hs0 [⟨2, 3, 0, []⟩]) => run_calls a n c hs _ a0 1 1 hs0 _ 0 W h g (Nat.le_refl _)
  rw [nm_r4] at r4
  have r5 := fun W a n c hs a0 n0 c0 hs0 (h : DSlab W a n hs [devK, dev0]) (g : ASlab W a0 n0 hs0 [act1, act2]) (hc : n0 ≤ c0) => run_calls a n c hs _ a0 n0 c0 hs0 _ 1 W h g hc
  rw [nm_r5, nm_l5] at r5
  have c1 := fun W a n c hs (h : DSlab W a n hs ex1) aK (hk : Row W 1 aK 2 ([false, false].map Value.bool)) => crash_calls a n c hs _ aK 2 2 _ W h hk (Nat.le_refl _) (by omega)
  rw [nm_c] at c1
  have kk := fun W v (h : DevV W v dev0) => kill_calls v dev0 W h
  rw [if_pos nm_k, chk_may nm_k] at kk
  change ∀ W v, DevV W v dev0 → Calls _ _ _ _ (DevIs W 0 devK) at kk
  have q0 := fun W => actcheck_calls none 0 0 [] [] none 0 0 [] [] W (aslab_nil W) (slab_nil W)
  rw [nm_0] at q0
  have q4 := fun W a n c hs a0 hs0 (g : ASlab W a0 1025 hs0 (List.replicate 1025 act0)) (h : DSlab W a n hs [dev0, dev0]) => actcheck_calls a0 1025 1025 hs0 _ a n c hs _ W g h
  rw [nm_4] at q4
  have ss := Lib.hid (SameL.refl (ds := [devK, dev0]) fun d hd => may_smallD (nm_s d hd))
  have hmk := make_marks
  have hma := make_acts
  have hB := Below.refl w.heap.size w
  clear rr
  have hmd := @made_acts
  generalize List.replicate 1025 act0 = za at *
  generalize hx1 : ex1 = x1 at *
  generalize runL [dev0, dev0] [act1, act2] 3 = l3 at *
  generalize runL [dev0, dev0] [⟨2, 3, 0, []⟩] 0 = l4 at *
  generalize crashR x1 [false, false] = l2 at *
  clear hx1
  go_enter Try.func9, Try.ntmps9
  go_wp2_with fail
  (with_reducible refine (two_calls _).mono ?_)
  rintro e w1 ⟨a1, C1, s1, rfl, h1, hb⟩
  replace hB := hB.trans (hb.mono hB.size)
  clear hb
  go_wp2_with fail
  (with_reducible refine (some_calls _).mono ?_)
  rintro e w2 ⟨b1, E1, t1, rfl, g1, f1, hb⟩
  replace h1 := h1.below hb (Nat.le_refl _)
  replace hB := hB.trans (hb.mono hB.size)
  clear hb
  go_wp2_with fail
  (with_reducible refine (r1 _ _ _ _ _ _ _ _ _ h1 g1 f1).mono ?_)
  rintro e w3 ⟨v1, rfl, hD, hb⟩
  obtain ⟨aA, nA, CA, sA, rfl, hA⟩ := hD.slab
  clear hD h1 g1 f1 r1
  replace hB := hB.trans (hb.mono hB.size)
  clear hb
  have ha := (Below.refl w3.heap.size w3).alloc (Nat.le_refl _) (.cells (madeCells #[.bool false] 2) 4)
  replace hA := hA.below ha (Nat.le_refl _)
  replace hB := hB.trans (ha.mono hB.size)
  have hr := two_marks (heap_alloc_new w3 (.cells (madeCells #[.bool false] 2) 4))
  clear ha
  go_wp2_with fail
  (with_reducible refine (c1 _ _ _ _ _ hA _ hr).mono ?_)
  rintro e w4 ⟨v2, rfl, hD, hb⟩
  clear hD hA hr c1
  replace hB := hB.trans (hb.mono hB.size)
  clear hb
  go_wp2_with fail
  (with_reducible refine (two_calls _).mono ?_)
  rintro e w5 ⟨a2, C2, s2, rfl, h2, hb⟩
  replace hB := hB.trans (hb.mono hB.size)
  clear hb
  go_wp2_with fail
  (with_reducible refine (some_calls _).mono ?_)
  rintro e w6 ⟨b2, E2, t2, rfl, g2, f2, hb⟩
  replace h2 := h2.below hb (Nat.le_refl _)
  replace hB := hB.trans (hb.mono hB.size)
  clear hb
  go_wp2_with fail
  (with_reducible refine (r3 _ _ _ _ _ _ _ _ _ h2 g2 f2).mono ?_)
  rintro e w7 ⟨v3, rfl, hD, hb⟩
  clear hD h2 g2 f2 r3
  replace hB := hB.trans (hb.mono hB.size)
  clear hb
  go_wp2_with fail
  (with_reducible refine (two_calls _).mono ?_)
  rintro e w8 ⟨a3, C3, s3, rfl, h3, hb⟩
  replace hB := hB.trans (hb.mono hB.size)
  clear hb
  have ha := (Below.refl w8.heap.size w8).alloc (Nat.le_refl _) (.cells #[.int .i64 2, .int .u8 3, .int .i64 0, .slice none 0 0] 67)
  replace h3 := h3.below ha (Nat.le_refl _)
  replace hB := hB.trans (ha.mono hB.size)
  have hr := aslab_one (heap_alloc_new w8 (.cells #[.int .i64 2, .int .u8 3, .int .i64 0, .slice none 0 0] 67))
  clear ha
  go_wp2_with fail
  (with_reducible refine (r4 _ _ _ _ _ _ _ h3 hr).mono ?_)
  rintro e w9 ⟨v4, rfl, hD, hb⟩
  clear hD h3 hr r4
  replace hB := hB.trans (hb.mono hB.size)
  clear hb
  go_wp2_with fail
  (with_reducible refine (two_calls _).mono ?_)
  rintro e w10 ⟨a4, C4, s4, rfl, h4, hb⟩
  replace hB := hB.trans (hb.mono hB.size)
  clear hb
  obtain ⟨b, off, A, l, C, B, m, D, d, rfl, hd, hlt, k0, k1, k2, hv⟩ := h4.at (i := 0) (by omega)
  obtain rfl := Option.some.inj hd
  rw [Nat.zero_mul, Nat.add_zero] at k0 k1 k2
  have kc := kk _ _ hv
  change _ = some (Value.bool false) at k2
  change Calls _ _ #[.agg #[.slice A l C, .slice B m D, .bool false]] _ _ at kc
  clear h4 hd hv kk
  go_wp2_with fail
  (with_reducible refine (kc).mono ?_)
  rintro e w11 ⟨v5, rfl, hN, hb⟩
  obtain ⟨AK, nK, CK, BK, mK, DK, rfl, -⟩ := hN.form4 (dd := true) rfl
  clear k0 k1 k2 kc
  replace hB := hB.trans (hb.mono hB.size)
  clear hb
  have hxK := BoxD.new w11 (.slice AK nK CK) (.slice BK mK DK) (.bool true)
  have haK : Below w11.heap.size w11 (w11.alloc (.cells #[.slice AK nK CK, .slice BK mK DK, .bool true] 25)) := (Below.refl _ _).alloc (Nat.le_refl _) _
  have hNK := (hN.below haK).devV
  have hBK := hB.trans (haK.mono hB.size)
  go_upto_region 6 with fail
  clear hN hB haK
  generalize hwz : w11.alloc (.cells #[.slice AK nK CK, .slice BK mK DK, .bool true] 25) = wz at *
  have x0 := hxK.c0
  have x1' := hxK.c1
  have x2 := hxK.c2
  go_cut [11] (fun s11 wx => ∃ a hs, s11 = .slice a 2 2 ∧ DSlab wx a 2 hs [devK, dev0] ∧ Below w.heap.size w wx)
  case first =>
    refine wp_region_held_drew (S := (fun W => W.cell? ⟨w11.heap.size, 0, none⟩ = some (.slice AK nK CK) ∧ W.cell? ⟨w11.heap.size, 1, none⟩ = some (.slice BK mK DK) ∧ W.cell? ⟨w11.heap.size, 2, none⟩ = some (.bool true))) (by kernel_rfl) ?_ (fun hHeld => ?_)
    · first | exact hHeld | exact ⟨x0, x1', x2⟩ | exact ⟨(hxK.below h9z).c0, (hxK.below h9z).c1, (hxK.below h9z).c2⟩ | exact ⟨(hxK.below hAz).c0, (hxK.below hAz).c1, (hxK.below hAz).c2⟩
    refine wpAnyH_take (i := 0) (v := ?_) rfl (by kernel_rfl) (by kernel_rfl) (by kernel_rfl) (fun _ _ _ h => h) (Or.inl ⟨by rfl, ?_⟩) hHeld ?_
    rotate_left
    · (intro w hSw; (try dsimp only at hSw); go_simp; try with_reducible rfl)
    try simp only [Act.put, List.getElem_toArray, List.getElem_cons_zero, List.getElem_cons_succ, List.setIfInBounds_toArray, List.set_cons_zero, List.set_cons_succ]
    refine wpAnyH_ready (rs := [1]) (by kernel_rfl) (by simp) ?_
    refine AllReadyH.cons rfl (fun K hK => ?_) AllReadyH.nil
    go_simp
    (with_reducible refine (two_calls _).mono ?_)
    rintro e w9 ⟨a9, C9, s9, rfl, h9, hb9⟩
    have h9z : Below wz.heap.size wz w9 := (Below.refl _ _).drew.trans (hb9.mono (Nat.le_refl _))
    obtain ⟨b, off, A, l, C, B, m, D, d, rfl, hd, hlt, k0, k1, k2, hv⟩ := h9.at (i := 1) (by omega)
    obtain rfl := Option.some.inj hd
    rw [Nat.one_mul] at k0 k1 k2
    change _ = some (Value.bool false) at k2
    have hAz := h9z.alloc h9z.size (.cells #[.slice AK nK CK, .slice BK mK DK, .bool true, .slice A l C, .slice B m D, .bool false] 25)
    have HT := Lib.hid (DSlab.two (d0 := devK) (d1 := dev0) (heap_alloc_new w9 (.cells #[.slice AK nK CK, .slice BK mK DK, .bool true, .slice A l C, .slice B m D, .bool false] 25)) (hNK.below hAz (Nat.le_refl _)) (hv.below ((Below.refl _ _).alloc (Nat.le_refl _) _) (Nat.le_refl _)))
    clear hb9 h9 hd hv
    go_wp2_with fail
    refine hK.out _ _ ?_ (fun hHeld2 => ?_)
    · first | exact hHeld | exact ⟨x0, x1', x2⟩ | exact ⟨(hxK.below h9z).c0, (hxK.below h9z).c1, (hxK.below h9z).c2⟩ | exact ⟨(hxK.below hAz).c0, (hxK.below hAz).c1, (hxK.below hAz).c2⟩
    clear hK K hHeld
    have hHeld := hHeld2
    clear hHeld2
    try simp only [Act.put, List.setIfInBounds_toArray, List.set_cons_zero, List.set_cons_succ]
    refine wpAnyH_ready (rs := [2]) (by kernel_rfl) (by simp) ?_
    refine AllReadyH.cons rfl (fun K hK => ?_) AllReadyH.nil
    go_simp
    refine hK.out _ _ ?_ (fun hHeld2 => ?_)
    · first | exact hHeld | exact ⟨x0, x1', x2⟩ | exact ⟨(hxK.below h9z).c0, (hxK.below h9z).c1, (hxK.below h9z).c2⟩ | exact ⟨(hxK.below hAz).c0, (hxK.below hAz).c1, (hxK.below hAz).c2⟩
    clear hK K hHeld
    have hHeld := hHeld2
    clear hHeld2
    try simp only [Act.put, List.setIfInBounds_toArray, List.set_cons_zero, List.set_cons_succ]
    refine wpAnyH_ready (rs := [3]) (by kernel_rfl) (by simp) ?_
    refine AllReadyH.cons rfl (fun K hK => ?_) AllReadyH.nil
    go_simp
    refine hK.out _ _ ?_ (fun hHeld2 => ?_)
    · first | exact hHeld | exact ⟨x0, x1', x2⟩ | exact ⟨(hxK.below h9z).c0, (hxK.below h9z).c1, (hxK.below h9z).c2⟩ | exact ⟨(hxK.below hAz).c0, (hxK.below hAz).c1, (hxK.below hAz).c2⟩
    clear hK K hHeld
    have hHeld := hHeld2
    clear hHeld2
    try simp only [Act.put, List.setIfInBounds_toArray, List.set_cons_zero, List.set_cons_succ]
    refine wpAnyH_ready (rs := [4]) (by kernel_rfl) (by simp) ?_
    refine AllReadyH.cons rfl (fun K hK => ?_) AllReadyH.nil
    go_simp
    refine hK.out _ _ ?_ (fun hHeld2 => ?_)
    · first | exact hHeld | exact ⟨x0, x1', x2⟩ | exact ⟨(hxK.below h9z).c0, (hxK.below h9z).c1, (hxK.below h9z).c2⟩ | exact ⟨(hxK.below hAz).c0, (hxK.below hAz).c1, (hxK.below hAz).c2⟩
    clear hK K hHeld
    have hHeld := hHeld2
    clear hHeld2
    try simp only [Act.put, List.setIfInBounds_toArray, List.set_cons_zero, List.set_cons_succ]
    refine wpAnyH_ready (rs := [5]) (by kernel_rfl) (by simp) ?_
    refine AllReadyH.cons rfl (fun K hK => ?_) AllReadyH.nil
    go_simp
    refine hK.out _ _ ?_ (fun hHeld2 => ?_)
    · first | exact hHeld | exact ⟨x0, x1', x2⟩ | exact ⟨(hxK.below h9z).c0, (hxK.below h9z).c1, (hxK.below h9z).c2⟩ | exact ⟨(hxK.below hAz).c0, (hxK.below hAz).c1, (hxK.below hAz).c2⟩
    clear hK K hHeld
    have hHeld := hHeld2
    clear hHeld2
    try simp only [Act.put, List.setIfInBounds_toArray, List.set_cons_zero, List.set_cons_succ]
    refine wpAnyH_done (by kernel_rfl) ?_ _
    clear hHeld
    go_wp2_with fail
    go_meet
    case rel => exact ⟨_, _, rfl, HT.out, hBK.trans (hAz.mono hBK.size)⟩
  case rest =>
    obtain ⟨aD, sD, rfl, hDd, hB⟩ := hcut
    clear x0 x1' x2 hxK hNK hBK
    go_wp2_with fail
    (with_reducible refine (some_calls _).mono ?_)
    rintro e w41 ⟨b6, E6, t6, rfl, g6, f6, hb⟩
    replace hDd := hDd.below hb (Nat.le_refl _)
    replace hB := hB.trans (hb.mono hB.size)
    clear hb
    go_wp2_with fail
    (with_reducible refine (r5 _ _ _ _ _ _ _ _ _ hDd g6 f6).mono ?_)
    rintro e w42 ⟨v6, rfl, hD, hb⟩
    obtain ⟨aF, nF, CF, sF, rfl, hF⟩ := hD.slab
    obtain rfl : 2 = nF := hF.len
    clear hD g6 f6 r5
    replace hDd := hDd.below hb (Nat.le_refl _)
    replace hB := hB.trans (hb.mono hB.size)
    clear hb
    go_upto_region 8 with fail
    refine wp_region_held_drew (S := (fun W => Below w42.heap.size w42 W)) (by kernel_rfl) ?_ (fun hHeld => ?_)
    · first | exact hHeld | exact hB9 | exact hHeld.alloc hHeld.size _ | exact (Below.refl _ _).drew
    refine wpAnyH_take (i := 0) (v := ?_) rfl (by kernel_rfl) (by kernel_rfl) (by kernel_rfl) (fun _ _ _ h => h) (Or.inl ⟨by rfl, ?_⟩) hHeld ?_
    rotate_left
    · (intro w hSw; (try dsimp only at hSw); go_simp; try with_reducible rfl)
    try simp only [Act.put, List.getElem_toArray, List.getElem_cons_zero, List.getElem_cons_succ, List.setIfInBounds_toArray, List.set_cons_zero, List.set_cons_succ]
    refine wpAnyH_ready (rs := [1]) (by kernel_rfl) (by simp) ?_
    refine AllReadyH.cons rfl (fun K hK => ?_) AllReadyH.nil
    go_simp
    (with_reducible refine (alive5_calls _).mono ?_)
    rintro e w9 ⟨rfl, hb9⟩
    have hB9 := hHeld.trans (hb9.mono hHeld.size)
    go_wp2_with fail
    refine hK.out _ _ ?_ (fun hHeld2 => ?_)
    · first | exact hHeld | exact hB9 | exact hHeld.alloc hHeld.size _ | exact (Below.refl _ _).drew
    clear hK K hHeld
    have hHeld := hHeld2
    clear hHeld2
    try simp only [Act.put, List.setIfInBounds_toArray, List.set_cons_zero, List.set_cons_succ]
    refine wpAnyH_take (i := 2) (v := ?_) rfl (by kernel_rfl) (by kernel_rfl) (by kernel_rfl) (fun _ _ _ h => h) (Or.inl ⟨by rfl, ?_⟩) hHeld ?_
    rotate_left
    · (intro w hSw; (try dsimp only at hSw); go_simp; try with_reducible rfl)
    try simp only [Act.put, List.getElem_toArray, List.getElem_cons_zero, List.getElem_cons_succ, List.setIfInBounds_toArray, List.set_cons_zero, List.set_cons_succ]
    refine wpAnyH_take (i := 3) (v := ?_) rfl (by kernel_rfl) (by kernel_rfl) (by kernel_rfl) (fun _ _ _ h => h) (Or.inl ⟨by rfl, ?_⟩) hHeld ?_
    rotate_left
    · (intro w hSw; (try dsimp only at hSw); go_simp; try with_reducible rfl)
    try simp only [Act.put, List.getElem_toArray, List.getElem_cons_zero, List.getElem_cons_succ, List.setIfInBounds_toArray, List.set_cons_zero, List.set_cons_succ]
    refine wpAnyH_take (i := 4) (v := ?_) rfl (by kernel_rfl) (by kernel_rfl) (by kernel_rfl) (fun _ _ _ h => h) (Or.inl ⟨by rfl, ?_⟩) hHeld ?_
    rotate_left
    · (intro w hSw; (try dsimp only at hSw); go_simp; try with_reducible rfl)
    try simp only [Act.put, List.getElem_toArray, List.getElem_cons_zero, List.getElem_cons_succ, List.setIfInBounds_toArray, List.set_cons_zero, List.set_cons_succ]
    refine wpAnyH_take (i := 5) (v := ?_) rfl (by kernel_rfl) (by kernel_rfl) (by kernel_rfl) (fun _ _ _ h => h) (Or.inl ⟨by rfl, ?_⟩) hHeld ?_
    rotate_left
    · (intro w hSw; (try dsimp only at hSw); go_simp; try with_reducible rfl)
    try simp only [Act.put, List.getElem_toArray, List.getElem_cons_zero, List.getElem_cons_succ, List.setIfInBounds_toArray, List.set_cons_zero, List.set_cons_succ]
    refine wpAnyH_take (i := 6) (v := ?_) rfl (by kernel_rfl) (by kernel_rfl) (by kernel_rfl) (fun _ _ _ h => h) (Or.inl ⟨by rfl, ?_⟩) hHeld ?_
    rotate_left
    · (intro w hSw; (try dsimp only at hSw); go_simp; try with_reducible rfl)
    try simp only [Act.put, List.getElem_toArray, List.getElem_cons_zero, List.getElem_cons_succ, List.setIfInBounds_toArray, List.set_cons_zero, List.set_cons_succ]
    refine wpAnyH_take (i := 7) (v := ?_) rfl (by kernel_rfl) (by kernel_rfl) (by kernel_rfl) (fun _ _ _ h => h) (Or.inl ⟨by rfl, ?_⟩) hHeld ?_
    rotate_left
    · (intro w hSw; (try dsimp only at hSw); go_simp; try with_reducible rfl)
    try simp only [Act.put, List.getElem_toArray, List.getElem_cons_zero, List.getElem_cons_succ, List.setIfInBounds_toArray, List.set_cons_zero, List.set_cons_succ]
    refine wpAnyH_take (i := 8) (v := ?_) rfl (by kernel_rfl) (by kernel_rfl) (by kernel_rfl) (fun _ _ _ h => h) (Or.inl ⟨by rfl, ?_⟩) hHeld ?_
    rotate_left
    · (intro w hSw; (try dsimp only at hSw); go_simp; try with_reducible rfl)
    try simp only [Act.put, List.getElem_toArray, List.getElem_cons_zero, List.getElem_cons_succ, List.setIfInBounds_toArray, List.set_cons_zero, List.set_cons_succ]
    refine wpAnyH_take (i := 9) (v := ?_) rfl (by kernel_rfl) (by kernel_rfl) (by kernel_rfl) (fun _ _ _ h => h) (Or.inl ⟨by rfl, ?_⟩) hHeld ?_
    rotate_left
    · (intro w hSw; (try dsimp only at hSw); go_simp; try with_reducible rfl)
    try simp only [Act.put, List.getElem_toArray, List.getElem_cons_zero, List.getElem_cons_succ, List.setIfInBounds_toArray, List.set_cons_zero, List.set_cons_succ]
    refine wpAnyH_take (i := 10) (v := ?_) rfl (by kernel_rfl) (by kernel_rfl) (by kernel_rfl) (fun _ _ _ h => h) (Or.inl ⟨by rfl, ?_⟩) hHeld ?_
    rotate_left
    · (intro w hSw; (try dsimp only at hSw); go_simp; try with_reducible rfl)
    try simp only [Act.put, List.getElem_toArray, List.getElem_cons_zero, List.getElem_cons_succ, List.setIfInBounds_toArray, List.set_cons_zero, List.set_cons_succ]
    refine wpAnyH_take (i := 11) (v := ?_) rfl (by kernel_rfl) (by kernel_rfl) (by kernel_rfl) (fun _ _ _ h => h) (Or.inl ⟨by rfl, ?_⟩) hHeld ?_
    rotate_left
    · (intro w hSw; (try dsimp only at hSw); go_simp; try with_reducible rfl)
    try simp only [Act.put, List.getElem_toArray, List.getElem_cons_zero, List.getElem_cons_succ, List.setIfInBounds_toArray, List.set_cons_zero, List.set_cons_succ]
    refine wpAnyH_take (i := 12) (v := ?_) rfl (by kernel_rfl) (by kernel_rfl) (by kernel_rfl) (fun _ _ _ h => h) (Or.inl ⟨by rfl, ?_⟩) hHeld ?_
    rotate_left
    · (intro w hSw; (try dsimp only at hSw); go_simp; try with_reducible rfl)
    try simp only [Act.put, List.getElem_toArray, List.getElem_cons_zero, List.getElem_cons_succ, List.setIfInBounds_toArray, List.set_cons_zero, List.set_cons_succ]
    refine wpAnyH_take (i := 13) (v := ?_) rfl (by kernel_rfl) (by kernel_rfl) (by kernel_rfl) (fun _ _ _ h => h) (Or.inl ⟨by rfl, ?_⟩) hHeld ?_
    rotate_left
    · (intro w hSw; (try dsimp only at hSw); go_simp; try with_reducible rfl)
    try simp only [Act.put, List.getElem_toArray, List.getElem_cons_zero, List.getElem_cons_succ, List.setIfInBounds_toArray, List.set_cons_zero, List.set_cons_succ]
    refine wpAnyH_take (i := 14) (v := ?_) rfl (by kernel_rfl) (by kernel_rfl) (by kernel_rfl) (fun _ _ _ h => h) (Or.inl ⟨by rfl, ?_⟩) hHeld ?_
    rotate_left
    · (intro w hSw; (try dsimp only at hSw); go_simp; try with_reducible rfl)
    try simp only [Act.put, List.getElem_toArray, List.getElem_cons_zero, List.getElem_cons_succ, List.setIfInBounds_toArray, List.set_cons_zero, List.set_cons_succ]
    refine wpAnyH_take (i := 15) (v := ?_) rfl (by kernel_rfl) (by kernel_rfl) (by kernel_rfl) (fun _ _ _ h => h) (Or.inl ⟨by rfl, ?_⟩) hHeld ?_
    rotate_left
    · (intro w hSw; (try dsimp only at hSw); go_simp; try with_reducible rfl)
    try simp only [Act.put, List.getElem_toArray, List.getElem_cons_zero, List.getElem_cons_succ, List.setIfInBounds_toArray, List.set_cons_zero, List.set_cons_succ]
    refine wpAnyH_take (i := 16) (v := ?_) rfl (by kernel_rfl) (by kernel_rfl) (by kernel_rfl) (fun _ _ _ h => h) (Or.inl ⟨by rfl, ?_⟩) hHeld ?_
    rotate_left
    · (intro w hSw; (try dsimp only at hSw); go_simp; try with_reducible rfl)
    try simp only [Act.put, List.getElem_toArray, List.getElem_cons_zero, List.getElem_cons_succ, List.setIfInBounds_toArray, List.set_cons_zero, List.set_cons_succ]
    refine wpAnyH_take (i := 17) (v := ?_) rfl (by kernel_rfl) (by kernel_rfl) (by kernel_rfl) (fun _ _ _ h => h) (Or.inl ⟨by rfl, ?_⟩) hHeld ?_
    rotate_left
    · (intro w hSw; (try dsimp only at hSw); go_simp; try with_reducible rfl)
    try simp only [Act.put, List.getElem_toArray, List.getElem_cons_zero, List.getElem_cons_succ, List.setIfInBounds_toArray, List.set_cons_zero, List.set_cons_succ]
    refine wpAnyH_take (i := 18) (v := ?_) rfl (by kernel_rfl) (by kernel_rfl) (by kernel_rfl) (fun _ _ _ h => h) (Or.inl ⟨by rfl, ?_⟩) hHeld ?_
    rotate_left
    · (intro w hSw; (try dsimp only at hSw); go_simp; try with_reducible rfl)
    try simp only [Act.put, List.getElem_toArray, List.getElem_cons_zero, List.getElem_cons_succ, List.setIfInBounds_toArray, List.set_cons_zero, List.set_cons_succ]
    refine wpAnyH_take (i := 19) (v := ?_) rfl (by kernel_rfl) (by kernel_rfl) (by kernel_rfl) (fun _ _ _ h => h) (Or.inl ⟨by rfl, ?_⟩) hHeld ?_
    rotate_left
    · (intro w hSw; (try dsimp only at hSw); go_simp; try with_reducible rfl)
    try simp only [Act.put, List.getElem_toArray, List.getElem_cons_zero, List.getElem_cons_succ, List.setIfInBounds_toArray, List.set_cons_zero, List.set_cons_succ]
    refine wpAnyH_take (i := 20) (v := ?_) rfl (by kernel_rfl) (by kernel_rfl) (by kernel_rfl) (fun _ _ _ h => h) (Or.inl ⟨by rfl, ?_⟩) hHeld ?_
    rotate_left
    · (intro w hSw; (try dsimp only at hSw); go_simp; try with_reducible rfl)
    try simp only [Act.put, List.getElem_toArray, List.getElem_cons_zero, List.getElem_cons_succ, List.setIfInBounds_toArray, List.set_cons_zero, List.set_cons_succ]
    refine wpAnyH_take (i := 21) (v := ?_) rfl (by kernel_rfl) (by kernel_rfl) (by kernel_rfl) (fun _ _ _ h => h) (Or.inl ⟨by rfl, ?_⟩) hHeld ?_
    rotate_left
    · (intro w hSw; (try dsimp only at hSw); go_simp; try with_reducible rfl)
    try simp only [Act.put, List.getElem_toArray, List.getElem_cons_zero, List.getElem_cons_succ, List.setIfInBounds_toArray, List.set_cons_zero, List.set_cons_succ]
    refine wpAnyH_take (i := 22) (v := ?_) rfl (by kernel_rfl) (by kernel_rfl) (by kernel_rfl) (fun _ _ _ h => h) (Or.inl ⟨by rfl, ?_⟩) hHeld ?_
    rotate_left
    · (intro w hSw; (try dsimp only at hSw); go_simp; try with_reducible rfl)
    try simp only [Act.put, List.getElem_toArray, List.getElem_cons_zero, List.getElem_cons_succ, List.setIfInBounds_toArray, List.set_cons_zero, List.set_cons_succ]
    refine wpAnyH_take (i := 23) (v := ?_) rfl (by kernel_rfl) (by kernel_rfl) (by kernel_rfl) (fun _ _ _ h => h) (Or.inl ⟨by rfl, ?_⟩) hHeld ?_
    rotate_left
    · (intro w hSw; (try dsimp only at hSw); go_simp; try with_reducible rfl)
    try simp only [Act.put, List.getElem_toArray, List.getElem_cons_zero, List.getElem_cons_succ, List.setIfInBounds_toArray, List.set_cons_zero, List.set_cons_succ]
    refine wpAnyH_take (i := 24) (v := ?_) rfl (by kernel_rfl) (by kernel_rfl) (by kernel_rfl) (fun _ _ _ h => h) (Or.inl ⟨by rfl, ?_⟩) hHeld ?_
    rotate_left
    · (intro w hSw; (try dsimp only at hSw); go_simp; try with_reducible rfl)
    try simp only [Act.put, List.getElem_toArray, List.getElem_cons_zero, List.getElem_cons_succ, List.setIfInBounds_toArray, List.set_cons_zero, List.set_cons_succ]
    refine wpAnyH_take (i := 25) (v := ?_) rfl (by kernel_rfl) (by kernel_rfl) (by kernel_rfl) (fun _ _ _ h => h) (Or.inl ⟨by rfl, ?_⟩) hHeld ?_
    rotate_left
    · (intro w hSw; (try dsimp only at hSw); go_simp; try with_reducible rfl)
    try simp only [Act.put, List.getElem_toArray, List.getElem_cons_zero, List.getElem_cons_succ, List.setIfInBounds_toArray, List.set_cons_zero, List.set_cons_succ]
    refine wpAnyH_ready (rs := [26]) (by kernel_rfl) (by simp) ?_
    refine AllReadyH.cons rfl (fun K hK => ?_) AllReadyH.nil
    go_simp
    (with_reducible refine (samedisks_calls _ _ _ _ _ _ _ _ _ _ _ (hF.below hHeld (Nat.le_refl _)) (hDd.below hHeld (Nat.le_refl _)) ss.out).mono ?_)
    rintro e w9 ⟨rfl, hb9⟩
    have hB9 := hHeld.trans (hb9.mono hHeld.size)
    go_wp2_with fail
    refine hK.out _ _ ?_ (fun hHeld2 => ?_)
    · first | exact hHeld | exact hB9 | exact hHeld.alloc hHeld.size _ | exact (Below.refl _ _).drew
    clear hK K hHeld
    have hHeld := hHeld2
    clear hHeld2
    try simp only [Act.put, List.setIfInBounds_toArray, List.set_cons_zero, List.set_cons_succ]
    refine wpAnyH_take (i := 27) (v := ?_) rfl (by kernel_rfl) (by kernel_rfl) (by kernel_rfl) (fun _ _ _ h => h) (Or.inl ⟨by rfl, ?_⟩) hHeld ?_
    rotate_left
    · (intro w hSw; (try dsimp only at hSw); go_simp; try with_reducible rfl)
    try simp only [Act.put, List.getElem_toArray, List.getElem_cons_zero, List.getElem_cons_succ, List.setIfInBounds_toArray, List.set_cons_zero, List.set_cons_succ]
    refine wpAnyH_take (i := 28) (v := ?_) rfl (by kernel_rfl) (by kernel_rfl) (by kernel_rfl) (fun _ _ _ h => h) (Or.inl ⟨by rfl, ?_⟩) hHeld ?_
    rotate_left
    · (intro w hSw; (try dsimp only at hSw); go_simp; try with_reducible rfl)
    try simp only [Act.put, List.getElem_toArray, List.getElem_cons_zero, List.getElem_cons_succ, List.setIfInBounds_toArray, List.set_cons_zero, List.set_cons_succ]
    refine wpAnyH_ready (rs := [29]) (by kernel_rfl) (by simp) ?_
    refine AllReadyH.cons rfl (fun K hK => ?_) AllReadyH.nil
    go_simp
    (with_reducible refine (q0 _).mono ?_)
    rintro e w9 ⟨rfl, hb9⟩
    have hB9 := hHeld.trans (hb9.mono hHeld.size)
    go_wp2_with fail
    refine hK.out _ _ ?_ (fun hHeld2 => ?_)
    · first | exact hHeld | exact hB9 | exact hHeld.alloc hHeld.size _ | exact (Below.refl _ _).drew
    clear hK K hHeld
    have hHeld := hHeld2
    clear hHeld2
    try simp only [Act.put, List.setIfInBounds_toArray, List.set_cons_zero, List.set_cons_succ]
    refine wpAnyH_take (i := 30) (v := ?_) rfl (by kernel_rfl) (by kernel_rfl) (by kernel_rfl) (fun _ _ _ h => h) (Or.inl ⟨by rfl, ?_⟩) hHeld ?_
    rotate_left
    · (intro w hSw; (try dsimp only at hSw); go_simp; try with_reducible rfl)
    try simp only [Act.put, List.getElem_toArray, List.getElem_cons_zero, List.getElem_cons_succ, List.setIfInBounds_toArray, List.set_cons_zero, List.set_cons_succ]
    refine wpAnyH_take (i := 31) (v := ?_) rfl (by kernel_rfl) (by kernel_rfl) (by kernel_rfl) (fun _ _ _ h => h) (Or.inl ⟨by rfl, ?_⟩) hHeld ?_
    rotate_left
    · (intro w hSw; (try dsimp only at hSw); go_simp; try with_reducible rfl)
    try simp only [Act.put, List.getElem_toArray, List.getElem_cons_zero, List.getElem_cons_succ, List.setIfInBounds_toArray, List.set_cons_zero, List.set_cons_succ]
    refine wpAnyH_take (i := 32) (v := ?_) rfl (by kernel_rfl) (by kernel_rfl) (by kernel_rfl) (fun _ _ _ h => h) (Or.inl ⟨by rfl, ?_⟩) hHeld ?_
    rotate_left
    · (intro w hSw; (try dsimp only at hSw); go_simp; try with_reducible rfl)
    try simp only [Act.put, List.getElem_toArray, List.getElem_cons_zero, List.getElem_cons_succ, List.setIfInBounds_toArray, List.set_cons_zero, List.set_cons_succ]
    refine wpAnyH_ready (rs := [33, 34]) (by kernel_rfl) (by simp) ?_
    refine AllReadyH.cons rfl (fun K hK => ?_) (AllReadyH.cons rfl (fun K hK => ?_) AllReadyH.nil)
    ·
      go_simp
      obtain ⟨sz, hz⟩ := hmd (heap_alloc_new w9 (.cells (madeCells #[.int .i64 0, .int .u8 0, .int .i64 0, .slice none 0 0] (1025 * 4)) 67))
      first | (replace h7 := h7.below ((Below.refl _ _).alloc (Nat.le_refl _) (.cells (madeCells #[.int .i64 0, .int .u8 0, .int .i64 0, .slice none 0 0] (1025 * 4)) 67)) (Nat.le_refl _)) | skip
      go_wp2_with fail
      refine hK.out _ _ ?_ (fun hHeld2 => ?_)
      · first | exact hHeld | exact hB9 | exact hHeld.alloc hHeld.size _ | exact (Below.refl _ _).drew
      clear hK K hHeld
      have hHeld := hHeld2
      clear hHeld2
      try simp only [Act.put, List.setIfInBounds_toArray, List.set_cons_zero, List.set_cons_succ]
      refine wpAnyH_ready (rs := [34]) (by kernel_rfl) (by simp) ?_
      refine AllReadyH.cons rfl (fun K hK => ?_) AllReadyH.nil
      go_simp
      (with_reducible refine (two_calls _).mono ?_)
      rintro e w9 ⟨a7, C7, s7, rfl, h7, hb9⟩
      have hB9 := hHeld.trans (hb9.mono hHeld.size)
      first | (replace hz := hz.below hb9 (Nat.le_refl _)) | skip
      go_wp2_with fail
      refine hK.out _ _ ?_ (fun hHeld2 => ?_)
      · first | exact hHeld | exact hB9 | exact hHeld.alloc hHeld.size _ | exact (Below.refl _ _).drew
      clear hK K hHeld
      have hHeld := hHeld2
      clear hHeld2
      try simp only [Act.put, List.setIfInBounds_toArray, List.set_cons_zero, List.set_cons_succ]
      refine wpAnyH_ready (rs := [35]) (by kernel_rfl) (by simp) ?_
      refine AllReadyH.cons rfl (fun K hK => ?_) AllReadyH.nil
      go_simp
      (with_reducible refine (q4 _ _ _ _ _ _ _ hz h7).mono ?_)
      rintro e w9 ⟨rfl, hb9⟩
      have hB9 := hHeld.trans (hb9.mono hHeld.size)
      go_wp2_with fail
      refine hK.out _ _ ?_ (fun hHeld2 => ?_)
      · first | exact hHeld | exact hB9 | exact hHeld.alloc hHeld.size _ | exact (Below.refl _ _).drew
      clear hK K hHeld
      have hHeld := hHeld2
      clear hHeld2
      try simp only [Act.put, List.setIfInBounds_toArray, List.set_cons_zero, List.set_cons_succ]
      refine wpAnyH_take (i := 36) (v := ?_) rfl (by kernel_rfl) (by kernel_rfl) (by kernel_rfl) (fun _ _ _ h => h) (Or.inl ⟨by rfl, ?_⟩) hHeld ?_
      rotate_left
      · (intro w hSw; (try dsimp only at hSw); go_simp; try with_reducible rfl)
      try simp only [Act.put, List.getElem_toArray, List.getElem_cons_zero, List.getElem_cons_succ, List.setIfInBounds_toArray, List.set_cons_zero, List.set_cons_succ]
      refine wpAnyH_take (i := 37) (v := ?_) rfl (by kernel_rfl) (by kernel_rfl) (by kernel_rfl) (fun _ _ _ h => h) (Or.inl ⟨by rfl, ?_⟩) hHeld ?_
      rotate_left
      · (intro w hSw; (try dsimp only at hSw); go_simp; try with_reducible rfl)
      try simp only [Act.put, List.getElem_toArray, List.getElem_cons_zero, List.getElem_cons_succ, List.setIfInBounds_toArray, List.set_cons_zero, List.set_cons_succ]
      refine wpAnyH_ready (rs := [38]) (by kernel_rfl) (by simp) ?_
      refine AllReadyH.cons rfl (fun K hK => ?_) AllReadyH.nil
      go_simp
      refine hK.out _ _ ?_ (fun hHeld2 => ?_)
      · first | exact hHeld | exact hB9 | exact hHeld.alloc hHeld.size _ | exact (Below.refl _ _).drew
      clear hK K hHeld
      have hHeld := hHeld2
      clear hHeld2
      try simp only [Act.put, List.setIfInBounds_toArray, List.set_cons_zero, List.set_cons_succ]
      refine wpAnyH_done (by kernel_rfl) ?_ _
      have hBe := hB.trans (hHeld.mono hB.size)
      clear hHeld
      go_wp2_with fail
      go_ret
      exact ⟨rfl, hBe⟩
    ·
      go_simp
      (with_reducible refine (two_calls _).mono ?_)
      rintro e w9 ⟨a7, C7, s7, rfl, h7, hb9⟩
      have hB9 := hHeld.trans (hb9.mono hHeld.size)
      first | (replace hz := hz.below hb9 (Nat.le_refl _)) | skip
      go_wp2_with fail
      refine hK.out _ _ ?_ (fun hHeld2 => ?_)
      · first | exact hHeld | exact hB9 | exact hHeld.alloc hHeld.size _ | exact (Below.refl _ _).drew
      clear hK K hHeld
      have hHeld := hHeld2
      clear hHeld2
      try simp only [Act.put, List.setIfInBounds_toArray, List.set_cons_zero, List.set_cons_succ]
      refine wpAnyH_ready (rs := [33]) (by kernel_rfl) (by simp) ?_
      refine AllReadyH.cons rfl (fun K hK => ?_) AllReadyH.nil
      go_simp
      obtain ⟨sz, hz⟩ := hmd (heap_alloc_new w9 (.cells (madeCells #[.int .i64 0, .int .u8 0, .int .i64 0, .slice none 0 0] (1025 * 4)) 67))
      first | (replace h7 := h7.below ((Below.refl _ _).alloc (Nat.le_refl _) (.cells (madeCells #[.int .i64 0, .int .u8 0, .int .i64 0, .slice none 0 0] (1025 * 4)) 67)) (Nat.le_refl _)) | skip
      go_wp2_with fail
      refine hK.out _ _ ?_ (fun hHeld2 => ?_)
      · first | exact hHeld | exact hB9 | exact hHeld.alloc hHeld.size _ | exact (Below.refl _ _).drew
      clear hK K hHeld
      have hHeld := hHeld2
      clear hHeld2
      try simp only [Act.put, List.setIfInBounds_toArray, List.set_cons_zero, List.set_cons_succ]
      refine wpAnyH_ready (rs := [35]) (by kernel_rfl) (by simp) ?_
      refine AllReadyH.cons rfl (fun K hK => ?_) AllReadyH.nil
      go_simp
      (with_reducible refine (q4 _ _ _ _ _ _ _ hz h7).mono ?_)
      rintro e w9 ⟨rfl, hb9⟩
      have hB9 := hHeld.trans (hb9.mono hHeld.size)
      go_wp2_with fail
      refine hK.out _ _ ?_ (fun hHeld2 => ?_)
      · first | exact hHeld | exact hB9 | exact hHeld.alloc hHeld.size _ | exact (Below.refl _ _).drew
      clear hK K hHeld
      have hHeld := hHeld2
      clear hHeld2
      try simp only [Act.put, List.setIfInBounds_toArray, List.set_cons_zero, List.set_cons_succ]
      refine wpAnyH_take (i := 36) (v := ?_) rfl (by kernel_rfl) (by kernel_rfl) (by kernel_rfl) (fun _ _ _ h => h) (Or.inl ⟨by rfl, ?_⟩) hHeld ?_
      rotate_left
      · (intro w hSw; (try dsimp only at hSw); go_simp; try with_reducible rfl)
      try simp only [Act.put, List.getElem_toArray, List.getElem_cons_zero, List.getElem_cons_succ, List.setIfInBounds_toArray, List.set_cons_zero, List.set_cons_succ]
      refine wpAnyH_take (i := 37) (v := ?_) rfl (by kernel_rfl) (by kernel_rfl) (by kernel_rfl) (fun _ _ _ h => h) (Or.inl ⟨by rfl, ?_⟩) hHeld ?_
      rotate_left
      · (intro w hSw; (try dsimp only at hSw); go_simp; try with_reducible rfl)
      try simp only [Act.put, List.getElem_toArray, List.getElem_cons_zero, List.getElem_cons_succ, List.setIfInBounds_toArray, List.set_cons_zero, List.set_cons_succ]
      refine wpAnyH_ready (rs := [38]) (by kernel_rfl) (by simp) ?_
      refine AllReadyH.cons rfl (fun K hK => ?_) AllReadyH.nil
      go_simp
      refine hK.out _ _ ?_ (fun hHeld2 => ?_)
      · first | exact hHeld | exact hB9 | exact hHeld.alloc hHeld.size _ | exact (Below.refl _ _).drew
      clear hK K hHeld
      have hHeld := hHeld2
      clear hHeld2
      try simp only [Act.put, List.setIfInBounds_toArray, List.set_cons_zero, List.set_cons_succ]
      refine wpAnyH_done (by kernel_rfl) ?_ _
      have hBe := hB.trans (hHeld.mono hB.size)
      clear hHeld
      go_wp2_with fail
      go_ret
      exact ⟨rfl, hBe⟩

namespace actsNames
set_option linter.unusedVariables false
set_option maxRecDepth 100000 in
theorem lifted (os : Os) (started : os.Started) (H : Type) (enc : TypeId × Value → H) :
    ReturnsInHanded {} Try.checked os 9 .any (Rows.actsNamesSpec.pre6 enc Try.prog Try.f9 Rows.actsNamesRow.domain false) (Rows.actsNamesSpec.post enc Try.prog Try.f9 false true false false) := by
  refine returnsInHanded_of_change (C := Try.checked) Try.own started (by kernel_rfl) Try.func9
    (ChangeSpec.witness6 (enc := enc) (C := Try.checked) false ⟨#[], #[], []⟩ 8 (by kernel_rfl) (by kernel_rfl) (by kernel_rfl) (by kernel_rfl)) ?_
  intro W base args ds gs before hval0 hW hcnd _
  have hval : ∀ (j : Nat) t v, Try.f9.params[j]? = some t → args[j]? = some v → Value.okWide Try.prog W .any base t v := hval0
  have hW' := hW
  obtain ⟨p, q, hA0, hV, rfl, hfz, hnd⟩ := hW
  have hA : DataW.TrodAll enc Try.prog W 0 (fun _ => true) true Try.f9.params.toList args.toList ds p := hA0
  rw [Try.params9] at hA hval
  obtain ⟨hargs, rfl, rfl⟩ := trodAll_nil hA
  obtain rfl : args = #[] := by cases args; simp_all
  obtain ⟨rfl, rfl⟩ := trodVars_none hV
  clear hA0 hval0
  refine (actsNames_walk W).mono fun e W' ⟨he, bel⟩ => ?_
  subst he
  exact ⟨_, rfl, _, _, _, [], _, [], hW', trodAll_mk1 (shut_bool Try.underlying4 _), trodAll_mk0, rfl, bel.frame _, fun h => by cases h⟩

theorem holds : Rows.ActsNamesSaid :=
  OpenClaim.holds_of_wide 9 Try.f9 rfl rfl rfl rfl rfl rfl rfl ⟨rfl, rfl, rfl, rfl, rfl⟩ rfl rfl rfl rfl rfl (by kernel_rfl) Try.func9 (by kernel_rfl)
    (of_decide_eq_true (by kernel_rfl)) (by unfold Func.isWrapper; first | (rw [if_pos (by decide +kernel)]; kernel_rfl) | (rw [if_neg (by decide +kernel)]; exact ⟨rfl, rfl⟩))
    (fun os started H enc _ => lifted os started H enc)
end actsNames
end Go.Proofs.Ytldgpkaecfgagaa
