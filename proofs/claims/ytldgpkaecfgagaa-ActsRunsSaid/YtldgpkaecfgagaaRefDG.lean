/- The walks of the reference's Flushed, Put, Sure. -/
import Derived.Test.YtldgpkaecfgagaaRefDF
import Derived.Test.YtldgpkaecfgagaaDiskP
import Derived.Test.YtldgpkaecfgagaaDiskS
namespace Go.Proofs.Ytldgpkaecfgagaa
open Go.RowKit PolyM PackM FoldM DevM

/-- What is seen at the first k places. -/
def seenL (d : Dev) (k : Nat) : List (List Int) := (List.range k).map fun (j : Nat) => seen d (j : Int)
theorem seenL_succ (d : Dev) (k : Nat) : seenL d (k + 1) = seenL d k ++ [seen d (k : Int)] := by
  unfold seenL
  rw [List.range_succ, List.map_append]; rfl
theorem seenL_len (d : Dev) (k : Nat) : (seenL d k).length = k := by simp [seenL]
/-- What waits at another place, each as a whole block. -/
def keptL (k : Int) (l : List (Int × List Int)) : List (Int × List Int) := (l.filter (keepB k)).map fullW
theorem keptL_yes {k : Int} {l : List (Int × List Int)} {x : Int × List Int} (h : x.1 ≠ k) : keptL k (l ++ [x]) = keptL k l ++ [(x.1, fullD x.2)] := by
  unfold keptL
  rw [List.filter_append, List.map_append, List.filter_cons_of_pos (by simp [keepB, h])]; rfl
theorem keptL_no {k : Int} {l : List (Int × List Int)} {x : Int × List Int} (h : x.1 = k) : keptL k (l ++ [x]) = keptL k l := by
  unfold keptL
  rw [List.filter_append, List.filter_cons_of_neg (by simp [keepB, h])]; simp
theorem keptL_len (k : Int) (l : List (Int × List Int)) : (keptL k l).length ≤ l.length := by
  unfold keptL
  rw [List.length_map]; exact List.length_filter_le _ _
/-- Nothing waits any more. -/
theorem Held.dropW {w : World} {bl : List (List Int)} {wt : List (Int × List Int)} {b3 bR : Nat} {A B : Option Addr} {n C m D : Nat} {dd : Bool} {wr : World} (h : Held w bl wt b3 bR A B n C m D dd wr) : Held w bl [] b3 bR A Option.none n C 0 0 dd (wr.setCell ⟨b3, 1, none⟩ (.slice none 0 0)) := by
  obtain ⟨hs, ht, o1, o2, h1, h2, g1, g2, x3, xR, q1, q2, hb⟩ := h
  have hlt : bR ≠ b3 := by omega
  exact ⟨hs, [], own_other o1 (own_box o1 x3 (by decide)) _, World.ownsRow_nil _ _ _ _, h1.setOther x3.c1 (by intro q; simp), Waits.nil _, g1.setCell _ _, High.nil _ _, x3.s1 _, xR.other hlt _, q1, q2, hb.setCell (by show w.heap.size ≤ b3; omega) _⟩

set_option maxRecDepth 100000 in
set_option maxHeartbeats 8000000 in
theorem refflushed_calls (v : Value) (d : Dev) (w : World) (h : DevV w v d) (hM : MayD d) :
    Calls Try.prog 84 #[v] w fun e w' => ∃ v', e = .returned v' ∧ DevN w.heap.size w' v' ⟨seenL d d.blocks.length, [], d.dead⟩ ∧ Below w.heap.size w w' := by
  have hv0 := h
  obtain ⟨A, n, C, hs, B, m, D, ht, rfl, h1, h2⟩ := h
  have hv := Lib.hid hv0
  obtain ⟨s1, s2, s3, s4⟩ := may_small hM
  have hl := Lib.hid (And.intro h1.len h2.len)
  have hn : n ≤ 300 := by have := h1.len; omega
  have hm : m ≤ 1100 := by have := h2.len; omega
  obtain ⟨i0, hi0, hz0, hz1, hz2⟩ := info_parts byte_info
  obtain ⟨j0, hj0, jz0, jz1, jz2⟩ := info_parts hdr_info
  obtain ⟨k0, hk0, kz0, kz1, kz2⟩ := info_parts write_info
  have hb1 : Below w.heap.size w (w.alloc (.cells #[.slice A n C, .slice B m D, .bool d.dead] 25)) := (Below.refl _ _).alloc (Nat.le_refl _) _
  have bx0 := BoxD.new w (.slice A n C) (.slice B m D) (.bool d.dead)
  have hs1 : (w.alloc (.cells #[.slice A n C, .slice B m D, .bool d.dead] 25)).heap.size = w.heap.size + 1 := by simp
  have H2 := Lib.hid (h2.below hb1 (Nat.le_refl _))
  have hl1 := h1.len
  have cse := fun W (hW : Below w.heap.size w W) (k : Nat) (hk : k < n) => refseen_calls _ d (k : Int) W (hv0.below hW (Nat.le_refl _)) hM (by omega) (by have := h1.len; omega)
  rw [hl1]
  clear hM s1 s2 s3 s4 h1 h2 hv0 hv hl1
  generalize d.dead = dd at *
  go_enter Try.func84, Try.ntmps84
  go_upto_region 1 with fail
  generalize w.alloc (.cells #[.slice A n C, .slice B m D, .bool dd] 25) = w1 at *
  have xE := bx0.alloc (.cells #[.slice none 0 0, .slice none 0 0, .bool false] 25)
  have e2 := xE.c2
  have hH0 : Hid (Held w1 (seenL d 0) [] (w.heap.size + 1 + 1) (w.heap.size + 1) none none 0 0 0 0 dd ((w1.alloc (.cells #[.slice none 0 0, .slice none 0 0, .bool false] 25)).alloc (.cells #[.slice none 0 0, .slice none 0 0, .bool dd] 25))) := by
    refine Lib.hid ?_
    have b3 := BoxD.new (w1.alloc (.cells #[.slice none 0 0, .slice none 0 0, .bool false] 25)) (.slice none 0 0) (.slice none 0 0) (.bool dd)
    rw [World.size_alloc, hs1] at b3
    have bR := (BoxD.new w1 (.slice none 0 0) (.slice none 0 0) (.bool false)).alloc (.cells #[.slice none 0 0, .slice none 0 0, .bool dd] 25)
    rw [hs1] at bR
    exact Held.empty b3 bR (by omega) (by omega) (((Below.refl _ _).alloc (Nat.le_refl _) _).alloc (by simp) _)
  go_wp2
  clear e2 xE
  go_loopw [4] (fun i wr => ∃ (k : Nat) (A' : Option Addr) (C' : Nat), k ≤ n ∧ i = .int .i64 k ∧ Held w1 (seenL d k) [] (w.heap.size + 1 + 1) (w.heap.size + 1) A' none k C' 0 0 dd wr) (fun i _ => n - (intOf i).toNat)
  case atStart => exact ⟨0, none, 0, by omega, rfl, hH0.out⟩
  case round =>
    obtain ⟨k, A', C', hk, rfl, hT⟩ := hrel
    clear hH0
    by_cases hkn : k < n
    · obtain ⟨hs', ht', o1, o2, h1', h2', g1, g2, x3, xR, q1, q2, hbq⟩ := hT
      have e0 := (bx0.below hbq).c0
      have hkn1 : (k : Int) < (n : Int) := by omega
      have E := Lib.hid (seenL_succ d k)
      have HK : Hid (∀ W, Below w1.heap.size w1 W → W.cell? ⟨w.heap.size, 0, none⟩ = some (.slice A n C) ∧ W.cell? ⟨w.heap.size, 1, none⟩ = some (.slice B m D) ∧ W.cell? ⟨w.heap.size, 2, none⟩ = some (.bool dd)) := Lib.hid fun W hW => ⟨(bx0.below hW).c0, (bx0.below hW).c1, (bx0.below hW).c2⟩
      have c0 := x3.c0
      have hs0 : w.heap.size < w1.heap.size := by omega
      go_wp2
      refine wp_region_held_drew (S := (fun W => W.cell? ⟨w.heap.size, 0, none⟩ = some (.slice A n C) ∧ W.cell? ⟨w.heap.size, 1, none⟩ = some (.slice B m D) ∧ W.cell? ⟨w.heap.size, 2, none⟩ = some (.bool dd))) (by kernel_rfl) ?_ (fun hHeld => ?_)
      · first | exact hHeld | exact HK.out _ hN.out.boxes.2.2.2.2 | exact HK.out _ hB6.out | exact HK.out _ (hB9.alloc hB9.size _) | exact HK.out _ hB9 | exact HK.out _ (hbq.trans ((Below.refl _ _).drew.mono hbq.size))
      refine wpAnyH_take (i := 0) (v := ?_) rfl (by kernel_rfl) (by kernel_rfl) (by kernel_rfl) (fun _ _ _ h => h) (Or.inl ⟨by rfl, ?_⟩) hHeld ?_
      rotate_left
      · (intro w hSw; (try dsimp only at hSw); go_simp; try with_reducible rfl)
      try simp only [Act.put, List.getElem_toArray, List.getElem_cons_zero, List.setIfInBounds_toArray, List.set_cons_zero, List.set_cons_succ]
      refine wpAnyH_take (i := 2) (v := ?_) rfl (by kernel_rfl) (by kernel_rfl) (by kernel_rfl) (fun _ _ _ h => h) (Or.inl ⟨by rfl, ?_⟩) hHeld ?_
      rotate_left
      · (intro w hSw; (try dsimp only at hSw); go_simp; try with_reducible rfl)
      try simp only [Act.put, List.getElem_toArray, List.getElem_cons_zero, List.getElem_cons_succ, List.setIfInBounds_toArray, List.set_cons_zero, List.set_cons_succ]
      refine wpAnyH_take (i := 3) (v := ?_) rfl (by kernel_rfl) (by kernel_rfl) (by kernel_rfl) (fun _ _ _ h => h) (Or.inl ⟨by rfl, ?_⟩) hHeld ?_
      rotate_left
      · (intro w hSw; (try dsimp only at hSw); go_simp; try with_reducible rfl)
      try simp only [Act.put, List.getElem_toArray, List.getElem_cons_zero, List.getElem_cons_succ, List.setIfInBounds_toArray, List.set_cons_zero, List.set_cons_succ]
      refine wpAnyH_ready (rs := [1, 4]) (by kernel_rfl) (by simp) ?_
      refine AllReadyH.cons rfl (fun K hK => ?_) (AllReadyH.cons rfl (fun K hK => ?_) AllReadyH.nil)
      ·
        go_simp
        refine hK.out _ _ ?_ (fun hHeld2 => ?_)
        · first | exact hHeld | exact HK.out _ hN.out.boxes.2.2.2.2 | exact HK.out _ hB6.out | exact HK.out _ (hB9.alloc hB9.size _) | exact HK.out _ hB9 | exact HK.out _ (hbq.trans ((Below.refl _ _).drew.mono hbq.size))
        clear hK K hHeld
        have hHeld := hHeld2
        clear hHeld2
        try simp only [Act.put, List.setIfInBounds_toArray, List.set_cons_zero, List.set_cons_succ]
        refine wpAnyH_ready (rs := [4]) (by kernel_rfl) (by simp) ?_
        refine AllReadyH.cons rfl (fun K hK => ?_) AllReadyH.nil
        go_simp
        (with_reducible refine (cse _ (hb1.trans ((hbq.trans ((Below.refl _ _).drew.mono hbq.size)).mono (by omega))) k hkn).mono ?_)
        rintro e w5 ⟨A5, L, C5, rfl, hF0, hb50⟩
        have hb5 : Below wr.heap.size wr w5 := (Below.refl _ _).drew.trans (hb50.mono (Nat.le_refl _))
        have hF := Lib.hid (hF0.mono (hbq.trans ((Below.refl _ _).drew.mono hbq.size)).size)
        have hB9 := hbq.trans (hb5.mono hbq.size)
        have f0 := (x3.below hb5).c0
        have f1 := (x3.below hb5).c1
        have hl5 := (x3.below hb5).lt
        clear hb50 hF0
        go_wp2_with fail
        refine hK.out _ _ ?_ (fun hHeld2 => ?_)
        · first | exact hHeld | exact HK.out _ hN.out.boxes.2.2.2.2 | exact HK.out _ hB6.out | exact HK.out _ (hB9.alloc hB9.size _) | exact HK.out _ hB9 | exact HK.out _ (hbq.trans ((Below.refl _ _).drew.mono hbq.size))
        clear hK K hHeld
        have hHeld := hHeld2
        clear hHeld2
        try simp only [Act.put, List.setIfInBounds_toArray, List.set_cons_zero, List.set_cons_succ]
        refine wpAnyH_ready (rs := [5]) (by kernel_rfl) (by simp) ?_
        refine AllReadyH.cons rfl (fun K hK => ?_) AllReadyH.nil
        go_simp
        refine hK.out _ _ ?_ (fun hHeld2 => ?_)
        · first | exact hHeld | exact HK.out _ hN.out.boxes.2.2.2.2 | exact HK.out _ hB6.out | exact HK.out _ (hB9.alloc hB9.size _) | exact HK.out _ hB9 | exact HK.out _ (hbq.trans ((Below.refl _ _).drew.mono hbq.size))
        clear hK K hHeld
        have hHeld := hHeld2
        clear hHeld2
        try simp only [Act.put, List.setIfInBounds_toArray, List.set_cons_zero, List.set_cons_succ]
        refine wpAnyH_ready (rs := [6]) (by kernel_rfl) (by simp) ?_
        refine AllReadyH.cons rfl (fun K hK => ?_) AllReadyH.nil
        refine step_append_lies _ (by rfl) _ _ _ (by rfl) w1.heap.size 29 j0 _ 1 24 Try.underlying22 hj0 jz0 jz1 jz2 rfl (by omega) (.slice A' k C') k hs' (by rfl) (own_below (own_below o1 hb5) ((Below.refl _ _).alloc (Nat.le_refl _) _)) ⟨w5.heap.size, 0, none⟩ 1 1 [.slice A5 L C5] (by rfl) (by rfl) (World.news_of_block (cs := #[.slice A5 L C5]) (t := 29) (fr := (0, 0)) (heap_alloc_new w5 _)) (by simp [Value.oneCell']) (by omega) (by simp only [maxLen]; omega) (by omega) (by have := hB9.size; simp; omega) (w5.heap.size + 1) (by simp) ?_
        intro gg cap w6 hown6 hgrow6 hat6 hlt6
        have ha5 : Below wr.heap.size wr (w5.alloc (.cells #[.slice A5 L C5] 29)) := hb5.alloc hb5.size _
        have oA5 := own_below o1 ha5
        have oB5 := own_below o2 ha5
        have x6 := (x3.below ha5).grown hgrow6 fun e => own_box oA5 (x3.below ha5) (by decide) e.symm
        have f6 := x6.c0
        have r6 := x6.fr (o := 0)
        have hN0 := Held.pushB oA5 oB5 (h1'.below ha5 (Nat.le_refl _)) (h2'.below ha5 (Nat.le_refl _)) (g1.below ha5) (g2.below ha5) (x3.below ha5) (xR.below ha5) q1 q2 (hbq.trans (ha5.mono hbq.size)) (hF.out.below ((Below.refl _ _).alloc (Nat.le_refl _) _)) hown6 hgrow6
        have hB6 := Lib.hid (below_own (hbq.trans (ha5.mono hbq.size)) hgrow6 rfl (fun q hq => (own_lt oA5 hq).2) (hbq.trans (ha5.mono hbq.size)).size)
        rw [← E.out] at hN0
        have hN := Lib.hid hN0
        clear oA5 oB5 ha5 hN0
        refine hK.out _ _ ?_ (fun hHeld2 => ?_)
        · first | exact hHeld | exact HK.out _ hN.out.boxes.2.2.2.2 | exact HK.out _ hB6.out | exact HK.out _ (hB9.alloc hB9.size _) | exact HK.out _ hB9 | exact HK.out _ (hbq.trans ((Below.refl _ _).drew.mono hbq.size))
        clear hK K hHeld
        have hHeld := hHeld2
        clear hHeld2
        try simp only [Act.put, List.setIfInBounds_toArray]
        refine wpAnyH_take (i := 7) (v := ?_) rfl (by kernel_rfl) (by kernel_rfl) (by kernel_rfl) (fun _ _ _ h => h) (Or.inl ⟨by rfl, ?_⟩) hHeld ?_
        rotate_left
        · (intro w hSw; (try dsimp only at hSw); go_simp; try with_reducible rfl)
        try simp only [Act.put, List.getElem_toArray, List.getElem_cons_zero, List.getElem_cons_succ, List.setIfInBounds_toArray, List.set_cons_zero, List.set_cons_succ]
        refine wpAnyH_ready (rs := [8]) (by kernel_rfl) (by simp) ?_
        refine AllReadyH.cons rfl (fun K hK => ?_) AllReadyH.nil
        go_simp
        refine hK.out _ _ ?_ (fun hHeld2 => ?_)
        · first | exact hHeld | exact HK.out _ hN.out.boxes.2.2.2.2 | exact HK.out _ hB6.out | exact HK.out _ (hB9.alloc hB9.size _) | exact HK.out _ hB9 | exact HK.out _ (hbq.trans ((Below.refl _ _).drew.mono hbq.size))
        clear hK K hHeld
        have hHeld := hHeld2
        clear hHeld2
        try simp only [Act.put, List.setIfInBounds_toArray, List.set_cons_zero, List.set_cons_succ]
        refine wpAnyH_done (by kernel_rfl) ?_ _
        clear hHeld f6 r6 hF hown6 hgrow6 hB6
        go_wp2_with fail
        go_roundw
        case rel => exact ⟨k + 1, _, _, by omega, by go_num, hN.out⟩
        case measure => simp [intOf]; omega
      ·
        go_simp
        (with_reducible refine (cse _ (hb1.trans ((hbq.trans ((Below.refl _ _).drew.mono hbq.size)).mono (by omega))) k hkn).mono ?_)
        rintro e w5 ⟨A5, L, C5, rfl, hF0, hb50⟩
        have hb5 : Below wr.heap.size wr w5 := (Below.refl _ _).drew.trans (hb50.mono (Nat.le_refl _))
        have hF := Lib.hid (hF0.mono (hbq.trans ((Below.refl _ _).drew.mono hbq.size)).size)
        have hB9 := hbq.trans (hb5.mono hbq.size)
        have f0 := (x3.below hb5).c0
        have f1 := (x3.below hb5).c1
        have hl5 := (x3.below hb5).lt
        clear hb50 hF0
        go_wp2_with fail
        refine hK.out _ _ ?_ (fun hHeld2 => ?_)
        · first | exact hHeld | exact HK.out _ hN.out.boxes.2.2.2.2 | exact HK.out _ hB6.out | exact HK.out _ (hB9.alloc hB9.size _) | exact HK.out _ hB9 | exact HK.out _ (hbq.trans ((Below.refl _ _).drew.mono hbq.size))
        clear hK K hHeld
        have hHeld := hHeld2
        clear hHeld2
        try simp only [Act.put, List.setIfInBounds_toArray, List.set_cons_zero, List.set_cons_succ]
        refine wpAnyH_ready (rs := [1, 5]) (by kernel_rfl) (by simp) ?_
        refine AllReadyH.cons rfl (fun K hK => ?_) (AllReadyH.cons rfl (fun K hK => ?_) AllReadyH.nil)
        ·
          go_simp
          refine hK.out _ _ ?_ (fun hHeld2 => ?_)
          · first | exact hHeld | exact HK.out _ hN.out.boxes.2.2.2.2 | exact HK.out _ hB6.out | exact HK.out _ (hB9.alloc hB9.size _) | exact HK.out _ hB9 | exact HK.out _ (hbq.trans ((Below.refl _ _).drew.mono hbq.size))
          clear hK K hHeld
          have hHeld := hHeld2
          clear hHeld2
          try simp only [Act.put, List.setIfInBounds_toArray, List.set_cons_zero, List.set_cons_succ]
          refine wpAnyH_ready (rs := [5]) (by kernel_rfl) (by simp) ?_
          refine AllReadyH.cons rfl (fun K hK => ?_) AllReadyH.nil
          go_simp
          refine hK.out _ _ ?_ (fun hHeld2 => ?_)
          · first | exact hHeld | exact HK.out _ hN.out.boxes.2.2.2.2 | exact HK.out _ hB6.out | exact HK.out _ (hB9.alloc hB9.size _) | exact HK.out _ hB9 | exact HK.out _ (hbq.trans ((Below.refl _ _).drew.mono hbq.size))
          clear hK K hHeld
          have hHeld := hHeld2
          clear hHeld2
          try simp only [Act.put, List.setIfInBounds_toArray, List.set_cons_zero, List.set_cons_succ]
          refine wpAnyH_ready (rs := [6]) (by kernel_rfl) (by simp) ?_
          refine AllReadyH.cons rfl (fun K hK => ?_) AllReadyH.nil
          refine step_append_lies _ (by rfl) _ _ _ (by rfl) w1.heap.size 29 j0 _ 1 24 Try.underlying22 hj0 jz0 jz1 jz2 rfl (by omega) (.slice A' k C') k hs' (by rfl) (own_below (own_below o1 hb5) ((Below.refl _ _).alloc (Nat.le_refl _) _)) ⟨w5.heap.size, 0, none⟩ 1 1 [.slice A5 L C5] (by rfl) (by rfl) (World.news_of_block (cs := #[.slice A5 L C5]) (t := 29) (fr := (0, 0)) (heap_alloc_new w5 _)) (by simp [Value.oneCell']) (by omega) (by simp only [maxLen]; omega) (by omega) (by have := hB9.size; simp; omega) (w5.heap.size + 1) (by simp) ?_
          intro gg cap w6 hown6 hgrow6 hat6 hlt6
          have ha5 : Below wr.heap.size wr (w5.alloc (.cells #[.slice A5 L C5] 29)) := hb5.alloc hb5.size _
          have oA5 := own_below o1 ha5
          have oB5 := own_below o2 ha5
          have x6 := (x3.below ha5).grown hgrow6 fun e => own_box oA5 (x3.below ha5) (by decide) e.symm
          have f6 := x6.c0
          have r6 := x6.fr (o := 0)
          have hN0 := Held.pushB oA5 oB5 (h1'.below ha5 (Nat.le_refl _)) (h2'.below ha5 (Nat.le_refl _)) (g1.below ha5) (g2.below ha5) (x3.below ha5) (xR.below ha5) q1 q2 (hbq.trans (ha5.mono hbq.size)) (hF.out.below ((Below.refl _ _).alloc (Nat.le_refl _) _)) hown6 hgrow6
          have hB6 := Lib.hid (below_own (hbq.trans (ha5.mono hbq.size)) hgrow6 rfl (fun q hq => (own_lt oA5 hq).2) (hbq.trans (ha5.mono hbq.size)).size)
          rw [← E.out] at hN0
          have hN := Lib.hid hN0
          clear oA5 oB5 ha5 hN0
          refine hK.out _ _ ?_ (fun hHeld2 => ?_)
          · first | exact hHeld | exact HK.out _ hN.out.boxes.2.2.2.2 | exact HK.out _ hB6.out | exact HK.out _ (hB9.alloc hB9.size _) | exact HK.out _ hB9 | exact HK.out _ (hbq.trans ((Below.refl _ _).drew.mono hbq.size))
          clear hK K hHeld
          have hHeld := hHeld2
          clear hHeld2
          try simp only [Act.put, List.setIfInBounds_toArray]
          refine wpAnyH_take (i := 7) (v := ?_) rfl (by kernel_rfl) (by kernel_rfl) (by kernel_rfl) (fun _ _ _ h => h) (Or.inl ⟨by rfl, ?_⟩) hHeld ?_
          rotate_left
          · (intro w hSw; (try dsimp only at hSw); go_simp; try with_reducible rfl)
          try simp only [Act.put, List.getElem_toArray, List.getElem_cons_zero, List.getElem_cons_succ, List.setIfInBounds_toArray, List.set_cons_zero, List.set_cons_succ]
          refine wpAnyH_ready (rs := [8]) (by kernel_rfl) (by simp) ?_
          refine AllReadyH.cons rfl (fun K hK => ?_) AllReadyH.nil
          go_simp
          refine hK.out _ _ ?_ (fun hHeld2 => ?_)
          · first | exact hHeld | exact HK.out _ hN.out.boxes.2.2.2.2 | exact HK.out _ hB6.out | exact HK.out _ (hB9.alloc hB9.size _) | exact HK.out _ hB9 | exact HK.out _ (hbq.trans ((Below.refl _ _).drew.mono hbq.size))
          clear hK K hHeld
          have hHeld := hHeld2
          clear hHeld2
          try simp only [Act.put, List.setIfInBounds_toArray, List.set_cons_zero, List.set_cons_succ]
          refine wpAnyH_done (by kernel_rfl) ?_ _
          clear hHeld f6 r6 hF hown6 hgrow6 hB6
          go_wp2_with fail
          go_roundw
          case rel => exact ⟨k + 1, _, _, by omega, by go_num, hN.out⟩
          case measure => simp [intOf]; omega
        ·
          go_simp
          refine hK.out _ _ ?_ (fun hHeld2 => ?_)
          · first | exact hHeld | exact HK.out _ hN.out.boxes.2.2.2.2 | exact HK.out _ hB6.out | exact HK.out _ (hB9.alloc hB9.size _) | exact HK.out _ hB9 | exact HK.out _ (hbq.trans ((Below.refl _ _).drew.mono hbq.size))
          clear hK K hHeld
          have hHeld := hHeld2
          clear hHeld2
          try simp only [Act.put, List.setIfInBounds_toArray, List.set_cons_zero, List.set_cons_succ]
          refine wpAnyH_ready (rs := [1]) (by kernel_rfl) (by simp) ?_
          refine AllReadyH.cons rfl (fun K hK => ?_) AllReadyH.nil
          go_simp
          refine hK.out _ _ ?_ (fun hHeld2 => ?_)
          · first | exact hHeld | exact HK.out _ hN.out.boxes.2.2.2.2 | exact HK.out _ hB6.out | exact HK.out _ (hB9.alloc hB9.size _) | exact HK.out _ hB9 | exact HK.out _ (hbq.trans ((Below.refl _ _).drew.mono hbq.size))
          clear hK K hHeld
          have hHeld := hHeld2
          clear hHeld2
          try simp only [Act.put, List.setIfInBounds_toArray, List.set_cons_zero, List.set_cons_succ]
          refine wpAnyH_ready (rs := [6]) (by kernel_rfl) (by simp) ?_
          refine AllReadyH.cons rfl (fun K hK => ?_) AllReadyH.nil
          refine step_append_lies _ (by rfl) _ _ _ (by rfl) w1.heap.size 29 j0 _ 1 24 Try.underlying22 hj0 jz0 jz1 jz2 rfl (by omega) (.slice A' k C') k hs' (by rfl) (own_below (own_below o1 hb5) ((Below.refl _ _).alloc (Nat.le_refl _) _)) ⟨w5.heap.size, 0, none⟩ 1 1 [.slice A5 L C5] (by rfl) (by rfl) (World.news_of_block (cs := #[.slice A5 L C5]) (t := 29) (fr := (0, 0)) (heap_alloc_new w5 _)) (by simp [Value.oneCell']) (by omega) (by simp only [maxLen]; omega) (by omega) (by have := hB9.size; simp; omega) (w5.heap.size + 1) (by simp) ?_
          intro gg cap w6 hown6 hgrow6 hat6 hlt6
          have ha5 : Below wr.heap.size wr (w5.alloc (.cells #[.slice A5 L C5] 29)) := hb5.alloc hb5.size _
          have oA5 := own_below o1 ha5
          have oB5 := own_below o2 ha5
          have x6 := (x3.below ha5).grown hgrow6 fun e => own_box oA5 (x3.below ha5) (by decide) e.symm
          have f6 := x6.c0
          have r6 := x6.fr (o := 0)
          have hN0 := Held.pushB oA5 oB5 (h1'.below ha5 (Nat.le_refl _)) (h2'.below ha5 (Nat.le_refl _)) (g1.below ha5) (g2.below ha5) (x3.below ha5) (xR.below ha5) q1 q2 (hbq.trans (ha5.mono hbq.size)) (hF.out.below ((Below.refl _ _).alloc (Nat.le_refl _) _)) hown6 hgrow6
          have hB6 := Lib.hid (below_own (hbq.trans (ha5.mono hbq.size)) hgrow6 rfl (fun q hq => (own_lt oA5 hq).2) (hbq.trans (ha5.mono hbq.size)).size)
          rw [← E.out] at hN0
          have hN := Lib.hid hN0
          clear oA5 oB5 ha5 hN0
          refine hK.out _ _ ?_ (fun hHeld2 => ?_)
          · first | exact hHeld | exact HK.out _ hN.out.boxes.2.2.2.2 | exact HK.out _ hB6.out | exact HK.out _ (hB9.alloc hB9.size _) | exact HK.out _ hB9 | exact HK.out _ (hbq.trans ((Below.refl _ _).drew.mono hbq.size))
          clear hK K hHeld
          have hHeld := hHeld2
          clear hHeld2
          try simp only [Act.put, List.setIfInBounds_toArray]
          refine wpAnyH_take (i := 7) (v := ?_) rfl (by kernel_rfl) (by kernel_rfl) (by kernel_rfl) (fun _ _ _ h => h) (Or.inl ⟨by rfl, ?_⟩) hHeld ?_
          rotate_left
          · (intro w hSw; (try dsimp only at hSw); go_simp; try with_reducible rfl)
          try simp only [Act.put, List.getElem_toArray, List.getElem_cons_zero, List.getElem_cons_succ, List.setIfInBounds_toArray, List.set_cons_zero, List.set_cons_succ]
          refine wpAnyH_ready (rs := [8]) (by kernel_rfl) (by simp) ?_
          refine AllReadyH.cons rfl (fun K hK => ?_) AllReadyH.nil
          go_simp
          refine hK.out _ _ ?_ (fun hHeld2 => ?_)
          · first | exact hHeld | exact HK.out _ hN.out.boxes.2.2.2.2 | exact HK.out _ hB6.out | exact HK.out _ (hB9.alloc hB9.size _) | exact HK.out _ hB9 | exact HK.out _ (hbq.trans ((Below.refl _ _).drew.mono hbq.size))
          clear hK K hHeld
          have hHeld := hHeld2
          clear hHeld2
          try simp only [Act.put, List.setIfInBounds_toArray, List.set_cons_zero, List.set_cons_succ]
          refine wpAnyH_done (by kernel_rfl) ?_ _
          clear hHeld f6 r6 hF hown6 hgrow6 hB6
          go_wp2_with fail
          go_roundw
          case rel => exact ⟨k + 1, _, _, by omega, by go_num, hN.out⟩
          case measure => simp [intOf]; omega
    · obtain rfl : n = k := by omega
      have e0 := (bx0.below hT.boxes.2.2.2.2).c0
      obtain ⟨y3, yR, l3, lR, hBw⟩ := hT.boxes
      have x0 := y3.c0
      have x1 := y3.c1
      have x2 := y3.c2
      have f0 := yR.c0
      have f1 := yR.c1
      have f2 := yR.c2
      have r0 := yR.fr (o := 0)
      have r1 := yR.fr (o := 1)
      have r2 := yR.fr (o := 2)
      have hD := Lib.hid (hT.dev (by omega) (by omega))
      clear hT
      go_wp2
      have d2 := (hD.out.setBox3 yR (.slice A' n C') (.slice none 0 0) (.bool dd)).1
      exact bodyPost_ret (v := .agg #[(.slice A' n C'), (.slice none 0 0), .bool dd]) (by simp [results, Try.results84, go_sem, f0, f1, f2]) rfl ⟨_, rfl, d2.mono (by omega), hb1.trans ((((hBw.setCell (by show w1.heap.size ≤ w.heap.size + 1; omega) _).setCell (by show w1.heap.size ≤ w.heap.size + 1; omega) _).setCell (by show w1.heap.size ≤ w.heap.size + 1; omega) _).mono (by omega))⟩
set_option maxRecDepth 100000 in
set_option maxHeartbeats 8000000 in
theorem refput_calls (v : Value) (d : Dev) (k : Int) (a : Option Addr) (q c : Nat) (zs : List Int) (w : World) (h : DevV w v d) (hz : Ints .u8 w a q zs) (hM : MayD d) (hB : Blk zs) (p2 : 0 ≤ k) (p3 : k < d.blocks.length) :
    Calls Try.prog 80 #[v, .int .i64 k, .slice a q c] w fun e w' => ∃ v', e = .returned v' ∧ DevN w.heap.size w' v' ⟨d.blocks, d.wait ++ [(k, fullD zs)], d.dead⟩ ∧ Below w.heap.size w w' := by
  have hv0 := h
  obtain ⟨A, n, C, hs, B, m, D, ht, rfl, h1, h2⟩ := h
  have hv := Lib.hid hv0
  obtain ⟨s1, s2, s3, s4⟩ := may_small hM
  have hl := Lib.hid (And.intro h1.len h2.len)
  have hn : n ≤ 300 := by have := h1.len; omega
  have hm : m ≤ 1100 := by have := h2.len; omega
  have hq : q ≤ 1000000 := by have := hz.len; rcases hB with q | q <;> omega
  have hkw := Lib.hid (show (Lit.int .i64 k).wf = true from WalkArith.wf_i64 (by have := h1.len; have := h1.max; constructor <;> omega))
  have ct := fun W (hW : Below w.heap.size w W) => reftwin_calls _ d W (hv0.below hW (Nat.le_refl _)) s1 s2 (fun b hb => Nat.le_trans (s3 b hb) (by omega)) (fun x hx => Nat.le_trans (s4 x hx) (by omega))
  have cf := fun W (hW : Below w.heap.size w W) => reffull_calls a q c zs W (hz.below hW (Nat.le_refl _)) hq
  obtain ⟨i0, hi0, hz0, hz1, hz2⟩ := info_parts byte_info
  obtain ⟨j0, hj0, jz0, jz1, jz2⟩ := info_parts hdr_info
  obtain ⟨k0, hk0, kz0, kz1, kz2⟩ := info_parts write_info
  have hb1 : Below w.heap.size w (w.alloc (.cells #[.slice A n C, .slice B m D, .bool d.dead] 25)) := (Below.refl _ _).alloc (Nat.le_refl _) _
  have bx0 := BoxD.new w (.slice A n C) (.slice B m D) (.bool d.dead)
  have hs1 : (w.alloc (.cells #[.slice A n C, .slice B m D, .bool d.dead] 25)).heap.size = w.heap.size + 1 := by simp
  have H2 := Lib.hid (h2.below hb1 (Nat.le_refl _))
  clear hM hv0 hv s1 s2 s3 s4 h1 h2 hz hB p2 p3 H2
  generalize hdd' : d.dead = dd at *
  have hdd := Lib.hid hdd'
  clear hdd'
  go_enter Try.func80, Try.ntmps80
  go_upto_region 1 with fail
  generalize w.alloc (.cells #[.slice A n C, .slice B m D, .bool dd] 25) = w1 at *
  have hbE : Below w1.heap.size w1 (w1.alloc (.cells #[.slice none 0 0, .slice none 0 0, .bool false] 25)) := (Below.refl _ _).alloc (Nat.le_refl _) _
  have xE := bx0.alloc (.cells #[.slice none 0 0, .slice none 0 0, .bool false] 25)
  have yR := BoxD.new w1 (.slice none 0 0) (.slice none 0 0) (.bool false)
  rw [hs1] at yR
  have e0 := xE.c0
  have e1 := xE.c1
  have e2 := xE.c2
  go_wp2_with fail
  (with_reducible refine (ct _ (hb1.trans (hbE.mono (by omega)))).mono ?_)
  rintro e w4 ⟨v4, rfl, hN, hb4⟩
  obtain ⟨A', n', C', B', m', D', rfl, hn', hm'⟩ := hN.form
  have hbW := hbE.trans (hb4.mono hbE.size)
  have hI := (Held.init (hN.mono hbE.size) (yR.below hb4) (by omega) hbW).2
  obtain rfl : n' = n := by rw [hn']; exact hl.out.1
  obtain rfl : m' = m := by rw [hm']; exact hl.out.2
  rw [hdd.out] at hI ⊢
  clear ct hN yR hn' hm' e0 e1 e2 xE hbE hb4
  have hI' := Lib.hid hI
  clear hI
  have hlt4 : w4.heap.size < (w4.alloc (.cells #[.slice A' n' C', .slice B' m' D', .bool dd] 25)).heap.size := by simp
  go_upto_region 2 with fail
  generalize w4.alloc _ = wr at *
  go_cut [] (fun wx => ∃ (g D2 : Nat), Held w1 d.blocks (d.wait ++ [(k, fullD zs)]) w4.heap.size (w.heap.size + 1) A' (some ⟨g, 0, none⟩) n' C' (m' + 1) D2 dd wx)
  case first =>
    obtain ⟨hs', ht', o1, o2, h1', h2', g1, g2, x3, xR, q1, q2, hbq⟩ := hI'.out
    have c1 := x3.c1
    refine wp_region_held_drew (S := (fun _ => True)) (by kernel_rfl) ?_ (fun hHeld => ?_)
    · trivial
    refine wpAnyH_take (i := 0) (v := ?_) rfl (by kernel_rfl) (by kernel_rfl) (by kernel_rfl) (fun _ _ _ h => h) (Or.inl ⟨by rfl, ?_⟩) hHeld ?_
    rotate_left
    · (intro w hSw; (try dsimp only at hSw); go_simp; try with_reducible rfl)
    try simp only [Act.put, List.getElem_toArray, List.getElem_cons_zero, List.setIfInBounds_toArray, List.set_cons_zero, List.set_cons_succ]
    refine wpAnyH_take (i := 2) (v := ?_) rfl (by kernel_rfl) (by kernel_rfl) (by kernel_rfl) (fun _ _ _ h => h) (Or.inl ⟨by rfl, ?_⟩) hHeld ?_
    rotate_left
    · (intro w hSw; (try dsimp only at hSw); go_simp; try with_reducible rfl)
    try simp only [Act.put, List.getElem_toArray, List.getElem_cons_zero, List.getElem_cons_succ, List.setIfInBounds_toArray, List.set_cons_zero, List.set_cons_succ]
    refine wpAnyH_take (i := 3) (v := ?_) rfl (by kernel_rfl) (by kernel_rfl) (by kernel_rfl) (fun _ _ _ h => h) (Or.inl ⟨by rfl, ?_⟩) hHeld ?_
    rotate_left
    · (intro w hSw; (try dsimp only at hSw); go_simp; try with_reducible rfl)
    try simp only [Act.put, List.getElem_toArray, List.getElem_cons_zero, List.getElem_cons_succ, List.setIfInBounds_toArray, List.set_cons_zero, List.set_cons_succ]
    refine wpAnyH_ready (rs := [1, 4]) (by kernel_rfl) (by simp) ?_
    refine AllReadyH.cons rfl (fun K hK => ?_) (AllReadyH.cons rfl (fun K hK => ?_) AllReadyH.nil)
    ·
      go_simp
      refine hK.out _ _ ?_ (fun hHeld2 => ?_)
      · trivial
      clear hK K hHeld
      have hHeld := hHeld2
      clear hHeld2
      try simp only [Act.put, List.setIfInBounds_toArray, List.set_cons_zero, List.set_cons_succ]
      refine wpAnyH_ready (rs := [4]) (by kernel_rfl) (by simp) ?_
      refine AllReadyH.cons rfl (fun K hK => ?_) AllReadyH.nil
      go_simp
      (with_reducible refine (cf _ (hb1.trans ((hbq.trans ((Below.refl _ _).drew.mono hbq.size)).mono (by omega)))).mono ?_)
      rintro e w5 ⟨A5, L, C5, rfl, hF0, hb50⟩
      have hb5 : Below wr.heap.size wr w5 := (Below.refl _ _).drew.trans (hb50.mono (Nat.le_refl _))
      have hF := Lib.hid (hF0.mono (hbq.trans ((Below.refl _ _).drew.mono hbq.size)).size)
      have hB9 := hbq.trans (hb5.mono hbq.size)
      have f0 := (x3.below hb5).c0
      have f1 := (x3.below hb5).c1
      have hl5 := (x3.below hb5).lt
      clear hb50 hF0
      go_wp2_with fail
      refine hK.out _ _ ?_ (fun hHeld2 => ?_)
      · trivial
      clear hK K hHeld
      have hHeld := hHeld2
      clear hHeld2
      try simp only [Act.put, List.setIfInBounds_toArray, List.set_cons_zero, List.set_cons_succ]
      refine wpAnyH_take (i := 5) (v := ?_) rfl (by kernel_rfl) (by kernel_rfl) (by kernel_rfl) (fun _ _ _ h => h) (Or.inl ⟨by rfl, ?_⟩) hHeld ?_
      rotate_left
      · (intro w hSw; (try dsimp only at hSw); go_simp; try with_reducible rfl)
      try simp only [Act.put, List.getElem_toArray, List.getElem_cons_zero, List.getElem_cons_succ, List.setIfInBounds_toArray, List.set_cons_zero, List.set_cons_succ]
      refine wpAnyH_ready (rs := [6]) (by kernel_rfl) (by simp) ?_
      refine AllReadyH.cons rfl (fun K hK => ?_) AllReadyH.nil
      go_simp
      refine hK.out _ _ ?_ (fun hHeld2 => ?_)
      · trivial
      clear hK K hHeld
      have hHeld := hHeld2
      clear hHeld2
      try simp only [Act.put, List.setIfInBounds_toArray, List.set_cons_zero, List.set_cons_succ]
      refine wpAnyH_ready (rs := [7]) (by kernel_rfl) (by simp) ?_
      refine AllReadyH.cons rfl (fun K hK => ?_) AllReadyH.nil
      refine step_append_lies _ (by rfl) _ _ _ (by rfl) w1.heap.size 88 k0 _ 2 32 Try.underlying23 hk0 kz0 kz1 kz2 rfl (by omega) (.slice B' m' D') m' ht' (by rfl) (own_below (own_below o2 hb5) ((Below.refl _ _).alloc (Nat.le_refl _) _)) ⟨w5.heap.size, 0, none⟩ 1 1 [.int .i64 k, .slice A5 L C5] (by rfl) (by rfl) (World.news_of_block (cs := #[.int .i64 k, .slice A5 L C5]) (t := 88) (fr := (0, 0)) (heap_alloc_new w5 _)) (by simp [Value.oneCell']) (by omega) (by simp only [maxLen]; omega) (by omega) (by have := hB9.size; simp; omega) (w5.heap.size + 1) (by simp) ?_
      intro gg cap w6 hown6 hgrow6 hat6 hlt6
      have ha5 : Below wr.heap.size wr (w5.alloc (.cells #[.int .i64 k, .slice A5 L C5] 88)) := hb5.alloc hb5.size _
      have oA5 := own_below o1 ha5
      have oB5 := own_below o2 ha5
      have x6 := (x3.below ha5).grown hgrow6 fun e => own_box oB5 (x3.below ha5) (by decide) e.symm
      have f6 := x6.c1
      have r6 := x6.fr (o := 1)
      have hN0 := Held.push oA5 oB5 (h1'.below ha5 (Nat.le_refl _)) (h2'.below ha5 (Nat.le_refl _)) (g1.below ha5) (g2.below ha5) (x3.below ha5) (xR.below ha5) q1 q2 (hbq.trans (ha5.mono hbq.size)) (hF.out.below ((Below.refl _ _).alloc (Nat.le_refl _) _)) hkw.out hown6 hgrow6
      have hB6 := Lib.hid (below_own (hbq.trans (ha5.mono hbq.size)) hgrow6 rfl (fun q hq => (own_lt oB5 hq).2) (hbq.trans (ha5.mono hbq.size)).size)
      have hN := Lib.hid hN0
      clear oA5 oB5 ha5 hN0
      refine hK.out _ _ ?_ (fun hHeld2 => ?_)
      · trivial
      clear hK K hHeld
      have hHeld := hHeld2
      clear hHeld2
      try simp only [Act.put, List.setIfInBounds_toArray]
      refine wpAnyH_take (i := 8) (v := ?_) rfl (by kernel_rfl) (by kernel_rfl) (by kernel_rfl) (fun _ _ _ h => h) (Or.inl ⟨by rfl, ?_⟩) hHeld ?_
      rotate_left
      · (intro w hSw; (try dsimp only at hSw); go_simp; try with_reducible rfl)
      try simp only [Act.put, List.getElem_toArray, List.getElem_cons_zero, List.getElem_cons_succ, List.setIfInBounds_toArray, List.set_cons_zero, List.set_cons_succ]
      refine wpAnyH_ready (rs := [9]) (by kernel_rfl) (by simp) ?_
      refine AllReadyH.cons rfl (fun K hK => ?_) AllReadyH.nil
      go_simp
      refine hK.out _ _ ?_ (fun hHeld2 => ?_)
      · trivial
      clear hK K hHeld
      have hHeld := hHeld2
      clear hHeld2
      try simp only [Act.put, List.setIfInBounds_toArray, List.set_cons_zero, List.set_cons_succ]
      refine wpAnyH_done (by kernel_rfl) ?_ _
      clear hHeld f6 r6 hF hown6 hgrow6 hB6
      go_wp2_with fail
      go_meet
      case rel => exact ⟨_, _, hN.out⟩
    ·
      go_simp
      (with_reducible refine (cf _ (hb1.trans ((hbq.trans ((Below.refl _ _).drew.mono hbq.size)).mono (by omega)))).mono ?_)
      rintro e w5 ⟨A5, L, C5, rfl, hF0, hb50⟩
      have hb5 : Below wr.heap.size wr w5 := (Below.refl _ _).drew.trans (hb50.mono (Nat.le_refl _))
      have hF := Lib.hid (hF0.mono (hbq.trans ((Below.refl _ _).drew.mono hbq.size)).size)
      have hB9 := hbq.trans (hb5.mono hbq.size)
      have f0 := (x3.below hb5).c0
      have f1 := (x3.below hb5).c1
      have hl5 := (x3.below hb5).lt
      clear hb50 hF0
      go_wp2_with fail
      refine hK.out _ _ ?_ (fun hHeld2 => ?_)
      · trivial
      clear hK K hHeld
      have hHeld := hHeld2
      clear hHeld2
      try simp only [Act.put, List.setIfInBounds_toArray, List.set_cons_zero, List.set_cons_succ]
      refine wpAnyH_take (i := 5) (v := ?_) rfl (by kernel_rfl) (by kernel_rfl) (by kernel_rfl) (fun _ _ _ h => h) (Or.inl ⟨by rfl, ?_⟩) hHeld ?_
      rotate_left
      · (intro w hSw; (try dsimp only at hSw); go_simp; try with_reducible rfl)
      try simp only [Act.put, List.getElem_toArray, List.getElem_cons_zero, List.getElem_cons_succ, List.setIfInBounds_toArray, List.set_cons_zero, List.set_cons_succ]
      refine wpAnyH_ready (rs := [1, 6]) (by kernel_rfl) (by simp) ?_
      refine AllReadyH.cons rfl (fun K hK => ?_) (AllReadyH.cons rfl (fun K hK => ?_) AllReadyH.nil)
      ·
        go_simp
        refine hK.out _ _ ?_ (fun hHeld2 => ?_)
        · trivial
        clear hK K hHeld
        have hHeld := hHeld2
        clear hHeld2
        try simp only [Act.put, List.setIfInBounds_toArray, List.set_cons_zero, List.set_cons_succ]
        refine wpAnyH_ready (rs := [6]) (by kernel_rfl) (by simp) ?_
        refine AllReadyH.cons rfl (fun K hK => ?_) AllReadyH.nil
        go_simp
        refine hK.out _ _ ?_ (fun hHeld2 => ?_)
        · trivial
        clear hK K hHeld
        have hHeld := hHeld2
        clear hHeld2
        try simp only [Act.put, List.setIfInBounds_toArray, List.set_cons_zero, List.set_cons_succ]
        refine wpAnyH_ready (rs := [7]) (by kernel_rfl) (by simp) ?_
        refine AllReadyH.cons rfl (fun K hK => ?_) AllReadyH.nil
        refine step_append_lies _ (by rfl) _ _ _ (by rfl) w1.heap.size 88 k0 _ 2 32 Try.underlying23 hk0 kz0 kz1 kz2 rfl (by omega) (.slice B' m' D') m' ht' (by rfl) (own_below (own_below o2 hb5) ((Below.refl _ _).alloc (Nat.le_refl _) _)) ⟨w5.heap.size, 0, none⟩ 1 1 [.int .i64 k, .slice A5 L C5] (by rfl) (by rfl) (World.news_of_block (cs := #[.int .i64 k, .slice A5 L C5]) (t := 88) (fr := (0, 0)) (heap_alloc_new w5 _)) (by simp [Value.oneCell']) (by omega) (by simp only [maxLen]; omega) (by omega) (by have := hB9.size; simp; omega) (w5.heap.size + 1) (by simp) ?_
        intro gg cap w6 hown6 hgrow6 hat6 hlt6
        have ha5 : Below wr.heap.size wr (w5.alloc (.cells #[.int .i64 k, .slice A5 L C5] 88)) := hb5.alloc hb5.size _
        have oA5 := own_below o1 ha5
        have oB5 := own_below o2 ha5
        have x6 := (x3.below ha5).grown hgrow6 fun e => own_box oB5 (x3.below ha5) (by decide) e.symm
        have f6 := x6.c1
        have r6 := x6.fr (o := 1)
        have hN0 := Held.push oA5 oB5 (h1'.below ha5 (Nat.le_refl _)) (h2'.below ha5 (Nat.le_refl _)) (g1.below ha5) (g2.below ha5) (x3.below ha5) (xR.below ha5) q1 q2 (hbq.trans (ha5.mono hbq.size)) (hF.out.below ((Below.refl _ _).alloc (Nat.le_refl _) _)) hkw.out hown6 hgrow6
        have hB6 := Lib.hid (below_own (hbq.trans (ha5.mono hbq.size)) hgrow6 rfl (fun q hq => (own_lt oB5 hq).2) (hbq.trans (ha5.mono hbq.size)).size)
        have hN := Lib.hid hN0
        clear oA5 oB5 ha5 hN0
        refine hK.out _ _ ?_ (fun hHeld2 => ?_)
        · trivial
        clear hK K hHeld
        have hHeld := hHeld2
        clear hHeld2
        try simp only [Act.put, List.setIfInBounds_toArray]
        refine wpAnyH_take (i := 8) (v := ?_) rfl (by kernel_rfl) (by kernel_rfl) (by kernel_rfl) (fun _ _ _ h => h) (Or.inl ⟨by rfl, ?_⟩) hHeld ?_
        rotate_left
        · (intro w hSw; (try dsimp only at hSw); go_simp; try with_reducible rfl)
        try simp only [Act.put, List.getElem_toArray, List.getElem_cons_zero, List.getElem_cons_succ, List.setIfInBounds_toArray, List.set_cons_zero, List.set_cons_succ]
        refine wpAnyH_ready (rs := [9]) (by kernel_rfl) (by simp) ?_
        refine AllReadyH.cons rfl (fun K hK => ?_) AllReadyH.nil
        go_simp
        refine hK.out _ _ ?_ (fun hHeld2 => ?_)
        · trivial
        clear hK K hHeld
        have hHeld := hHeld2
        clear hHeld2
        try simp only [Act.put, List.setIfInBounds_toArray, List.set_cons_zero, List.set_cons_succ]
        refine wpAnyH_done (by kernel_rfl) ?_ _
        clear hHeld f6 r6 hF hown6 hgrow6 hB6
        go_wp2_with fail
        go_meet
        case rel => exact ⟨_, _, hN.out⟩
      ·
        go_simp
        refine hK.out _ _ ?_ (fun hHeld2 => ?_)
        · trivial
        clear hK K hHeld
        have hHeld := hHeld2
        clear hHeld2
        try simp only [Act.put, List.setIfInBounds_toArray, List.set_cons_zero, List.set_cons_succ]
        refine wpAnyH_ready (rs := [1]) (by kernel_rfl) (by simp) ?_
        refine AllReadyH.cons rfl (fun K hK => ?_) AllReadyH.nil
        go_simp
        refine hK.out _ _ ?_ (fun hHeld2 => ?_)
        · trivial
        clear hK K hHeld
        have hHeld := hHeld2
        clear hHeld2
        try simp only [Act.put, List.setIfInBounds_toArray, List.set_cons_zero, List.set_cons_succ]
        refine wpAnyH_ready (rs := [7]) (by kernel_rfl) (by simp) ?_
        refine AllReadyH.cons rfl (fun K hK => ?_) AllReadyH.nil
        refine step_append_lies _ (by rfl) _ _ _ (by rfl) w1.heap.size 88 k0 _ 2 32 Try.underlying23 hk0 kz0 kz1 kz2 rfl (by omega) (.slice B' m' D') m' ht' (by rfl) (own_below (own_below o2 hb5) ((Below.refl _ _).alloc (Nat.le_refl _) _)) ⟨w5.heap.size, 0, none⟩ 1 1 [.int .i64 k, .slice A5 L C5] (by rfl) (by rfl) (World.news_of_block (cs := #[.int .i64 k, .slice A5 L C5]) (t := 88) (fr := (0, 0)) (heap_alloc_new w5 _)) (by simp [Value.oneCell']) (by omega) (by simp only [maxLen]; omega) (by omega) (by have := hB9.size; simp; omega) (w5.heap.size + 1) (by simp) ?_
        intro gg cap w6 hown6 hgrow6 hat6 hlt6
        have ha5 : Below wr.heap.size wr (w5.alloc (.cells #[.int .i64 k, .slice A5 L C5] 88)) := hb5.alloc hb5.size _
        have oA5 := own_below o1 ha5
        have oB5 := own_below o2 ha5
        have x6 := (x3.below ha5).grown hgrow6 fun e => own_box oB5 (x3.below ha5) (by decide) e.symm
        have f6 := x6.c1
        have r6 := x6.fr (o := 1)
        have hN0 := Held.push oA5 oB5 (h1'.below ha5 (Nat.le_refl _)) (h2'.below ha5 (Nat.le_refl _)) (g1.below ha5) (g2.below ha5) (x3.below ha5) (xR.below ha5) q1 q2 (hbq.trans (ha5.mono hbq.size)) (hF.out.below ((Below.refl _ _).alloc (Nat.le_refl _) _)) hkw.out hown6 hgrow6
        have hB6 := Lib.hid (below_own (hbq.trans (ha5.mono hbq.size)) hgrow6 rfl (fun q hq => (own_lt oB5 hq).2) (hbq.trans (ha5.mono hbq.size)).size)
        have hN := Lib.hid hN0
        clear oA5 oB5 ha5 hN0
        refine hK.out _ _ ?_ (fun hHeld2 => ?_)
        · trivial
        clear hK K hHeld
        have hHeld := hHeld2
        clear hHeld2
        try simp only [Act.put, List.setIfInBounds_toArray]
        refine wpAnyH_take (i := 8) (v := ?_) rfl (by kernel_rfl) (by kernel_rfl) (by kernel_rfl) (fun _ _ _ h => h) (Or.inl ⟨by rfl, ?_⟩) hHeld ?_
        rotate_left
        · (intro w hSw; (try dsimp only at hSw); go_simp; try with_reducible rfl)
        try simp only [Act.put, List.getElem_toArray, List.getElem_cons_zero, List.getElem_cons_succ, List.setIfInBounds_toArray, List.set_cons_zero, List.set_cons_succ]
        refine wpAnyH_ready (rs := [9]) (by kernel_rfl) (by simp) ?_
        refine AllReadyH.cons rfl (fun K hK => ?_) AllReadyH.nil
        go_simp
        refine hK.out _ _ ?_ (fun hHeld2 => ?_)
        · trivial
        clear hK K hHeld
        have hHeld := hHeld2
        clear hHeld2
        try simp only [Act.put, List.setIfInBounds_toArray, List.set_cons_zero, List.set_cons_succ]
        refine wpAnyH_done (by kernel_rfl) ?_ _
        clear hHeld f6 r6 hF hown6 hgrow6 hB6
        go_wp2_with fail
        go_meet
        case rel => exact ⟨_, _, hN.out⟩
  case rest =>
    obtain ⟨g, D2, hT⟩ := hcut
    obtain ⟨y3, yR, l3, lR, hBw⟩ := hT.boxes
    have x0 := y3.c0
    have x1 := y3.c1
    have x2 := y3.c2
    have f0 := yR.c0
    have f1 := yR.c1
    have f2 := yR.c2
    have r0 := yR.fr (o := 0)
    have r1 := yR.fr (o := 1)
    have r2 := yR.fr (o := 2)
    have hD := Lib.hid (hT.dev (by omega) (by omega))
    clear hT
    go_wp2
    have d2 := (hD.out.setBox3 yR (.slice A' n' C') (.slice (some ⟨g, 0, none⟩) (m' + 1) D2) (.bool dd)).1
    exact bodyPost_ret (v := .agg #[(.slice A' n' C'), (.slice (some ⟨g, 0, none⟩) (m' + 1) D2), .bool dd]) (by simp [results, Try.results80, go_sem, f0, f1, f2]) rfl ⟨_, rfl, d2.mono (by omega), hb1.trans ((((hBw.setCell (by show w1.heap.size ≤ w.heap.size + 1; omega) _).setCell (by show w1.heap.size ≤ w.heap.size + 1; omega) _).setCell (by show w1.heap.size ≤ w.heap.size + 1; omega) _).mono (by omega))⟩
set_option maxRecDepth 100000 in
set_option maxHeartbeats 8000000 in
theorem refsure_calls (v : Value) (d : Dev) (k : Int) (a : Option Addr) (q c : Nat) (zs : List Int) (w : World) (h : DevV w v d) (hz : Ints .u8 w a q zs) (hM : MayD d) (hB : Blk zs) (p2 : 0 ≤ k) (p3 : k < d.blocks.length) :
    Calls Try.prog 83 #[v, .int .i64 k, .slice a q c] w fun e w' => ∃ v', e = .returned v' ∧ DevN w.heap.size w' v' ⟨d.blocks.set k.toNat (fullD zs), keptL k d.wait, d.dead⟩ ∧ Below w.heap.size w w' := by
  have hv0 := h
  obtain ⟨A, n, C, hs, B, m, D, ht, rfl, h1, h2⟩ := h
  have hv := Lib.hid hv0
  obtain ⟨s1, s2, s3, s4⟩ := may_small hM
  have hl := Lib.hid (And.intro h1.len h2.len)
  have hn : n ≤ 300 := by have := h1.len; omega
  have hm : m ≤ 1100 := by have := h2.len; omega
  have hq : q ≤ 1000000 := by have := hz.len; rcases hB with q | q <;> omega
  have hkw := Lib.hid (show (Lit.int .i64 k).wf = true from WalkArith.wf_i64 (by have := h1.len; have := h1.max; constructor <;> omega))
  have ct := fun W (hW : Below w.heap.size w W) => reftwin_calls _ d W (hv0.below hW (Nat.le_refl _)) s1 s2 (fun b hb => Nat.le_trans (s3 b hb) (by omega)) (fun x hx => Nat.le_trans (s4 x hx) (by omega))
  have cf := fun W (hW : Below w.heap.size w W) => reffull_calls a q c zs W (hz.below hW (Nat.le_refl _)) hq
  obtain ⟨i0, hi0, hz0, hz1, hz2⟩ := info_parts byte_info
  obtain ⟨j0, hj0, jz0, jz1, jz2⟩ := info_parts hdr_info
  obtain ⟨k0, hk0, kz0, kz1, kz2⟩ := info_parts write_info
  have hb1 : Below w.heap.size w (w.alloc (.cells #[.slice A n C, .slice B m D, .bool d.dead] 25)) := (Below.refl _ _).alloc (Nat.le_refl _) _
  have bx0 := BoxD.new w (.slice A n C) (.slice B m D) (.bool d.dead)
  have hs1 : (w.alloc (.cells #[.slice A n C, .slice B m D, .bool d.dead] 25)).heap.size = w.heap.size + 1 := by simp
  have H2 := Lib.hid (h2.below hb1 (Nat.le_refl _))
  have hkn0 : k < (n : Int) := by have := h1.len; omega
  have hR2 := Lib.hid s4
  have cf2 := fun W (A1 : Option Addr) (L C1 : Nat) (dat : List Int) (hz : Ints .u8 W A1 L dat) (hL : L ≤ 1000000) => reffull_calls A1 L C1 dat W hz hL
  clear hM hv0 hv s1 s2 s3 s4 h1 h2 hz hB p3
  generalize hdd' : d.dead = dd at *
  have hdd := Lib.hid hdd'
  clear hdd'
  go_enter Try.func83, Try.ntmps83
  go_upto_region 1 with fail
  generalize w.alloc (.cells #[.slice A n C, .slice B m D, .bool dd] 25) = w1 at *
  have hbE : Below w1.heap.size w1 (w1.alloc (.cells #[.slice none 0 0, .slice none 0 0, .bool false] 25)) := (Below.refl _ _).alloc (Nat.le_refl _) _
  have xE := bx0.alloc (.cells #[.slice none 0 0, .slice none 0 0, .bool false] 25)
  have yR := BoxD.new w1 (.slice none 0 0) (.slice none 0 0) (.bool false)
  rw [hs1] at yR
  have e0 := xE.c0
  have e1 := xE.c1
  have e2 := xE.c2
  go_wp2_with fail
  (with_reducible refine (ct _ (hb1.trans (hbE.mono (by omega)))).mono ?_)
  rintro e w4 ⟨v4, rfl, hN, hb4⟩
  obtain ⟨A', n', C', B', m', D', rfl, hn', hm'⟩ := hN.form
  have hbW := hbE.trans (hb4.mono hbE.size)
  have hI := (Held.init (hN.mono hbE.size) (yR.below hb4) (by omega) hbW).2
  obtain rfl : n' = n := by rw [hn']; exact hl.out.1
  obtain rfl : m' = m := by rw [hm']; exact hl.out.2
  rw [hdd.out] at hI ⊢
  clear ct hN yR hn' hm' e0 e1 e2 xE hbE hb4
  have hI' := Lib.hid hI
  clear hI
  have hlt4 : w4.heap.size < (w4.alloc (.cells #[.slice A' n' C', .slice B' m' D', .bool dd] 25)).heap.size := by simp
  obtain ⟨j, rfl⟩ : ∃ j : Nat, k = j := ⟨k.toNat, by omega⟩
  have hjn : j < n' := by omega
  go_upto_region 2 with fail
  generalize w4.alloc _ = wr at *
  obtain ⟨g, A0, L0, C0, rfl, hcell, hfr, hgb, hgl⟩ := hI'.out.block hjn
  go_cut [] (fun wx => Held w1 (d.blocks.set j (fullD zs)) d.wait w4.heap.size (w.heap.size + 1) (some ⟨g, 0, none⟩) B' n' C' m' D' dd wx)
  case first =>
    have x3 := hI'.out.boxes.1
    have hbq := hI'.out.boxes.2.2.2.2
    have c0 := x3.c0
    refine wp_region_held_drew (S := (fun W => W.cell? ⟨w4.heap.size, 0, none⟩ = some (.slice (some ⟨g, 0, none⟩) n' C'))) (by kernel_rfl) ?_ (fun hHeld => ?_)
    · first | assumption | exact f0 | exact (World.cell?_setCell_other _ _ _ _ (fun q => hgb (congrArg Addr.block q))).trans f0
    refine wpAnyH_take (i := 0) (v := ?_) rfl (by kernel_rfl) (by kernel_rfl) (by kernel_rfl) (fun _ _ _ h => h) (Or.inl ⟨by rfl, ?_⟩) hHeld ?_
    rotate_left
    · (intro w hSw; (try dsimp only at hSw); go_simp; try with_reducible rfl)
    try simp only [Act.put, List.getElem_toArray, List.getElem_cons_zero, List.setIfInBounds_toArray, List.set_cons_zero, List.set_cons_succ]
    refine wpAnyH_take (i := 1) (v := ?_) rfl (by kernel_rfl) (by kernel_rfl) (by kernel_rfl) (fun _ _ _ h => h) (Or.inl ⟨by rfl, ?_⟩) hHeld ?_
    rotate_left
    · (intro w hSw; (try dsimp only at hSw); go_simp; try with_reducible rfl)
    try simp only [Act.put, List.getElem_toArray, List.getElem_cons_zero, List.getElem_cons_succ, List.setIfInBounds_toArray, List.set_cons_zero, List.set_cons_succ]
    refine wpAnyH_take (i := 2) (v := ?_) rfl (by kernel_rfl) (by kernel_rfl) (by kernel_rfl) (fun _ _ _ h => h) (Or.inl ⟨by rfl, ?_⟩) hHeld ?_
    rotate_left
    · (intro w hSw; (try dsimp only at hSw); go_simp; try with_reducible rfl)
    try simp only [Act.put, List.getElem_toArray, List.getElem_cons_zero, List.getElem_cons_succ, List.setIfInBounds_toArray, List.set_cons_zero, List.set_cons_succ]
    refine wpAnyH_take (i := 3) (v := ?_) rfl (by kernel_rfl) (by kernel_rfl) (by kernel_rfl) (fun _ _ _ h => h) (Or.inl ⟨by rfl, ?_⟩) hHeld ?_
    rotate_left
    · (intro w hSw; (try dsimp only at hSw); go_simp; try with_reducible rfl)
    try simp only [Act.put, List.getElem_toArray, List.getElem_cons_zero, List.getElem_cons_succ, List.setIfInBounds_toArray, List.set_cons_zero, List.set_cons_succ]
    refine wpAnyH_ready (rs := [4]) (by kernel_rfl) (by simp) ?_
    refine AllReadyH.cons rfl (fun K hK => ?_) AllReadyH.nil
    go_simp
    (with_reducible refine (cf _ (hb1.trans ((hbq.trans ((Below.refl _ _).drew.mono hbq.size)).mono (by omega)))).mono ?_)
    rintro e w5 ⟨A5, L, C5, rfl, hF0, hb50⟩
    have hb5 : Below wr.heap.size wr w5 := (Below.refl _ _).drew.trans (hb50.mono (Nat.le_refl _))
    have hF := Lib.hid (hF0.mono (hbq.trans ((Below.refl _ _).drew.mono hbq.size)).size)
    have hB9 := hbq.trans (hb5.mono hbq.size)
    have f0 := (x3.below hb5).c0
    have f1 := (x3.below hb5).c1
    have hl5 := (x3.below hb5).lt
    clear hb50 hF0
    have fg := (hb5.cell (p := ⟨g, j, none⟩) hgl).trans hcell
    have rg := (hb5.frozen (p := ⟨g, j, none⟩) hgl).trans hfr
    have hN := Lib.hid ((hI'.out.below hb5).setBlock hF.out hjn)
    go_wp2_with fail
    refine hK.out _ _ ?_ (fun hHeld2 => ?_)
    · first | assumption | exact f0 | exact (World.cell?_setCell_other _ _ _ _ (fun q => hgb (congrArg Addr.block q))).trans f0
    clear hK K hHeld
    have hHeld := hHeld2
    clear hHeld2
    try simp only [Act.put, List.setIfInBounds_toArray, List.set_cons_zero, List.set_cons_succ]
    refine wpAnyH_ready (rs := [5]) (by kernel_rfl) (by simp) ?_
    refine AllReadyH.cons rfl (fun K hK => ?_) AllReadyH.nil
    go_simp
    refine hK.out _ _ ?_ (fun hHeld2 => ?_)
    · first | assumption | exact f0 | exact (World.cell?_setCell_other _ _ _ _ (fun q => hgb (congrArg Addr.block q))).trans f0
    clear hK K hHeld
    have hHeld := hHeld2
    clear hHeld2
    try simp only [Act.put, List.setIfInBounds_toArray, List.set_cons_zero, List.set_cons_succ]
    refine wpAnyH_ready (rs := [6]) (by kernel_rfl) (by simp) ?_
    refine AllReadyH.cons rfl (fun K hK => ?_) AllReadyH.nil
    go_simp
    refine hK.out _ _ ?_ (fun hHeld2 => ?_)
    · first | assumption | exact f0 | exact (World.cell?_setCell_other _ _ _ _ (fun q => hgb (congrArg Addr.block q))).trans f0
    clear hK K hHeld
    have hHeld := hHeld2
    clear hHeld2
    try simp only [Act.put, List.setIfInBounds_toArray, List.set_cons_zero, List.set_cons_succ]
    refine wpAnyH_done (by kernel_rfl) ?_ _
    clear hHeld hF
    go_wp2_with fail
    go_meet
    case rel => exact hN.out
  case rest =>
    have hT := hcut
    have x3 := hT.boxes.1
    have r1 := x3.fr (o := 1)
    have e1 := x3.c1
    have hH0 := Lib.hid hT.dropW
    clear hT hcut hI' hcell hfr
    go_wp2
    clear x3 r1 e1
    go_loopw [8] (fun i wr => ∃ (k m2 : Nat) (B2 : Option Addr) (D2 : Nat), k ≤ m' ∧ m2 ≤ 1100 ∧ i = .int .i64 k ∧ Held w1 (d.blocks.set j (fullD zs)) (keptL j (d.wait.take k)) w4.heap.size (w.heap.size + 1) (some ⟨g, 0, none⟩) B2 n' C' m2 D2 dd wr) (fun i _ => m' - (intOf i).toNat)
    case atStart => exact ⟨0, 0, none, 0, by omega, by omega, rfl, hH0.out⟩
    case round =>
      obtain ⟨k, m2, B2, D2, hk, hm2, rfl, hT⟩ := hrel
      clear hH0
      by_cases hkn : k < m'
      · obtain ⟨hs', ht', o1, o2, h1', h2', g1, g2, x3, xR, q1, q2, hbq⟩ := hT
        have e0 := (bx0.below hbq).c1
        obtain ⟨b, off, A1, L1, C1, x, rfl, hlt, hls, hc0, hcell, hkw', hz, _⟩ := H2.out.at (i := k) hkn
        obtain ⟨at_, dat⟩ := x
        simp only at hkw' hz hc0
        have hkw := Lib.hid hkw'
        have hL : L1 ≤ 1000000 := by
          have := hR2.out _ (List.mem_of_getElem? hls)
          have := hz.len
          simp only at *
          omega
        have hm2k : m2 ≤ k := by
          have a1 := keptL_len j (d.wait.take k)
          have a2 := o2.1
          have a3 := h2'.1
          have a4 : (d.wait.take k).length ≤ k := by rw [List.length_take]; omega
          omega
        have hkn1 : (k : Int) < (m' : Int) := by omega
        have e4 := (hbq.cell (p := ⟨b, off + k * 2, none⟩) hlt).trans hc0
        have hs0 : w.heap.size < w1.heap.size := by omega
        by_cases hne : at_ = (j : Int)
        · have E := Lib.hid (show keptL j (d.wait.take (k + 1)) = keptL j (d.wait.take k) by rw [take_snocL hls, keptL_no hne])
          have hne1 : (at_ != (j : Int)) = false := by simp [hne]
          have hN := Lib.hid (show Held w1 (d.blocks.set j (fullD zs)) (keptL j (d.wait.take (k + 1))) w4.heap.size (w.heap.size + 1) (some ⟨g, 0, none⟩) B2 n' C' m2 D2 dd wr by rw [E.out]; exact ⟨hs', ht', o1, o2, h1', h2', g1, g2, x3, xR, q1, q2, hbq⟩)
          clear hls hcell hc0 hkw' o1 o2 h1' h2' g1 g2 x3 xR hne
          go_wp2
          go_roundw
          case rel => exact ⟨k + 1, m2, _, _, by omega, hm2, by go_num, hN.out⟩
          case measure => simp [intOf]; omega
        · have E := Lib.hid (show keptL j (d.wait.take (k + 1)) = keptL j (d.wait.take k) ++ [(at_, fullD dat)] by rw [take_snocL hls, keptL_yes hne])
          have hne1 : (at_ != (j : Int)) = true := by simp [hne]
          have e5 := (hbq.cell (p := ⟨b, off + k * 2 + 1, none⟩) hlt).trans hcell
          have HK : Hid (∀ W, Below w1.heap.size w1 W → W.cell? ⟨w.heap.size, 1, none⟩ = some (.slice (some ⟨b, off, none⟩) m' D) ∧ W.cell? ⟨b, off + k * 2, none⟩ = some (.int .i64 at_) ∧ W.cell? ⟨b, off + k * 2 + 1, none⟩ = some (.slice A1 L1 C1)) := Lib.hid fun W hW => ⟨(bx0.below hW).c1, (hW.cell (p := ⟨b, off + k * 2, none⟩) hlt).trans hc0, (hW.cell (p := ⟨b, off + k * 2 + 1, none⟩) hlt).trans hcell⟩
          have c0 := x3.c1
          clear hls hcell hc0 hkw' hne
          go_wp2
          refine wp_region_held_drew (S := (fun W => W.cell? ⟨w.heap.size, 1, none⟩ = some (.slice (some ⟨b, off, none⟩) m' D) ∧ W.cell? ⟨b, off + k * 2, none⟩ = some (.int .i64 at_) ∧ W.cell? ⟨b, off + k * 2 + 1, none⟩ = some (.slice A1 L1 C1))) (by kernel_rfl) ?_ (fun hHeld => ?_)
          · first | exact hHeld | exact HK.out _ hN.out.boxes.2.2.2.2 | exact HK.out _ hB6.out | exact HK.out _ (hB9.alloc hB9.size _) | exact HK.out _ hB9 | exact HK.out _ (hbq.trans ((Below.refl _ _).drew.mono hbq.size))
          refine wpAnyH_take (i := 0) (v := ?_) rfl (by kernel_rfl) (by kernel_rfl) (by kernel_rfl) (fun _ _ _ h => h) (Or.inl ⟨by rfl, ?_⟩) hHeld ?_
          rotate_left
          · (intro w hSw; (try dsimp only at hSw); go_simp; try with_reducible rfl)
          try simp only [Act.put, List.getElem_toArray, List.getElem_cons_zero, List.setIfInBounds_toArray, List.set_cons_zero, List.set_cons_succ]
          refine wpAnyH_take (i := 2) (v := ?_) rfl (by kernel_rfl) (by kernel_rfl) (by kernel_rfl) (fun _ _ _ h => h) (Or.inl ⟨by rfl, ?_⟩) hHeld ?_
          rotate_left
          · (intro w hSw; (try dsimp only at hSw); go_simp; try with_reducible rfl)
          try simp only [Act.put, List.getElem_toArray, List.getElem_cons_zero, List.getElem_cons_succ, List.setIfInBounds_toArray, List.set_cons_zero, List.set_cons_succ]
          refine wpAnyH_take (i := 3) (v := ?_) rfl (by kernel_rfl) (by kernel_rfl) (by kernel_rfl) (fun _ _ _ h => h) (Or.inl ⟨by rfl, ?_⟩) hHeld ?_
          rotate_left
          · (intro w hSw; (try dsimp only at hSw); go_simp; try with_reducible rfl)
          try simp only [Act.put, List.getElem_toArray, List.getElem_cons_zero, List.getElem_cons_succ, List.setIfInBounds_toArray, List.set_cons_zero, List.set_cons_succ]
          refine wpAnyH_take (i := 4) (v := ?_) rfl (by kernel_rfl) (by kernel_rfl) (by kernel_rfl) (fun _ _ _ h => h) (Or.inl ⟨by rfl, ?_⟩) hHeld ?_
          rotate_left
          · (intro w hSw; (try dsimp only at hSw); go_simp; try with_reducible rfl)
          try simp only [Act.put, List.getElem_toArray, List.getElem_cons_zero, List.getElem_cons_succ, List.setIfInBounds_toArray, List.set_cons_zero, List.set_cons_succ]
          refine wpAnyH_take (i := 5) (v := ?_) rfl (by kernel_rfl) (by kernel_rfl) (by kernel_rfl) (fun _ _ _ h => h) (Or.inl ⟨by rfl, ?_⟩) hHeld ?_
          rotate_left
          · (intro w hSw; (try dsimp only at hSw); go_simp; try with_reducible rfl)
          try simp only [Act.put, List.getElem_toArray, List.getElem_cons_zero, List.getElem_cons_succ, List.setIfInBounds_toArray, List.set_cons_zero, List.set_cons_succ]
          refine wpAnyH_take (i := 6) (v := ?_) rfl (by kernel_rfl) (by kernel_rfl) (by kernel_rfl) (fun _ _ _ h => h) (Or.inl ⟨by rfl, ?_⟩) hHeld ?_
          rotate_left
          · (intro w hSw; (try dsimp only at hSw); go_simp; try with_reducible rfl)
          try simp only [Act.put, List.getElem_toArray, List.getElem_cons_zero, List.getElem_cons_succ, List.setIfInBounds_toArray, List.set_cons_zero, List.set_cons_succ]
          refine wpAnyH_take (i := 7) (v := ?_) rfl (by kernel_rfl) (by kernel_rfl) (by kernel_rfl) (fun _ _ _ h => h) (Or.inl ⟨by rfl, ?_⟩) hHeld ?_
          rotate_left
          · (intro w hSw; (try dsimp only at hSw); go_simp; try with_reducible rfl)
          try simp only [Act.put, List.getElem_toArray, List.getElem_cons_zero, List.getElem_cons_succ, List.setIfInBounds_toArray, List.set_cons_zero, List.set_cons_succ]
          refine wpAnyH_take (i := 8) (v := ?_) rfl (by kernel_rfl) (by kernel_rfl) (by kernel_rfl) (fun _ _ _ h => h) (Or.inl ⟨by rfl, ?_⟩) hHeld ?_
          rotate_left
          · (intro w hSw; (try dsimp only at hSw); go_simp; try with_reducible rfl)
          try simp only [Act.put, List.getElem_toArray, List.getElem_cons_zero, List.getElem_cons_succ, List.setIfInBounds_toArray, List.set_cons_zero, List.set_cons_succ]
          refine wpAnyH_take (i := 9) (v := ?_) rfl (by kernel_rfl) (by kernel_rfl) (by kernel_rfl) (fun _ _ _ h => h) (Or.inl ⟨by rfl, ?_⟩) hHeld ?_
          rotate_left
          · (intro w hSw; (try dsimp only at hSw); go_simp; try with_reducible rfl)
          try simp only [Act.put, List.getElem_toArray, List.getElem_cons_zero, List.getElem_cons_succ, List.setIfInBounds_toArray, List.set_cons_zero, List.set_cons_succ]
          refine wpAnyH_take (i := 10) (v := ?_) rfl (by kernel_rfl) (by kernel_rfl) (by kernel_rfl) (fun _ _ _ h => h) (Or.inl ⟨by rfl, ?_⟩) hHeld ?_
          rotate_left
          · (intro w hSw; (try dsimp only at hSw); go_simp; try with_reducible rfl)
          try simp only [Act.put, List.getElem_toArray, List.getElem_cons_zero, List.getElem_cons_succ, List.setIfInBounds_toArray, List.set_cons_zero, List.set_cons_succ]
          refine wpAnyH_take (i := 11) (v := ?_) rfl (by kernel_rfl) (by kernel_rfl) (by kernel_rfl) (fun _ _ _ h => h) (Or.inl ⟨by rfl, ?_⟩) hHeld ?_
          rotate_left
          · (intro w hSw; (try dsimp only at hSw); go_simp; try with_reducible rfl)
          try simp only [Act.put, List.getElem_toArray, List.getElem_cons_zero, List.getElem_cons_succ, List.setIfInBounds_toArray, List.set_cons_zero, List.set_cons_succ]
          refine wpAnyH_take (i := 12) (v := ?_) rfl (by kernel_rfl) (by kernel_rfl) (by kernel_rfl) (fun _ _ _ h => h) (Or.inl ⟨by rfl, ?_⟩) hHeld ?_
          rotate_left
          · (intro w hSw; (try dsimp only at hSw); go_simp; try with_reducible rfl)
          try simp only [Act.put, List.getElem_toArray, List.getElem_cons_zero, List.getElem_cons_succ, List.setIfInBounds_toArray, List.set_cons_zero, List.set_cons_succ]
          refine wpAnyH_take (i := 13) (v := ?_) rfl (by kernel_rfl) (by kernel_rfl) (by kernel_rfl) (fun _ _ _ h => h) (Or.inl ⟨by rfl, ?_⟩) hHeld ?_
          rotate_left
          · (intro w hSw; (try dsimp only at hSw); go_simp; try with_reducible rfl)
          try simp only [Act.put, List.getElem_toArray, List.getElem_cons_zero, List.getElem_cons_succ, List.setIfInBounds_toArray, List.set_cons_zero, List.set_cons_succ]
          refine wpAnyH_ready (rs := [1, 14]) (by kernel_rfl) (by simp) ?_
          refine AllReadyH.cons rfl (fun K hK => ?_) (AllReadyH.cons rfl (fun K hK => ?_) AllReadyH.nil)
          ·
            go_simp
            refine hK.out _ _ ?_ (fun hHeld2 => ?_)
            · first | exact hHeld | exact HK.out _ hN.out.boxes.2.2.2.2 | exact HK.out _ hB6.out | exact HK.out _ (hB9.alloc hB9.size _) | exact HK.out _ hB9 | exact HK.out _ (hbq.trans ((Below.refl _ _).drew.mono hbq.size))
            clear hK K hHeld
            have hHeld := hHeld2
            clear hHeld2
            try simp only [Act.put, List.setIfInBounds_toArray, List.set_cons_zero, List.set_cons_succ]
            refine wpAnyH_ready (rs := [14]) (by kernel_rfl) (by simp) ?_
            refine AllReadyH.cons rfl (fun K hK => ?_) AllReadyH.nil
            go_simp
            (with_reducible refine (cf2 _ A1 L1 C1 dat (hz.below (hbq.trans ((Below.refl _ _).drew.mono hbq.size)) (Nat.le_refl _)) hL).mono ?_)
            rintro e w5 ⟨A5, L, C5, rfl, hF0, hb50⟩
            have hb5 : Below wr.heap.size wr w5 := (Below.refl _ _).drew.trans (hb50.mono (Nat.le_refl _))
            have hF := Lib.hid (hF0.mono (hbq.trans ((Below.refl _ _).drew.mono hbq.size)).size)
            have hB9 := hbq.trans (hb5.mono hbq.size)
            have f0 := (x3.below hb5).c0
            have f1 := (x3.below hb5).c1
            have hl5 := (x3.below hb5).lt
            clear hb50 hF0
            go_wp2_with fail
            refine hK.out _ _ ?_ (fun hHeld2 => ?_)
            · first | exact hHeld | exact HK.out _ hN.out.boxes.2.2.2.2 | exact HK.out _ hB6.out | exact HK.out _ (hB9.alloc hB9.size _) | exact HK.out _ hB9 | exact HK.out _ (hbq.trans ((Below.refl _ _).drew.mono hbq.size))
            clear hK K hHeld
            have hHeld := hHeld2
            clear hHeld2
            try simp only [Act.put, List.setIfInBounds_toArray, List.set_cons_zero, List.set_cons_succ]
            refine wpAnyH_take (i := 15) (v := ?_) rfl (by kernel_rfl) (by kernel_rfl) (by kernel_rfl) (fun _ _ _ h => h) (Or.inl ⟨by rfl, ?_⟩) hHeld ?_
            rotate_left
            · (intro w hSw; (try dsimp only at hSw); go_simp; try with_reducible rfl)
            try simp only [Act.put, List.getElem_toArray, List.getElem_cons_zero, List.getElem_cons_succ, List.setIfInBounds_toArray, List.set_cons_zero, List.set_cons_succ]
            refine wpAnyH_ready (rs := [16]) (by kernel_rfl) (by simp) ?_
            refine AllReadyH.cons rfl (fun K hK => ?_) AllReadyH.nil
            go_simp
            refine hK.out _ _ ?_ (fun hHeld2 => ?_)
            · first | exact hHeld | exact HK.out _ hN.out.boxes.2.2.2.2 | exact HK.out _ hB6.out | exact HK.out _ (hB9.alloc hB9.size _) | exact HK.out _ hB9 | exact HK.out _ (hbq.trans ((Below.refl _ _).drew.mono hbq.size))
            clear hK K hHeld
            have hHeld := hHeld2
            clear hHeld2
            try simp only [Act.put, List.setIfInBounds_toArray, List.set_cons_zero, List.set_cons_succ]
            refine wpAnyH_ready (rs := [17]) (by kernel_rfl) (by simp) ?_
            refine AllReadyH.cons rfl (fun K hK => ?_) AllReadyH.nil
            refine step_append_lies _ (by rfl) _ _ _ (by rfl) w1.heap.size 88 k0 _ 2 32 Try.underlying23 hk0 kz0 kz1 kz2 rfl (by omega) (.slice B2 m2 D2) m2 ht' (by rfl) (own_below (own_below o2 hb5) ((Below.refl _ _).alloc (Nat.le_refl _) _)) ⟨w5.heap.size, 0, none⟩ 1 1 [.int .i64 at_, .slice A5 L C5] (by rfl) (by rfl) (World.news_of_block (cs := #[.int .i64 at_, .slice A5 L C5]) (t := 88) (fr := (0, 0)) (heap_alloc_new w5 _)) (by simp [Value.oneCell']) (by omega) (by simp only [maxLen]; omega) (by omega) (by have := hB9.size; simp; omega) (w5.heap.size + 1) (by simp) ?_
            intro gg cap w6 hown6 hgrow6 hat6 hlt6
            have ha5 : Below wr.heap.size wr (w5.alloc (.cells #[.int .i64 at_, .slice A5 L C5] 88)) := hb5.alloc hb5.size _
            have oA5 := own_below o1 ha5
            have oB5 := own_below o2 ha5
            have x6 := (x3.below ha5).grown hgrow6 fun e => own_box oB5 (x3.below ha5) (by decide) e.symm
            have f6 := x6.c1
            have r6 := x6.fr (o := 1)
            have hN0 := Held.push oA5 oB5 (h1'.below ha5 (Nat.le_refl _)) (h2'.below ha5 (Nat.le_refl _)) (g1.below ha5) (g2.below ha5) (x3.below ha5) (xR.below ha5) q1 q2 (hbq.trans (ha5.mono hbq.size)) (hF.out.below ((Below.refl _ _).alloc (Nat.le_refl _) _)) hkw.out hown6 hgrow6
            have hB6 := Lib.hid (below_own (hbq.trans (ha5.mono hbq.size)) hgrow6 rfl (fun q hq => (own_lt oB5 hq).2) (hbq.trans (ha5.mono hbq.size)).size)
            rw [← E.out] at hN0
            have hN := Lib.hid hN0
            clear oA5 oB5 ha5 hN0
            refine hK.out _ _ ?_ (fun hHeld2 => ?_)
            · first | exact hHeld | exact HK.out _ hN.out.boxes.2.2.2.2 | exact HK.out _ hB6.out | exact HK.out _ (hB9.alloc hB9.size _) | exact HK.out _ hB9 | exact HK.out _ (hbq.trans ((Below.refl _ _).drew.mono hbq.size))
            clear hK K hHeld
            have hHeld := hHeld2
            clear hHeld2
            try simp only [Act.put, List.setIfInBounds_toArray]
            refine wpAnyH_take (i := 18) (v := ?_) rfl (by kernel_rfl) (by kernel_rfl) (by kernel_rfl) (fun _ _ _ h => h) (Or.inl ⟨by rfl, ?_⟩) hHeld ?_
            rotate_left
            · (intro w hSw; (try dsimp only at hSw); go_simp; try with_reducible rfl)
            try simp only [Act.put, List.getElem_toArray, List.getElem_cons_zero, List.getElem_cons_succ, List.setIfInBounds_toArray, List.set_cons_zero, List.set_cons_succ]
            refine wpAnyH_ready (rs := [19]) (by kernel_rfl) (by simp) ?_
            refine AllReadyH.cons rfl (fun K hK => ?_) AllReadyH.nil
            go_simp
            refine hK.out _ _ ?_ (fun hHeld2 => ?_)
            · first | exact hHeld | exact HK.out _ hN.out.boxes.2.2.2.2 | exact HK.out _ hB6.out | exact HK.out _ (hB9.alloc hB9.size _) | exact HK.out _ hB9 | exact HK.out _ (hbq.trans ((Below.refl _ _).drew.mono hbq.size))
            clear hK K hHeld
            have hHeld := hHeld2
            clear hHeld2
            try simp only [Act.put, List.setIfInBounds_toArray, List.set_cons_zero, List.set_cons_succ]
            refine wpAnyH_done (by kernel_rfl) ?_ _
            clear hHeld f6 r6 hF hown6 hgrow6 hB6
            go_wp2_with fail
            go_roundw
            case rel => exact ⟨k + 1, m2 + 1, _, _, by omega, by omega, by go_num, hN.out⟩
            case measure => simp [intOf]; omega
          ·
            go_simp
            (with_reducible refine (cf2 _ A1 L1 C1 dat (hz.below (hbq.trans ((Below.refl _ _).drew.mono hbq.size)) (Nat.le_refl _)) hL).mono ?_)
            rintro e w5 ⟨A5, L, C5, rfl, hF0, hb50⟩
            have hb5 : Below wr.heap.size wr w5 := (Below.refl _ _).drew.trans (hb50.mono (Nat.le_refl _))
            have hF := Lib.hid (hF0.mono (hbq.trans ((Below.refl _ _).drew.mono hbq.size)).size)
            have hB9 := hbq.trans (hb5.mono hbq.size)
            have f0 := (x3.below hb5).c0
            have f1 := (x3.below hb5).c1
            have hl5 := (x3.below hb5).lt
            clear hb50 hF0
            go_wp2_with fail
            refine hK.out _ _ ?_ (fun hHeld2 => ?_)
            · first | exact hHeld | exact HK.out _ hN.out.boxes.2.2.2.2 | exact HK.out _ hB6.out | exact HK.out _ (hB9.alloc hB9.size _) | exact HK.out _ hB9 | exact HK.out _ (hbq.trans ((Below.refl _ _).drew.mono hbq.size))
            clear hK K hHeld
            have hHeld := hHeld2
            clear hHeld2
            try simp only [Act.put, List.setIfInBounds_toArray, List.set_cons_zero, List.set_cons_succ]
            refine wpAnyH_take (i := 15) (v := ?_) rfl (by kernel_rfl) (by kernel_rfl) (by kernel_rfl) (fun _ _ _ h => h) (Or.inl ⟨by rfl, ?_⟩) hHeld ?_
            rotate_left
            · (intro w hSw; (try dsimp only at hSw); go_simp; try with_reducible rfl)
            try simp only [Act.put, List.getElem_toArray, List.getElem_cons_zero, List.getElem_cons_succ, List.setIfInBounds_toArray, List.set_cons_zero, List.set_cons_succ]
            refine wpAnyH_ready (rs := [1, 16]) (by kernel_rfl) (by simp) ?_
            refine AllReadyH.cons rfl (fun K hK => ?_) (AllReadyH.cons rfl (fun K hK => ?_) AllReadyH.nil)
            ·
              go_simp
              refine hK.out _ _ ?_ (fun hHeld2 => ?_)
              · first | exact hHeld | exact HK.out _ hN.out.boxes.2.2.2.2 | exact HK.out _ hB6.out | exact HK.out _ (hB9.alloc hB9.size _) | exact HK.out _ hB9 | exact HK.out _ (hbq.trans ((Below.refl _ _).drew.mono hbq.size))
              clear hK K hHeld
              have hHeld := hHeld2
              clear hHeld2
              try simp only [Act.put, List.setIfInBounds_toArray, List.set_cons_zero, List.set_cons_succ]
              refine wpAnyH_ready (rs := [16]) (by kernel_rfl) (by simp) ?_
              refine AllReadyH.cons rfl (fun K hK => ?_) AllReadyH.nil
              go_simp
              refine hK.out _ _ ?_ (fun hHeld2 => ?_)
              · first | exact hHeld | exact HK.out _ hN.out.boxes.2.2.2.2 | exact HK.out _ hB6.out | exact HK.out _ (hB9.alloc hB9.size _) | exact HK.out _ hB9 | exact HK.out _ (hbq.trans ((Below.refl _ _).drew.mono hbq.size))
              clear hK K hHeld
              have hHeld := hHeld2
              clear hHeld2
              try simp only [Act.put, List.setIfInBounds_toArray, List.set_cons_zero, List.set_cons_succ]
              refine wpAnyH_ready (rs := [17]) (by kernel_rfl) (by simp) ?_
              refine AllReadyH.cons rfl (fun K hK => ?_) AllReadyH.nil
              refine step_append_lies _ (by rfl) _ _ _ (by rfl) w1.heap.size 88 k0 _ 2 32 Try.underlying23 hk0 kz0 kz1 kz2 rfl (by omega) (.slice B2 m2 D2) m2 ht' (by rfl) (own_below (own_below o2 hb5) ((Below.refl _ _).alloc (Nat.le_refl _) _)) ⟨w5.heap.size, 0, none⟩ 1 1 [.int .i64 at_, .slice A5 L C5] (by rfl) (by rfl) (World.news_of_block (cs := #[.int .i64 at_, .slice A5 L C5]) (t := 88) (fr := (0, 0)) (heap_alloc_new w5 _)) (by simp [Value.oneCell']) (by omega) (by simp only [maxLen]; omega) (by omega) (by have := hB9.size; simp; omega) (w5.heap.size + 1) (by simp) ?_
              intro gg cap w6 hown6 hgrow6 hat6 hlt6
              have ha5 : Below wr.heap.size wr (w5.alloc (.cells #[.int .i64 at_, .slice A5 L C5] 88)) := hb5.alloc hb5.size _
              have oA5 := own_below o1 ha5
              have oB5 := own_below o2 ha5
              have x6 := (x3.below ha5).grown hgrow6 fun e => own_box oB5 (x3.below ha5) (by decide) e.symm
              have f6 := x6.c1
              have r6 := x6.fr (o := 1)
              have hN0 := Held.push oA5 oB5 (h1'.below ha5 (Nat.le_refl _)) (h2'.below ha5 (Nat.le_refl _)) (g1.below ha5) (g2.below ha5) (x3.below ha5) (xR.below ha5) q1 q2 (hbq.trans (ha5.mono hbq.size)) (hF.out.below ((Below.refl _ _).alloc (Nat.le_refl _) _)) hkw.out hown6 hgrow6
              have hB6 := Lib.hid (below_own (hbq.trans (ha5.mono hbq.size)) hgrow6 rfl (fun q hq => (own_lt oB5 hq).2) (hbq.trans (ha5.mono hbq.size)).size)
              rw [← E.out] at hN0
              have hN := Lib.hid hN0
              clear oA5 oB5 ha5 hN0
              refine hK.out _ _ ?_ (fun hHeld2 => ?_)
              · first | exact hHeld | exact HK.out _ hN.out.boxes.2.2.2.2 | exact HK.out _ hB6.out | exact HK.out _ (hB9.alloc hB9.size _) | exact HK.out _ hB9 | exact HK.out _ (hbq.trans ((Below.refl _ _).drew.mono hbq.size))
              clear hK K hHeld
              have hHeld := hHeld2
              clear hHeld2
              try simp only [Act.put, List.setIfInBounds_toArray]
              refine wpAnyH_take (i := 18) (v := ?_) rfl (by kernel_rfl) (by kernel_rfl) (by kernel_rfl) (fun _ _ _ h => h) (Or.inl ⟨by rfl, ?_⟩) hHeld ?_
              rotate_left
              · (intro w hSw; (try dsimp only at hSw); go_simp; try with_reducible rfl)
              try simp only [Act.put, List.getElem_toArray, List.getElem_cons_zero, List.getElem_cons_succ, List.setIfInBounds_toArray, List.set_cons_zero, List.set_cons_succ]
              refine wpAnyH_ready (rs := [19]) (by kernel_rfl) (by simp) ?_
              refine AllReadyH.cons rfl (fun K hK => ?_) AllReadyH.nil
              go_simp
              refine hK.out _ _ ?_ (fun hHeld2 => ?_)
              · first | exact hHeld | exact HK.out _ hN.out.boxes.2.2.2.2 | exact HK.out _ hB6.out | exact HK.out _ (hB9.alloc hB9.size _) | exact HK.out _ hB9 | exact HK.out _ (hbq.trans ((Below.refl _ _).drew.mono hbq.size))
              clear hK K hHeld
              have hHeld := hHeld2
              clear hHeld2
              try simp only [Act.put, List.setIfInBounds_toArray, List.set_cons_zero, List.set_cons_succ]
              refine wpAnyH_done (by kernel_rfl) ?_ _
              clear hHeld f6 r6 hF hown6 hgrow6 hB6
              go_wp2_with fail
              go_roundw
              case rel => exact ⟨k + 1, m2 + 1, _, _, by omega, by omega, by go_num, hN.out⟩
              case measure => simp [intOf]; omega
            ·
              go_simp
              refine hK.out _ _ ?_ (fun hHeld2 => ?_)
              · first | exact hHeld | exact HK.out _ hN.out.boxes.2.2.2.2 | exact HK.out _ hB6.out | exact HK.out _ (hB9.alloc hB9.size _) | exact HK.out _ hB9 | exact HK.out _ (hbq.trans ((Below.refl _ _).drew.mono hbq.size))
              clear hK K hHeld
              have hHeld := hHeld2
              clear hHeld2
              try simp only [Act.put, List.setIfInBounds_toArray, List.set_cons_zero, List.set_cons_succ]
              refine wpAnyH_ready (rs := [1]) (by kernel_rfl) (by simp) ?_
              refine AllReadyH.cons rfl (fun K hK => ?_) AllReadyH.nil
              go_simp
              refine hK.out _ _ ?_ (fun hHeld2 => ?_)
              · first | exact hHeld | exact HK.out _ hN.out.boxes.2.2.2.2 | exact HK.out _ hB6.out | exact HK.out _ (hB9.alloc hB9.size _) | exact HK.out _ hB9 | exact HK.out _ (hbq.trans ((Below.refl _ _).drew.mono hbq.size))
              clear hK K hHeld
              have hHeld := hHeld2
              clear hHeld2
              try simp only [Act.put, List.setIfInBounds_toArray, List.set_cons_zero, List.set_cons_succ]
              refine wpAnyH_ready (rs := [17]) (by kernel_rfl) (by simp) ?_
              refine AllReadyH.cons rfl (fun K hK => ?_) AllReadyH.nil
              refine step_append_lies _ (by rfl) _ _ _ (by rfl) w1.heap.size 88 k0 _ 2 32 Try.underlying23 hk0 kz0 kz1 kz2 rfl (by omega) (.slice B2 m2 D2) m2 ht' (by rfl) (own_below (own_below o2 hb5) ((Below.refl _ _).alloc (Nat.le_refl _) _)) ⟨w5.heap.size, 0, none⟩ 1 1 [.int .i64 at_, .slice A5 L C5] (by rfl) (by rfl) (World.news_of_block (cs := #[.int .i64 at_, .slice A5 L C5]) (t := 88) (fr := (0, 0)) (heap_alloc_new w5 _)) (by simp [Value.oneCell']) (by omega) (by simp only [maxLen]; omega) (by omega) (by have := hB9.size; simp; omega) (w5.heap.size + 1) (by simp) ?_
              intro gg cap w6 hown6 hgrow6 hat6 hlt6
              have ha5 : Below wr.heap.size wr (w5.alloc (.cells #[.int .i64 at_, .slice A5 L C5] 88)) := hb5.alloc hb5.size _
              have oA5 := own_below o1 ha5
              have oB5 := own_below o2 ha5
              have x6 := (x3.below ha5).grown hgrow6 fun e => own_box oB5 (x3.below ha5) (by decide) e.symm
              have f6 := x6.c1
              have r6 := x6.fr (o := 1)
              have hN0 := Held.push oA5 oB5 (h1'.below ha5 (Nat.le_refl _)) (h2'.below ha5 (Nat.le_refl _)) (g1.below ha5) (g2.below ha5) (x3.below ha5) (xR.below ha5) q1 q2 (hbq.trans (ha5.mono hbq.size)) (hF.out.below ((Below.refl _ _).alloc (Nat.le_refl _) _)) hkw.out hown6 hgrow6
              have hB6 := Lib.hid (below_own (hbq.trans (ha5.mono hbq.size)) hgrow6 rfl (fun q hq => (own_lt oB5 hq).2) (hbq.trans (ha5.mono hbq.size)).size)
              rw [← E.out] at hN0
              have hN := Lib.hid hN0
              clear oA5 oB5 ha5 hN0
              refine hK.out _ _ ?_ (fun hHeld2 => ?_)
              · first | exact hHeld | exact HK.out _ hN.out.boxes.2.2.2.2 | exact HK.out _ hB6.out | exact HK.out _ (hB9.alloc hB9.size _) | exact HK.out _ hB9 | exact HK.out _ (hbq.trans ((Below.refl _ _).drew.mono hbq.size))
              clear hK K hHeld
              have hHeld := hHeld2
              clear hHeld2
              try simp only [Act.put, List.setIfInBounds_toArray]
              refine wpAnyH_take (i := 18) (v := ?_) rfl (by kernel_rfl) (by kernel_rfl) (by kernel_rfl) (fun _ _ _ h => h) (Or.inl ⟨by rfl, ?_⟩) hHeld ?_
              rotate_left
              · (intro w hSw; (try dsimp only at hSw); go_simp; try with_reducible rfl)
              try simp only [Act.put, List.getElem_toArray, List.getElem_cons_zero, List.getElem_cons_succ, List.setIfInBounds_toArray, List.set_cons_zero, List.set_cons_succ]
              refine wpAnyH_ready (rs := [19]) (by kernel_rfl) (by simp) ?_
              refine AllReadyH.cons rfl (fun K hK => ?_) AllReadyH.nil
              go_simp
              refine hK.out _ _ ?_ (fun hHeld2 => ?_)
              · first | exact hHeld | exact HK.out _ hN.out.boxes.2.2.2.2 | exact HK.out _ hB6.out | exact HK.out _ (hB9.alloc hB9.size _) | exact HK.out _ hB9 | exact HK.out _ (hbq.trans ((Below.refl _ _).drew.mono hbq.size))
              clear hK K hHeld
              have hHeld := hHeld2
              clear hHeld2
              try simp only [Act.put, List.setIfInBounds_toArray, List.set_cons_zero, List.set_cons_succ]
              refine wpAnyH_done (by kernel_rfl) ?_ _
              clear hHeld f6 r6 hF hown6 hgrow6 hB6
              go_wp2_with fail
              go_roundw
              case rel => exact ⟨k + 1, m2 + 1, _, _, by omega, by omega, by go_num, hN.out⟩
              case measure => simp [intOf]; omega
      · obtain rfl : m' = k := by omega
        have E2 : d.wait.take m' = d.wait := List.take_of_length_le (by have := hl.out.2; omega)
        rw [E2] at hT
        have e0 := (bx0.below hT.boxes.2.2.2.2).c1
        obtain ⟨y3, yR, l3, lR, hBw⟩ := hT.boxes
        have x0 := y3.c0
        have x1 := y3.c1
        have x2 := y3.c2
        have f0 := yR.c0
        have f1 := yR.c1
        have f2 := yR.c2
        have r0 := yR.fr (o := 0)
        have r1 := yR.fr (o := 1)
        have r2 := yR.fr (o := 2)
        have hD := Lib.hid (hT.dev (by omega) (by omega))
        clear hT
        go_wp2
        have d2 := (hD.out.setBox3 yR (.slice (some ⟨g, 0, none⟩) n' C') (.slice B2 m2 D2) (.bool dd)).1
        exact bodyPost_ret (v := .agg #[(.slice (some ⟨g, 0, none⟩) n' C'), (.slice B2 m2 D2), .bool dd]) (by simp [results, Try.results83, go_sem, f0, f1, f2]) rfl ⟨_, rfl, d2.mono (by omega), hb1.trans ((((hBw.setCell (by show w1.heap.size ≤ w.heap.size + 1; omega) _).setCell (by show w1.heap.size ≤ w.heap.size + 1; omega) _).setCell (by show w1.heap.size ≤ w.heap.size + 1; omega) _).mono (by omega))⟩
end Go.Proofs.Ytldgpkaecfgagaa
