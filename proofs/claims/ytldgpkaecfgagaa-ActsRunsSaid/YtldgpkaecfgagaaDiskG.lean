/- The walk of package disk's Write. -/
import Derived.Test.YtldgpkaecfgagaaDiskF
import Derived.Deep.AppendLies
import Derived.Deep.DeepCutAuto
import Derived.Deep.RegionHeld3
namespace Go.Proofs.Ytldgpkaecfgagaa
open Go.RowKit PolyM PackM FoldM DevM

/-- Write's error. -/
def writeE (d : Dev) (k : Int) (zs : List Int) : Int := if useE d k zs ≠ 0 then useE d k zs else if d.wait.length = 1024 then 9 else 0
set_option maxRecDepth 100000 in
set_option maxHeartbeats 4000000 in
theorem write_no (v : Value) (d : Dev) (k : Int) (a : Option Addr) (q c : Nat) (zs : List Int) (w : World) (h : DevV w v d) (hz : Ints .u8 w a q zs) (hE : writeE d k zs ≠ 0) :
    Calls Try.prog 17 #[v, .int .i64 k, .slice a q c] w (DevIs w (writeE d k zs) ⟨[], [], false⟩) := by
  have hv := h
  obtain ⟨A, n, C, hs, B, m, D, ht, rfl, h1, h2⟩ := h
  have hb : Below w.heap.size w ((w.alloc (.cells #[.slice A n C, .slice B m D, .bool d.dead] 25)).alloc (.cells #[.slice none 0 0, .slice none 0 0, .bool false] 25)) := ((Below.refl _ _).alloc (Nat.le_refl _) _).alloc (by simp) _
  have cc := mayuse_calls _ d k a q c zs _ (hv.below hb (Nat.le_refl _)) (hz.below hb (Nat.le_refl _))
  have bx0 := (BoxD.new w (.slice A n C) (.slice B m D) (.bool d.dead)).alloc (.cells #[.slice none 0 0, .slice none 0 0, .bool false] 25)
  have bx1 := BoxD.new (w.alloc (.cells #[.slice A n C, .slice B m D, .bool d.dead] 25)) (.slice none 0 0) (.slice none 0 0) (.bool false)
  rw [World.size_alloc] at bx1
  have hi := useE_i64 d k zs
  have hx : ((useE d k zs != 0) = true ∧ Hid (writeE d k zs = useE d k zs)) ∨ (useE d k zs = 0 ∧ ((m : Int) == 1024) = true ∧ Hid (writeE d k zs = 9)) := by
    unfold writeE at *
    by_cases p1 : useE d k zs = 0
    · rw [if_neg (fun q => q p1)] at *
      by_cases p2 : d.wait.length = 1024
      · exact .inr ⟨p1, by rw [h2.len] at p2; simp [p2], if_pos p2⟩
      · rw [if_neg p2] at hE; exact absurd rfl hE
    · exact .inl ⟨err_ne p1, if_pos p1⟩
  clear hE hv h1 h2 hz
  generalize useE d k zs = er at *
  rcases hx with ⟨q1, E⟩ | ⟨rfl, q2, E⟩
  · rw [E.out]
    go_enter Try.func17, Try.ntmps17
    go_wp2_with fail
    (with_reducible refine cc.mono ?_)
    rintro e w2 ⟨rfl, hb2⟩
    have b1 := bx1.below hb2
    have f0 := b1.c0
    have f1 := b1.c1
    have f2 := b1.c2
    have r0 := b1.fr (o := 0)
    have r1 := b1.fr (o := 1)
    have r2 := b1.fr (o := 2)
    clear cc bx0 bx1
    go_wp2
    have hB : Below w.heap.size w (((w2.setCell ⟨w.heap.size + 1, 0, none⟩ (.slice none 0 0)).setCell ⟨w.heap.size + 1, 1, none⟩ (.slice none 0 0)).setCell ⟨w.heap.size + 1, 2, none⟩ (.bool false)) := (((hb.trans (hb2.mono hb.size)).setCell (by simp) _).setCell (by simp) _).setCell (by simp) _
    exact bodyPost_ret (v := .tuple #[noDev, .int .i64 er]) (by simp [results, Try.results17, go_sem, f0, f1, f2, noDev]) rfl ⟨_, rfl, noDev_is _ _, hB⟩
  · rw [E.out]
    go_enter Try.func17, Try.ntmps17
    go_wp2_with fail
    (with_reducible refine cc.mono ?_)
    rintro e w2 ⟨rfl, hb2⟩
    have b0 := bx0.below hb2
    have b1 := bx1.below hb2
    have e1 := b0.c1
    have f0 := b1.c0
    have f1 := b1.c1
    have f2 := b1.c2
    have r0 := b1.fr (o := 0)
    have r1 := b1.fr (o := 1)
    have r2 := b1.fr (o := 2)
    clear cc bx0 bx1
    go_wp2
    have hB : Below w.heap.size w (((w2.setCell ⟨w.heap.size + 1, 0, none⟩ (.slice none 0 0)).setCell ⟨w.heap.size + 1, 1, none⟩ (.slice none 0 0)).setCell ⟨w.heap.size + 1, 2, none⟩ (.bool false)) := (((hb.trans (hb2.mono hb.size)).setCell (by simp) _).setCell (by simp) _).setCell (by simp) _
    exact bodyPost_ret (v := .tuple #[noDev, .int .i64 9]) (by simp [results, Try.results17, go_sem, f0, f1, f2, noDev]) rfl ⟨_, rfl, noDev_is _ _, hB⟩

/-- One that waits more: the row behind an append (W5: the world ahead of it). -/
theorem Held.push {w : World} {bl : List (List Int)} {wt : List (Int × List Int)} {b3 bR : Nat} {A B : Option Addr} {n C m D : Nat} {dd : Bool} {W5 w6 : World} {hs ht : List Value} (o1 : W5.ownsRow w.heap.size 29 1 (.slice A n C) n hs) (o2 : W5.ownsRow w.heap.size 88 2 (.slice B m D) m ht) (h1 : Hdrs W5 hs bl) (h2 : Waits W5 ht wt) (g1 : High w.heap.size W5 hs) (g2 : High w.heap.size W5 ht)
    (x3 : BoxD W5 b3 (.slice A n C) (.slice B m D) (.bool dd)) (xR : BoxD W5 bR (.slice none 0 0) (.slice none 0 0) (.bool false)) (q1 : bR < b3) (q2 : w.heap.size ≤ bR) (hb : Below w.heap.size w W5) {k : Int} {A5 : Option Addr} {L5 C5 : Nat} {zs : List Int} (hu : Fresh w.heap.size W5 (.slice A5 L5 C5) zs) (hk : (Lit.int .i64 k).wf = true)
    {g D' : Nat} (o6 : w6.ownsRow w.heap.size 88 2 (.slice (some ⟨g, 0, none⟩) (m + 1) D') (m + 1) (ht ++ [.int .i64 k, .slice A5 L5 C5])) (hg : W5.grownBy w6 (Value.slice B m D).ownBlock) :
    Held w bl (wt ++ [(k, zs)]) b3 bR A (some ⟨g, 0, none⟩) n C (m + 1) D' dd (w6.setCell ⟨b3, 1, none⟩ (.slice (some ⟨g, 0, none⟩) (m + 1) D')) := by
  obtain ⟨A', L', C', e, hI, hH⟩ := hu
  cases e
  have kind : ∀ (b : Nat) (cs : Array Value), W5.heap[b]? = some (.cells cs 5 (0, 0)) → some b ≠ (Value.slice B m D).ownBlock := fun b cs h => own_kind o2 h (by decide)
  have hH2 : High w.heap.size W5 (ht ++ [.int .i64 k, .slice A5 L5 C5]) := by
    have := (g2.append (High.scalar .i64 k)).append hH
    rwa [List.append_assoc] at this
  have p1 : w6.ownsRow w.heap.size 29 1 (.slice A n C) n hs := own_grown o1 hg fun q hq e => own_apart o1 o2 (by decide) hq e.symm
  have p3 : BoxD w6 b3 (.slice A n C) (.slice B m D) (.bool dd) := x3.grown hg fun e => own_box o2 x3 (by decide) e.symm
  have pR : BoxD w6 bR (.slice none 0 0) (.slice none 0 0) (.bool false) := xR.grown hg fun e => own_box o2 xR (by decide) e.symm
  have ph1 : Hdrs w6 hs bl := h1.grownH hg (g1.off kind)
  have ph2 : Waits w6 (ht ++ [.int .i64 k, .slice A5 L5 C5]) (wt ++ [(k, zs)]) := (h2.push hk hI).grownH hg (hH2.off kind)
  have hlt : bR ≠ b3 := by omega
  refine ⟨hs, _, own_other p1 (own_box p1 p3 (by decide)) _, own_other o6 (own_box o6 p3 (by decide)) _, ph1.setOther p3.c1 (by intro q; simp), ph2.setOther p3.c1 (by intro q; simp), (g1.grown hg kind).setCell _ _, (hH2.grown hg kind).setCell _ _, p3.s1 _, pR.other hlt _, q1, q2, (below_own hb hg rfl (fun q hq => (own_lt o2 hq).2) hb.size).setCell (by show w.heap.size ≤ b3; omega) _⟩

set_option maxRecDepth 100000 in
set_option maxHeartbeats 4000000 in
theorem write_yes (v : Value) (d : Dev) (k : Int) (a : Option Addr) (q c : Nat) (zs : List Int) (w : World) (h : DevV w v d) (hz : Ints .u8 w a q zs) (hE : writeE d k zs = 0) :
    Calls Try.prog 17 #[v, .int .i64 k, .slice a q c] w (DevIs w 0 ⟨d.blocks, d.wait ++ [(k, zs)], false⟩) := by
  have hv := h
  obtain ⟨A, n, C, hs, B, m, D, ht, rfl, h1, h2⟩ := h
  have hb : Below w.heap.size w ((w.alloc (.cells #[.slice A n C, .slice B m D, .bool d.dead] 25)).alloc (.cells #[.slice none 0 0, .slice none 0 0, .bool false] 25)) := ((Below.refl _ _).alloc (Nat.le_refl _) _).alloc (by simp) _
  have cc := mayuse_calls _ d k a q c zs _ (hv.below hb (Nat.le_refl _)) (hz.below hb (Nat.le_refl _))
  have hu : useE d k zs = 0 := by
    unfold writeE at hE
    by_cases p : useE d k zs = 0
    · exact p
    · rw [if_pos p] at hE; exact hE
  obtain ⟨hM, p2, p3, hB, hdd⟩ := useE_zero hu
  rw [hu] at cc
  have hne : ((m : Int) == 1024) = false := by
    unfold writeE at hE
    rw [if_neg (fun q => q hu)] at hE
    by_cases p : d.wait.length = 1024
    · rw [if_pos p] at hE; omega
    · rw [h2.len] at p; simp; omega
  have hm1024 : m ≤ 1024 := by have := hM.2.2.1; rw [h2.len] at this; exact this
  have bx0 := (BoxD.new w (.slice A n C) (.slice B m D) (.bool d.dead)).alloc (.cells #[.slice none 0 0, .slice none 0 0, .bool false] 25)
  have bx1 := BoxD.new (w.alloc (.cells #[.slice A n C, .slice B m D, .bool d.dead] 25)) (.slice none 0 0) (.slice none 0 0) (.bool false)
  rw [World.size_alloc] at bx1
  obtain ⟨s1, s2, s3, s4⟩ := may_small hM
  have ct := fun W (hW : Below w.heap.size w W) => twin_calls _ d W (hv.below hW (Nat.le_refl _)) s1 s2 s3 s4
  have hn := Lib.hid (show d.blocks.length = n ∧ d.wait.length = m from ⟨h1.len, h2.len⟩)
  have hm1 := h1.max
  have hq : q ≤ 1000000 := by have := hz.len; rcases hB with q | q <;> omega
  have hkw : (Lit.int .i64 k).wf = true := WalkArith.wf_i64 (by have := h1.len; have := h1.max; constructor <;> omega)
  have hk' := Lib.hid hkw
  have cb := fun W (hW : Below w.heap.size w W) => bytes_clone a q c zs W (hz.below hW (Nat.le_refl _)) hq
  obtain ⟨i0, hi0, hz0, hz1, hz2⟩ := info_parts write_info
  have hdd' := Lib.hid hdd
  rw [hdd] at hb cc bx0 bx1 ct ⊢
  clear hM hv h1 h2 s1 s2 s3 s4 hdd hz hE hu p3 hB hkw
  go_enter Try.func17, Try.ntmps17
  go_wp2_with fail
  (with_reducible refine cc.mono ?_)
  rintro e w2 ⟨rfl, hb2⟩
  have hb3 := hb.trans (hb2.mono hb.size)
  have b0 := bx0.below hb2
  have b1 := bx1.below hb2
  have e0 := b0.c0
  have e1 := b0.c1
  have e2 := b0.c2
  clear cc bx0 bx1 hb hb2
  go_wp2_with fail
  (with_reducible refine (ct _ hb3).mono ?_)
  rintro e w4 ⟨v4, rfl, hN, hb4⟩
  obtain ⟨A', n', C', B', m', D', rfl, hn', hm'⟩ := hN.form
  have hbW := hb3.trans (hb4.mono hb3.size)
  have hI := (Held.init (hN.mono hb3.size) (b1.below hb4) (by omega) hbW).2
  obtain rfl : n' = n := by rw [hn']; exact hn.out.1
  obtain rfl : m' = m := by rw [hm']; exact hn.out.2
  rw [hdd'.out] at hI ⊢
  clear ct hN b0 b1 hn' hm' hdd'
  have hI' := Lib.hid hI
  clear hI
  have hlt4 : w4.heap.size < (w4.alloc (.cells #[.slice A' n' C', .slice B' m' D', .bool false] 25)).heap.size := by simp
  go_upto_region 7 with fail
  generalize w4.alloc _ = wq at *
  go_cut [] (fun wx => ∃ (g D2 : Nat), Held w d.blocks (d.wait ++ [(k, zs)]) w4.heap.size (w.heap.size + 1) A' (some ⟨g, 0, none⟩) n' C' (m' + 1) D2 false wx)
  case first =>
    obtain ⟨hs', ht', o1, o2, h1', h2', g1, g2, x3, xR, q1, q2, hbq⟩ := hI'.out
    have c1 := x3.c1
    refine wp_region_held_drew (S := (fun _ => True)) (by kernel_rfl) ?_ (fun hHeld => ?_)
    · trivial
    refine wpAnyH_take (i := 0) (v := ?_) rfl (by kernel_rfl) (by kernel_rfl) (by kernel_rfl) (fun _ _ _ h => h) (Or.inl ⟨by rfl, ?_⟩) (by assumption) ?_
    rotate_left
    · (intro w hSw; (try dsimp only at hSw); go_simp; try with_reducible rfl)
    try simp only [Act.put, List.setIfInBounds_toArray]
    refine wpAnyH_take (i := 2) (v := ?_) rfl (by kernel_rfl) (by kernel_rfl) (by kernel_rfl) (fun _ _ _ h => h) (Or.inl ⟨by rfl, ?_⟩) (by assumption) ?_
    rotate_left
    · (intro w hSw; (try dsimp only at hSw); go_simp; try with_reducible rfl)
    try simp only [Act.put]
    refine wpAnyH_take (i := 3) (v := ?_) rfl (by kernel_rfl) (by kernel_rfl) (by kernel_rfl) (fun _ _ _ h => h) (Or.inl ⟨by rfl, ?_⟩) (by assumption) ?_
    rotate_left
    · (intro w hSw; (try dsimp only at hSw); go_simp; try with_reducible rfl)
    try simp only [Act.put]
    refine wpAnyH_ready (rs := [1, 4]) (by kernel_rfl) (by simp) ?_
    refine AllReadyH.cons rfl (fun K hK => ?_) (AllReadyH.cons rfl (fun K hK => ?_) AllReadyH.nil)
    ·
      go_simp
      refine hK.out _ _ ?_ (fun hHeld2 => ?_)
      · trivial
      clear hK K hHeld
      have hHeld := hHeld2
      clear hHeld2
      try simp only [Act.put, List.setIfInBounds_toArray, List.set_cons_zero, List.set_cons_succ]
      refine wpAnyH_ready (rs := [4]) (by kernel_rfl) (by simp) ?_
      refine AllReadyH.cons rfl (fun K hK => ?_) AllReadyH.nil
      go_simp
      (with_reducible refine (cb _ (hbq.trans ((Below.refl _ _).drew.mono hbq.size))).mono ?_)
      rintro e w5 ⟨v5, rfl, hF, hb5⟩
      obtain ⟨A5, L5, C5, rfl, hF'⟩ : ∃ A5 L5 C5, v5 = .slice A5 L5 C5 ∧ Hid (Fresh wq.heap.size w5 v5 zs) := by obtain ⟨a, b, c, e, _⟩ := id hF; exact ⟨a, b, c, e, hF⟩
      have hb5' : Below wq.heap.size wq w5 := (Below.refl _ _).drew.trans (hb5.mono (Nat.le_refl _))
      have f1 := (x3.below hb5').c1
      have hl5 := (x3.below hb5').lt
      clear hF hb5
      go_wp2_with fail
      refine hK.out _ _ ?_ (fun hHeld2 => ?_)
      · trivial
      clear hK K hHeld
      have hHeld := hHeld2
      clear hHeld2
      try simp only [Act.put, List.setIfInBounds_toArray, List.set_cons_zero, List.set_cons_succ]
      refine wpAnyH_take (i := 5) (v := ?_) rfl (by kernel_rfl) (by kernel_rfl) (by kernel_rfl) (fun _ _ _ h => h) (Or.inl ⟨by rfl, ?_⟩) (by assumption) ?_
      rotate_left
      · (intro w hSw; (try dsimp only at hSw); go_simp; try with_reducible rfl)
      try simp only [Act.put, List.setIfInBounds_toArray]
      refine wpAnyH_ready (rs := [6]) (by kernel_rfl) (by simp) ?_
      refine AllReadyH.cons rfl (fun K hK => ?_) AllReadyH.nil
      go_simp
      refine hK.out _ _ ?_ (fun hHeld2 => ?_)
      · trivial
      clear hK K hHeld
      have hHeld := hHeld2
      clear hHeld2
      try simp only [Act.put, List.setIfInBounds_toArray, List.set_cons_zero, List.set_cons_succ]
      refine wpAnyH_ready (rs := [7]) (by kernel_rfl) (by simp) ?_
      refine AllReadyH.cons rfl (fun K hK => ?_) AllReadyH.nil
      refine step_append_lies _ (by rfl) _ _ _ (by rfl) w.heap.size 88 i0 _ 2 32 Try.underlying23 hi0 hz0 hz1 hz2 rfl (by omega) (.slice B' m' D') m' ht' (by rfl) (own_below (own_below o2 hb5') ((Below.refl _ _).alloc (Nat.le_refl _) _)) ⟨w5.heap.size, 0, none⟩ 1 1 [.int .i64 k, .slice A5 L5 C5] (by rfl) (by rfl) (World.news_of_block (cs := #[.int .i64 k, .slice A5 L5 C5]) (t := 88) (fr := (0, 0)) (heap_alloc_new w5 _)) (by simp [Value.oneCell']) (by omega) (by simp only [maxLen]; omega) (by omega) (by have := hbq.size; have := hb5'.size; simp; omega) (w5.heap.size + 1) (by simp) ?_
      intro gg cap w6 hown6 hgrow6 hat6 hlt6
      have ha5 : Below wq.heap.size wq (w5.alloc (.cells #[.int .i64 k, .slice A5 L5 C5] 88)) := hb5'.alloc hb5'.size _
      have oA5 := own_below o1 ha5
      have oB5 := own_below o2 ha5
      have x6 := (x3.below ha5).grown hgrow6 fun e => own_box oB5 (x3.below ha5) (by decide) e.symm
      have f6 := x6.c1
      have r6 := x6.fr (o := 1)
      have hN := Lib.hid (Held.push oA5 oB5 (h1'.below ha5 (Nat.le_refl _)) (h2'.below ha5 (Nat.le_refl _)) (g1.below ha5) (g2.below ha5) (x3.below ha5) (xR.below ha5) q1 q2 (hbq.trans (ha5.mono hbq.size)) ((hF'.out.mono hbq.size).below ((Below.refl _ _).alloc (Nat.le_refl _) _)) hk'.out hown6 hgrow6)
      clear oA5 oB5 ha5
      refine hK.out _ _ ?_ (fun hHeld2 => ?_)
      · trivial
      clear hK K hHeld
      have hHeld := hHeld2
      clear hHeld2
      try simp only [Act.put, List.setIfInBounds_toArray]
      refine wpAnyH_take (i := 8) (v := ?_) rfl (by kernel_rfl) (by kernel_rfl) (by kernel_rfl) (fun _ _ _ h => h) (Or.inl ⟨by rfl, ?_⟩) (by assumption) ?_
      rotate_left
      · (intro w hSw; (try dsimp only at hSw); go_simp; try with_reducible rfl)
      try simp only [Act.put]
      refine wpAnyH_ready (rs := [9]) (by kernel_rfl) (by simp) ?_
      refine AllReadyH.cons rfl (fun K hK => ?_) AllReadyH.nil
      go_simp
      refine hK.out _ _ ?_ (fun hHeld2 => ?_)
      · trivial
      clear hK K hHeld
      have hHeld := hHeld2
      clear hHeld2
      try simp only [Act.put, List.setIfInBounds_toArray, List.set_cons_zero, List.set_cons_succ]
      refine wpAnyH_done (by kernel_rfl) ?_ _
      clear hHeld f6 r6 hF' hown6 hgrow6
      go_wp2_with fail
      go_meet
      case rel => exact ⟨_, _, hN.out⟩
    ·
      go_simp
      (with_reducible refine (cb _ (hbq.trans ((Below.refl _ _).drew.mono hbq.size))).mono ?_)
      rintro e w5 ⟨v5, rfl, hF, hb5⟩
      obtain ⟨A5, L5, C5, rfl, hF'⟩ : ∃ A5 L5 C5, v5 = .slice A5 L5 C5 ∧ Hid (Fresh wq.heap.size w5 v5 zs) := by obtain ⟨a, b, c, e, _⟩ := id hF; exact ⟨a, b, c, e, hF⟩
      have hb5' : Below wq.heap.size wq w5 := (Below.refl _ _).drew.trans (hb5.mono (Nat.le_refl _))
      have f1 := (x3.below hb5').c1
      have hl5 := (x3.below hb5').lt
      clear hF hb5
      go_wp2_with fail
      refine hK.out _ _ ?_ (fun hHeld2 => ?_)
      · trivial
      clear hK K hHeld
      have hHeld := hHeld2
      clear hHeld2
      try simp only [Act.put, List.setIfInBounds_toArray, List.set_cons_zero, List.set_cons_succ]
      refine wpAnyH_take (i := 5) (v := ?_) rfl (by kernel_rfl) (by kernel_rfl) (by kernel_rfl) (fun _ _ _ h => h) (Or.inl ⟨by rfl, ?_⟩) (by assumption) ?_
      rotate_left
      · (intro w hSw; (try dsimp only at hSw); go_simp; try with_reducible rfl)
      try simp only [Act.put, List.setIfInBounds_toArray]
      refine wpAnyH_ready (rs := [1, 6]) (by kernel_rfl) (by simp) ?_
      refine AllReadyH.cons rfl (fun K hK => ?_) (AllReadyH.cons rfl (fun K hK => ?_) AllReadyH.nil)
      ·
        go_simp
        refine hK.out _ _ ?_ (fun hHeld2 => ?_)
        · trivial
        clear hK K hHeld
        have hHeld := hHeld2
        clear hHeld2
        try simp only [Act.put, List.setIfInBounds_toArray, List.set_cons_zero, List.set_cons_succ]
        refine wpAnyH_ready (rs := [6]) (by kernel_rfl) (by simp) ?_
        refine AllReadyH.cons rfl (fun K hK => ?_) AllReadyH.nil
        go_simp
        refine hK.out _ _ ?_ (fun hHeld2 => ?_)
        · trivial
        clear hK K hHeld
        have hHeld := hHeld2
        clear hHeld2
        try simp only [Act.put, List.setIfInBounds_toArray, List.set_cons_zero, List.set_cons_succ]
        refine wpAnyH_ready (rs := [7]) (by kernel_rfl) (by simp) ?_
        refine AllReadyH.cons rfl (fun K hK => ?_) AllReadyH.nil
        refine step_append_lies _ (by rfl) _ _ _ (by rfl) w.heap.size 88 i0 _ 2 32 Try.underlying23 hi0 hz0 hz1 hz2 rfl (by omega) (.slice B' m' D') m' ht' (by rfl) (own_below (own_below o2 hb5') ((Below.refl _ _).alloc (Nat.le_refl _) _)) ⟨w5.heap.size, 0, none⟩ 1 1 [.int .i64 k, .slice A5 L5 C5] (by rfl) (by rfl) (World.news_of_block (cs := #[.int .i64 k, .slice A5 L5 C5]) (t := 88) (fr := (0, 0)) (heap_alloc_new w5 _)) (by simp [Value.oneCell']) (by omega) (by simp only [maxLen]; omega) (by omega) (by have := hbq.size; have := hb5'.size; simp; omega) (w5.heap.size + 1) (by simp) ?_
        intro gg cap w6 hown6 hgrow6 hat6 hlt6
        have ha5 : Below wq.heap.size wq (w5.alloc (.cells #[.int .i64 k, .slice A5 L5 C5] 88)) := hb5'.alloc hb5'.size _
        have oA5 := own_below o1 ha5
        have oB5 := own_below o2 ha5
        have x6 := (x3.below ha5).grown hgrow6 fun e => own_box oB5 (x3.below ha5) (by decide) e.symm
        have f6 := x6.c1
        have r6 := x6.fr (o := 1)
        have hN := Lib.hid (Held.push oA5 oB5 (h1'.below ha5 (Nat.le_refl _)) (h2'.below ha5 (Nat.le_refl _)) (g1.below ha5) (g2.below ha5) (x3.below ha5) (xR.below ha5) q1 q2 (hbq.trans (ha5.mono hbq.size)) ((hF'.out.mono hbq.size).below ((Below.refl _ _).alloc (Nat.le_refl _) _)) hk'.out hown6 hgrow6)
        clear oA5 oB5 ha5
        refine hK.out _ _ ?_ (fun hHeld2 => ?_)
        · trivial
        clear hK K hHeld
        have hHeld := hHeld2
        clear hHeld2
        try simp only [Act.put, List.setIfInBounds_toArray]
        refine wpAnyH_take (i := 8) (v := ?_) rfl (by kernel_rfl) (by kernel_rfl) (by kernel_rfl) (fun _ _ _ h => h) (Or.inl ⟨by rfl, ?_⟩) (by assumption) ?_
        rotate_left
        · (intro w hSw; (try dsimp only at hSw); go_simp; try with_reducible rfl)
        try simp only [Act.put]
        refine wpAnyH_ready (rs := [9]) (by kernel_rfl) (by simp) ?_
        refine AllReadyH.cons rfl (fun K hK => ?_) AllReadyH.nil
        go_simp
        refine hK.out _ _ ?_ (fun hHeld2 => ?_)
        · trivial
        clear hK K hHeld
        have hHeld := hHeld2
        clear hHeld2
        try simp only [Act.put, List.setIfInBounds_toArray, List.set_cons_zero, List.set_cons_succ]
        refine wpAnyH_done (by kernel_rfl) ?_ _
        clear hHeld f6 r6 hF' hown6 hgrow6
        go_wp2_with fail
        go_meet
        case rel => exact ⟨_, _, hN.out⟩
      ·
        go_simp
        refine hK.out _ _ ?_ (fun hHeld2 => ?_)
        · trivial
        clear hK K hHeld
        have hHeld := hHeld2
        clear hHeld2
        try simp only [Act.put, List.setIfInBounds_toArray, List.set_cons_zero, List.set_cons_succ]
        refine wpAnyH_ready (rs := [1]) (by kernel_rfl) (by simp) ?_
        refine AllReadyH.cons rfl (fun K hK => ?_) AllReadyH.nil
        go_simp
        refine hK.out _ _ ?_ (fun hHeld2 => ?_)
        · trivial
        clear hK K hHeld
        have hHeld := hHeld2
        clear hHeld2
        try simp only [Act.put, List.setIfInBounds_toArray, List.set_cons_zero, List.set_cons_succ]
        refine wpAnyH_ready (rs := [7]) (by kernel_rfl) (by simp) ?_
        refine AllReadyH.cons rfl (fun K hK => ?_) AllReadyH.nil
        refine step_append_lies _ (by rfl) _ _ _ (by rfl) w.heap.size 88 i0 _ 2 32 Try.underlying23 hi0 hz0 hz1 hz2 rfl (by omega) (.slice B' m' D') m' ht' (by rfl) (own_below (own_below o2 hb5') ((Below.refl _ _).alloc (Nat.le_refl _) _)) ⟨w5.heap.size, 0, none⟩ 1 1 [.int .i64 k, .slice A5 L5 C5] (by rfl) (by rfl) (World.news_of_block (cs := #[.int .i64 k, .slice A5 L5 C5]) (t := 88) (fr := (0, 0)) (heap_alloc_new w5 _)) (by simp [Value.oneCell']) (by omega) (by simp only [maxLen]; omega) (by omega) (by have := hbq.size; have := hb5'.size; simp; omega) (w5.heap.size + 1) (by simp) ?_
        intro gg cap w6 hown6 hgrow6 hat6 hlt6
        have ha5 : Below wq.heap.size wq (w5.alloc (.cells #[.int .i64 k, .slice A5 L5 C5] 88)) := hb5'.alloc hb5'.size _
        have oA5 := own_below o1 ha5
        have oB5 := own_below o2 ha5
        have x6 := (x3.below ha5).grown hgrow6 fun e => own_box oB5 (x3.below ha5) (by decide) e.symm
        have f6 := x6.c1
        have r6 := x6.fr (o := 1)
        have hN := Lib.hid (Held.push oA5 oB5 (h1'.below ha5 (Nat.le_refl _)) (h2'.below ha5 (Nat.le_refl _)) (g1.below ha5) (g2.below ha5) (x3.below ha5) (xR.below ha5) q1 q2 (hbq.trans (ha5.mono hbq.size)) ((hF'.out.mono hbq.size).below ((Below.refl _ _).alloc (Nat.le_refl _) _)) hk'.out hown6 hgrow6)
        clear oA5 oB5 ha5
        refine hK.out _ _ ?_ (fun hHeld2 => ?_)
        · trivial
        clear hK K hHeld
        have hHeld := hHeld2
        clear hHeld2
        try simp only [Act.put, List.setIfInBounds_toArray]
        refine wpAnyH_take (i := 8) (v := ?_) rfl (by kernel_rfl) (by kernel_rfl) (by kernel_rfl) (fun _ _ _ h => h) (Or.inl ⟨by rfl, ?_⟩) (by assumption) ?_
        rotate_left
        · (intro w hSw; (try dsimp only at hSw); go_simp; try with_reducible rfl)
        try simp only [Act.put]
        refine wpAnyH_ready (rs := [9]) (by kernel_rfl) (by simp) ?_
        refine AllReadyH.cons rfl (fun K hK => ?_) AllReadyH.nil
        go_simp
        refine hK.out _ _ ?_ (fun hHeld2 => ?_)
        · trivial
        clear hK K hHeld
        have hHeld := hHeld2
        clear hHeld2
        try simp only [Act.put, List.setIfInBounds_toArray, List.set_cons_zero, List.set_cons_succ]
        refine wpAnyH_done (by kernel_rfl) ?_ _
        clear hHeld f6 r6 hF' hown6 hgrow6
        go_wp2_with fail
        go_meet
        case rel => exact ⟨_, _, hN.out⟩
  case rest =>
    obtain ⟨g, D2, hT⟩ := hcut
    obtain ⟨y3, yR, l3, lR, hBw⟩ := hT.boxes
    have x0 := y3.c0
    have x1 := y3.c1
    have x2 := y3.c2
    have f0 := yR.c0
    have f1 := yR.c1
    have f2 := yR.c2
    have r0 := yR.fr (o := 0)
    have r1 := yR.fr (o := 1)
    have r2 := yR.fr (o := 2)
    have hD := Lib.hid (hT.dev hm1 (by omega))
    clear hT hI' cb
    go_wp2
    have d2 := (hD.out.setBox3 yR (.slice A' n' C') (.slice (some ⟨g, 0, none⟩) (m' + 1) D2) (.bool false)).1
    exact bodyPost_ret (v := .tuple #[.agg #[.slice A' n' C', .slice (some ⟨g, 0, none⟩) (m' + 1) D2, .bool false], .int .i64 0]) (by simp [results, Try.results17, go_sem, f0, f1, f2]) rfl ⟨_, rfl, d2, ((hBw.setCell (by simp) _).setCell (by simp) _).setCell (by simp) _⟩
theorem write_calls (v : Value) (d : Dev) (k : Int) (a : Option Addr) (q c : Nat) (zs : List Int) (w : World) (h : DevV w v d) (hz : Ints .u8 w a q zs) :
    Calls Try.prog 17 #[v, .int .i64 k, .slice a q c] w (DevIs w (writeE d k zs) (resD (writeE d k zs) ⟨d.blocks, d.wait ++ [(k, zs)], false⟩)) := by
  by_cases hE : writeE d k zs = 0
  · rw [hE]
    exact write_yes v d k a q c zs w h hz hE
  · rw [show resD (writeE d k zs) ⟨d.blocks, d.wait ++ [(k, zs)], false⟩ = ⟨[], [], false⟩ from if_neg hE]
    exact write_no v d k a q c zs w h hz hE
end Go.Proofs.Ytldgpkaecfgagaa
