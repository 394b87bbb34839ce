/- The walk of package disk's Fua. -/
import Derived.Test.YtldgpkaecfgagaaDiskH
import Derived.Deep.RegionHeld3
namespace Go.Proofs.Ytldgpkaecfgagaa
open Go.RowKit PolyM PackM FoldM DevM

set_option maxRecDepth 100000 in
set_option maxHeartbeats 4000000 in
theorem fua_no (v : Value) (d : Dev) (k : Int) (a : Option Addr) (q c : Nat) (zs : List Int) (w : World) (h : DevV w v d) (hz : Ints .u8 w a q zs) (hE : useE d k zs ≠ 0) :
    Calls Try.prog 34 #[v, .int .i64 k, .slice a q c] w (DevIs w (useE d k zs) ⟨[], [], false⟩) := by
  have hv := h
  obtain ⟨A, n, C, hs, B, m, D, ht, rfl, h1, h2⟩ := h
  have hb : Below w.heap.size w (((w.alloc (.cells #[.slice A n C, .slice B m D, .bool d.dead] 25)).alloc (.cells #[.int .i64 k] 3)).alloc (.cells #[.slice none 0 0, .slice none 0 0, .bool false] 25)) := (((Below.refl _ _).alloc (Nat.le_refl _) _).alloc (by simp) _).alloc (by simp; omega) _
  have cc := mayuse_calls _ d k a q c zs _ (hv.below hb (Nat.le_refl _)) (hz.below hb (Nat.le_refl _))
  have bx1 := BoxD.new ((w.alloc (.cells #[.slice A n C, .slice B m D, .bool d.dead] 25)).alloc (.cells #[.int .i64 k] 3)) (.slice none 0 0) (.slice none 0 0) (.bool false)
  simp only [World.size_alloc] at bx1
  have hi := useE_i64 d k zs
  have hne := err_ne hE
  clear hE hv h1 h2 hz
  generalize useE d k zs = er at *
  go_enter Try.func34, Try.ntmps34
  go_wp2_with fail
  (with_reducible refine cc.mono ?_)
  rintro e w2 ⟨rfl, hb2⟩
  have b1 := bx1.below hb2
  have f0 := b1.c0
  have f1 := b1.c1
  have f2 := b1.c2
  have r0 := b1.fr (o := 0)
  have r1 := b1.fr (o := 1)
  have r2 := b1.fr (o := 2)
  clear cc bx1
  go_wp2
  have hB : Below w.heap.size w (((w2.setCell ⟨w.heap.size + 1 + 1, 0, none⟩ (.slice none 0 0)).setCell ⟨w.heap.size + 1 + 1, 1, none⟩ (.slice none 0 0)).setCell ⟨w.heap.size + 1 + 1, 2, none⟩ (.bool false)) := (((hb.trans (hb2.mono hb.size)).setCell (by simp; omega) _).setCell (by simp; omega) _).setCell (by simp; omega) _
  exact bodyPost_ret (v := .tuple #[noDev, .int .i64 er]) (by simp [results, Try.results34, go_sem, f0, f1, f2, noDev]) rfl ⟨_, rfl, noDev_is _ _, hB⟩

theorem Held.filter {w : World} {bl : List (List Int)} {wt wt' : List (Int × List Int)} {b3 bR : Nat} {A B : Option Addr} {n C m D j : Nat} {dd : Bool} {W w6 : World} {ht' : List Value} (h : Held w bl wt b3 bR A B n C m D dd W) (o6 : w6.ownsRow w.heap.size 88 2 (.slice B j D) j ht') (h6 : Waits w6 ht' wt') (g6 : High w.heap.size w6 ht') (hg : W.grownBy w6 (Value.slice B m D).ownBlock) :
    Held w bl wt' b3 bR A B n C j D dd (w6.setCell ⟨b3, 1, none⟩ (.slice B j D)) := by
  obtain ⟨hs, ht, o1, o2, h1, h2, g1, g2, x3, xR, q1, q2, hb⟩ := h
  have kind : ∀ (b : Nat) (cs : Array Value), W.heap[b]? = some (.cells cs 5 (0, 0)) → some b ≠ (Value.slice B m D).ownBlock := fun b cs h => own_kind o2 h (by decide)
  have p1 : w6.ownsRow w.heap.size 29 1 (.slice A n C) n hs := own_grown o1 hg fun q hq e => own_apart o1 o2 (by decide) hq e.symm
  have p3 : BoxD w6 b3 (.slice A n C) (.slice B m D) (.bool dd) := x3.grown hg fun e => own_box o2 x3 (by decide) e.symm
  have pR : BoxD w6 bR (.slice none 0 0) (.slice none 0 0) (.bool false) := xR.grown hg fun e => own_box o2 xR (by decide) e.symm
  have hlt : bR ≠ b3 := by omega
  exact ⟨hs, _, own_other p1 (own_box p1 p3 (by decide)) _, own_other o6 (own_box o6 p3 (by decide)) _, (h1.grownH hg (g1.off kind)).setOther p3.c1 (by intro q; simp), h6.setOther p3.c1 (by intro q; simp), (g1.grown hg kind).setCell _ _, g6.setCell _ _, p3.s1 _, pR.other hlt _, q1, q2, (below_own hb hg rfl (fun q hq => (own_lt o2 hq).2) hb.size).setCell (by show w.heap.size ≤ b3; omega) _⟩

set_option maxRecDepth 100000 in
set_option maxHeartbeats 4000000 in
theorem fua_yes (v : Value) (d : Dev) (k : Int) (a : Option Addr) (q c : Nat) (zs : List Int) (w : World) (h : DevV w v d) (hz : Ints .u8 w a q zs) (hE : useE d k zs = 0) :
    Calls Try.prog 34 #[v, .int .i64 k, .slice a q c] w (DevIs w 0 ⟨d.blocks.set k.toNat zs, d.wait.filter (keepB k), false⟩) := by
  have hv := h
  obtain ⟨A, n, C, hs, B, m, D, ht, rfl, h1, h2⟩ := h
  have hb : Below w.heap.size w (((w.alloc (.cells #[.slice A n C, .slice B m D, .bool d.dead] 25)).alloc (.cells #[.int .i64 k] 3)).alloc (.cells #[.slice none 0 0, .slice none 0 0, .bool false] 25)) := (((Below.refl _ _).alloc (Nat.le_refl _) _).alloc (by simp) _).alloc (by simp; omega) _
  have cc := mayuse_calls _ d k a q c zs _ (hv.below hb (Nat.le_refl _)) (hz.below hb (Nat.le_refl _))
  obtain ⟨hM, p2, p3, hB, hdd⟩ := useE_zero hE
  rw [hE] at cc
  have bx0 := ((BoxD.new w (.slice A n C) (.slice B m D) (.bool d.dead)).alloc (.cells #[.int .i64 k] 3)).alloc (.cells #[.slice none 0 0, .slice none 0 0, .bool false] 25)
  have bxk : (((w.alloc (.cells #[.slice A n C, .slice B m D, .bool d.dead] 25)).alloc (.cells #[.int .i64 k] 3)).alloc (.cells #[.slice none 0 0, .slice none 0 0, .bool false] 25)).heap[w.heap.size + 1]? = some (.cells #[.int .i64 k] 3 (0, 0)) := by
    rw [Below.heap_alloc _ _ _ (by simp)]
    have := heap_alloc_new (w.alloc (.cells #[.slice A n C, .slice B m D, .bool d.dead] 25)) (.cells #[.int .i64 k] 3)
    rwa [World.size_alloc] at this
  have bx1 := BoxD.new ((w.alloc (.cells #[.slice A n C, .slice B m D, .bool d.dead] 25)).alloc (.cells #[.int .i64 k] 3)) (.slice none 0 0) (.slice none 0 0) (.bool false)
  simp only [World.size_alloc] at bx1
  obtain ⟨s1, s2, s3, s4⟩ := may_small hM
  have ct := fun W (hW : Below w.heap.size w W) => twin_calls _ d W (hv.below hW (Nat.le_refl _)) s1 s2 s3 s4
  have hn := Lib.hid (show d.blocks.length = n ∧ d.wait.length = m from ⟨h1.len, h2.len⟩)
  have hm1 := h1.max
  have hm11 : m ≤ 1100 := by have := h2.len; omega
  have hkn : k < (n : Int) := by have := h1.len; omega
  have hq : q ≤ 1000000 := by have := hz.len; rcases hB with q | q <;> omega
  have cb := fun W (hW : Below w.heap.size w W) => bytes_clone a q c zs W (hz.below hW (Nat.le_refl _)) hq
  have hdd' := Lib.hid hdd
  rw [hdd] at hb cc bx0 bxk bx1 ct ⊢
  clear hM hv h1 h2 s1 s2 s3 s4 hdd hz hE p3 hB
  go_enter Try.func34, Try.ntmps34
  go_wp2_with fail
  (with_reducible refine cc.mono ?_)
  rintro e w2 ⟨rfl, hb2⟩
  have hb3 := hb.trans (hb2.mono hb.size)
  have b0 := bx0.below hb2
  have bk := (hb2.block _ (heap_lt bxk)).trans bxk
  have b1 := bx1.below hb2
  have e0 := b0.c0
  have e1 := b0.c1
  have e2 := b0.c2
  clear cc bx0 bx1 bxk hb hb2
  go_wp2_with fail
  (with_reducible refine (ct _ hb3).mono ?_)
  rintro e w4 ⟨v4, rfl, hN, hb4⟩
  obtain ⟨A', n', C', B', m', D', rfl, hn', hm'⟩ := hN.form
  have hbW := hb3.trans (hb4.mono hb3.size)
  have hI := (Held.init (hN.mono hb3.size) (b1.below hb4) (by omega) hbW).2
  obtain rfl : n' = n := by rw [hn']; exact hn.out.1
  obtain rfl : m' = m := by rw [hm']; exact hn.out.2
  rw [hdd'.out] at hI ⊢
  have bk4 := (hb4.block _ (heap_lt bk)).trans bk
  have ha4 : Below w4.heap.size w4 (w4.alloc (.cells #[.slice A' n' C', .slice B' m' D', .bool false] 25)) := (Below.refl _ _).alloc (Nat.le_refl _) _
  have bk5 := (ha4.block _ (heap_lt bk4)).trans bk4
  have lk : w.heap.size + 1 < w4.heap.size := heap_lt bk4
  clear ct hN b0 b1 hn' hm' hdd' bk bk4
  go_upto_region 5 with fail
  generalize w4.alloc _ = wq at *
  obtain ⟨g, A0, L0, C0, rfl, k0, kf, kb, hlA⟩ := hI.block (i := k.toNat) (by omega)
  obtain ⟨x3, xR, q1, q2, hbq⟩ := hI.boxes
  have c0 := x3.c0
  have l3 := x3.lt
  have ck : wq.cell? ⟨w.heap.size + 1, 0, none⟩ = some (.int .i64 k) := cell_of_row _ _ 0 _ _ _ bk5
  have lkq := heap_lt bk5
  have hgk : g ≠ w.heap.size + 1 := by
    intro e
    obtain ⟨hs', ht', o1, _⟩ := hI
    exact own_kind o1 bk5 (by decide) (by rw [← e]; rfl)
  have hI' := Lib.hid hI
  have hK5 := Lib.hid bk5
  clear hI bk5
  refine wp_region_held_drew (S := (fun W => W.cell? ⟨w4.heap.size, 0, none⟩ = some (.slice (some ⟨g, 0, none⟩) n' C') ∧ W.cell? ⟨w.heap.size + 1, 0, none⟩ = some (.int .i64 k))) (by kernel_rfl) ?_ (fun hHeld => ?_)
  · first | assumption | exact ⟨c0, ck⟩ | exact ⟨(hb5.cell (p := ⟨w4.heap.size, 0, none⟩) l3).trans hHeld.1, (hb5.cell (p := ⟨w.heap.size + 1, 0, none⟩) lkq).trans hHeld.2⟩ | exact ⟨(World.cell?_setCell_other _ _ _ _ (fun q => kb (congrArg Addr.block q))).trans hHeld.1, (World.cell?_setCell_other _ _ _ _ (fun q => hgk (congrArg Addr.block q))).trans hHeld.2⟩
  refine wpAnyH_take (i := 0) (v := ?_) rfl (by kernel_rfl) (by kernel_rfl) (by kernel_rfl) (fun _ _ _ h => h) (Or.inl ⟨by rfl, ?_⟩) (by assumption) ?_
  rotate_left
  · (intro w hSw; (try dsimp only at hSw); go_simp; try with_reducible rfl)
  try simp only [Act.put, List.setIfInBounds_toArray]
  refine wpAnyH_take (i := 1) (v := ?_) rfl (by kernel_rfl) (by kernel_rfl) (by kernel_rfl) (fun _ _ _ h => h) (Or.inl ⟨by rfl, ?_⟩) (by assumption) ?_
  rotate_left
  · (intro w hSw; (try dsimp only at hSw); go_simp; try with_reducible rfl)
  try simp only [Act.put]
  refine wpAnyH_take (i := 2) (v := ?_) rfl (by kernel_rfl) (by kernel_rfl) (by kernel_rfl) (fun _ _ _ h => h) (Or.inl ⟨by rfl, ?_⟩) (by assumption) ?_
  rotate_left
  · (intro w hSw; (try dsimp only at hSw); go_simp; try with_reducible rfl)
  try simp only [Act.put]
  refine wpAnyH_take (i := 3) (v := ?_) rfl (by kernel_rfl) (by kernel_rfl) (by kernel_rfl) (fun _ _ _ h => h) (Or.inl ⟨by rfl, ?_⟩) (by assumption) ?_
  rotate_left
  · (intro w hSw; (try dsimp only at hSw); go_simp; try with_reducible rfl)
  try simp only [Act.put]
  refine wpAnyH_ready (rs := [4]) (by kernel_rfl) (by simp) ?_
  refine AllReadyH.cons rfl (fun K hK => ?_) AllReadyH.nil
  go_simp
  (with_reducible refine (cb _ (hbq.trans ((Below.refl _ _).drew.mono hbq.size))).mono ?_)
  rintro e w5 ⟨v5, rfl, hF, hb5⟩
  obtain ⟨A5, L5, C5, rfl, hF'⟩ : ∃ A5 L5 C5, v5 = .slice A5 L5 C5 ∧ Hid (Fresh wq.heap.size w5 v5 zs) := by obtain ⟨a, b, c, e, _⟩ := id hF; exact ⟨a, b, c, e, hF⟩
  have f1 := (hb5.cell (p := ⟨g, k.toNat, none⟩) hlA).trans k0
  have r1 := (hb5.frozen (p := ⟨g, k.toNat, none⟩) hlA).trans kf
  clear hF
  go_wp2_with fail
  refine hK.out _ _ ?_ (fun hHeld2 => ?_)
  · first | assumption | exact ⟨c0, ck⟩ | exact ⟨(hb5.cell (p := ⟨w4.heap.size, 0, none⟩) l3).trans hHeld.1, (hb5.cell (p := ⟨w.heap.size + 1, 0, none⟩) lkq).trans hHeld.2⟩ | exact ⟨(World.cell?_setCell_other _ _ _ _ (fun q => kb (congrArg Addr.block q))).trans hHeld.1, (World.cell?_setCell_other _ _ _ _ (fun q => hgk (congrArg Addr.block q))).trans hHeld.2⟩
  clear hK K hHeld
  have hHeld := hHeld2
  clear hHeld2
  try simp only [Act.put, List.setIfInBounds_toArray, List.set_cons_zero, List.set_cons_succ]
  refine wpAnyH_ready (rs := [5]) (by kernel_rfl) (by simp) ?_
  refine AllReadyH.cons rfl (fun K hK => ?_) AllReadyH.nil
  go_simp
  refine hK.out _ _ ?_ (fun hHeld2 => ?_)
  · first | assumption | exact ⟨c0, ck⟩ | exact ⟨(hb5.cell (p := ⟨w4.heap.size, 0, none⟩) l3).trans hHeld.1, (hb5.cell (p := ⟨w.heap.size + 1, 0, none⟩) lkq).trans hHeld.2⟩ | exact ⟨(World.cell?_setCell_other _ _ _ _ (fun q => kb (congrArg Addr.block q))).trans hHeld.1, (World.cell?_setCell_other _ _ _ _ (fun q => hgk (congrArg Addr.block q))).trans hHeld.2⟩
  clear hK K hHeld
  have hHeld := hHeld2
  clear hHeld2
  try simp only [Act.put, List.setIfInBounds_toArray, List.set_cons_zero, List.set_cons_succ]
  refine wpAnyH_ready (rs := [6]) (by kernel_rfl) (by simp) ?_
  refine AllReadyH.cons rfl (fun K hK => ?_) AllReadyH.nil
  go_simp
  refine hK.out _ _ ?_ (fun hHeld2 => ?_)
  · first | assumption | exact ⟨c0, ck⟩ | exact ⟨(hb5.cell (p := ⟨w4.heap.size, 0, none⟩) l3).trans hHeld.1, (hb5.cell (p := ⟨w.heap.size + 1, 0, none⟩) lkq).trans hHeld.2⟩ | exact ⟨(World.cell?_setCell_other _ _ _ _ (fun q => kb (congrArg Addr.block q))).trans hHeld.1, (World.cell?_setCell_other _ _ _ _ (fun q => hgk (congrArg Addr.block q))).trans hHeld.2⟩
  clear hK K hHeld
  have hHeld := hHeld2
  clear hHeld2
  try simp only [Act.put, List.setIfInBounds_toArray, List.set_cons_zero, List.set_cons_succ]
  refine wpAnyH_done (by kernel_rfl) ?_ _
  have hb5' : Below wq.heap.size wq w5 := (Below.refl _ _).drew.trans (hb5.mono (Nat.le_refl _))
  have hN := (hI'.out.below hb5').setBlock (hF'.out.mono hbq.size) (i := k.toNat) (by omega)
  have bk6 : (w5.setCell ⟨g, k.toNat, none⟩ (.slice A5 L5 C5)).heap[w.heap.size + 1]? = some (.cells #[.int .i64 k] 3 (0, 0)) := by
    rw [Below.heap_setCell _ _ _ _ (Ne.symm hgk)]; exact (hb5'.block _ lkq).trans hK5.out
  generalize w5.setCell ⟨g, k.toNat, none⟩ (.slice A5 L5 C5) = w6 at *
  have cd : Calls Try.prog 81 #[.slice B' m' D', .func (.func 82) #[] #[.pointer (some ⟨w.heap.size + 1, 0, none⟩)]] w6 (DelIs w.heap.size w6 B' m' D' d.wait k) := by
    obtain ⟨hs6, ht6, o1, o2, h1, h2, g1, g2, y3, yR, _⟩ := hN
    exact delete_calls w.heap.size B' m' D' ht6 d.wait (w.heap.size + 1) k w6 o2 h2 g2 bk6 hm11
  obtain ⟨y3, yR, _, _, hbw6⟩ := hN.boxes
  have d0 := y3.c0
  have d1 := y3.c1
  have d2 := y3.c2
  have hN' := Lib.hid hN
  clear hHeld f1 r1 hb5 hF' hN hb5' bk6 k0 kf c0 ck cb hI' hK5
  go_wp2_with fail
  refine cd.mono ?_
  rintro e w7 ⟨j, ht7, rfl, hjm, o7, h7, g7, hg7⟩
  have hF := hN'.out.filter o7 h7 g7 hg7
  have p3 : BoxD w7 w4.heap.size (.slice (some ⟨g, 0, none⟩) n' C') (.slice B' m' D') (.bool false) := by
    obtain ⟨hs6, ht6, o1, o2, _⟩ := hN'.out
    exact y3.grown hg7 fun e => own_box o2 y3 (by decide) e.symm
  have pR : BoxD w7 (w.heap.size + 1 + 1) (.slice none 0 0) (.slice none 0 0) (.bool false) := by
    obtain ⟨hs6, ht6, o1, o2, _⟩ := hN'.out
    exact yR.grown hg7 fun e => own_box o2 yR (by decide) e.symm
  have z0 := p3.c0
  have z1 := p3.c1
  have z2 := p3.c2
  have zf := p3.fr (o := 1)
  have f0 := pR.c0
  have f1 := pR.c1
  have f2 := pR.c2
  have r0 := pR.fr (o := 0)
  have r1 := pR.fr (o := 1)
  have r2 := pR.fr (o := 2)
  have hD := Lib.hid (hF.dev hm1 (by omega))
  obtain ⟨yy3, yyR, _, _, hBw⟩ := hF.boxes
  have hne : w4.heap.size ≠ w.heap.size + 1 + 1 := by omega
  clear cd hN' hF o7 h7 g7 hg7
  go_wp2
  have e2 := (hD.out.setBox3 yyR (.slice (some ⟨g, 0, none⟩) n' C') (.slice B' j D') (.bool false)).1
  exact bodyPost_ret (v := .tuple #[.agg #[.slice (some ⟨g, 0, none⟩) n' C', .slice B' j D', .bool false], .int .i64 0]) (by simp [results, Try.results34, go_sem, f0, f1, f2]) rfl ⟨_, rfl, e2, ((hBw.setCell (by simp; omega) _).setCell (by simp; omega) _).setCell (by simp; omega) _⟩
theorem fua_calls (v : Value) (d : Dev) (k : Int) (a : Option Addr) (q c : Nat) (zs : List Int) (w : World) (h : DevV w v d) (hz : Ints .u8 w a q zs) :
    Calls Try.prog 34 #[v, .int .i64 k, .slice a q c] w (DevIs w (useE d k zs) (resD (useE d k zs) ⟨d.blocks.set k.toNat zs, d.wait.filter (keepB k), false⟩)) := by
  by_cases hE : useE d k zs = 0
  · rw [hE]
    exact fua_yes v d k a q c zs w h hz hE
  · rw [show resD (useE d k zs) ⟨d.blocks.set k.toNat zs, d.wait.filter (keepB k), false⟩ = ⟨[], [], false⟩ from if_neg hE]
    exact fua_no v d k a q c zs w h hz hE
end Go.Proofs.Ytldgpkaecfgagaa
