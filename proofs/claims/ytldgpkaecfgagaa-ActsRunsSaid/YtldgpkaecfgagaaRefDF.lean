/- The walk of the reference's Twin. -/
import Derived.Test.YtldgpkaecfgagaaRefDE
import Derived.Test.YtldgpkaecfgagaaRefDD
import Derived.Test.YtldgpkaecfgagaaDiskG
import Derived.Deep.AppendLies
import Derived.Deep.RegionHeld3
namespace Go.Proofs.Ytldgpkaecfgagaa
open Go.RowKit PolyM PackM FoldM DevM

theorem small_of {d : Dev} (h : ¬ GreatD d) : SmallD d := by
  obtain ⟨_, _, h1, h2⟩ := not_great h
  exact ⟨fun b hb => Nat.le_trans (h1 b hb) (by omega), fun x hx => Nat.le_trans (h2 x hx) (by omega)⟩
theorem DevN.form4 {K : Nat} {w : World} {v : Value} {d : Dev} {dd : Bool} (h : DevN K w v d) (hd : d.dead = dd) : ∃ A n C B m D, v = .agg #[.slice A n C, .slice B m D, .bool dd] ∧ m = d.wait.length := by
  obtain ⟨A, n, C, B, m, D, e, _, hm⟩ := h.form
  rw [hd] at e
  exact ⟨A, n, C, B, m, D, e, hm⟩
/-- At a step of a region that draws: 'append(s, x...)' onto a row of the call's own, whatever row the source is. -/
theorem step_append_row {P : Program} {w : World} {ops : Array Oper} {o : Oper} {a : Act} {K : Act → World → Prop} {Q : Exit → Act → World → Prop} {E : Prop} (hgd : o.guard = none) (s x : Operand) (t : TypeId)
    (ho : o.op = .call { callee := .builtin .append, args := #[s, x], argTypes := #[t, t] })
    (base : Nat) (e : TypeId) (i : TypeInfo) (z : Value) (size bytes : Nat) (ht : P.underlying t = some (.slice e)) (hi : P.info? e = some i) (hz : i.zero = some z)
    (hsize : i.size = size) (hby : i.bytes = bytes) (hzs : z.cells.size = size) (hsz : 0 < size)
    (v : Value) (n : Nat) (xs : List Value) (hs : a.eval s = v) (hown : w.ownsRow base e size v n xs)
    (A : Option Addr) (m c : Nat) (news : List Value) (hx : a.eval x = .slice A m c) (hr : Row w size A m news) (h1 : ∀ u ∈ news, u.oneCell' = true)
    (h63 : n + m ≤ maxLen) (hbytes : (n + m) * bytes ≤ 140737488355328) (hbase : base ≤ w.heap.size)
    (h : ∀ v' w', w'.ownsRow base e size v' (n + m) (xs ++ news) → w.grownBy w' v.ownBlock → K (a.put o.dst v') w') :
    if Region.wanted o (yielded ops a.tmps) = true then Oper.wp P o a w K Q else E := by
  have hw : Region.wanted o (yielded ops a.tmps) = true := by simp [Region.wanted, hgd]
  rw [if_pos hw]
  obtain ⟨v', w', hrun, h2, h3, h5⟩ := append_row (P := P) w base t o.type e i z size bytes ht hi hz hsize hby hzs hsz v n xs hown A m c news hr h1 h63 hbytes hbase
  unfold Oper.wp execOp
  simp only [ho, resolve, invoke, builtin, Sem.run_bind, Sem.run_pure, Result.andThen_ok, List.map_toArray, List.map_cons, List.map_nil, hs, hx, hrun]
  exact h v' w' h2 h3

/-- One block more: the row behind an append (W5: the world ahead of it). -/
theorem Held.pushB {w : World} {bl : List (List Int)} {wt : List (Int × List Int)} {b3 bR : Nat} {A B : Option Addr} {n C m D : Nat} {dd : Bool} {W5 w6 : World} {hs ht : List Value} (o1 : W5.ownsRow w.heap.size 29 1 (.slice A n C) n hs) (o2 : W5.ownsRow w.heap.size 88 2 (.slice B m D) m ht) (h1 : Hdrs W5 hs bl) (h2 : Waits W5 ht wt) (g1 : High w.heap.size W5 hs) (g2 : High w.heap.size W5 ht)
    (x3 : BoxD W5 b3 (.slice A n C) (.slice B m D) (.bool dd)) (xR : BoxD W5 bR (.slice none 0 0) (.slice none 0 0) (.bool false)) (q1 : bR < b3) (q2 : w.heap.size ≤ bR) (hb : Below w.heap.size w W5) {A5 : Option Addr} {L5 C5 : Nat} {zs : List Int} (hu : Fresh w.heap.size W5 (.slice A5 L5 C5) zs)
    {g C' : Nat} (o6 : w6.ownsRow w.heap.size 29 1 (.slice (some ⟨g, 0, none⟩) (n + 1) C') (n + 1) (hs ++ [.slice A5 L5 C5])) (hg : W5.grownBy w6 (Value.slice A n C).ownBlock) :
    Held w (bl ++ [zs]) wt b3 bR (some ⟨g, 0, none⟩) B (n + 1) C' m D dd (w6.setCell ⟨b3, 0, none⟩ (.slice (some ⟨g, 0, none⟩) (n + 1) C')) := by
  obtain ⟨A', L', C', e, hI, hH⟩ := hu
  cases e
  have kind : ∀ (b : Nat) (cs : Array Value), W5.heap[b]? = some (.cells cs 5 (0, 0)) → some b ≠ (Value.slice A n C).ownBlock := fun b cs h => own_kind o1 h (by decide)
  have hH2 : High w.heap.size W5 (hs ++ [.slice A5 L5 C5]) := g1.append hH
  have p2 : w6.ownsRow w.heap.size 88 2 (.slice B m D) m ht := own_grown o2 hg fun q hq e => own_apart o2 o1 (by decide) hq e.symm
  have p3 : BoxD w6 b3 (.slice A n C) (.slice B m D) (.bool dd) := x3.grown hg fun e => own_box o1 x3 (by decide) e.symm
  have pR : BoxD w6 bR (.slice none 0 0) (.slice none 0 0) (.bool false) := xR.grown hg fun e => own_box o1 xR (by decide) e.symm
  have ph1 : Hdrs w6 (hs ++ [.slice A5 L5 C5]) (bl ++ [zs]) := (h1.append (Hdrs.one hI)).grownH hg (hH2.off kind)
  have ph2 : Waits w6 ht wt := h2.grownH hg (g2.off kind)
  have hlt : bR ≠ b3 := by omega
  refine ⟨_, ht, own_other o6 (own_box o6 p3 (by decide)) _, own_other p2 (own_box p2 p3 (by decide)) _, ph1.setOther p3.c0 (by intro q; simp), ph2.setOther p3.c0 (by intro q; simp), (hH2.grown hg kind).setCell _ _, (g2.grown hg kind).setCell _ _, p3.s0 _, pR.other hlt _, q1, q2, (below_own hb hg rfl (fun q hq => (own_lt o1 hq).2) hb.size).setCell (by show w.heap.size ≤ b3; omega) _⟩
/-- An empty device in a box that is new. -/
theorem Held.empty {w W : World} {b3 bR : Nat} {dd : Bool} (x3 : BoxD W b3 (.slice none 0 0) (.slice none 0 0) (.bool dd)) (xR : BoxD W bR (.slice none 0 0) (.slice none 0 0) (.bool false)) (q1 : bR < b3) (q2 : w.heap.size ≤ bR) (hb : Below w.heap.size w W) : Held w [] [] b3 bR none none 0 0 0 0 dd W :=
  ⟨[], [], World.ownsRow_nil _ _ _ _, World.ownsRow_nil _ _ _ _, Hdrs.nil _, Waits.nil _, High.nil _ _, High.nil _ _, x3, xR, q1, q2, hb⟩

set_option maxRecDepth 100000 in
set_option maxHeartbeats 8000000 in
theorem reftwin_calls (v : Value) (d : Dev) (w : World) (h : DevV w v d) (hn : d.blocks.length ≤ 300) (hm : d.wait.length ≤ 1100) (hr1 : ∀ b ∈ d.blocks, b.length ≤ 1000000) (hr2 : ∀ x ∈ d.wait, x.2.length ≤ 1000000) :
    Calls Try.prog 23 #[v] w fun e w' => ∃ v', e = .returned v' ∧ DevN w.heap.size w' v' d ∧ Below w.heap.size w w' := by
  obtain ⟨A, n, C, hs, B, m, D, ht, rfl, h1, h2⟩ := h
  rw [h1.len] at hn
  rw [h2.len] at hm
  obtain ⟨bl, wt, dd⟩ := d
  simp only at *
  have hl := Lib.hid (And.intro h1.len h2.len)
  have R1 := Lib.hid hr1
  have R2 := Lib.hid hr2
  obtain ⟨i0, hi0, hz0, hz1, hz2⟩ := info_parts byte_info
  obtain ⟨j0, hj0, jz0, jz1, jz2⟩ := info_parts hdr_info
  obtain ⟨k0, hk0, kz0, kz1, kz2⟩ := info_parts write_info
  have hb1 : Below w.heap.size w (w.alloc (.cells #[.slice A n C, .slice B m D, .bool dd] 25)) := (Below.refl _ _).alloc (Nat.le_refl _) _
  have bx0 := BoxD.new w (.slice A n C) (.slice B m D) (.bool dd)
  have hs1 : (w.alloc (.cells #[.slice A n C, .slice B m D, .bool dd] 25)).heap.size = w.heap.size + 1 := by simp
  have H1 := Lib.hid (h1.below hb1 (Nat.le_refl _))
  have H2 := Lib.hid (h2.below hb1 (Nat.le_refl _))
  clear hr1 hr2 h1 h2
  go_enter Try.func23, Try.ntmps23
  go_upto_region 1 with fail
  generalize w.alloc (.cells #[.slice A n C, .slice B m D, .bool dd] 25) = w1 at *
  have xE := bx0.alloc (.cells #[.slice none 0 0, .slice none 0 0, .bool false] 25)
  have e2 := xE.c2
  have hH0 : Hid (Held w1 (bl.take 0) [] (w.heap.size + 1 + 1) (w.heap.size + 1) none none 0 0 0 0 dd ((w1.alloc (.cells #[.slice none 0 0, .slice none 0 0, .bool false] 25)).alloc (.cells #[.slice none 0 0, .slice none 0 0, .bool dd] 25))) := by
    refine Lib.hid ?_
    have b3 := BoxD.new (w1.alloc (.cells #[.slice none 0 0, .slice none 0 0, .bool false] 25)) (.slice none 0 0) (.slice none 0 0) (.bool dd)
    rw [World.size_alloc, hs1] at b3
    have bR := (BoxD.new w1 (.slice none 0 0) (.slice none 0 0) (.bool false)).alloc (.cells #[.slice none 0 0, .slice none 0 0, .bool dd] 25)
    rw [hs1] at bR
    exact Held.empty b3 bR (by omega) (by omega) (((Below.refl _ _).alloc (Nat.le_refl _) _).alloc (by simp) _)
  go_wp2
  clear e2 xE
  go_loopw [4] (fun i wr => ∃ (k : Nat) (A' : Option Addr) (C' : Nat), k ≤ n ∧ i = .int .i64 k ∧ Held w1 (bl.take k) [] (w.heap.size + 1 + 1) (w.heap.size + 1) A' none k C' 0 0 dd wr) (fun i _ => n - (intOf i).toNat)
  case atStart => exact ⟨0, none, 0, by omega, rfl, hH0.out⟩
  case round =>
    obtain ⟨k, A', C', hk, rfl, hT⟩ := hrel
    clear hH0
    by_cases hkn : k < n
    · obtain ⟨hs', ht', o1, o2, h1', h2', g1, g2, x3, xR, q1, q2, hbq⟩ := hT
      have e0 := (bx0.below hbq).c0
      obtain ⟨b, off, A1, L, C1, zs, rfl, hlt, _, hls, hcell, hz⟩ := H1.out.at (i := k) hkn
      have hL : L ≤ 1000000 := by
        have := R1.out zs (List.mem_of_getElem? hls)
        have := hz.len
        omega
      have hkn1 : (k : Int) < (n : Int) := by omega
      have E := Lib.hid (take_snocL hls)
      have e5 := (hbq.cell (p := ⟨b, off + k, none⟩) hlt).trans hcell
      have HK : Hid (∀ W, Below w1.heap.size w1 W → W.cell? ⟨w.heap.size, 0, none⟩ = some (.slice (some ⟨b, off, none⟩) n C) ∧ W.cell? ⟨b, off + k, none⟩ = some (.slice A1 L C1)) := Lib.hid fun W hW => ⟨(bx0.below hW).c0, (hW.cell (p := ⟨b, off + k, none⟩) hlt).trans hcell⟩
      have c0 := x3.c0
      have hs0 : w.heap.size < w1.heap.size := by omega
      clear hls hcell
      go_wp2
      refine wp_region_held_drew (S := (fun W => W.cell? ⟨w.heap.size, 0, none⟩ = some (.slice (some ⟨b, off, none⟩) n C) ∧ W.cell? ⟨b, off + k, none⟩ = some (.slice A1 L C1))) (by kernel_rfl) ?_ (fun hHeld => ?_)
      · first | exact hHeld | exact HK.out _ hN.out.boxes.2.2.2.2 | exact HK.out _ hB6.out | exact HK.out _ (hB9.alloc hB9.size _) | exact HK.out _ hB9 | exact HK.out _ (hbq.trans ((Below.refl _ _).drew.mono hbq.size))
      refine wpAnyH_take (i := 0) (v := ?_) rfl (by kernel_rfl) (by kernel_rfl) (by kernel_rfl) (fun _ _ _ h => h) (Or.inl ⟨by rfl, ?_⟩) hHeld ?_
      rotate_left
      · (intro w hSw; (try dsimp only at hSw); go_simp; try with_reducible rfl)
      try simp only [Act.put, List.getElem_toArray, List.getElem_cons_zero, List.setIfInBounds_toArray, List.set_cons_zero, List.set_cons_succ]
      refine wpAnyH_take (i := 2) (v := ?_) rfl (by kernel_rfl) (by kernel_rfl) (by kernel_rfl) (fun _ _ _ h => h) (Or.inl ⟨by rfl, ?_⟩) hHeld ?_
      rotate_left
      · (intro w hSw; (try dsimp only at hSw); go_simp; try with_reducible rfl)
      try simp only [Act.put, List.getElem_toArray, List.getElem_cons_zero, List.getElem_cons_succ, List.setIfInBounds_toArray, List.set_cons_zero, List.set_cons_succ]
      refine wpAnyH_take (i := 3) (v := ?_) rfl (by kernel_rfl) (by kernel_rfl) (by kernel_rfl) (fun _ _ _ h => h) (Or.inl ⟨by rfl, ?_⟩) hHeld ?_
      rotate_left
      · (intro w hSw; (try dsimp only at hSw); go_simp; try with_reducible rfl)
      try simp only [Act.put, List.getElem_toArray, List.getElem_cons_zero, List.getElem_cons_succ, List.setIfInBounds_toArray, List.set_cons_zero, List.set_cons_succ]
      refine wpAnyH_take (i := 4) (v := ?_) rfl (by kernel_rfl) (by kernel_rfl) (by kernel_rfl) (fun _ _ _ h => h) (Or.inl ⟨by rfl, ?_⟩) hHeld ?_
      rotate_left
      · (intro w hSw; (try dsimp only at hSw); go_simp; try with_reducible rfl)
      try simp only [Act.put, List.getElem_toArray, List.getElem_cons_zero, List.getElem_cons_succ, List.setIfInBounds_toArray, List.set_cons_zero, List.set_cons_succ]
      refine wpAnyH_take (i := 5) (v := ?_) rfl (by kernel_rfl) (by kernel_rfl) (by kernel_rfl) (fun _ _ _ h => h) (Or.inl ⟨by rfl, ?_⟩) hHeld ?_
      rotate_left
      · (intro w hSw; (try dsimp only at hSw); go_simp; try with_reducible rfl)
      try simp only [Act.put, List.getElem_toArray, List.getElem_cons_zero, List.getElem_cons_succ, List.setIfInBounds_toArray, List.set_cons_zero, List.set_cons_succ]
      refine wpAnyH_take (i := 6) (v := ?_) rfl (by kernel_rfl) (by kernel_rfl) (by kernel_rfl) (fun _ _ _ h => h) (Or.inl ⟨by rfl, ?_⟩) hHeld ?_
      rotate_left
      · (intro w hSw; (try dsimp only at hSw); go_simp; try with_reducible rfl)
      try simp only [Act.put, List.getElem_toArray, List.getElem_cons_zero, List.getElem_cons_succ, List.setIfInBounds_toArray, List.set_cons_zero, List.set_cons_succ]
      refine wpAnyH_take (i := 7) (v := ?_) rfl (by kernel_rfl) (by kernel_rfl) (by kernel_rfl) (fun _ _ _ h => h) (Or.inl ⟨by rfl, ?_⟩) hHeld ?_
      rotate_left
      · (intro w hSw; (try dsimp only at hSw); go_simp; try with_reducible rfl)
      try simp only [Act.put, List.getElem_toArray, List.getElem_cons_zero, List.getElem_cons_succ, List.setIfInBounds_toArray, List.set_cons_zero, List.set_cons_succ]
      refine wpAnyH_ready (rs := [1, 8]) (by kernel_rfl) (by simp) ?_
      refine AllReadyH.cons rfl (fun K hK => ?_) (AllReadyH.cons rfl (fun K hK => ?_) AllReadyH.nil)
      ·
        go_simp
        refine hK.out _ _ ?_ (fun hHeld2 => ?_)
        · first | exact hHeld | exact HK.out _ hN.out.boxes.2.2.2.2 | exact HK.out _ hB6.out | exact HK.out _ (hB9.alloc hB9.size _) | exact HK.out _ hB9 | exact HK.out _ (hbq.trans ((Below.refl _ _).drew.mono hbq.size))
        clear hK K hHeld
        have hHeld := hHeld2
        clear hHeld2
        try simp only [Act.put, List.setIfInBounds_toArray, List.set_cons_zero, List.set_cons_succ]
        refine wpAnyH_ready (rs := [8]) (by kernel_rfl) (by simp) ?_
        refine AllReadyH.cons rfl (fun K hK => ?_) AllReadyH.nil
        refine step_append_row (by rfl) _ _ _ (by rfl) w1.heap.size 5 i0 _ 1 1 Try.underlying29 hi0 hz0 hz1 hz2 rfl (by omega) (.slice none 0 0) 0 [] (by rfl) (World.ownsRow_nil _ _ _ _) A1 L C1 (zs.map (Value.int .u8)) (by rfl) (hz.toRow.below (hbq.trans ((Below.refl _ _).drew.mono hbq.size)) (Nat.le_refl _)) (by simp [Value.oneCell']) (by simp only [maxLen]; omega) (by omega) ((hbq.trans ((Below.refl _ _).drew.mono hbq.size))).size ?_
        intro v5 w5 hown5 hgrow5
        have hb5 : Below wr.heap.size wr w5 := ((Below.refl _ _).drew).grown hgrow5 (by simp) (by intro k hk; simp [Value.ownBlock] at hk)
        have hF := Lib.hid (Fresh.ofOwn hown5 (by omega) hz.wf)
        skip
        obtain ⟨A5, C5, rfl, _⟩ := own_form hown5
        clear hown5 hgrow5
        simp only [Nat.zero_add] at hF ⊢
        have hB9 := hbq.trans (hb5.mono hbq.size)
        have f0 := (x3.below hb5).c0
        have f1 := (x3.below hb5).c1
        have hl5 := (x3.below hb5).lt
        refine hK.out _ _ ?_ (fun hHeld2 => ?_)
        · first | exact hHeld | exact HK.out _ hN.out.boxes.2.2.2.2 | exact HK.out _ hB6.out | exact HK.out _ (hB9.alloc hB9.size _) | exact HK.out _ hB9 | exact HK.out _ (hbq.trans ((Below.refl _ _).drew.mono hbq.size))
        clear hK K hHeld
        have hHeld := hHeld2
        clear hHeld2
        try simp only [Act.put, List.setIfInBounds_toArray]
        refine wpAnyH_ready (rs := [9]) (by kernel_rfl) (by simp) ?_
        refine AllReadyH.cons rfl (fun K hK => ?_) AllReadyH.nil
        go_simp
        refine hK.out _ _ ?_ (fun hHeld2 => ?_)
        · first | exact hHeld | exact HK.out _ hN.out.boxes.2.2.2.2 | exact HK.out _ hB6.out | exact HK.out _ (hB9.alloc hB9.size _) | exact HK.out _ hB9 | exact HK.out _ (hbq.trans ((Below.refl _ _).drew.mono hbq.size))
        clear hK K hHeld
        have hHeld := hHeld2
        clear hHeld2
        try simp only [Act.put, List.setIfInBounds_toArray, List.set_cons_zero, List.set_cons_succ]
        refine wpAnyH_ready (rs := [10]) (by kernel_rfl) (by simp) ?_
        refine AllReadyH.cons rfl (fun K hK => ?_) AllReadyH.nil
        refine step_append_lies _ (by rfl) _ _ _ (by rfl) w1.heap.size 29 j0 _ 1 24 Try.underlying22 hj0 jz0 jz1 jz2 rfl (by omega) (.slice A' k C') k hs' (by rfl) (own_below (own_below o1 hb5) ((Below.refl _ _).alloc (Nat.le_refl _) _)) ⟨w5.heap.size, 0, none⟩ 1 1 [.slice A5 L C5] (by rfl) (by rfl) (World.news_of_block (cs := #[.slice A5 L C5]) (t := 29) (fr := (0, 0)) (heap_alloc_new w5 _)) (by simp [Value.oneCell']) (by omega) (by simp only [maxLen]; omega) (by omega) (by have := hB9.size; simp; omega) (w5.heap.size + 1) (by simp) ?_
        intro gg cap w6 hown6 hgrow6 hat6 hlt6
        have ha5 : Below wr.heap.size wr (w5.alloc (.cells #[.slice A5 L C5] 29)) := hb5.alloc hb5.size _
        have oA5 := own_below o1 ha5
        have oB5 := own_below o2 ha5
        have x6 := (x3.below ha5).grown hgrow6 fun e => own_box oA5 (x3.below ha5) (by decide) e.symm
        have f6 := x6.c0
        have r6 := x6.fr (o := 0)
        have hN0 := Held.pushB oA5 oB5 (h1'.below ha5 (Nat.le_refl _)) (h2'.below ha5 (Nat.le_refl _)) (g1.below ha5) (g2.below ha5) (x3.below ha5) (xR.below ha5) q1 q2 (hbq.trans (ha5.mono hbq.size)) (hF.out.below ((Below.refl _ _).alloc (Nat.le_refl _) _)) hown6 hgrow6
        have hB6 := Lib.hid (below_own (hbq.trans (ha5.mono hbq.size)) hgrow6 rfl (fun q hq => (own_lt oA5 hq).2) (hbq.trans (ha5.mono hbq.size)).size)
        rw [← E.out] at hN0
        have hN := Lib.hid hN0
        clear oA5 oB5 ha5 hN0
        refine hK.out _ _ ?_ (fun hHeld2 => ?_)
        · first | exact hHeld | exact HK.out _ hN.out.boxes.2.2.2.2 | exact HK.out _ hB6.out | exact HK.out _ (hB9.alloc hB9.size _) | exact HK.out _ hB9 | exact HK.out _ (hbq.trans ((Below.refl _ _).drew.mono hbq.size))
        clear hK K hHeld
        have hHeld := hHeld2
        clear hHeld2
        try simp only [Act.put, List.setIfInBounds_toArray]
        refine wpAnyH_take (i := 11) (v := ?_) rfl (by kernel_rfl) (by kernel_rfl) (by kernel_rfl) (fun _ _ _ h => h) (Or.inl ⟨by rfl, ?_⟩) hHeld ?_
        rotate_left
        · (intro w hSw; (try dsimp only at hSw); go_simp; try with_reducible rfl)
        try simp only [Act.put, List.getElem_toArray, List.getElem_cons_zero, List.getElem_cons_succ, List.setIfInBounds_toArray, List.set_cons_zero, List.set_cons_succ]
        refine wpAnyH_ready (rs := [12]) (by kernel_rfl) (by simp) ?_
        refine AllReadyH.cons rfl (fun K hK => ?_) AllReadyH.nil
        go_simp
        refine hK.out _ _ ?_ (fun hHeld2 => ?_)
        · first | exact hHeld | exact HK.out _ hN.out.boxes.2.2.2.2 | exact HK.out _ hB6.out | exact HK.out _ (hB9.alloc hB9.size _) | exact HK.out _ hB9 | exact HK.out _ (hbq.trans ((Below.refl _ _).drew.mono hbq.size))
        clear hK K hHeld
        have hHeld := hHeld2
        clear hHeld2
        try simp only [Act.put, List.setIfInBounds_toArray, List.set_cons_zero, List.set_cons_succ]
        refine wpAnyH_done (by kernel_rfl) ?_ _
        clear hHeld f6 r6 hF hown6 hgrow6 hB6
        go_wp2_with fail
        go_roundw
        case rel => exact ⟨k + 1, _, _, by omega, by go_num, hN.out⟩
        case measure => simp [intOf]; omega
      ·
        refine step_append_row (by rfl) _ _ _ (by rfl) w1.heap.size 5 i0 _ 1 1 Try.underlying29 hi0 hz0 hz1 hz2 rfl (by omega) (.slice none 0 0) 0 [] (by rfl) (World.ownsRow_nil _ _ _ _) A1 L C1 (zs.map (Value.int .u8)) (by rfl) (hz.toRow.below (hbq.trans ((Below.refl _ _).drew.mono hbq.size)) (Nat.le_refl _)) (by simp [Value.oneCell']) (by simp only [maxLen]; omega) (by omega) ((hbq.trans ((Below.refl _ _).drew.mono hbq.size))).size ?_
        intro v5 w5 hown5 hgrow5
        have hb5 : Below wr.heap.size wr w5 := ((Below.refl _ _).drew).grown hgrow5 (by simp) (by intro k hk; simp [Value.ownBlock] at hk)
        have hF := Lib.hid (Fresh.ofOwn hown5 (by omega) hz.wf)
        skip
        obtain ⟨A5, C5, rfl, _⟩ := own_form hown5
        clear hown5 hgrow5
        simp only [Nat.zero_add] at hF ⊢
        have hB9 := hbq.trans (hb5.mono hbq.size)
        have f0 := (x3.below hb5).c0
        have f1 := (x3.below hb5).c1
        have hl5 := (x3.below hb5).lt
        refine hK.out _ _ ?_ (fun hHeld2 => ?_)
        · first | exact hHeld | exact HK.out _ hN.out.boxes.2.2.2.2 | exact HK.out _ hB6.out | exact HK.out _ (hB9.alloc hB9.size _) | exact HK.out _ hB9 | exact HK.out _ (hbq.trans ((Below.refl _ _).drew.mono hbq.size))
        clear hK K hHeld
        have hHeld := hHeld2
        clear hHeld2
        try simp only [Act.put, List.setIfInBounds_toArray]
        refine wpAnyH_ready (rs := [1, 9]) (by kernel_rfl) (by simp) ?_
        refine AllReadyH.cons rfl (fun K hK => ?_) (AllReadyH.cons rfl (fun K hK => ?_) AllReadyH.nil)
        ·
          go_simp
          refine hK.out _ _ ?_ (fun hHeld2 => ?_)
          · first | exact hHeld | exact HK.out _ hN.out.boxes.2.2.2.2 | exact HK.out _ hB6.out | exact HK.out _ (hB9.alloc hB9.size _) | exact HK.out _ hB9 | exact HK.out _ (hbq.trans ((Below.refl _ _).drew.mono hbq.size))
          clear hK K hHeld
          have hHeld := hHeld2
          clear hHeld2
          try simp only [Act.put, List.setIfInBounds_toArray, List.set_cons_zero, List.set_cons_succ]
          refine wpAnyH_ready (rs := [9]) (by kernel_rfl) (by simp) ?_
          refine AllReadyH.cons rfl (fun K hK => ?_) AllReadyH.nil
          go_simp
          refine hK.out _ _ ?_ (fun hHeld2 => ?_)
          · first | exact hHeld | exact HK.out _ hN.out.boxes.2.2.2.2 | exact HK.out _ hB6.out | exact HK.out _ (hB9.alloc hB9.size _) | exact HK.out _ hB9 | exact HK.out _ (hbq.trans ((Below.refl _ _).drew.mono hbq.size))
          clear hK K hHeld
          have hHeld := hHeld2
          clear hHeld2
          try simp only [Act.put, List.setIfInBounds_toArray, List.set_cons_zero, List.set_cons_succ]
          refine wpAnyH_ready (rs := [10]) (by kernel_rfl) (by simp) ?_
          refine AllReadyH.cons rfl (fun K hK => ?_) AllReadyH.nil
          refine step_append_lies _ (by rfl) _ _ _ (by rfl) w1.heap.size 29 j0 _ 1 24 Try.underlying22 hj0 jz0 jz1 jz2 rfl (by omega) (.slice A' k C') k hs' (by rfl) (own_below (own_below o1 hb5) ((Below.refl _ _).alloc (Nat.le_refl _) _)) ⟨w5.heap.size, 0, none⟩ 1 1 [.slice A5 L C5] (by rfl) (by rfl) (World.news_of_block (cs := #[.slice A5 L C5]) (t := 29) (fr := (0, 0)) (heap_alloc_new w5 _)) (by simp [Value.oneCell']) (by omega) (by simp only [maxLen]; omega) (by omega) (by have := hB9.size; simp; omega) (w5.heap.size + 1) (by simp) ?_
          intro gg cap w6 hown6 hgrow6 hat6 hlt6
          have ha5 : Below wr.heap.size wr (w5.alloc (.cells #[.slice A5 L C5] 29)) := hb5.alloc hb5.size _
          have oA5 := own_below o1 ha5
          have oB5 := own_below o2 ha5
          have x6 := (x3.below ha5).grown hgrow6 fun e => own_box oA5 (x3.below ha5) (by decide) e.symm
          have f6 := x6.c0
          have r6 := x6.fr (o := 0)
          have hN0 := Held.pushB oA5 oB5 (h1'.below ha5 (Nat.le_refl _)) (h2'.below ha5 (Nat.le_refl _)) (g1.below ha5) (g2.below ha5) (x3.below ha5) (xR.below ha5) q1 q2 (hbq.trans (ha5.mono hbq.size)) (hF.out.below ((Below.refl _ _).alloc (Nat.le_refl _) _)) hown6 hgrow6
          have hB6 := Lib.hid (below_own (hbq.trans (ha5.mono hbq.size)) hgrow6 rfl (fun q hq => (own_lt oA5 hq).2) (hbq.trans (ha5.mono hbq.size)).size)
          rw [← E.out] at hN0
          have hN := Lib.hid hN0
          clear oA5 oB5 ha5 hN0
          refine hK.out _ _ ?_ (fun hHeld2 => ?_)
          · first | exact hHeld | exact HK.out _ hN.out.boxes.2.2.2.2 | exact HK.out _ hB6.out | exact HK.out _ (hB9.alloc hB9.size _) | exact HK.out _ hB9 | exact HK.out _ (hbq.trans ((Below.refl _ _).drew.mono hbq.size))
          clear hK K hHeld
          have hHeld := hHeld2
          clear hHeld2
          try simp only [Act.put, List.setIfInBounds_toArray]
          refine wpAnyH_take (i := 11) (v := ?_) rfl (by kernel_rfl) (by kernel_rfl) (by kernel_rfl) (fun _ _ _ h => h) (Or.inl ⟨by rfl, ?_⟩) hHeld ?_
          rotate_left
          · (intro w hSw; (try dsimp only at hSw); go_simp; try with_reducible rfl)
          try simp only [Act.put, List.getElem_toArray, List.getElem_cons_zero, List.getElem_cons_succ, List.setIfInBounds_toArray, List.set_cons_zero, List.set_cons_succ]
          refine wpAnyH_ready (rs := [12]) (by kernel_rfl) (by simp) ?_
          refine AllReadyH.cons rfl (fun K hK => ?_) AllReadyH.nil
          go_simp
          refine hK.out _ _ ?_ (fun hHeld2 => ?_)
          · first | exact hHeld | exact HK.out _ hN.out.boxes.2.2.2.2 | exact HK.out _ hB6.out | exact HK.out _ (hB9.alloc hB9.size _) | exact HK.out _ hB9 | exact HK.out _ (hbq.trans ((Below.refl _ _).drew.mono hbq.size))
          clear hK K hHeld
          have hHeld := hHeld2
          clear hHeld2
          try simp only [Act.put, List.setIfInBounds_toArray, List.set_cons_zero, List.set_cons_succ]
          refine wpAnyH_done (by kernel_rfl) ?_ _
          clear hHeld f6 r6 hF hown6 hgrow6 hB6
          go_wp2_with fail
          go_roundw
          case rel => exact ⟨k + 1, _, _, by omega, by go_num, hN.out⟩
          case measure => simp [intOf]; omega
        ·
          go_simp
          refine hK.out _ _ ?_ (fun hHeld2 => ?_)
          · first | exact hHeld | exact HK.out _ hN.out.boxes.2.2.2.2 | exact HK.out _ hB6.out | exact HK.out _ (hB9.alloc hB9.size _) | exact HK.out _ hB9 | exact HK.out _ (hbq.trans ((Below.refl _ _).drew.mono hbq.size))
          clear hK K hHeld
          have hHeld := hHeld2
          clear hHeld2
          try simp only [Act.put, List.setIfInBounds_toArray, List.set_cons_zero, List.set_cons_succ]
          refine wpAnyH_ready (rs := [1]) (by kernel_rfl) (by simp) ?_
          refine AllReadyH.cons rfl (fun K hK => ?_) AllReadyH.nil
          go_simp
          refine hK.out _ _ ?_ (fun hHeld2 => ?_)
          · first | exact hHeld | exact HK.out _ hN.out.boxes.2.2.2.2 | exact HK.out _ hB6.out | exact HK.out _ (hB9.alloc hB9.size _) | exact HK.out _ hB9 | exact HK.out _ (hbq.trans ((Below.refl _ _).drew.mono hbq.size))
          clear hK K hHeld
          have hHeld := hHeld2
          clear hHeld2
          try simp only [Act.put, List.setIfInBounds_toArray, List.set_cons_zero, List.set_cons_succ]
          refine wpAnyH_ready (rs := [10]) (by kernel_rfl) (by simp) ?_
          refine AllReadyH.cons rfl (fun K hK => ?_) AllReadyH.nil
          refine step_append_lies _ (by rfl) _ _ _ (by rfl) w1.heap.size 29 j0 _ 1 24 Try.underlying22 hj0 jz0 jz1 jz2 rfl (by omega) (.slice A' k C') k hs' (by rfl) (own_below (own_below o1 hb5) ((Below.refl _ _).alloc (Nat.le_refl _) _)) ⟨w5.heap.size, 0, none⟩ 1 1 [.slice A5 L C5] (by rfl) (by rfl) (World.news_of_block (cs := #[.slice A5 L C5]) (t := 29) (fr := (0, 0)) (heap_alloc_new w5 _)) (by simp [Value.oneCell']) (by omega) (by simp only [maxLen]; omega) (by omega) (by have := hB9.size; simp; omega) (w5.heap.size + 1) (by simp) ?_
          intro gg cap w6 hown6 hgrow6 hat6 hlt6
          have ha5 : Below wr.heap.size wr (w5.alloc (.cells #[.slice A5 L C5] 29)) := hb5.alloc hb5.size _
          have oA5 := own_below o1 ha5
          have oB5 := own_below o2 ha5
          have x6 := (x3.below ha5).grown hgrow6 fun e => own_box oA5 (x3.below ha5) (by decide) e.symm
          have f6 := x6.c0
          have r6 := x6.fr (o := 0)
          have hN0 := Held.pushB oA5 oB5 (h1'.below ha5 (Nat.le_refl _)) (h2'.below ha5 (Nat.le_refl _)) (g1.below ha5) (g2.below ha5) (x3.below ha5) (xR.below ha5) q1 q2 (hbq.trans (ha5.mono hbq.size)) (hF.out.below ((Below.refl _ _).alloc (Nat.le_refl _) _)) hown6 hgrow6
          have hB6 := Lib.hid (below_own (hbq.trans (ha5.mono hbq.size)) hgrow6 rfl (fun q hq => (own_lt oA5 hq).2) (hbq.trans (ha5.mono hbq.size)).size)
          rw [← E.out] at hN0
          have hN := Lib.hid hN0
          clear oA5 oB5 ha5 hN0
          refine hK.out _ _ ?_ (fun hHeld2 => ?_)
          · first | exact hHeld | exact HK.out _ hN.out.boxes.2.2.2.2 | exact HK.out _ hB6.out | exact HK.out _ (hB9.alloc hB9.size _) | exact HK.out _ hB9 | exact HK.out _ (hbq.trans ((Below.refl _ _).drew.mono hbq.size))
          clear hK K hHeld
          have hHeld := hHeld2
          clear hHeld2
          try simp only [Act.put, List.setIfInBounds_toArray]
          refine wpAnyH_take (i := 11) (v := ?_) rfl (by kernel_rfl) (by kernel_rfl) (by kernel_rfl) (fun _ _ _ h => h) (Or.inl ⟨by rfl, ?_⟩) hHeld ?_
          rotate_left
          · (intro w hSw; (try dsimp only at hSw); go_simp; try with_reducible rfl)
          try simp only [Act.put, List.getElem_toArray, List.getElem_cons_zero, List.getElem_cons_succ, List.setIfInBounds_toArray, List.set_cons_zero, List.set_cons_succ]
          refine wpAnyH_ready (rs := [12]) (by kernel_rfl) (by simp) ?_
          refine AllReadyH.cons rfl (fun K hK => ?_) AllReadyH.nil
          go_simp
          refine hK.out _ _ ?_ (fun hHeld2 => ?_)
          · first | exact hHeld | exact HK.out _ hN.out.boxes.2.2.2.2 | exact HK.out _ hB6.out | exact HK.out _ (hB9.alloc hB9.size _) | exact HK.out _ hB9 | exact HK.out _ (hbq.trans ((Below.refl _ _).drew.mono hbq.size))
          clear hK K hHeld
          have hHeld := hHeld2
          clear hHeld2
          try simp only [Act.put, List.setIfInBounds_toArray, List.set_cons_zero, List.set_cons_succ]
          refine wpAnyH_done (by kernel_rfl) ?_ _
          clear hHeld f6 r6 hF hown6 hgrow6 hB6
          go_wp2_with fail
          go_roundw
          case rel => exact ⟨k + 1, _, _, by omega, by go_num, hN.out⟩
          case measure => simp [intOf]; omega
    · obtain rfl : n = k := by omega
      have hT' := Lib.hid hT
      have E2 : bl.take n = bl := List.take_of_length_le (by have := hl.out.1; omega)
      rw [E2] at hT'
      have hbq := hT.boxes.2.2.2.2
      have e0 := (bx0.below hbq).c0
      clear hT E2 hbq
      obtain ⟨wo, rfl⟩ : ∃ x : World, x = wr := ⟨_, rfl⟩
      go_wp2
      clear e0
      go_loopw [6] (fun i wr => ∃ (k : Nat) (B' : Option Addr) (D' : Nat), k ≤ m ∧ i = .int .i64 k ∧ Held w1 bl (wt.take k) (w.heap.size + 1 + 1) (w.heap.size + 1) A' B' n C' k D' dd wr) (fun i _ => m - (intOf i).toNat)
      case atStart => exact ⟨0, none, 0, by omega, rfl, hT'.out⟩
      case round =>
        obtain ⟨k, B', D', hk, rfl, hT⟩ := hrel
        clear hT'
        by_cases hkn : k < m
        · obtain ⟨hs', ht', o1, o2, h1', h2', g1, g2, x3, xR, q1, q2, hbq⟩ := hT
          have e0 := (bx0.below hbq).c1
          obtain ⟨b, off, A1, L, C1, x, rfl, hlt, hls, hc0, hcell, hkw', hz, _⟩ := H2.out.at (i := k) hkn
          obtain ⟨at_, dat⟩ := x
          simp only at hkw' hz hc0
          have hkw := Lib.hid hkw'
          have hL : L ≤ 1000000 := by
            have := R2.out _ (List.mem_of_getElem? hls)
            have := hz.len
            simp only at *
            omega
          have hkn1 : (k : Int) < (m : Int) := by omega
          have E := Lib.hid (take_snocL hls)
          have e4 := (hbq.cell (p := ⟨b, off + k * 2, none⟩) hlt).trans hc0
          have e5 := (hbq.cell (p := ⟨b, off + k * 2 + 1, none⟩) hlt).trans hcell
          have HK : Hid (∀ W, Below w1.heap.size w1 W → W.cell? ⟨w.heap.size, 1, none⟩ = some (.slice (some ⟨b, off, none⟩) m D) ∧ W.cell? ⟨b, off + k * 2, none⟩ = some (.int .i64 at_) ∧ W.cell? ⟨b, off + k * 2 + 1, none⟩ = some (.slice A1 L C1)) := Lib.hid fun W hW => ⟨(bx0.below hW).c1, (hW.cell (p := ⟨b, off + k * 2, none⟩) hlt).trans hc0, (hW.cell (p := ⟨b, off + k * 2 + 1, none⟩) hlt).trans hcell⟩
          have c0 := x3.c1
          have hs0 : w.heap.size < w1.heap.size := by omega
          clear hls hcell hc0 hkw'
          go_wp2
          refine wp_region_held_drew (S := (fun W => W.cell? ⟨w.heap.size, 1, none⟩ = some (.slice (some ⟨b, off, none⟩) m D) ∧ W.cell? ⟨b, off + k * 2, none⟩ = some (.int .i64 at_) ∧ W.cell? ⟨b, off + k * 2 + 1, none⟩ = some (.slice A1 L C1))) (by kernel_rfl) ?_ (fun hHeld => ?_)
          · first | exact hHeld | exact HK.out _ hN.out.boxes.2.2.2.2 | exact HK.out _ hB6.out | exact HK.out _ (hB9.alloc hB9.size _) | exact HK.out _ hB9 | exact HK.out _ (hbq.trans ((Below.refl _ _).drew.mono hbq.size))
          refine wpAnyH_take (i := 0) (v := ?_) rfl (by kernel_rfl) (by kernel_rfl) (by kernel_rfl) (fun _ _ _ h => h) (Or.inl ⟨by rfl, ?_⟩) hHeld ?_
          rotate_left
          · (intro w hSw; (try dsimp only at hSw); go_simp; try with_reducible rfl)
          try simp only [Act.put, List.getElem_toArray, List.getElem_cons_zero, List.setIfInBounds_toArray, List.set_cons_zero, List.set_cons_succ]
          refine wpAnyH_take (i := 2) (v := ?_) rfl (by kernel_rfl) (by kernel_rfl) (by kernel_rfl) (fun _ _ _ h => h) (Or.inl ⟨by rfl, ?_⟩) hHeld ?_
          rotate_left
          · (intro w hSw; (try dsimp only at hSw); go_simp; try with_reducible rfl)
          try simp only [Act.put, List.getElem_toArray, List.getElem_cons_zero, List.getElem_cons_succ, List.setIfInBounds_toArray, List.set_cons_zero, List.set_cons_succ]
          refine wpAnyH_take (i := 3) (v := ?_) rfl (by kernel_rfl) (by kernel_rfl) (by kernel_rfl) (fun _ _ _ h => h) (Or.inl ⟨by rfl, ?_⟩) hHeld ?_
          rotate_left
          · (intro w hSw; (try dsimp only at hSw); go_simp; try with_reducible rfl)
          try simp only [Act.put, List.getElem_toArray, List.getElem_cons_zero, List.getElem_cons_succ, List.setIfInBounds_toArray, List.set_cons_zero, List.set_cons_succ]
          refine wpAnyH_take (i := 4) (v := ?_) rfl (by kernel_rfl) (by kernel_rfl) (by kernel_rfl) (fun _ _ _ h => h) (Or.inl ⟨by rfl, ?_⟩) hHeld ?_
          rotate_left
          · (intro w hSw; (try dsimp only at hSw); go_simp; try with_reducible rfl)
          try simp only [Act.put, List.getElem_toArray, List.getElem_cons_zero, List.getElem_cons_succ, List.setIfInBounds_toArray, List.set_cons_zero, List.set_cons_succ]
          refine wpAnyH_take (i := 5) (v := ?_) rfl (by kernel_rfl) (by kernel_rfl) (by kernel_rfl) (fun _ _ _ h => h) (Or.inl ⟨by rfl, ?_⟩) hHeld ?_
          rotate_left
          · (intro w hSw; (try dsimp only at hSw); go_simp; try with_reducible rfl)
          try simp only [Act.put, List.getElem_toArray, List.getElem_cons_zero, List.getElem_cons_succ, List.setIfInBounds_toArray, List.set_cons_zero, List.set_cons_succ]
          refine wpAnyH_take (i := 6) (v := ?_) rfl (by kernel_rfl) (by kernel_rfl) (by kernel_rfl) (fun _ _ _ h => h) (Or.inl ⟨by rfl, ?_⟩) hHeld ?_
          rotate_left
          · (intro w hSw; (try dsimp only at hSw); go_simp; try with_reducible rfl)
          try simp only [Act.put, List.getElem_toArray, List.getElem_cons_zero, List.getElem_cons_succ, List.setIfInBounds_toArray, List.set_cons_zero, List.set_cons_succ]
          refine wpAnyH_take (i := 7) (v := ?_) rfl (by kernel_rfl) (by kernel_rfl) (by kernel_rfl) (fun _ _ _ h => h) (Or.inl ⟨by rfl, ?_⟩) hHeld ?_
          rotate_left
          · (intro w hSw; (try dsimp only at hSw); go_simp; try with_reducible rfl)
          try simp only [Act.put, List.getElem_toArray, List.getElem_cons_zero, List.getElem_cons_succ, List.setIfInBounds_toArray, List.set_cons_zero, List.set_cons_succ]
          refine wpAnyH_take (i := 8) (v := ?_) rfl (by kernel_rfl) (by kernel_rfl) (by kernel_rfl) (fun _ _ _ h => h) (Or.inl ⟨by rfl, ?_⟩) hHeld ?_
          rotate_left
          · (intro w hSw; (try dsimp only at hSw); go_simp; try with_reducible rfl)
          try simp only [Act.put, List.getElem_toArray, List.getElem_cons_zero, List.getElem_cons_succ, List.setIfInBounds_toArray, List.set_cons_zero, List.set_cons_succ]
          refine wpAnyH_take (i := 9) (v := ?_) rfl (by kernel_rfl) (by kernel_rfl) (by kernel_rfl) (fun _ _ _ h => h) (Or.inl ⟨by rfl, ?_⟩) hHeld ?_
          rotate_left
          · (intro w hSw; (try dsimp only at hSw); go_simp; try with_reducible rfl)
          try simp only [Act.put, List.getElem_toArray, List.getElem_cons_zero, List.getElem_cons_succ, List.setIfInBounds_toArray, List.set_cons_zero, List.set_cons_succ]
          refine wpAnyH_take (i := 10) (v := ?_) rfl (by kernel_rfl) (by kernel_rfl) (by kernel_rfl) (fun _ _ _ h => h) (Or.inl ⟨by rfl, ?_⟩) hHeld ?_
          rotate_left
          · (intro w hSw; (try dsimp only at hSw); go_simp; try with_reducible rfl)
          try simp only [Act.put, List.getElem_toArray, List.getElem_cons_zero, List.getElem_cons_succ, List.setIfInBounds_toArray, List.set_cons_zero, List.set_cons_succ]
          refine wpAnyH_take (i := 11) (v := ?_) rfl (by kernel_rfl) (by kernel_rfl) (by kernel_rfl) (fun _ _ _ h => h) (Or.inl ⟨by rfl, ?_⟩) hHeld ?_
          rotate_left
          · (intro w hSw; (try dsimp only at hSw); go_simp; try with_reducible rfl)
          try simp only [Act.put, List.getElem_toArray, List.getElem_cons_zero, List.getElem_cons_succ, List.setIfInBounds_toArray, List.set_cons_zero, List.set_cons_succ]
          refine wpAnyH_take (i := 12) (v := ?_) rfl (by kernel_rfl) (by kernel_rfl) (by kernel_rfl) (fun _ _ _ h => h) (Or.inl ⟨by rfl, ?_⟩) hHeld ?_
          rotate_left
          · (intro w hSw; (try dsimp only at hSw); go_simp; try with_reducible rfl)
          try simp only [Act.put, List.getElem_toArray, List.getElem_cons_zero, List.getElem_cons_succ, List.setIfInBounds_toArray, List.set_cons_zero, List.set_cons_succ]
          refine wpAnyH_take (i := 13) (v := ?_) rfl (by kernel_rfl) (by kernel_rfl) (by kernel_rfl) (fun _ _ _ h => h) (Or.inl ⟨by rfl, ?_⟩) hHeld ?_
          rotate_left
          · (intro w hSw; (try dsimp only at hSw); go_simp; try with_reducible rfl)
          try simp only [Act.put, List.getElem_toArray, List.getElem_cons_zero, List.getElem_cons_succ, List.setIfInBounds_toArray, List.set_cons_zero, List.set_cons_succ]
          refine wpAnyH_take (i := 14) (v := ?_) rfl (by kernel_rfl) (by kernel_rfl) (by kernel_rfl) (fun _ _ _ h => h) (Or.inl ⟨by rfl, ?_⟩) hHeld ?_
          rotate_left
          · (intro w hSw; (try dsimp only at hSw); go_simp; try with_reducible rfl)
          try simp only [Act.put, List.getElem_toArray, List.getElem_cons_zero, List.getElem_cons_succ, List.setIfInBounds_toArray, List.set_cons_zero, List.set_cons_succ]
          refine wpAnyH_ready (rs := [1, 15]) (by kernel_rfl) (by simp) ?_
          refine AllReadyH.cons rfl (fun K hK => ?_) (AllReadyH.cons rfl (fun K hK => ?_) AllReadyH.nil)
          ·
            go_simp
            refine hK.out _ _ ?_ (fun hHeld2 => ?_)
            · first | exact hHeld | exact HK.out _ hN.out.boxes.2.2.2.2 | exact HK.out _ hB6.out | exact HK.out _ (hB9.alloc hB9.size _) | exact HK.out _ hB9 | exact HK.out _ (hbq.trans ((Below.refl _ _).drew.mono hbq.size))
            clear hK K hHeld
            have hHeld := hHeld2
            clear hHeld2
            try simp only [Act.put, List.setIfInBounds_toArray, List.set_cons_zero, List.set_cons_succ]
            refine wpAnyH_ready (rs := [15]) (by kernel_rfl) (by simp) ?_
            refine AllReadyH.cons rfl (fun K hK => ?_) AllReadyH.nil
            refine step_append_row (by rfl) _ _ _ (by rfl) w1.heap.size 5 i0 _ 1 1 Try.underlying29 hi0 hz0 hz1 hz2 rfl (by omega) (.slice none 0 0) 0 [] (by rfl) (World.ownsRow_nil _ _ _ _) A1 L C1 (dat.map (Value.int .u8)) (by rfl) (hz.toRow.below (hbq.trans ((Below.refl _ _).drew.mono hbq.size)) (Nat.le_refl _)) (by simp [Value.oneCell']) (by simp only [maxLen]; omega) (by omega) ((hbq.trans ((Below.refl _ _).drew.mono hbq.size))).size ?_
            intro v5 w5 hown5 hgrow5
            have hb5 : Below wr.heap.size wr w5 := ((Below.refl _ _).drew).grown hgrow5 (by simp) (by intro k hk; simp [Value.ownBlock] at hk)
            have hF := Lib.hid (Fresh.ofOwn hown5 (by omega) hz.wf)
            skip
            obtain ⟨A5, C5, rfl, _⟩ := own_form hown5
            clear hown5 hgrow5
            simp only [Nat.zero_add] at hF ⊢
            have hB9 := hbq.trans (hb5.mono hbq.size)
            have f0 := (x3.below hb5).c0
            have f1 := (x3.below hb5).c1
            have hl5 := (x3.below hb5).lt
            refine hK.out _ _ ?_ (fun hHeld2 => ?_)
            · first | exact hHeld | exact HK.out _ hN.out.boxes.2.2.2.2 | exact HK.out _ hB6.out | exact HK.out _ (hB9.alloc hB9.size _) | exact HK.out _ hB9 | exact HK.out _ (hbq.trans ((Below.refl _ _).drew.mono hbq.size))
            clear hK K hHeld
            have hHeld := hHeld2
            clear hHeld2
            try simp only [Act.put, List.setIfInBounds_toArray]
            refine wpAnyH_take (i := 16) (v := ?_) rfl (by kernel_rfl) (by kernel_rfl) (by kernel_rfl) (fun _ _ _ h => h) (Or.inl ⟨by rfl, ?_⟩) hHeld ?_
            rotate_left
            · (intro w hSw; (try dsimp only at hSw); go_simp; try with_reducible rfl)
            try simp only [Act.put, List.getElem_toArray, List.getElem_cons_zero, List.getElem_cons_succ, List.setIfInBounds_toArray, List.set_cons_zero, List.set_cons_succ]
            refine wpAnyH_ready (rs := [17]) (by kernel_rfl) (by simp) ?_
            refine AllReadyH.cons rfl (fun K hK => ?_) AllReadyH.nil
            go_simp
            refine hK.out _ _ ?_ (fun hHeld2 => ?_)
            · first | exact hHeld | exact HK.out _ hN.out.boxes.2.2.2.2 | exact HK.out _ hB6.out | exact HK.out _ (hB9.alloc hB9.size _) | exact HK.out _ hB9 | exact HK.out _ (hbq.trans ((Below.refl _ _).drew.mono hbq.size))
            clear hK K hHeld
            have hHeld := hHeld2
            clear hHeld2
            try simp only [Act.put, List.setIfInBounds_toArray, List.set_cons_zero, List.set_cons_succ]
            refine wpAnyH_ready (rs := [18]) (by kernel_rfl) (by simp) ?_
            refine AllReadyH.cons rfl (fun K hK => ?_) AllReadyH.nil
            refine step_append_lies _ (by rfl) _ _ _ (by rfl) w1.heap.size 88 k0 _ 2 32 Try.underlying23 hk0 kz0 kz1 kz2 rfl (by omega) (.slice B' k D') k ht' (by rfl) (own_below (own_below o2 hb5) ((Below.refl _ _).alloc (Nat.le_refl _) _)) ⟨w5.heap.size, 0, none⟩ 1 1 [.int .i64 at_, .slice A5 L C5] (by rfl) (by rfl) (World.news_of_block (cs := #[.int .i64 at_, .slice A5 L C5]) (t := 88) (fr := (0, 0)) (heap_alloc_new w5 _)) (by simp [Value.oneCell']) (by omega) (by simp only [maxLen]; omega) (by omega) (by have := hB9.size; simp; omega) (w5.heap.size + 1) (by simp) ?_
            intro gg cap w6 hown6 hgrow6 hat6 hlt6
            have ha5 : Below wr.heap.size wr (w5.alloc (.cells #[.int .i64 at_, .slice A5 L C5] 88)) := hb5.alloc hb5.size _
            have oA5 := own_below o1 ha5
            have oB5 := own_below o2 ha5
            have x6 := (x3.below ha5).grown hgrow6 fun e => own_box oB5 (x3.below ha5) (by decide) e.symm
            have f6 := x6.c1
            have r6 := x6.fr (o := 1)
            have hN0 := Held.push oA5 oB5 (h1'.below ha5 (Nat.le_refl _)) (h2'.below ha5 (Nat.le_refl _)) (g1.below ha5) (g2.below ha5) (x3.below ha5) (xR.below ha5) q1 q2 (hbq.trans (ha5.mono hbq.size)) (hF.out.below ((Below.refl _ _).alloc (Nat.le_refl _) _)) hkw.out hown6 hgrow6
            have hB6 := Lib.hid (below_own (hbq.trans (ha5.mono hbq.size)) hgrow6 rfl (fun q hq => (own_lt oB5 hq).2) (hbq.trans (ha5.mono hbq.size)).size)
            rw [← E.out] at hN0
            have hN := Lib.hid hN0
            clear oA5 oB5 ha5 hN0
            refine hK.out _ _ ?_ (fun hHeld2 => ?_)
            · first | exact hHeld | exact HK.out _ hN.out.boxes.2.2.2.2 | exact HK.out _ hB6.out | exact HK.out _ (hB9.alloc hB9.size _) | exact HK.out _ hB9 | exact HK.out _ (hbq.trans ((Below.refl _ _).drew.mono hbq.size))
            clear hK K hHeld
            have hHeld := hHeld2
            clear hHeld2
            try simp only [Act.put, List.setIfInBounds_toArray]
            refine wpAnyH_take (i := 19) (v := ?_) rfl (by kernel_rfl) (by kernel_rfl) (by kernel_rfl) (fun _ _ _ h => h) (Or.inl ⟨by rfl, ?_⟩) hHeld ?_
            rotate_left
            · (intro w hSw; (try dsimp only at hSw); go_simp; try with_reducible rfl)
            try simp only [Act.put, List.getElem_toArray, List.getElem_cons_zero, List.getElem_cons_succ, List.setIfInBounds_toArray, List.set_cons_zero, List.set_cons_succ]
            refine wpAnyH_ready (rs := [20]) (by kernel_rfl) (by simp) ?_
            refine AllReadyH.cons rfl (fun K hK => ?_) AllReadyH.nil
            go_simp
            refine hK.out _ _ ?_ (fun hHeld2 => ?_)
            · first | exact hHeld | exact HK.out _ hN.out.boxes.2.2.2.2 | exact HK.out _ hB6.out | exact HK.out _ (hB9.alloc hB9.size _) | exact HK.out _ hB9 | exact HK.out _ (hbq.trans ((Below.refl _ _).drew.mono hbq.size))
            clear hK K hHeld
            have hHeld := hHeld2
            clear hHeld2
            try simp only [Act.put, List.setIfInBounds_toArray, List.set_cons_zero, List.set_cons_succ]
            refine wpAnyH_done (by kernel_rfl) ?_ _
            clear hHeld f6 r6 hF hown6 hgrow6 hB6
            go_wp2_with fail
            go_roundw
            case rel => exact ⟨k + 1, _, _, by omega, by go_num, hN.out⟩
            case measure => simp [intOf]; omega
          ·
            refine step_append_row (by rfl) _ _ _ (by rfl) w1.heap.size 5 i0 _ 1 1 Try.underlying29 hi0 hz0 hz1 hz2 rfl (by omega) (.slice none 0 0) 0 [] (by rfl) (World.ownsRow_nil _ _ _ _) A1 L C1 (dat.map (Value.int .u8)) (by rfl) (hz.toRow.below (hbq.trans ((Below.refl _ _).drew.mono hbq.size)) (Nat.le_refl _)) (by simp [Value.oneCell']) (by simp only [maxLen]; omega) (by omega) ((hbq.trans ((Below.refl _ _).drew.mono hbq.size))).size ?_
            intro v5 w5 hown5 hgrow5
            have hb5 : Below wr.heap.size wr w5 := ((Below.refl _ _).drew).grown hgrow5 (by simp) (by intro k hk; simp [Value.ownBlock] at hk)
            have hF := Lib.hid (Fresh.ofOwn hown5 (by omega) hz.wf)
            skip
            obtain ⟨A5, C5, rfl, _⟩ := own_form hown5
            clear hown5 hgrow5
            simp only [Nat.zero_add] at hF ⊢
            have hB9 := hbq.trans (hb5.mono hbq.size)
            have f0 := (x3.below hb5).c0
            have f1 := (x3.below hb5).c1
            have hl5 := (x3.below hb5).lt
            refine hK.out _ _ ?_ (fun hHeld2 => ?_)
            · first | exact hHeld | exact HK.out _ hN.out.boxes.2.2.2.2 | exact HK.out _ hB6.out | exact HK.out _ (hB9.alloc hB9.size _) | exact HK.out _ hB9 | exact HK.out _ (hbq.trans ((Below.refl _ _).drew.mono hbq.size))
            clear hK K hHeld
            have hHeld := hHeld2
            clear hHeld2
            try simp only [Act.put, List.setIfInBounds_toArray]
            refine wpAnyH_take (i := 16) (v := ?_) rfl (by kernel_rfl) (by kernel_rfl) (by kernel_rfl) (fun _ _ _ h => h) (Or.inl ⟨by rfl, ?_⟩) hHeld ?_
            rotate_left
            · (intro w hSw; (try dsimp only at hSw); go_simp; try with_reducible rfl)
            try simp only [Act.put, List.getElem_toArray, List.getElem_cons_zero, List.getElem_cons_succ, List.setIfInBounds_toArray, List.set_cons_zero, List.set_cons_succ]
            refine wpAnyH_ready (rs := [1, 17]) (by kernel_rfl) (by simp) ?_
            refine AllReadyH.cons rfl (fun K hK => ?_) (AllReadyH.cons rfl (fun K hK => ?_) AllReadyH.nil)
            ·
              go_simp
              refine hK.out _ _ ?_ (fun hHeld2 => ?_)
              · first | exact hHeld | exact HK.out _ hN.out.boxes.2.2.2.2 | exact HK.out _ hB6.out | exact HK.out _ (hB9.alloc hB9.size _) | exact HK.out _ hB9 | exact HK.out _ (hbq.trans ((Below.refl _ _).drew.mono hbq.size))
              clear hK K hHeld
              have hHeld := hHeld2
              clear hHeld2
              try simp only [Act.put, List.setIfInBounds_toArray, List.set_cons_zero, List.set_cons_succ]
              refine wpAnyH_ready (rs := [17]) (by kernel_rfl) (by simp) ?_
              refine AllReadyH.cons rfl (fun K hK => ?_) AllReadyH.nil
              go_simp
              refine hK.out _ _ ?_ (fun hHeld2 => ?_)
              · first | exact hHeld | exact HK.out _ hN.out.boxes.2.2.2.2 | exact HK.out _ hB6.out | exact HK.out _ (hB9.alloc hB9.size _) | exact HK.out _ hB9 | exact HK.out _ (hbq.trans ((Below.refl _ _).drew.mono hbq.size))
              clear hK K hHeld
              have hHeld := hHeld2
              clear hHeld2
              try simp only [Act.put, List.setIfInBounds_toArray, List.set_cons_zero, List.set_cons_succ]
              refine wpAnyH_ready (rs := [18]) (by kernel_rfl) (by simp) ?_
              refine AllReadyH.cons rfl (fun K hK => ?_) AllReadyH.nil
              refine step_append_lies _ (by rfl) _ _ _ (by rfl) w1.heap.size 88 k0 _ 2 32 Try.underlying23 hk0 kz0 kz1 kz2 rfl (by omega) (.slice B' k D') k ht' (by rfl) (own_below (own_below o2 hb5) ((Below.refl _ _).alloc (Nat.le_refl _) _)) ⟨w5.heap.size, 0, none⟩ 1 1 [.int .i64 at_, .slice A5 L C5] (by rfl) (by rfl) (World.news_of_block (cs := #[.int .i64 at_, .slice A5 L C5]) (t := 88) (fr := (0, 0)) (heap_alloc_new w5 _)) (by simp [Value.oneCell']) (by omega) (by simp only [maxLen]; omega) (by omega) (by have := hB9.size; simp; omega) (w5.heap.size + 1) (by simp) ?_
              intro gg cap w6 hown6 hgrow6 hat6 hlt6
              have ha5 : Below wr.heap.size wr (w5.alloc (.cells #[.int .i64 at_, .slice A5 L C5] 88)) := hb5.alloc hb5.size _
              have oA5 := own_below o1 ha5
              have oB5 := own_below o2 ha5
              have x6 := (x3.below ha5).grown hgrow6 fun e => own_box oB5 (x3.below ha5) (by decide) e.symm
              have f6 := x6.c1
              have r6 := x6.fr (o := 1)
              have hN0 := Held.push oA5 oB5 (h1'.below ha5 (Nat.le_refl _)) (h2'.below ha5 (Nat.le_refl _)) (g1.below ha5) (g2.below ha5) (x3.below ha5) (xR.below ha5) q1 q2 (hbq.trans (ha5.mono hbq.size)) (hF.out.below ((Below.refl _ _).alloc (Nat.le_refl _) _)) hkw.out hown6 hgrow6
              have hB6 := Lib.hid (below_own (hbq.trans (ha5.mono hbq.size)) hgrow6 rfl (fun q hq => (own_lt oB5 hq).2) (hbq.trans (ha5.mono hbq.size)).size)
              rw [← E.out] at hN0
              have hN := Lib.hid hN0
              clear oA5 oB5 ha5 hN0
              refine hK.out _ _ ?_ (fun hHeld2 => ?_)
              · first | exact hHeld | exact HK.out _ hN.out.boxes.2.2.2.2 | exact HK.out _ hB6.out | exact HK.out _ (hB9.alloc hB9.size _) | exact HK.out _ hB9 | exact HK.out _ (hbq.trans ((Below.refl _ _).drew.mono hbq.size))
              clear hK K hHeld
              have hHeld := hHeld2
              clear hHeld2
              try simp only [Act.put, List.setIfInBounds_toArray]
              refine wpAnyH_take (i := 19) (v := ?_) rfl (by kernel_rfl) (by kernel_rfl) (by kernel_rfl) (fun _ _ _ h => h) (Or.inl ⟨by rfl, ?_⟩) hHeld ?_
              rotate_left
              · (intro w hSw; (try dsimp only at hSw); go_simp; try with_reducible rfl)
              try simp only [Act.put, List.getElem_toArray, List.getElem_cons_zero, List.getElem_cons_succ, List.setIfInBounds_toArray, List.set_cons_zero, List.set_cons_succ]
              refine wpAnyH_ready (rs := [20]) (by kernel_rfl) (by simp) ?_
              refine AllReadyH.cons rfl (fun K hK => ?_) AllReadyH.nil
              go_simp
              refine hK.out _ _ ?_ (fun hHeld2 => ?_)
              · first | exact hHeld | exact HK.out _ hN.out.boxes.2.2.2.2 | exact HK.out _ hB6.out | exact HK.out _ (hB9.alloc hB9.size _) | exact HK.out _ hB9 | exact HK.out _ (hbq.trans ((Below.refl _ _).drew.mono hbq.size))
              clear hK K hHeld
              have hHeld := hHeld2
              clear hHeld2
              try simp only [Act.put, List.setIfInBounds_toArray, List.set_cons_zero, List.set_cons_succ]
              refine wpAnyH_done (by kernel_rfl) ?_ _
              clear hHeld f6 r6 hF hown6 hgrow6 hB6
              go_wp2_with fail
              go_roundw
              case rel => exact ⟨k + 1, _, _, by omega, by go_num, hN.out⟩
              case measure => simp [intOf]; omega
            ·
              go_simp
              refine hK.out _ _ ?_ (fun hHeld2 => ?_)
              · first | exact hHeld | exact HK.out _ hN.out.boxes.2.2.2.2 | exact HK.out _ hB6.out | exact HK.out _ (hB9.alloc hB9.size _) | exact HK.out _ hB9 | exact HK.out _ (hbq.trans ((Below.refl _ _).drew.mono hbq.size))
              clear hK K hHeld
              have hHeld := hHeld2
              clear hHeld2
              try simp only [Act.put, List.setIfInBounds_toArray, List.set_cons_zero, List.set_cons_succ]
              refine wpAnyH_ready (rs := [1]) (by kernel_rfl) (by simp) ?_
              refine AllReadyH.cons rfl (fun K hK => ?_) AllReadyH.nil
              go_simp
              refine hK.out _ _ ?_ (fun hHeld2 => ?_)
              · first | exact hHeld | exact HK.out _ hN.out.boxes.2.2.2.2 | exact HK.out _ hB6.out | exact HK.out _ (hB9.alloc hB9.size _) | exact HK.out _ hB9 | exact HK.out _ (hbq.trans ((Below.refl _ _).drew.mono hbq.size))
              clear hK K hHeld
              have hHeld := hHeld2
              clear hHeld2
              try simp only [Act.put, List.setIfInBounds_toArray, List.set_cons_zero, List.set_cons_succ]
              refine wpAnyH_ready (rs := [18]) (by kernel_rfl) (by simp) ?_
              refine AllReadyH.cons rfl (fun K hK => ?_) AllReadyH.nil
              refine step_append_lies _ (by rfl) _ _ _ (by rfl) w1.heap.size 88 k0 _ 2 32 Try.underlying23 hk0 kz0 kz1 kz2 rfl (by omega) (.slice B' k D') k ht' (by rfl) (own_below (own_below o2 hb5) ((Below.refl _ _).alloc (Nat.le_refl _) _)) ⟨w5.heap.size, 0, none⟩ 1 1 [.int .i64 at_, .slice A5 L C5] (by rfl) (by rfl) (World.news_of_block (cs := #[.int .i64 at_, .slice A5 L C5]) (t := 88) (fr := (0, 0)) (heap_alloc_new w5 _)) (by simp [Value.oneCell']) (by omega) (by simp only [maxLen]; omega) (by omega) (by have := hB9.size; simp; omega) (w5.heap.size + 1) (by simp) ?_
              intro gg cap w6 hown6 hgrow6 hat6 hlt6
              have ha5 : Below wr.heap.size wr (w5.alloc (.cells #[.int .i64 at_, .slice A5 L C5] 88)) := hb5.alloc hb5.size _
              have oA5 := own_below o1 ha5
              have oB5 := own_below o2 ha5
              have x6 := (x3.below ha5).grown hgrow6 fun e => own_box oB5 (x3.below ha5) (by decide) e.symm
              have f6 := x6.c1
              have r6 := x6.fr (o := 1)
              have hN0 := Held.push oA5 oB5 (h1'.below ha5 (Nat.le_refl _)) (h2'.below ha5 (Nat.le_refl _)) (g1.below ha5) (g2.below ha5) (x3.below ha5) (xR.below ha5) q1 q2 (hbq.trans (ha5.mono hbq.size)) (hF.out.below ((Below.refl _ _).alloc (Nat.le_refl _) _)) hkw.out hown6 hgrow6
              have hB6 := Lib.hid (below_own (hbq.trans (ha5.mono hbq.size)) hgrow6 rfl (fun q hq => (own_lt oB5 hq).2) (hbq.trans (ha5.mono hbq.size)).size)
              rw [← E.out] at hN0
              have hN := Lib.hid hN0
              clear oA5 oB5 ha5 hN0
              refine hK.out _ _ ?_ (fun hHeld2 => ?_)
              · first | exact hHeld | exact HK.out _ hN.out.boxes.2.2.2.2 | exact HK.out _ hB6.out | exact HK.out _ (hB9.alloc hB9.size _) | exact HK.out _ hB9 | exact HK.out _ (hbq.trans ((Below.refl _ _).drew.mono hbq.size))
              clear hK K hHeld
              have hHeld := hHeld2
              clear hHeld2
              try simp only [Act.put, List.setIfInBounds_toArray]
              refine wpAnyH_take (i := 19) (v := ?_) rfl (by kernel_rfl) (by kernel_rfl) (by kernel_rfl) (fun _ _ _ h => h) (Or.inl ⟨by rfl, ?_⟩) hHeld ?_
              rotate_left
              · (intro w hSw; (try dsimp only at hSw); go_simp; try with_reducible rfl)
              try simp only [Act.put, List.getElem_toArray, List.getElem_cons_zero, List.getElem_cons_succ, List.setIfInBounds_toArray, List.set_cons_zero, List.set_cons_succ]
              refine wpAnyH_ready (rs := [20]) (by kernel_rfl) (by simp) ?_
              refine AllReadyH.cons rfl (fun K hK => ?_) AllReadyH.nil
              go_simp
              refine hK.out _ _ ?_ (fun hHeld2 => ?_)
              · first | exact hHeld | exact HK.out _ hN.out.boxes.2.2.2.2 | exact HK.out _ hB6.out | exact HK.out _ (hB9.alloc hB9.size _) | exact HK.out _ hB9 | exact HK.out _ (hbq.trans ((Below.refl _ _).drew.mono hbq.size))
              clear hK K hHeld
              have hHeld := hHeld2
              clear hHeld2
              try simp only [Act.put, List.setIfInBounds_toArray, List.set_cons_zero, List.set_cons_succ]
              refine wpAnyH_done (by kernel_rfl) ?_ _
              clear hHeld f6 r6 hF hown6 hgrow6 hB6
              go_wp2_with fail
              go_roundw
              case rel => exact ⟨k + 1, _, _, by omega, by go_num, hN.out⟩
              case measure => simp [intOf]; omega
        · obtain rfl : m = k := by omega
          have E2 : wt.take m = wt := List.take_of_length_le (by have := hl.out.2; omega)
          rw [E2] at hT
          obtain ⟨y3, yR, l3, lR, hBw⟩ := hT.boxes
          have e0 := (bx0.below hBw).c1
          have x0 := y3.c0
          have x1 := y3.c1
          have x2 := y3.c2
          have f0 := yR.c0
          have f1 := yR.c1
          have f2 := yR.c2
          have r0 := yR.fr (o := 0)
          have r1 := yR.fr (o := 1)
          have r2 := yR.fr (o := 2)
          have hD := Lib.hid (hT.dev (by omega) (by omega))
          clear hT
          go_wp2
          have d2 := (hD.out.setBox3 yR (.slice A' n C') (.slice B' m D') (.bool dd)).1
          exact bodyPost_ret (v := .agg #[.slice A' n C', .slice B' m D', .bool dd]) (by simp [results, Try.results23, go_sem, f0, f1, f2]) rfl ⟨_, rfl, d2.mono (by omega), hb1.trans ((((hBw.setCell (by show w1.heap.size ≤ w.heap.size + 1; omega) _).setCell (by show w1.heap.size ≤ w.heap.size + 1; omega) _).setCell (by show w1.heap.size ≤ w.heap.size + 1; omega) _).mono (by omega))⟩
end Go.Proofs.Ytldgpkaecfgagaa
