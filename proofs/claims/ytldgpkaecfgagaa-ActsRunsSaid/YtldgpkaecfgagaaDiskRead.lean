/- The walk of package disk's Read. -/
import Derived.Test.YtldgpkaecfgagaaDiskBack
namespace Go.Proofs.Ytldgpkaecfgagaa
open Go.RowKit PolyM PackM FoldM DevM

attribute [local go_sem] Oper.semAt_some

set_option maxRecDepth 100000 in
set_option maxHeartbeats 2000000 in
theorem read_no (v : Value) (d : Dev) (k : Int) (w : World) (h : DevV w v d) (hE : useE d k [] ≠ 0) :
    Calls Try.prog 16 #[v, .int .i64 k] w (BytesIs w (useE d k []) []) := by
  have hv := h
  obtain ⟨A, n, C, hs, B, m, D, ht, rfl, h1, h2⟩ := h
  have hb : Below w.heap.size w ((((w.alloc (.cells #[.slice A n C, .slice B m D, .bool d.dead] 25)).alloc (.cells #[.int .i64 k] 3)).alloc (.cells #[.slice none 0 0] 29)).alloc (.cells #[.int .i64 0] 26)) := ((((Below.refl _ _).alloc (Nat.le_refl _) _).alloc (by simp) _).alloc (by simp; omega) _).alloc (by simp; omega) _
  have cc := mayuse_calls _ d k none 0 0 [] _ (hv.below hb (Nat.le_refl _)) (nil_ints .u8 _ 0)
  have hi := useE_i64 d k []
  have hne := err_ne hE
  have b4 := (Boxed.new ((w.alloc (.cells #[.slice A n C, .slice B m D, .bool d.dead] 25)).alloc (.cells #[.int .i64 k] 3)) 29 (.slice none 0 0)).alloc (.cells #[.int .i64 0] 26)
  have b5 := Boxed.new (((w.alloc (.cells #[.slice A n C, .slice B m D, .bool d.dead] 25)).alloc (.cells #[.int .i64 k] 3)).alloc (.cells #[.slice none 0 0] 29)) 26 (.int .i64 0)
  simp only [World.size_alloc] at b4 b5
  generalize useE d k [] = er at *
  clear hE hv h1 h2
  go_enter Try.func16, Try.ntmps16
  go_wp2_with fail
  (with_reducible refine cc.mono ?_)
  rintro e w2 ⟨rfl, hb2⟩
  have c4 := (hb2.block _ b4.lt).trans b4
  have c5 := (hb2.block _ b5.lt).trans b5
  have f4 := Boxed.cell c4
  have f5 := Boxed.cell c5
  have r4 := Boxed.frozen c4
  have r5 := Boxed.frozen c5
  have hb3 := hb.trans (hb2.mono hb.size)
  clear cc hb hb2 b4 b5 c4 c5
  go_wp2
  exact bodyPost_ret (v := .tuple #[.slice none 0 0, .int .i64 er]) (by simp [results, Try.results16, go_sem, f4, f5]) rfl ⟨_, _, _, rfl, Fresh.nil _ _, (hb3.setCell (by simp; omega) _).setCell (by simp; omega) _⟩

theorem mem_elt {w0 : World} {ht : List Value} {wt : List (Int × List Int)} {m : Nat} {j k : Int} {pre : List (Elt w0 ht wt)} (hc : Came m j pre) (hp : ∀ x ∈ pre, x.at_ ≠ k) (hm : wt.length = m) {q : Nat} (hq : j < (q : Int)) {y : Int × List Int} (hy : wt[q]? = some y) : y.1 ≠ k := by
  obtain ⟨e, he, hi⟩ := hc.2 q hq (by rw [← hm]; exact (List.getElem?_eq_some_iff.1 hy).1)
  have hx := e.hx
  rw [hi, hy] at hx
  injection hx with hx
  rw [hx]
  exact hp e he
theorem seen_none {w0 : World} {ht : List Value} {d : Dev} {m : Nat} {k : Int} {ys : List (Elt w0 ht d.wait)} (hc : Came m (-1) ys) (hp : ∀ x ∈ ys, x.at_ ≠ k) (hm : d.wait.length = m) : seen d k = lies d k := by
  unfold seen lies
  rw [foldl_none (fun x => x.1) k]
  intro x hx
  obtain ⟨i, hi, e⟩ := List.mem_iff_getElem.1 hx
  exact mem_elt hc hp hm (q := i) (by omega) (by rw [List.getElem?_eq_getElem hi, e])
theorem seen_found {w0 : World} {ht : List Value} {d : Dev} {m q : Nat} {k : Int} {pre : List (Elt w0 ht d.wait)} {e : Elt w0 ht d.wait} (hc : Came m (q : Int) pre) (hp : ∀ x ∈ pre, x.at_ ≠ k) (hm : d.wait.length = m) (hi : e.i = q) (hk : e.at_ = k) : seen d k = fullD e.dat := by
  have hx := e.hx
  rw [hi, hk] at hx
  obtain ⟨hlt, hg⟩ := List.getElem?_eq_some_iff.1 hx
  have hs : d.wait = d.wait.take q ++ (k, e.dat) :: d.wait.drop (q + 1) := by
    rw [← hg, ← List.drop_eq_getElem_cons hlt, List.take_append_drop]
  unfold seen
  refine congrArg fullD ((congrArg (fun l => List.foldl (fun acc x => if x.1 = k then x.2 else acc) (d.blocks.getD k.toNat []) l) hs).trans (foldl_last k _ _ _ _ ?_))
  intro x hx
  obtain ⟨i, hi, e2⟩ := List.mem_iff_getElem.1 hx
  rw [List.getElem_drop] at e2
  exact mem_elt hc hp hm (q := q + 1 + i) (by omega) (by rw [← e2]; exact List.getElem?_eq_getElem _)
theorem elt_blk {w0 : World} {ht : List Value} {d : Dev} (h : MayD d) (e : Elt w0 ht d.wait) : Blk e.dat := (h.2.2.2.2.2 _ (List.mem_of_getElem? e.hx)).2.2

set_option maxRecDepth 100000 in
set_option maxHeartbeats 4000000 in
theorem read_yes (v : Value) (d : Dev) (k : Int) (w : World) (h : DevV w v d) (hE : useE d k [] = 0) :
    Calls Try.prog 16 #[v, .int .i64 k] w (BytesIs w 0 (seen d k)) := by
  have hv := h
  obtain ⟨A, n, C, hs, B, m, D, ht, rfl, h1, h2⟩ := h
  have hb : Below w.heap.size w ((((w.alloc (.cells #[.slice A n C, .slice B m D, .bool d.dead] 25)).alloc (.cells #[.int .i64 k] 3)).alloc (.cells #[.slice none 0 0] 29)).alloc (.cells #[.int .i64 0] 26)) := ((((Below.refl _ _).alloc (Nat.le_refl _) _).alloc (by simp) _).alloc (by simp; omega) _).alloc (by simp; omega) _
  have cc := mayuse_calls _ d k none 0 0 [] _ (hv.below hb (Nat.le_refl _)) (nil_ints .u8 _ 0)
  rw [hE] at cc
  have b2 := (((BoxD.new w (.slice A n C) (.slice B m D) (.bool d.dead)).alloc (.cells #[.int .i64 k] 3)).alloc (.cells #[.slice none 0 0] 29)).alloc (.cells #[.int .i64 0] 26)
  have b3 := ((Boxed.new (w.alloc (.cells #[.slice A n C, .slice B m D, .bool d.dead] 25)) 3 (.int .i64 k)).alloc (.cells #[.slice none 0 0] 29)).alloc (.cells #[.int .i64 0] 26)
  have b4 := (Boxed.new ((w.alloc (.cells #[.slice A n C, .slice B m D, .bool d.dead] 25)).alloc (.cells #[.int .i64 k] 3)) 29 (.slice none 0 0)).alloc (.cells #[.int .i64 0] 26)
  have b5 := Boxed.new (((w.alloc (.cells #[.slice A n C, .slice B m D, .bool d.dead] 25)).alloc (.cells #[.int .i64 k] 3)).alloc (.cells #[.slice none 0 0] 29)) 26 (.int .i64 0)
  simp only [World.size_alloc] at b3 b4 b5
  obtain ⟨p1, p2, p3, _, p4⟩ := useE_zero hE
  have hl1 := h1.len
  have hkn : k < (n : Int) := by omega
  have P := Lib.hid p1
  have hD := Lib.hid (show d.blocks.length = n ∧ d.wait.length = m from ⟨h1.len, h2.len⟩)
  clear p1 p4 hl1 p3 hE
  refine (callsIn_wide (n := 3)).1 ?_
  refine callsIn_of_wp_marks Try.func16 rfl trivial ?_ rfl
  simp only [Try.ntmps16, List.size_toArray, List.length_cons, List.length_nil, Nat.reduceAdd, Nat.reduceSub, Array.replicate_succ, Array.replicate_zero, List.push_toArray, List.append_toArray, List.nil_append, List.cons_append]
  gi_wp2_with (first
    | (refine ⟨trivial, ?_⟩; gi_at_call 62; (with_reducible refine (callsIn_wide.2 cc).mono ?_); rintro e w2 ⟨rfl, hb2⟩; have d2 := b2.below hb2; have d3 := (hb2.block _ b3.lt).trans b3; have d4 := (hb2.block _ b4.lt).trans b4; have d5 := (hb2.block _ b5.lt).trans b5; have e0 := d2.c0; have e1 := d2.c1; have e3 := Boxed.cell d3; have hb3 := hb.trans (hb2.mono hb.size); clear cc hb hb2 b2 b3 b4 b5)
    | (refine ⟨trivial, ?_⟩; gi_at_call 63; (with_reducible refine (back_in 2 B m D _).mono ?_); rintro e w3 ⟨rfl, rfl⟩))
  have hbs : (w2.alloc (.cells #[.slice B m D] 23)).cell? ⟨w2.heap.size, 0, none⟩ = some (.slice B m D) := cell_of_row _ _ _ _ _ (0, 0) (heap_alloc_new _ _)
  have hb20 : Below w2.heap.size w2 (w2.alloc (.cells #[.slice B m D] 23)) := (Below.refl _ _).alloc (Nat.le_refl _) _
  have hlt0 : w2.heap.size < (w2.alloc (.cells #[.slice B m D] 23)).heap.size := by simp
  obtain ⟨W0, hW0⟩ : ∃ W0, w2.alloc (.cells #[.slice B m D] 23) = W0 := ⟨_, rfl⟩
  rw [hW0] at hbs hb20 hlt0 ⊢
  clear hW0
  have hbW0 := hb3.trans (hb20.mono hb3.size)
  have l5 : w.heap.size + 1 + 1 + 1 < w2.heap.size := (Array.getElem?_eq_some_iff.1 d5).1
  refine wpIn_rangeFunc_ownH rfl (by omega) (gf := 98) (lb := #[.pointer (some ⟨w2.heap.size, 0, none⟩)]) rfl trivial (enters_of Try.func98 (by kernel_rfl) rfl)
    (back_stops 2 (by omega) w2.heap.size W0.heap.size w W0 B m D ht d.wait h2 hbW0.size hlt0 (Nat.le_refl _) hbW0 hbs) belowK_t (belowK_b (Nat.le_refl _)) (Below.refl _ _) (fun _ => rfl)
    (fun pre W => (∀ x ∈ pre, x.at_ ≠ k) ∧ Below W0.heap.size W0 W)
    (fun c pre W => Found w W0 k (w.heap.size + 1 + 1) (w.heap.size + 1 + 1 + 1) c pre W)
    (OwnFrom.and (fun _ _ _ _ hs _ _ => hs) (ownFrom_below (Nat.le_refl _) (Nat.le_refl _)))
    (fun c => found_own w W0 k _ _ c hbW0.size)
    ⟨by simp, Below.refl _ _⟩
    (fun x a' W => ∃ Bx, W0.heap.size ≤ Bx ∧ W.heap[Bx]? = some (.cells #[.int .i64 x.at_, .slice x.A x.L x.C] 88 (0, 0)) ∧ a' = { tmps := #[.agg #[.slice A n C, .slice B m D, .bool d.dead], .int .i64 k, .pointer (some ⟨w.heap.size, 0, none⟩), .pointer (some ⟨w.heap.size + 1, 0, none⟩), .pointer (some ⟨w.heap.size + 1 + 1, 0, none⟩), .pointer (some ⟨w.heap.size + 1 + 1 + 1, 0, none⟩), .int .i64 0, undef, .pointer (some ⟨Bx, 0, none⟩), .agg #[.slice A n C, .slice B m D, .bool d.dead], .int .i64 k, .int .i64 0, .int .i64 0, .bool false, undef, .pointer (some ⟨w.heap.size, 1, none⟩), .slice B m D, .func (.func 98) #[] #[.pointer (some ⟨w2.heap.size, 0, none⟩)], .int .i64 (x.i : Int), .agg #[.int .i64 x.at_, .slice x.A x.L x.C], undef, undef, undef, undef, undef, undef, undef, undef, undef, undef, undef, undef, undef], defers := [] })
    (fun x a' s X Y row hs hg hr => by
      obtain ⟨Bx, h1, h2, h3⟩ := hs
      refine ⟨Bx, h1, (hg.block Bx (Array.getElem?_eq_some_iff.1 h2).1 (fun e => ?_)).trans h2, h3⟩
      obtain ⟨_, o, ho, hc⟩ := hr Bx e.symm
      rw [h2] at ho
      cases ho
      cases hc)
    ?assign ?body ?done ?stop
  case assign =>
    rintro l pre x W K ⟨hp, hB⟩ hK
    simp only [encE]
    gi_wp2
    exact hK _ _ ((KeepsOthers.alloc _ _).from _) ((Below.refl _ W).alloc hB.size _) ⟨hp, hB.alloc hB.size _⟩ ⟨W.heap.size, hB.size, heap_alloc_new _ _, rfl⟩
  case body =>
    rintro l pre x a' W hl _ ⟨hp, hB⟩ ⟨Bx, hBx, bX, rfl⟩ hlt
    have x0 := cell_of_row _ _ 0 _ _ _ bX
    have x1 := cell_of_row _ _ 1 _ _ _ bX
    have hB2 : Below w2.heap.size w2 W := hb20.trans (hB.mono (Nat.le_of_lt hlt0))
    have g3 := (hB2.cell (p := ⟨w.heap.size + 1, 0, none⟩) (by show w.heap.size + 1 < _; omega)).trans e3
    have d4' := (hB2.block _ (by omega)).trans d4
    have d5' := (hB2.block _ l5).trans d5
    have hBW : Below w.heap.size w W := hb3.trans (hB2.mono hb3.size)
    have cw := whole_calls x.A x.L x.C x.dat W (x.hI.below hBW (Nat.le_refl _)) (by have := x.hI.len; rcases elt_blk P.out x with q | q <;> omega)
    by_cases hk : x.at_ = k
    · have hk1 : (x.at_ == k) = true := by simp [hk]
      have hk' := Lib.hid hk
      clear hk
      gi_wp2_with (refine ⟨trivial, ?_⟩; gi_at_call 64; (with_reducible refine (CallsIn.inRound l (callsIn_wide.2 cw)).mono ?_); rintro e w5 ⟨g, hg, rfl, hgc, hb5⟩; have q4 := (hb5.block _ (Boxed.lt d4')).trans d4'; have q5 := (hb5.block _ (Boxed.lt d5')).trans d5'; have f4 := Boxed.cell q4; have f5 := Boxed.cell q5; have r4 := Boxed.frozen q4; have r5 := Boxed.frozen q5; clear cw)
      have hg4 : g ≠ w.heap.size + 1 + 1 := by have := hBW.size; have := Boxed.lt d4'; omega
      have hg5 : g ≠ w.heap.size + 1 + 1 + 1 := by have := Boxed.lt d5'; omega
      refine ⟨((keepsFrom_of_below _ hb5).trans ((KeepsOthers.setCell _ _ _).from _)).trans ((KeepsOthers.setCell _ _ _).from _), pre, x, g, rfl, rfl, hp, hk'.out, Nat.le_trans hB.size hg, ?_, ?_, ?_, ?_⟩
      · rw [Below.heap_setCell _ _ _ _ hg5, Below.heap_setCell _ _ _ _ hg4]; exact hgc
      · exact (Boxed.set _ q4).other (by omega) _
      · exact Boxed.set _ (Boxed.other q5 (by omega) _)
      · exact ((hBW.trans (hb5.mono hBW.size)).setCell (by show w.heap.size ≤ w.heap.size + 1 + 1; omega) _).setCell (by show w.heap.size ≤ w.heap.size + 1 + 1 + 1; omega) _
    · have hk1 : (x.at_ == k) = false := by simp [hk]
      have hk' := Lib.hid hk
      clear hk cw
      gi_wp2
      exact ⟨KeepsFrom.refl _ _, Below.refl _ _, ⟨fun y hy => (List.mem_append.1 hy).elim (hp y) (fun q => by rw [List.mem_singleton.1 q]; exact hk'.out), hB⟩⟩
  case done =>
    rintro D' ys W hD' hS ⟨hne, hB⟩ hK
    have hB2 : Below w2.heap.size w2 W := hb20.trans (hB.mono (Nat.le_of_lt hlt0))
    have hBW : Below w.heap.size w W := hb3.trans (hB2.mono hb3.size)
    have g0 := (hB2.cell (p := ⟨w.heap.size, 0, none⟩) (by show w.heap.size < _; omega)).trans e0
    have g3 := (hB2.cell (p := ⟨w.heap.size + 1, 0, none⟩) (by show w.heap.size + 1 < _; omega)).trans e3
    have d4' := (hB2.block _ (by omega)).trans d4
    have d5' := (hB2.block _ l5).trans d5
    obtain ⟨b, off, A1, L1, C1, zs, rfl, hlt, _, hls, hcell, hz⟩ := h1.at (i := k.toNat) (by omega)
    have hzb : Blk zs := blk_mem P.out (List.mem_of_getElem? hls)
    have hL : L1 ≤ 128 := by have := hz.len; rcases hzb with q | q <;> omega
    have F : Hid (pad zs = seen d k) := by
      refine Lib.hid ?_
      rw [seen_none hS hne hD.out.2, pad_full hzb]
      unfold lies
      rw [List.getD_eq_getElem?_getD, hls]; rfl
    have gc := (hBW.cell (p := ⟨b, off + k.toNat, none⟩) hlt).trans hcell
    have cw := whole_calls A1 L1 C1 zs W (hz.below hBW (Nat.le_refl _)) hL
    have hz' := Lib.hid hz
    clear hls hz hS hne hcell h1 h2 hv
    gi_wp2_with (refine ⟨trivial, ?_⟩; gi_at_call 64; (with_reducible refine (callsIn_wide.2 cw).mono ?_); rintro e w5 ⟨g, hg, rfl, hgc, hb5⟩; have q4 := (hb5.block _ (Boxed.lt d4')).trans d4'; have q5 := (hb5.block _ (Boxed.lt d5')).trans d5'; have f4 := Boxed.cell q4; have f5 := Boxed.cell q5; have r4 := Boxed.frozen q4; have r5 := Boxed.frozen q5; clear cw)
    have hDl : D' < W.heap.size := (Array.getElem?_eq_some_iff.1 hK).1
    have hK5 := (hb5.block D' hDl).trans hK
    have hK' := (KeepsOthers.setCell _ ⟨w.heap.size + 1 + 1 + 1, 0, none⟩ (.int .i64 0)).same D' _ ((KeepsOthers.setCell w5 ⟨w.heap.size + 1 + 1, 0, none⟩ (.slice (some ⟨g, 0, none⟩) 128 128)).same D' _ hK5 rfl) rfl
    refine ⟨by simp, .inl ⟨_, _, rfl, run_takeDeferred hK', ?_⟩⟩
    have hg4 : g ≠ w.heap.size + 1 + 1 := by have := Boxed.lt d4'; omega
    have hg5 : g ≠ w.heap.size + 1 + 1 + 1 := by have := Boxed.lt d5'; omega
    have s4 := (Boxed.set (.slice (some ⟨g, 0, none⟩) 128 128) q4).other (B' := w.heap.size + 1 + 1 + 1) (by omega) (.int .i64 0)
    have s5 := Boxed.set (.int .i64 0) (Boxed.other (B' := w.heap.size + 1 + 1) q5 (by omega) (.slice (some ⟨g, 0, none⟩) 128 128))
    have c4 := cell_kept (Boxed.cell s4) (grownBy_putObj' _ D' (.deferred none)) (fun r e => by cases e; exact ⟨_, hK', rfl⟩)
    have c5 := cell_kept (Boxed.cell s5) (grownBy_putObj' _ D' (.deferred none)) (fun r e => by cases e; exact ⟨_, hK', rfl⟩)
    have hgD : g ≠ D' := by omega
    have hW5 := ((hBW.trans (hb5.mono hBW.size)).setCell (p := ⟨w.heap.size + 1 + 1, 0, none⟩) (by show w.heap.size ≤ w.heap.size + 1 + 1; omega) (.slice (some ⟨g, 0, none⟩) 128 128)).setCell (p := ⟨w.heap.size + 1 + 1 + 1, 0, none⟩) (by show w.heap.size ≤ w.heap.size + 1 + 1 + 1; omega) (.int .i64 0)
    have hgc' : ((w5.setCell ⟨w.heap.size + 1 + 1, 0, none⟩ (.slice (some ⟨g, 0, none⟩) 128 128)).setCell ⟨w.heap.size + 1 + 1 + 1, 0, none⟩ (.int .i64 0)).heap[g]? = some (.cells (cells (pad zs)) 5 (0, 0)) := by
      rw [Below.heap_setCell _ _ _ _ hg5, Below.heap_setCell _ _ _ _ hg4]; exact hgc
    have hgc2 := ((grownBy_putObj' ((w5.setCell ⟨w.heap.size + 1 + 1, 0, none⟩ (.slice (some ⟨g, 0, none⟩) 128 128)).setCell ⟨w.heap.size + 1 + 1 + 1, 0, none⟩ (.int .i64 0)) D' (.deferred none)).block g (Array.getElem?_eq_some_iff.1 hgc').1 (fun e => hgD (by cases e; rfl))).trans hgc'
    have hF := Fresh.ofCells (K := w.heap.size) (n := 128) (C := 128) hgc2 (pad_len (by rw [hz'.out.len]; exact hL)) (by omega) (pad_bytes (bytes_of hz'.out)) (Nat.le_trans hBW.size hg)
    rw [F.out] at hF
    refine ⟨.tuple #[.slice (some ⟨g, 0, none⟩) 128 128, .int .i64 0], by simp [results, Try.results16, go_sem, c4, c5], _, _, _, rfl, hF, hW5.trans (belowK_b (w := w) (Nat.le_refl _) _ D' _ _ (by have := hbW0.size; omega) hK' rfl rfl)⟩
  case stop =>
    rintro D' c pre W hD' ⟨q, pre2, e2, h21, h22, h23, h24⟩ ⟨pre', e, g, rfl, h31, h32, h33, h34, h35, h36, h37, h38⟩ hK
    obtain ⟨rfl, rfl⟩ : pre2 = pre' ∧ e2 = e := by
      rw [h21] at h31
      have := List.append_inj' h31 rfl
      exact ⟨this.1, by simpa using this.2⟩
    have hF0 := seen_found h24 h32 hD.out.2 h22 h33
    have hzb := elt_blk P.out e2
    have hL : e2.dat.length ≤ 128 := by rcases hzb with q | q <;> omega
    have hgD : g ≠ D' := by
      intro q
      rw [q, hK] at h35
      cases h35
    gi_wp2
    refine ⟨by simp, .inl ⟨_, _, rfl, run_takeDeferred hK, ?_⟩⟩
    have c4 := cell_kept (Boxed.cell h36) (grownBy_putObj' _ D' (.deferred none)) (fun r e => by cases e; exact ⟨_, hK, rfl⟩)
    have c5 := cell_kept (Boxed.cell h37) (grownBy_putObj' _ D' (.deferred none)) (fun r e => by cases e; exact ⟨_, hK, rfl⟩)
    have hgc2 := ((grownBy_putObj' W D' (.deferred none)).block g (Array.getElem?_eq_some_iff.1 h35).1 (fun e => hgD (by cases e; rfl))).trans h35
    have hF := Fresh.ofCells (K := w.heap.size) (n := 128) (C := 128) hgc2 (pad_len hL) (by omega) (pad_bytes (bytes_of e2.hI)) (Nat.le_trans hbW0.size h34)
    rw [pad_full hzb, ← hF0] at hF
    refine ⟨.tuple #[.slice (some ⟨g, 0, none⟩) 128 128, .int .i64 0], by simp [results, Try.results16, go_sem, c4, c5], _, _, _, rfl, hF, h38.trans (belowK_b (w := w) (Nat.le_refl _) _ D' _ _ (by have := hbW0.size; omega) hK rfl rfl)⟩
theorem read_calls (v : Value) (d : Dev) (k : Int) (w : World) (h : DevV w v d) :
    Calls Try.prog 16 #[v, .int .i64 k] w (BytesIs w (useE d k []) (resB (useE d k []) (seen d k))) := by
  by_cases hE : useE d k [] = 0
  · rw [hE, resB_zero]; exact read_yes v d k w h hE
  · rw [resB_not hE]; exact read_no v d k w h hE
end Go.Proofs.Ytldgpkaecfgagaa
