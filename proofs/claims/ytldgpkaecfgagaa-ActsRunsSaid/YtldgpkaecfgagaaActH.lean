/- The walk of package acts's Crash. -/
import Derived.Test.YtldgpkaecfgagaaActF
import Derived.Test.YtldgpkaecfgagaaActG
import Derived.Lib.AppendZerosOnto
namespace Go.Proofs.Ytldgpkaecfgagaa
open Go.RowKit Go.WideShapes Go.ChangeShapes PolyM PackM FoldM DevM

theorem bool_info : (Try.prog.info? 4).map (fun i => (i.zero, i.size, i.bytes)) = some (some (.bool false), 1, 1) := by kernel_rfl
theorem zeros_list (k : Nat) : (Builtin.zeroCells (Value.bool false).cells k).toList = List.replicate k (Value.bool false) := by
  apply List.ext_getElem?
  intro i
  simp only [Builtin.zeroCells, Value.cells, Array.toList_map, List.getElem?_map, List.getElem?_replicate]
  by_cases h : i < k
  · simp [h, Nat.mod_one]
  · simp [h]
/-- Marks, and false for all that have none. -/
theorem marks_run (W : World) (a : Option Addr) (nK k : Nat) (bs : List Bool) (hr : Row W 1 a nK (bs.map Value.bool)) (h : nK + k ≤ 1000000) (ty : TypeId) :
    ∃ a' c' W', (Builtin.append_ #[65, 3] ty #[.slice a nK nK, .int .i64 (k : Int)]).run Try.prog W = .ok (.slice a' (nK + k) c') W' ∧ nK + k ≤ c' ∧ Row W' 1 a' (nK + k) ((bs ++ List.replicate k false).map Value.bool) ∧ Below W.heap.size W W' := by
  obtain ⟨i, hi, hz, hs, hb⟩ := info_parts bool_info
  have hlen : bs.length = nK := by have := hr.1; simpa using this
  by_cases hk : k = 0
  · subst hk
    refine ⟨a, nK, W, ?_, Nat.le_refl _, by simpa using hr, Below.refl _ _⟩
    have hw : IntKind.i64.wrap (0 : Int) = 0 := by rw [IntKind.wrap_i64]; omega
    rcases a with _ | a <;> simp [Builtin.append_, run_underlying Try.underlying65, run_underlying Try.underlying3, sizeOf, typeInfo, zeroValue, hi, hz, asInt, asIntOf, hw, storeCells]
  · have hf : (Builtin.firstCells i.size nK (.slice a nK nK)).run Try.prog W.drew = .ok (bs.map Value.bool).toArray W.drew := by
      rw [hs]
      rcases a with _ | ad
      · have : nK = 0 := by
          rcases hr.2 with q | ⟨_, _, q, _⟩
          · exact q
          · cases q
        subst this
        obtain rfl : bs = [] := List.eq_nil_of_length_eq_zero hlen
        rw [run_firstCells_none]; rfl
      · refine run_firstCells_some (w := W.drew) 1 nK ad nK nK (bs.map Value.bool) (by simp [hlen]) fun j v hv => ?_
        rcases hr.2 with q | ⟨b, off, q, _, hc⟩
        · have : bs = [] := List.eq_nil_of_length_eq_zero (by omega)
          subst this
          simp at hv
        · obtain rfl := Option.some.inj q
          rw [add_plain']
          exact hc j v hv
    have hge := grownCap_ge W (nK + k) nK 4
    have hrun := Lib.run_append_grow_zeros (P := Try.prog) W 65 3 ty 4 i (.bool false) .i64 .i64 Try.underlying65 Try.underlying3 hi hz a nK nK _ hf k (by omega) (by omega) (by omega) (by omega) (by rw [hb]; omega) (by rw [hb]; exact growslice_fits (by omega) (by omega))
    refine ⟨_, _, _, hrun, hge, ⟨by simp [hlen], .inr ⟨W.heap.size, 0, rfl, by simp, fun j v hv => ?_⟩⟩, ?_⟩
    · rw [Nat.zero_add]
      refine (cell_of_row _ _ _ _ _ _ (heap_alloc_new W.drew _)).trans ?_
      rw [← Array.getElem?_toList]
      rw [Array.toList_append, Array.toList_append, zeros_list, List.append_assoc]
      rw [List.map_append, List.map_replicate] at hv
      rw [← List.append_assoc, List.getElem?_append_left (by have := (List.getElem?_eq_some_iff.1 hv).1; simpa using this)]
      exact hv
    · exact (show Below W.heap.size W W.drew from (Below.refl _ _).drew).alloc (Nat.le_refl _) _
theorem bool_nn (a : Option Addr) (N c n : Nat) (h : n ≤ c) (W : World) : (Instr.slice 65 (.slice a N c) none (some (.int .i64 (n : Int))) (some (.int .i64 (n : Int)))).run Try.prog W = .ok (.slice a n n) W := by
  rw [run_slice_hm (P := Try.prog) (w := W) 65 a N c (by kernel_rfl) .i64 .i64 (n : Int) (n : Int) (by omega) (Int.le_refl _) (by omega)]
  have hs : (sizeOf (Try.prog.elem 65)).run Try.prog W = .ok 1 W := by kernel_rfl
  rw [hs]
  cases a <;> simp [Result.andThen, sliced, Addr.add]
def fromA (a : Option Addr) (c n : Nat) : Option Addr := if c = n then a else a.map (·.add n)
theorem bool_from (a : Option Addr) (N c n : Nat) (h : n ≤ N) (W : World) : (Instr.slice 65 (.slice a N c) (some (.int .i64 (n : Int))) none none).run Try.prog W = .ok (.slice (fromA a c n) (N - n) (c - n)) W := by
  rw [run_slice_l (P := Try.prog) (w := W) 65 a N c (by kernel_rfl) .i64 (n : Int) (by omega) (by omega)]
  have hs : (sizeOf (Try.prog.elem 65)).run Try.prog W = .ok 1 W := by kernel_rfl
  rw [hs]
  simp [Result.andThen, sliced, fromA]
theorem Row.from {w : World} {a : Option Addr} {N c n : Nat} {xs : List Value} (h : Row w 1 a N xs) (hn : n ≤ N) (hc : N ≤ c) : Row w 1 (fromA a c n) (N - n) (xs.drop n) := by
  refine ⟨by rw [List.length_drop, h.1]; omega, ?_⟩
  by_cases h0 : N - n = 0
  · exact .inl h0
  · rcases h.2 with q | ⟨b, off, rfl, hlt, hcell⟩
    · omega
    · refine .inr ⟨b, off + n, ?_, hlt, fun i v hv => ?_⟩
      · unfold fromA
        rw [if_neg (by omega)]
        show some (Addr.add _ n) = _
        rw [add_plain']
      · rw [List.getElem?_drop] at hv
        rw [Nat.add_assoc]
        exact hcell _ v hv
theorem Row.upto {w : World} {a : Option Addr} {N n : Nat} {xs : List Value} (h : Row w 1 a N xs) (hn : n ≤ N) : Row w 1 a n (xs.take n) := by
  refine ⟨by rw [List.length_take, h.1]; omega, ?_⟩
  rcases h.2 with q | ⟨b, off, e, hlt, hcell⟩
  · exact .inl (by omega)
  · refine .inr ⟨b, off, e, hlt, fun i v hv => hcell i v ?_⟩
    rw [List.getElem?_take] at hv
    split at hv
    · exact hv
    · cases hv

/-- Devices behind a power cut. -/
def crashL : List Dev → List Bool → List Dev
  | [], _ => []
  | d :: ds, bs => keptD d (bs.take d.wait.length) :: crashL ds (bs.drop d.wait.length)
theorem crashL_len : ∀ (ds : List Dev) (bs : List Bool), (crashL ds bs).length = ds.length
  | [], _ => rfl
  | d :: ds, bs => by simp only [crashL, List.length_cons, crashL_len ds]
theorem crashL_snoc : ∀ (l : List Dev) (d : Dev) (bs : List Bool), crashL (l ++ [d]) bs = crashL l bs ++ [keptD d ((bs.drop (manyL l)).take d.wait.length)]
  | [], d, bs => by simp [crashL, manyL]
  | e :: l, d, bs => by
    simp only [List.cons_append, crashL, crashL_snoc l d]
    rw [List.drop_drop]
    simp [manyL]
theorem keptD_may {d : Dev} (h : MayD d) (bs : List Bool) : MayD (keptD d bs) := by
  obtain ⟨h1, h2, h3, h4, h5, h6⟩ := h
  have hm : ∀ (l : List ((Int × List Int) × Bool)) (bl : List (List Int)), (∀ b ∈ bl, Blk b ∧ (d.dead = true → b.length = 0)) → (∀ p ∈ l, p.1 ∈ d.wait) → ∀ b ∈ keptB bl l, Blk b ∧ (d.dead = true → b.length = 0) := by
    intro l
    induction l with
    | nil => intro bl hb _ b q; exact hb b q
    | cons p l ih =>
      intro bl hb hp b hbm
      have hpw := hp p List.mem_cons_self
      refine ih (if p.2 = true then bl.set p.1.1.toNat p.1.2 else bl) (fun b' hb' => ?_) (fun q hq => hp q (List.mem_cons_of_mem _ hq)) b hbm
      split at hb'
      · rcases List.mem_or_eq_of_mem_set hb' with q | q
        · exact hb b' q
        · rw [q]
          refine ⟨(h6 _ hpw).2.2, fun hd => ?_⟩
          have := h4 hd
          rw [List.length_eq_zero_iff.1 this] at hpw
          exact absurd hpw List.not_mem_nil
      · exact hb b' hb'
  refine ⟨by show 1 ≤ (keptB _ _).length; rw [keptB_len]; exact h1, by show (keptB _ _).length ≤ 256; rw [keptB_len]; exact h2, by simp [keptD], by simp [keptD], hm _ _ h5 (fun p hp => ?_), fun x hx => absurd hx List.not_mem_nil⟩
  exact (List.of_mem_zip (show (p.1, p.2) ∈ _ from hp)).1
def crashE (ds : List Dev) (bs : List Bool) : Int := if ¬ MayL ds then 8 else if manyL ds < bs.length then 2 else 0
def crashR (ds : List Dev) (bs : List Bool) : List Dev := if crashE ds bs = 0 then crashL ds (bs ++ List.replicate (manyL ds - bs.length) false) else []

/-- Another device of the row stays where one's row of blocks has turned. -/
theorem DevN.grownHdr {K : Nat} {w w' : World} {v : Value} {d : Dev} {A : Option Addr} {n C base : Nat} {hs0 : List Value} (h : DevN K w v d) (hg : w.grownBy w' (Value.slice A n C).ownBlock) (own : w.ownsRow base 29 1 (.slice A n C) n hs0)
    (hx : ∀ A1 n1 C1 y z, v = .agg #[.slice A1 n1 C1, y, z] → ∀ q, (Value.slice A1 n1 C1).ownBlock = some q → (Value.slice A n C).ownBlock ≠ some q) : DevN K w' v d := by
  obtain ⟨A1, n1, C1, hs, B, m, D, ht, rfl, o1, o2, h1, h2, g1, g2, m1, m2⟩ := h
  have kind : ∀ (b : Nat) (cs : Array Value), w.heap[b]? = some (.cells cs 5 (0, 0)) → some b ≠ (Value.slice A n C).ownBlock := fun b cs hb => own_kind own hb (by decide)
  exact ⟨A1, n1, C1, hs, B, m, D, ht, rfl, own_grown o1 hg fun q hq e => hx A1 n1 C1 _ _ rfl q hq e.symm, own_grown o2 hg fun q hq e => own_apart o2 own (by decide) hq e.symm, h1.grownH hg (g1.off kind), h2.grownH hg (g2.off kind), g1.grown hg kind, g2.grown hg kind, m1, m2⟩
theorem OutK.kept {K g n C j : Nat} {W w9 : World} {hs : List Value} {cur : List Dev} {d' : Dev} {A B : Option Addr} {l C' m D : Nat} {dd : Bool} (h : OutK n K W g n C hs cur) (hj : j < n) (hcl : cur.length = n) (q0 : hs[j * 3]? = some (.slice A l C')) (_q1 : hs[j * 3 + 1]? = some (.slice B m D)) (q2 : hs[j * 3 + 2]? = some (.bool dd)) (hg : W.grownBy w9 (Value.slice A l C').ownBlock) (hN : DevN K w9 (.agg #[.slice A l C', .slice none 0 0, .bool dd]) d') (hdd : dd = d'.dead) :
    OutK n K (((w9.setCell ⟨g, j * 3, none⟩ (.slice A l C')).setCell ⟨g, j * 3 + 1, none⟩ (.slice none 0 0)).setCell ⟨g, j * 3 + 2, none⟩ (.bool dd)) g n C (hs.set (j * 3 + 1) (.slice none 0 0)) (cur.set j d') := by
  subst hdd
  obtain ⟨A0, n0, C0, B0, m0, D0, p0, p1, p2, pN⟩ := h.each j _ hj (List.getElem?_eq_getElem (by omega))
  rw [q0] at p0
  cases p0
  obtain ⟨hs0, own0⟩ : ∃ hs0, W.ownsRow K 29 1 (.slice A l C') l hs0 := by
    obtain ⟨A1, n1, C1, hs1, _, _, _, _, e, o1, _⟩ := pN
    simp only [Value.agg.injEq, Array.mk.injEq, List.cons.injEq, Value.slice.injEq, and_true] at e
    obtain ⟨⟨rfl, rfl, rfl⟩, _⟩ := e
    exact ⟨hs1, o1⟩
  have r5 : Row3 K w9 g n C hs := ⟨own_grown h.own hg fun q hq e => own_apart h.own own0 (by decide) hq e.symm, h.nob⟩
  have r6 := ((r5.set (o := j * 3) (u := .slice A l C') (by intro q; simp)).set (o := j * 3 + 1) (u := .slice none 0 0) (by intro q; simp)).set (o := j * 3 + 2) (u := .bool d'.dead) (by intro q; simp)
  have hlen : j * 3 + 2 < hs.length := by have := h.own.1; omega
  rw [set_same q0, set_same (show (hs.set (j * 3 + 1) (.slice none 0 0))[j * 3 + 2]? = some (.bool d'.dead) by rw [List.getElem?_set, if_neg (by omega)]; exact q2)] at r6
  have hx : ∀ q, (Value.slice A l C') ≠ .int .u8 q := by intro q; simp
  have hy : ∀ q, (Value.slice none 0 0) ≠ .int .u8 q := by intro q; simp
  refine ⟨r6.own, fun i d hi hd => ?_, fun i i' hi hi' hne x y hx' hy' => ?_, r6.nob⟩
  · by_cases e : j = i
    · subst e
      rw [List.getElem?_set, if_pos rfl, if_pos (by omega)] at hd
      injection hd with hd
      subst hd
      exact ⟨A, l, C', none, 0, 0, by rw [List.getElem?_set, if_neg (by omega)]; exact q0, by rw [List.getElem?_set, if_pos rfl, if_pos (by omega)], by rw [List.getElem?_set, if_neg (by omega)]; exact q2, r5.dev3 hj hx hy hN⟩
    · rw [List.getElem?_set, if_neg e] at hd
      obtain ⟨A1, n1, C1, B1, m1, D1, t0, t1, t2, tN⟩ := h.each i d hi hd
      refine ⟨A1, n1, C1, B1, m1, D1, by rw [List.getElem?_set, if_neg (by omega)]; exact t0, by rw [List.getElem?_set, if_neg (by omega)]; exact t1, by rw [List.getElem?_set, if_neg (by omega)]; exact t2, r5.dev3 hj hx hy (tN.grownHdr hg own0 fun A2 n2 C2 y z e2 q hq => ?_)⟩
      simp only [Value.agg.injEq, Array.mk.injEq, List.cons.injEq, Value.slice.injEq, and_true] at e2
      obtain ⟨⟨rfl, rfl, rfl⟩, _⟩ := e2
      exact h.sep i j hi hj (fun e3 => e e3.symm) _ _ t0 q0 q hq
  · rw [List.getElem?_set, if_neg (by omega)] at hx' hy'
    exact h.sep i i' hi hi' hne x y hx' hy'

theorem OutK.keptCells {K g n C j : Nat} {W w9 : World} {hs : List Value} {cur : List Dev} {A : Option Addr} {l C' : Nat} (h : OutK n K W g n C hs cur) (hj : j < n) (hcl : cur.length = n) (q0 : hs[j * 3]? = some (.slice A l C')) (hg : W.grownBy w9 (Value.slice A l C').ownBlock) :
    ∃ u0 u1 u2, w9.cell? ⟨g, j * 3, none⟩ = some u0 ∧ w9.cell? ⟨g, j * 3 + 1, none⟩ = some u1 ∧ w9.cell? ⟨g, j * 3 + 2, none⟩ = some u2 ∧ w9.frozen? ⟨g, j * 3, none⟩ = false ∧ w9.frozen? ⟨g, j * 3 + 1, none⟩ = false ∧ w9.frozen? ⟨g, j * 3 + 2, none⟩ = false := by
  obtain ⟨A0, n0, C0, B0, m0, D0, p0, p1, p2, pN⟩ := h.each j _ hj (List.getElem?_eq_getElem (by omega))
  rw [q0] at p0
  cases p0
  obtain ⟨hs0, own0⟩ : ∃ hs0, W.ownsRow K 29 1 (.slice A l C') l hs0 := by
    obtain ⟨A1, n1, C1, hs1, _, _, _, _, e, o1, _⟩ := pN
    simp only [Value.agg.injEq, Array.mk.injEq, List.cons.injEq, Value.slice.injEq, and_true] at e
    obtain ⟨⟨rfl, rfl, rfl⟩, _⟩ := e
    exact ⟨hs1, o1⟩
  have own := own_grown h.own hg fun q hq e => own_apart h.own own0 (by decide) hq e.symm
  have rl := own.1
  have x0 := own_cell (k := j * 3) own (List.getElem?_eq_getElem (by omega))
  have x1 := own_cell (k := j * 3 + 1) own (List.getElem?_eq_getElem (by omega))
  have x2 := own_cell (k := j * 3 + 2) own (List.getElem?_eq_getElem (by omega))
  exact ⟨_, _, _, x0.1, x1.1, x2.1, x0.2, x1.2, x2.2⟩
set_option maxRecDepth 100000 in
set_option maxHeartbeats 8000000 in
theorem crash_calls (a : Option Addr) (n c : Nat) (hs : List Value) (ds : List Dev) (aK : Option Addr) (nK cK : Nat) (bs : List Bool) (w : World) (h : DSlab w a n hs ds) (hk : Row w 1 aK nK (bs.map Value.bool)) (hc : nK ≤ cK) (hm : nK ≤ 9223372036854775807) :
    Calls Try.prog 45 #[.slice a n c, .slice aK nK cK] w (ListIs w (crashE ds bs) (crashR ds bs)) := by
  have cc := actwaits_calls a n c hs ds w h
  have hbl : bs.length = nK := by have := hk.1; simpa using this
  by_cases hM : MayL ds
  · rw [if_pos hM, show chkL ds = 0 from if_pos hM] at cc
    have hW : manyL ds ≤ 17408 := by
      have t1 := manyL_le (l := ds) fun x hx => (hM.2.2 x hx).2.2.1
      have := hM.2.1
      omega
    by_cases hlt : manyL ds < bs.length
    · have E : crashE ds bs = 2 := (if_neg (fun q => q hM)).trans (if_pos hlt)
      rw [show crashR ds bs = [] from if_neg (by rw [E]; omega), E]
      have d1 : decide (manyL ds < nK) = true := decide_eq_true (by omega)
      clear h hk hM hlt E hbl
      generalize manyL ds = M at *
      go_enter Try.func45, Try.ntmps45
      go_wp2_with fail
      (with_reducible refine cc.mono ?_)
      rintro e w2 ⟨rfl, hb2⟩
      go_wp2
      go_ret2
      exact ListIs.none _ hb2
    · have E : crashE ds bs = 0 := (if_neg (fun q => q hM)).trans (if_neg hlt)
      rw [show crashR ds bs = _ from if_pos E, E]
      obtain ⟨k, hMk⟩ : ∃ k, manyL ds = nK + k := ⟨manyL ds - nK, by omega⟩
      have ht := fun W (hW : Below w.heap.size w W) => twins_calls a n c hs ds W (h.below hW (Nat.le_refl _)) hM
      have hbs' : (bs ++ List.replicate (manyL ds - bs.length) false) = bs ++ List.replicate k false := by rw [show manyL ds - bs.length = k by omega]
      rw [hbs']
      have hn17 : n ≤ 17 := by have := h.len; have := hM.2.1; omega
      have HM := Lib.hid hM
      have hl2 := Lib.hid h.len
      have HMk := Lib.hid hMk
      rw [hMk] at cc
      have d1 : decide ((nK : Int) + (k : Int) < (nK : Int)) = false := decide_eq_false (by omega)
      have d2 : decide (nK + k < nK) = false := decide_eq_false (by omega)
      have ek : ((nK : Int) + (k : Int) - (nK : Int)) = (k : Int) := by omega
      have hs1 := bool_nn aK nK cK nK hc
      have HR := Lib.hid hk
      have hsz : nK + k ≤ 17408 := by omega
      clear h hk hM hlt E hbl hbs' hMk hW
      go_enter Try.func45, Try.ntmps45
      go_wp2_with fail
      (with_reducible refine cc.mono ?_)
      rintro e w2 ⟨rfl, hb2⟩
      have hmk := marks_run w2 aK nK k bs (HR.out.below hb2 (Nat.le_refl _)) (by omega) 65
      obtain ⟨aM, cM, wT, hrun, hcM, hrow, hbT⟩ := hmk
      clear cc
      go_wp2_with (at_builtin; refine Lib.wpList_append_run _ rfl _ _ _ _ rfl _ _ rfl rfl (.slice aM (nK + k) cM) wT hrun ?_)
      clear hrun hs1
      have hBT := hb2.trans (hbT.mono hb2.size)
      generalize hbsd : bs ++ List.replicate k false = bs' at *
      have HROW := Lib.hid hrow
      clear hb2 hbT hrow
      go_wp2_with fail
      (with_reducible refine (ht _ hBT).mono ?_)
      rintro e w3 ⟨hs3, rfl, hO3, hb3⟩
      have hI3 := Lib.hid (And.intro hO3 hb3)
      clear ht hO3 hb3
      go_wp2
      go_loopw [8, 40] (fun s8 i wr => ∃ (j : Nat) (hs' : List Value) (cur : List Dev) (a8 : Option Addr) (n8 c8 : Nat), j ≤ n ∧ i = .int .i64 j ∧ s8 = .slice a8 n8 c8 ∧ n8 ≤ c8 ∧ n8 + manyL (ds.take j) = nK + k ∧ Hid (Row wT 1 a8 n8 ((bs'.drop (manyL (ds.take j))).map Value.bool)) ∧ OutK n wT.heap.size wr wT.heap.size n n hs' cur ∧ Hid (cur = crashL (ds.take j) bs' ++ ds.drop j) ∧ Below wT.heap.size wT wr) (fun _ i _ => n - (intOf i).toNat)
      case atStart => exact ⟨0, hs3, ds, aM, nK + k, cM, by omega, rfl, rfl, hcM, by simp [manyL], Lib.hid (by have q := HROW.out; simpa [manyL] using q), hI3.out.1, Lib.hid (by simp [crashL]), hI3.out.2⟩
      case round =>
        obtain ⟨j, hs', cur, a8, n8, c8, hj, rfl, rfl, hc8, hn8, HR8, hO, HC, hB⟩ := hrel
        clear hI3 HROW
        by_cases hjn : j < n
        · have hcl : cur.length = n := by
            rw [HC.out, List.length_append, crashL_len, List.length_take, List.length_drop]
            have := hl2.out
            omega
          obtain ⟨d, hd⟩ : ∃ d, ds[j]? = some d := ⟨_, List.getElem?_eq_getElem (by have := hl2.out; omega)⟩
          have hcd : cur[j]? = some d := by
            rw [HC.out, List.getElem?_append_right (by rw [crashL_len, List.length_take]; have := hl2.out; omega), crashL_len, List.length_take, show j - min j ds.length = 0 by have := hl2.out; omega, List.getElem?_drop]
            exact hd
          obtain ⟨A, l, C, B, m, D, q0, q1, q2, hN⟩ := hO.each j d hjn hcd
          have hwm := (dev_wait hN.devV).1
          have E1 := Lib.hid (show manyL (ds.take (j + 1)) = manyL (ds.take j) + m by rw [take_snocL hd, manyL_snoc, hwm])
          have hle : manyL (ds.take j) + m ≤ nK + k := by
            rw [← E1.out, ← HMk.out]
            have t := manyL_app (ds.take (j + 1)) (ds.drop (j + 1))
            rw [List.take_append_drop] at t
            omega
          have hm8 : m ≤ n8 := by omega
          have hMd := HM.out.2.2 d (List.mem_of_getElem? hd)
          have hjn1 : (j : Int) < (n : Int) := by omega
          have g0 := own_cell hO.own q0
          have g1 := own_cell hO.own q1
          have g2 := own_cell hO.own q2
          obtain ⟨g0, z0⟩ := g0
          obtain ⟨g1, z1⟩ := g1
          obtain ⟨g2, z2⟩ := g2
          have hlg := hO.lt.1
          have hba : Below wr.heap.size wr (wr.alloc (.cells #[.slice A l C, .slice B m D, .bool d.dead] 25)) := (Below.refl _ _).alloc (Nat.le_refl _) _
          have bx := BoxD.new wr (.slice A l C) (.slice B m D) (.bool d.dead)
          have hlt4 : wr.heap.size < (wr.alloc (.cells #[.slice A l C, .slice B m D, .bool d.dead] 25)).heap.size := by simp
          have OA := Lib.hid (hO.below hba)
          have cd := fun W (hW : Below wr.heap.size wr W) => kept_calls A l C B m D d.dead d wT W a8 m m ((bs'.drop (manyL (ds.take j))).take m) (hN.below hW) (hB.trans (hW.mono hB.size)) hMd (by rw [List.map_take]; exact HR8.out.upto hm8) rfl
          have hsl1 := bool_nn a8 n8 c8 m (by omega)
          have hsl2 := bool_from a8 n8 c8 m hm8
          have HR9 := Lib.hid (show Row wT 1 (fromA a8 c8 m) (n8 - m) ((bs'.drop (manyL (ds.take (j + 1)))).map Value.bool) by
            have := HR8.out.from hm8 hc8
            rw [← List.map_drop, List.drop_drop] at this
            rw [E1.out]; exact this)
          have HC9 := Lib.hid (show cur.set j (keptD d ((bs'.drop (manyL (ds.take j))).take m)) = crashL (ds.take (j + 1)) bs' ++ ds.drop (j + 1) by
            have hdr : ds.drop j = d :: ds.drop (j + 1) := by
              have hj0 : j < ds.length := (List.getElem?_eq_some_iff.1 hd).1
              rw [List.drop_eq_getElem_cons hj0]
              rw [List.getElem?_eq_getElem hj0] at hd
              injection hd with hd
              rw [hd]
            rw [HC.out, hdr, take_snocL hd, crashL_snoc, hwm, List.append_assoc]
            have hl3 : (crashL (ds.take j) bs').length = j := by rw [crashL_len, List.length_take]; have := hl2.out; omega
            rw [List.set_append_right _ _ (by omega), hl3, Nat.sub_self]
            rfl)
          have hn9 : n8 - m + manyL (ds.take (j + 1)) = nK + k := by rw [E1.out]; omega
          have hKD := Lib.hid (show (keptD d ((bs'.drop (manyL (ds.take j))).take m)).dead = d.dead from rfl)
          have R3 := Lib.hid (And.intro q0 (And.intro q1 q2))
          have HLT := Lib.hid (show some wr.heap.size ≠ (Value.slice A l C).ownBlock by
            intro e
            obtain ⟨A1, n1, C1, hs1, _, _, _, _, e1, o1, _⟩ := hN
            simp only [Value.agg.injEq, Array.mk.injEq, List.cons.injEq, Value.slice.injEq, and_true] at e1
            obtain ⟨⟨rfl, rfl, rfl⟩, _⟩ := e1
            have := (own_lt o1 e.symm).1
            omega)
          have hne : wr.heap.size ≠ wT.heap.size := by omega
          generalize keptD d ((bs'.drop (manyL (ds.take j))).take m) = kd at *
          generalize (bs'.drop (manyL (ds.take j))).take m = bs8 at *
          clear hN hd hcd hwm E1 hle hMd hO HR8 HC q0 q1 q2 hn8
          generalize d.dead = dd at *
          go_upto_region 12 with fail
          generalize hw4 : wr.alloc (.cells #[.slice A l C, .slice B m D, .bool dd] 25) = w4 at *
          have b0 := bx.c0
          have b1 := bx.c1
          have b2 := bx.c2
          go_cut [] (fun wx => ∃ hs2, OutK n wT.heap.size wx wT.heap.size n n hs2 (cur.set j kd) ∧ Below wT.heap.size wT wx)
          case first =>
            refine wp_region_held_drew (S := (fun W => W.cell? ⟨wr.heap.size, 0, none⟩ = some (.slice A l C) ∧ W.cell? ⟨wr.heap.size, 1, none⟩ = some (.slice B m D) ∧ W.cell? ⟨wr.heap.size, 2, none⟩ = some (.bool dd))) (by kernel_rfl) ?_ (fun hHeld => ?_)
            · first | exact hHeld | exact ⟨b0, b1, b2⟩ | exact ⟨x9.c0, x9.c1, x9.c2⟩ | exact ⟨(cell3_far hne).trans x9.c0, (cell3_far hne).trans x9.c1, (cell3_far hne).trans x9.c2⟩
            refine wpAnyH_take (i := 0) (v := ?_) rfl (by kernel_rfl) (by kernel_rfl) (by kernel_rfl) (fun _ _ _ h => h) (Or.inl ⟨by rfl, ?_⟩) hHeld ?_
            rotate_left
            · (intro w hSw; (try dsimp only at hSw); go_simp; try with_reducible rfl)
            try simp only [Act.put, List.getElem_toArray, List.getElem_cons_zero, List.setIfInBounds_toArray, List.set_cons_zero, List.set_cons_succ]
            refine wpAnyH_take (i := 1) (v := ?_) rfl (by kernel_rfl) (by kernel_rfl) (by kernel_rfl) (fun _ _ _ h => h) (Or.inl ⟨by rfl, ?_⟩) hHeld ?_
            rotate_left
            · (intro w hSw; (try dsimp only at hSw); go_simp; try with_reducible rfl)
            try simp only [Act.put, List.getElem_toArray, List.getElem_cons_zero, List.getElem_cons_succ, List.setIfInBounds_toArray, List.set_cons_zero, List.set_cons_succ]
            refine wpAnyH_take (i := 2) (v := ?_) rfl (by kernel_rfl) (by kernel_rfl) (by kernel_rfl) (fun _ _ _ h => h) (Or.inl ⟨by rfl, ?_⟩) hHeld ?_
            rotate_left
            · (intro w hSw; (try dsimp only at hSw); go_simp; try with_reducible rfl)
            try simp only [Act.put, List.getElem_toArray, List.getElem_cons_zero, List.getElem_cons_succ, List.setIfInBounds_toArray, List.set_cons_zero, List.set_cons_succ]
            refine wpAnyH_take (i := 3) (v := ?_) rfl (by kernel_rfl) (by kernel_rfl) (by kernel_rfl) (fun _ _ _ h => h) (Or.inl ⟨by rfl, ?_⟩) hHeld ?_
            rotate_left
            · (intro w hSw; (try dsimp only at hSw); go_simp; try with_reducible rfl)
            try simp only [Act.put, List.getElem_toArray, List.getElem_cons_zero, List.getElem_cons_succ, List.setIfInBounds_toArray, List.set_cons_zero, List.set_cons_succ]
            refine wpAnyH_take (i := 4) (v := ?_) rfl (by kernel_rfl) (by kernel_rfl) (by kernel_rfl) (fun _ _ _ h => h) (Or.inl ⟨by rfl, ?_⟩) hHeld ?_
            rotate_left
            · (intro w hSw; (try dsimp only at hSw); go_simp; try with_reducible rfl)
            try simp only [Act.put, List.getElem_toArray, List.getElem_cons_zero, List.getElem_cons_succ, List.setIfInBounds_toArray, List.set_cons_zero, List.set_cons_succ]
            refine wpAnyH_take (i := 5) (v := ?_) rfl (by kernel_rfl) (by kernel_rfl) (by kernel_rfl) (fun _ _ _ h => h) (Or.inl ⟨by rfl, ?_⟩) hHeld ?_
            rotate_left
            · (intro w hSw; (try dsimp only at hSw); go_simp; try with_reducible rfl)
            try simp only [Act.put, List.getElem_toArray, List.getElem_cons_zero, List.getElem_cons_succ, List.setIfInBounds_toArray, List.set_cons_zero, List.set_cons_succ]
            refine wpAnyH_ready (rs := [6]) (by kernel_rfl) (by simp) ?_
            refine AllReadyH.cons rfl (fun K hK => ?_) AllReadyH.nil
            go_simp
            refine hK.out _ _ ?_ (fun hHeld2 => ?_)
            · first | exact hHeld | exact ⟨b0, b1, b2⟩ | exact ⟨x9.c0, x9.c1, x9.c2⟩ | exact ⟨(cell3_far hne).trans x9.c0, (cell3_far hne).trans x9.c1, (cell3_far hne).trans x9.c2⟩
            clear hK K hHeld
            have hHeld := hHeld2
            clear hHeld2
            try simp only [Act.put, List.setIfInBounds_toArray, List.set_cons_zero, List.set_cons_succ]
            refine wpAnyH_ready (rs := [7]) (by kernel_rfl) (by simp) ?_
            refine AllReadyH.cons rfl (fun K hK => ?_) AllReadyH.nil
            go_simp
            (with_reducible refine (cd _ (hba.trans ((Below.refl _ _).drew.mono hba.size))).mono ?_)
            rintro e w9 ⟨rfl, hN9, hg9, hB9⟩
            have hg9' : w4.grownBy w9 (Value.slice A l C).ownBlock := ⟨hg9.os, hg9.tape, hg9.output, hg9.size, hg9.block⟩
            have HK := Lib.hid (OA.out.kept hjn hcl R3.out.1 R3.out.2.1 R3.out.2.2 hg9' hN9 hKD.out.symm)
            have HB := Lib.hid (below_set3 (g := wT.heap.size) (o1 := j * 3) (o2 := j * 3 + 1) (o3 := j * 3 + 2) (x := .slice A l C) (y := .slice none 0 0) (z := .bool dd) hB9 (Nat.le_refl _))
            have x9 := bx.grown hg9' HLT.out
            obtain ⟨u0, u1, u2, t0, t1, t2, t3, t4, t5⟩ := OA.out.keptCells hjn hcl R3.out.1 hg9'
            clear hg9 hg9' hN9
            go_wp2_with fail
            refine hK.out _ _ ?_ (fun hHeld2 => ?_)
            · first | exact hHeld | exact ⟨b0, b1, b2⟩ | exact ⟨x9.c0, x9.c1, x9.c2⟩ | exact ⟨(cell3_far hne).trans x9.c0, (cell3_far hne).trans x9.c1, (cell3_far hne).trans x9.c2⟩
            clear hK K hHeld
            have hHeld := hHeld2
            clear hHeld2
            try simp only [Act.put, List.setIfInBounds_toArray, List.set_cons_zero, List.set_cons_succ]
            refine wpAnyH_ready (rs := [8]) (by kernel_rfl) (by simp) ?_
            refine AllReadyH.cons rfl (fun K hK => ?_) AllReadyH.nil
            go_simp
            refine hK.out _ _ ?_ (fun hHeld2 => ?_)
            · first | exact hHeld | exact ⟨b0, b1, b2⟩ | exact ⟨x9.c0, x9.c1, x9.c2⟩ | exact ⟨(cell3_far hne).trans x9.c0, (cell3_far hne).trans x9.c1, (cell3_far hne).trans x9.c2⟩
            clear hK K hHeld
            have hHeld := hHeld2
            clear hHeld2
            try simp only [Act.put, List.setIfInBounds_toArray, List.set_cons_zero, List.set_cons_succ]
            refine wpAnyH_ready (rs := [9]) (by kernel_rfl) (by simp) ?_
            refine AllReadyH.cons rfl (fun K hK => ?_) AllReadyH.nil
            go_simp
            refine hK.out _ _ ?_ (fun hHeld2 => ?_)
            · first | exact hHeld | exact ⟨b0, b1, b2⟩ | exact ⟨x9.c0, x9.c1, x9.c2⟩ | exact ⟨(cell3_far hne).trans x9.c0, (cell3_far hne).trans x9.c1, (cell3_far hne).trans x9.c2⟩
            clear hK K hHeld
            have hHeld := hHeld2
            clear hHeld2
            try simp only [Act.put, List.setIfInBounds_toArray, List.set_cons_zero, List.set_cons_succ]
            refine wpAnyH_done (by kernel_rfl) ?_ _
            clear hHeld
            go_wp2_with fail
            go_meet
            case rel => exact ⟨_, HK.out, HB.out⟩
          case rest =>
            obtain ⟨hs2, hO2, hB2⟩ := hcut
            have HO2 := Lib.hid hO2
            clear hO2 OA R3 cd bx b0 b1 b2 g0 g1 g2 z0 z1 z2 hba
            go_wp2
            go_roundw
            case rel => exact ⟨j + 1, hs2, _, _, _, _, by omega, by go_num, rfl, by omega, hn9, HR9, HO2.out, HC9, hB2⟩
            case measure => simp [intOf]; omega
        · obtain rfl : n = j := by omega
          have HR := Lib.hid (show cur = crashL ds bs' by
            rw [HC.out, List.take_of_length_le (by have := hl2.out; omega), List.drop_of_length_le (by have := hl2.out; omega), List.append_nil])
          have hcl : cur.length = n := by rw [HR.out, crashL_len]; exact hl2.out
          have hTs := hBT.size
          go_wp2
          go_ret2
          rw [← HR.out]
          exact ⟨_, rfl, .inr ⟨_, n, n, hs', rfl, hO.mono hTs, hcl, hn17⟩, hBT.trans (hB.mono hTs)⟩
  · rw [if_neg hM, show chkL ds = 8 from if_neg hM] at cc
    have E : crashE ds bs = 8 := if_pos hM
    rw [show crashR ds bs = [] from if_neg (by rw [E]; omega), E]
    clear h hk hM E hbl
    go_enter Try.func45, Try.ntmps45
    go_wp2_with fail
    (with_reducible refine cc.mono ?_)
    rintro e w2 ⟨rfl, hb2⟩
    go_wp2
    go_ret2
    exact ListIs.none _ hb2
end Go.Proofs.Ytldgpkaecfgagaa
