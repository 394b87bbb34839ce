/- freeboardlaw09.LabelReads: for every input the law answers true, and what is handed in reads as it did. Conditions: none. -/
import Derived.Test.YtdljondmlooeaaaLabelSays
import Derived.Test.YtdljondmlooeaaaLabelRefC
namespace Go.Proofs.Ytdljondmlooeaaa
open Go.ChangeShapes Go.WideShapes Go.ChangeAt Go.RowKit PolyM PackM ShapeM SealM LabelM
set_option linter.unusedVariables false
set_option maxRecDepth 100000 in
set_option maxHeartbeats 4000000 in
theorem reads_gen (a : Option Addr) (n c : Nat) (zs : List Int) (hI0 : ∀ W, Ints .u8 W a n zs → True) (cs : Array Value) (hcs : cs.size = 10) (hc1 : cs.all (·.oneCell') = true) (E : Int) (w : World) (hI : Ints .u8 w a n zs) (hn : n ≤ 1000)
    (kr : ∀ (A : Option Addr) (C : Nat) (W : World), Ints .u8 W A n zs → Calls Try.prog 12 #[.slice A n C] W fun e w' => e = .returned (.tuple #[.agg cs, .int .i64 E]) ∧ Below W.heap.size W w')
    (kd : ∀ (A : Option Addr) (C : Nat) (W : World), Ints .u8 W A n zs → Calls Try.prog 17 #[.slice A n C] W fun e w' => e = .returned (.tuple #[.agg cs, .int .i64 E]) ∧ Below W.heap.size W w')
    (he : ∀ W, (binOp .eql 28 (.agg cs) (.agg cs)).run Try.prog W = .ok (.bool true) W) : Calls Try.prog 5 #[.slice a n c] w fun e w' => e = .returned (.bool true) ∧ Below w.heap.size w w' := by
  obtain ⟨i0, hi0, hz0, hz1, hz2⟩ := u8_inf
  have hi10 := (zero_of_info label_size).2
  have hlen := hI.len
  have ra := hI.toRow
  have hbx := bytes_of hI
  have hw63 := hI.wf
  go_enter Try.func5, Try.ntmps5
  go_upto_region 4 with (at_builtin; refine wpList_append_row _ rfl (.const (.slice none 0 0)) (.tmp 11) _ rfl w.heap.size 5 i0 _ 1 1 Try.underlying22 hi0 hz0 hz1 hz2 rfl (by omega) (.slice none 0 0) 0 [] rfl (World.ownsRow_nil _ _ _ _) a n c _ rfl ra (by simp [Value.oneCell']) (by simp only [maxLen]; omega) (by omega) (Nat.le_refl _) ?_; intro v2 w2 own2 hg2 _; have hb := (Below.refl w.heap.size w).grown hg2 (Nat.le_refl _) (by simp [Value.ownBlock]); obtain ⟨A2, C2, rfl, hA2, ro2, _⟩ := own_form own2; have I2 : Ints .u8 w2 A2 (0 + n) zs := Ints.ofRow (by simpa using ro2) (by omega) hw63)
  rw [Nat.zero_add] at I2
  have I1 := hI.below hb (Nat.le_refl _)
  clear ra ro2 own2 hg2 hI hA2
  go_upto_region 5 with (first
    | (go_at_call 12; (with_reducible refine (kr _ _ _ I2).mono ?_); rintro e w3 ⟨rfl, hb3⟩)
    | refine wpList_store_row rfl 28 _ _ rfl w3.heap.size cs rfl rfl _ _ (BlkAt.new w3 _ _) (by rw [hi10, hcs]) (by rw [hcs]; rfl) hc1 ?_)
  have X : BlkAt _ w3.heap.size cs 28 := setRow_heap (w3.alloc (.cells #[.int .u32 0, .int .u32 0, .int .i64 0, .int .i64 0, .int .i64 0, .int .i64 0, .int .i64 0, .int .i64 0, .int .i64 0, .bool false] 28)) w3.heap.size _ cs 28 (0, 0) (BlkAt.new w3 _ _)
  have hs3 : w3.heap.size ≤ (w3.alloc (.cells #[.int .u32 0, .int .u32 0, .int .i64 0, .int .i64 0, .int .i64 0, .int .i64 0, .int .i64 0, .int .i64 0, .int .i64 0, .bool false] 28)).heap.size := by rw [World.size_alloc]; omega
  have hb4 : Below w3.heap.size w3 ((w3.alloc (.cells #[.int .u32 0, .int .u32 0, .int .i64 0, .int .i64 0, .int .i64 0, .int .i64 0, .int .i64 0, .int .i64 0, .int .i64 0, .bool false] 28)).setRow w3.heap.size cs) := below_setRow ((Below.refl _ _).alloc (Nat.le_refl _) _) (Nat.le_refl _) _
  replace I1 := (I1.below hb3 (Nat.le_refl _)).below hb4 (Nat.le_refl _)
  replace I2 := (I2.below hb3 (Nat.le_refl _)).below hb4 (Nat.le_refl _)
  replace hb := (hb.trans (hb3.mono hb.size)).trans (hb4.mono (Nat.le_trans hb.size hb3.size))
  clear hb3 hb4 hs3
  generalize World.setRow _ _ _ = v4 at *
  generalize w3.heap.size = t at *
  go_upto_region 6 with (first
    | (go_at_call 17; (with_reducible refine (kd _ _ _ I1).mono ?_); rintro e w5 ⟨rfl, hb5⟩)
    | refine wpList_store_row rfl 28 _ _ rfl w5.heap.size cs rfl rfl _ _ (BlkAt.new w5 _ _) (by rw [hi10, hcs]) (by rw [hcs]; rfl) hc1 ?_)
  have Y : BlkAt _ w5.heap.size cs 28 := setRow_heap (w5.alloc (.cells #[.int .u32 0, .int .u32 0, .int .i64 0, .int .i64 0, .int .i64 0, .int .i64 0, .int .i64 0, .int .i64 0, .int .i64 0, .bool false] 28)) w5.heap.size _ cs 28 (0, 0) (BlkAt.new w5 _ _)
  have hb6 : Below w5.heap.size w5 ((w5.alloc (.cells #[.int .u32 0, .int .u32 0, .int .i64 0, .int .i64 0, .int .i64 0, .int .i64 0, .int .i64 0, .int .i64 0, .int .i64 0, .bool false] 28)).setRow w5.heap.size cs) := below_setRow ((Below.refl _ _).alloc (Nat.le_refl _) _) (Nat.le_refl _) _
  replace I1 := (I1.below hb5 (Nat.le_refl _)).below hb6 (Nat.le_refl _)
  replace I2 := (I2.below hb5 (Nat.le_refl _)).below hb6 (Nat.le_refl _)
  replace X := (X.below hb5 (Nat.le_refl _)).below hb6 (Nat.le_refl _)
  replace hb := (hb.trans (hb5.mono hb.size)).trans (hb6.mono (Nat.le_trans hb.size hb5.size))
  clear hb5 hb6
  generalize World.setRow _ _ _ = v6 at *
  generalize w5.heap.size = s at *
  have t1 := I1.text (P := Try.prog) (c := c) Try.underlying22 Try.underlying5 Try.underlying9
  have t2 := I2.text (P := Try.prog) (c := C2) Try.underlying22 Try.underlying5 Try.underlying9
  go_wp2_with (first
    | refine wpList_load_row rfl 28 _ rfl t rfl _ _ _ _ X Try.underlying28 rfl (by rw [hi10, hcs]) ?_
    | refine wpList_load_row rfl 28 _ rfl s rfl _ _ _ _ Y Try.underlying28 rfl (by rw [hi10, hcs]) ?_)
  go_ret
  exact ⟨rfl, hb⟩
theorem labelReads_walk (w : World) (a : Option Addr) (n c : Nat) (zs : List Int) (hI : Ints .u8 w a n zs) (_ : n ≤ c) : Calls Try.prog 5 #[.slice a n c] w fun e w' => e = .returned (.bool true) ∧ Below w.heap.size w w' := by
  by_cases hn : (n : Int) ≤ 1000
  · refine reads_gen a n c zs (fun _ _ => trivial) (labA (rdL n zs)) rfl (by simp [labA, Value.oneCell']) (rdE n zs) w hI (by omega) (fun A C W h => labRead_any A n C zs W h) (fun A C W h => ?_) (fun W => by unfold labA; rw [lab_eql]; simp)
    unfold rdL rdE
    by_cases q : n = 0 ∨ n = 128
    · rw [if_pos q, if_pos q]
      exact labReadR A n C zs W h q
    · rw [if_neg q, if_neg q]
      exact labReadR_text A n C h.max (fun r => q (.inl r)) (fun r => q (.inr r)) W
  · have hm := hI.max
    have hd : (1000 : Int) < n := by omega
    go_enter Try.func5, Try.ntmps5
    go_wp2
    go_ret
    exact ⟨rfl, Below.refl _ _⟩


namespace labelReads
set_option linter.unusedVariables false
set_option maxRecDepth 100000 in
theorem lifted (os : Os) (started : os.Started) (H : Type) (enc : TypeId × Value → H) :
    ReturnsInHanded {} Try.checked os 5 .any (Rows.labelReadsSpec.pre6 enc Try.prog Try.f5 Rows.labelReadsRow.domain false) (Rows.labelReadsSpec.post enc Try.prog Try.f5 false true false false) := by
  refine returnsInHanded_of_change (C := Try.checked) Try.own started (by kernel_rfl) Try.func5
    (ChangeSpec.witness6 (enc := enc) (C := Try.checked) false ⟨#[], #[.slice none 0 0], []⟩ 8 (by kernel_rfl) (by kernel_rfl) (by kernel_rfl) (by kernel_rfl)) ?_
  intro W base args ds gs before hval0 hW hcnd _
  have hval : ∀ (j : Nat) t v, Try.f5.params[j]? = some t → args[j]? = some v → Value.okWide Try.prog W .any base t v := hval0
  have hW' := hW
  obtain ⟨p, q, hA0, hV, rfl, hfz, hnd⟩ := hW
  have hA : DataW.TrodAll enc Try.prog W 0 (fun _ => true) true Try.f5.params.toList args.toList ds p := hA0
  rw [Try.params5] at hA hval
  obtain ⟨v0, vs0, d0, ds0, p0, q0, hargs, rfl, rfl, h0, r0⟩ := trodAll_cons hA
  obtain ⟨rfl, rfl, rfl⟩ := trodAll_nil r0
  obtain rfl : args = #[v0] := by cases args; simp_all
  obtain ⟨rfl, rfl⟩ := trodVars_none hV
  obtain ⟨a0, len0, cap0, rfl⟩ := okWide_slice Try.underlying22 (hval 0 22 v0 rfl rfl)
  have k0 := h0
  have lt0 : ∀ x ∈ p0, x.block < W.heap.size := by obtain ⟨m, hm⟩ := k0; exact DataW.trod_lt m _ _ _ hm
  obtain ⟨z0, w0, c0⟩ : ∃ zs, Ints .u8 W a0 len0 zs ∧ len0 ≤ cap0 := by
    obtain ⟨fuel, hf⟩ := h0
    rcases open_ints Try.underlying22 Try.underlying5 (by kernel_rfl) hf with ⟨hcs, _⟩ | ⟨x, l, c, zs, hcs, _, hl, hm, hz, _, hcell, hwz⟩
    · simp [Value.cells] at hcs
      obtain ⟨rfl, rfl, rfl⟩ := hcs
      exact ⟨[], ⟨rfl, by omega, by simp, .inl rfl⟩, by omega⟩
    · simp [Value.cells] at hcs
      obtain ⟨rfl, rfl, rfl⟩ := hcs
      exact ⟨_, Ints.of_cells hl hm (by simpa using hz) hcell hwz, hl⟩
  clear hA0 hval0
  refine (labelReads_walk W a0 len0 cap0 z0 w0 c0).mono fun e W' ⟨he, bel⟩ => ?_
  subst he
  exact ⟨_, rfl, _, _, _, [], _, [], hW', trodAll_mk1 (shut_bool Try.underlying4 _), (trodAll_cons_mk (Below.trod Try.laidOut (by kernel_rfl) (of_decide_eq_true (by kernel_rfl)) k0 bel lt0) trodAll_mk0), rfl, bel.frame _, fun h => by cases h⟩

theorem holds : Rows.LabelReadsSaid :=
  OpenClaim.holds_of_wide 5 Try.f5 rfl rfl rfl rfl rfl rfl rfl ⟨rfl, rfl, rfl, rfl, rfl⟩ rfl rfl rfl rfl rfl (by kernel_rfl) Try.func5 (by kernel_rfl)
    (of_decide_eq_true (by kernel_rfl)) (by unfold Func.isWrapper; first | (rw [if_pos (by decide +kernel)]; kernel_rfl) | (rw [if_neg (by decide +kernel)]; exact ⟨rfl, rfl⟩))
    (fun os started H enc _ => lifted os started H enc)
end labelReads
end Go.Proofs.Ytdljondmlooeaaa
