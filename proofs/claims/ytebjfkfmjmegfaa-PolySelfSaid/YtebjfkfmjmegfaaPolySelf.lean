/- freeboardlaw01.PolySelf: for every input the law answers true, and what is handed in reads as it did. Conditions: none. -/
import Derived.Test.YtebjfkfmjmegfaaPolyAlive
namespace Go.Proofs.Ytebjfkfmjmegfaa
open Go.ChangeShapes Go.WideShapes Go.ChangeAt Go.RowKit PolyM
/-- How 'own' ends: four bytes in new memory. -/
def OwnEnd (zs : List Int) (w : World) (e : Ending) (w' : World) : Prop :=
  ∃ A, e = .returned (.slice A 4 4) ∧ Ints .u8 w' A 4 [overI 0 zs % 256, overI 0 zs / 256 % 256, overI 0 zs / 65536 % 256, overI 0 zs / 16777216] ∧ Below w.heap.size w w'
theorem own_calls (w : World) (a : Option Addr) (n c : Nat) (zs : List Int) (h : Ints .u8 w a n zs) : Calls Try.prog 15 #[.slice a n c] w (OwnEnd zs w) := by
  have r := overI_in 0 zs
  generalize hq : overI 0 zs = q at *
  have Q := Lib.hid hq
  clear hq
  have hi : ∀ (W : World) t fr, Ints .u8 (W.alloc (.cells #[.int .u8 (q % 256), .int .u8 (q / 256 % 256), .int .u8 (q / 65536 % 256), .int .u8 (q / 16777216)] t fr)) (some ⟨W.heap.size, 0, none⟩) 4 [q % 256, q / 256 % 256, q / 65536 % 256, q / 16777216] :=
    fun W t fr => Ints.lit _ [q % 256, q / 256 % 256, q / 65536 % 256, q / 16777216] rfl (by simp) (by
      intro z hz
      simp only [List.mem_cons, List.not_mem_nil, or_false] at hz
      rcases hz with rfl | rfl | rfl | rfl <;> exact WalkArith.wf_u8 (by omega))
  go_enter Try.func15, Try.ntmps15
  go_wp2_with (go_at_call 11; refine (sum_calls _ _ _ zs _ h).mono ?_; rw [Q.out]; rintro e w1 ⟨rfl, hb1⟩)
  go_ret
  exact ⟨_, rfl, by rw [Q.out]; exact hi _ _ _, hb1.alloc hb1.size _⟩

theorem polySelf_walk (w : World) (a : Option Addr) (n c : Nat) (xs : List Int) (h : Ints .u8 w a n xs) (_ : n ≤ c) (b : Option Addr) (m d : Nat) (ys : List Int) (k : Ints .u8 w b m ys) (_ : m ≤ d) :
    Calls Try.prog 8 #[.slice a n c, .slice b m d] w fun e w' => e = .returned (.bool true) ∧ Below w.heap.size w w' := by
  have hmax := h.max
  have kmax := k.max
  have r0 := overI_in 0 xs
  have r1 := overI_in 0 ys
  by_cases hn : (10000 : Int) < (n : Int)
  · go_enter Try.func8, Try.ntmps8
    go_wp2_with (go_at_call 10; refine (alive_calls _).mono ?_; rintro e w1 ⟨rfl, hb1⟩)
    go_ret
    exact ⟨rfl, hb1⟩
  by_cases hm : (10000 : Int) < (m : Int)
  · go_enter Try.func8, Try.ntmps8
    go_wp2_with (go_at_call 10; refine (alive_calls _).mono ?_; rintro e w1 ⟨rfl, hb1⟩)
    go_ret
    exact ⟨rfl, hb1⟩
  have he : (overI (overI 0 xs) [overI 0 xs % 256, overI 0 xs / 256 % 256, overI 0 xs / 65536 % 256, overI 0 xs / 16777216] == overI (overI 0 ys) [overI 0 ys % 256, overI 0 ys / 256 % 256, overI 0 ys / 65536 % 256, overI 0 ys / 16777216]) = true := by
    rw [overI_self _ r0.1 r0.2, overI_self _ r1.1 r1.2]
    exact beq_self_eq_true _
  go_enter Try.func8, Try.ntmps8
  go_wp2_with (go_at_call 10; refine (alive_calls _).mono ?_; rintro e w1 ⟨rfl, hb1⟩)
  refine (sum_calls _ _ _ _ _ (h.below hb1 (Nat.le_refl _))).mono ?_
  rintro e w2 ⟨rfl, hb2⟩
  have g2 := hb1.trans (hb2.mono hb1.size)
  go_wp2_with fail
  refine (own_calls _ _ _ _ _ (h.below g2 (Nat.le_refl _))).mono ?_
  rintro e w3 ⟨A, rfl, o3, hb3⟩
  have g3 := g2.trans (hb3.mono g2.size)
  go_wp2_with fail
  refine (over_calls _ _ _ _ _ _ r0.1 r0.2 o3).mono ?_
  rintro e w4 ⟨rfl, hb4⟩
  have g4 := g3.trans (hb4.mono g3.size)
  go_wp2_with fail
  refine (sum_calls _ _ _ _ _ (k.below g4 (Nat.le_refl _))).mono ?_
  rintro e w5 ⟨rfl, hb5⟩
  have g5 := g4.trans (hb5.mono g4.size)
  go_wp2_with fail
  refine (own_calls _ _ _ _ _ (k.below g5 (Nat.le_refl _))).mono ?_
  rintro e w6 ⟨B, rfl, o6, hb6⟩
  have g6 := g5.trans (hb6.mono g5.size)
  go_wp2_with fail
  refine (over_calls _ _ _ _ _ _ r1.1 r1.2 o6).mono ?_
  rintro e w7 ⟨rfl, hb7⟩
  have g7 := g6.trans (hb7.mono g6.size)
  go_wp2_with fail
  go_ret
  exact ⟨rfl, g7⟩

namespace polySelf
set_option linter.unusedVariables false
set_option maxRecDepth 100000 in
theorem lifted (os : Os) (started : os.Started) (H : Type) (enc : TypeId × Value → H) :
    ReturnsInHanded {} Try.checked os 8 .any (Rows.polySelfSpec.pre6 enc Try.prog Try.f8 Rows.polySelfRow.domain false) (Rows.polySelfSpec.post enc Try.prog Try.f8 false true false false) := by
  refine returnsInHanded_of_change (C := Try.checked) Try.own started (by kernel_rfl) Try.func8
    (ChangeSpec.witness6 (enc := enc) (C := Try.checked) false ⟨#[], #[.slice none 0 0, .slice none 0 0], []⟩ 8 (by kernel_rfl) (by kernel_rfl) (by kernel_rfl) (by kernel_rfl)) ?_
  intro W base args ds gs before hval0 hW hcnd _
  have hval : ∀ (j : Nat) t v, Try.f8.params[j]? = some t → args[j]? = some v → Value.okWide Try.prog W .any base t v := hval0
  have hW' := hW
  obtain ⟨p, q, hA0, hV, rfl, hfz, hnd⟩ := hW
  have hA : DataW.TrodAll enc Try.prog W 0 (fun _ => true) true Try.f8.params.toList args.toList ds p := hA0
  rw [Try.params8] at hA hval
  obtain ⟨v0, vs0, d0, ds0, p0, q0, hargs, rfl, rfl, h0, r0⟩ := trodAll_cons hA
  obtain ⟨v1, vs1, d1, ds1, p1, q1, rfl, rfl, rfl, h1, r1⟩ := trodAll_cons r0
  obtain ⟨rfl, rfl, rfl⟩ := trodAll_nil r1
  obtain rfl : args = #[v0, v1] := by cases args; simp_all
  obtain ⟨rfl, rfl⟩ := trodVars_none hV
  obtain ⟨a0, len0, cap0, rfl⟩ := okWide_slice Try.underlying26 (hval 0 26 v0 rfl rfl)
  have k0 := h0
  have lt0 : ∀ x ∈ p0, x.block < W.heap.size := by obtain ⟨m, hm⟩ := k0; exact DataW.trod_lt m _ _ _ hm
  obtain ⟨z0, w0, c0⟩ : ∃ zs, Ints .u8 W a0 len0 zs ∧ len0 ≤ cap0 := by
    obtain ⟨fuel, hf⟩ := h0
    rcases open_ints Try.underlying26 Try.underlying5 (by kernel_rfl) hf with ⟨hcs, _⟩ | ⟨x, l, c, zs, hcs, _, hl, hm, hz, _, hcell, hwz⟩
    · simp [Value.cells] at hcs
      obtain ⟨rfl, rfl, rfl⟩ := hcs
      exact ⟨[], ⟨rfl, by omega, by simp, .inl rfl⟩, by omega⟩
    · simp [Value.cells] at hcs
      obtain ⟨rfl, rfl, rfl⟩ := hcs
      exact ⟨_, Ints.of_cells hl hm (by simpa using hz) hcell hwz, hl⟩
  obtain ⟨a1, len1, cap1, rfl⟩ := okWide_slice Try.underlying26 (hval 1 26 v1 rfl rfl)
  have k1 := h1
  have lt1 : ∀ x ∈ p1, x.block < W.heap.size := by obtain ⟨m, hm⟩ := k1; exact DataW.trod_lt m _ _ _ hm
  obtain ⟨z1, w1, c1⟩ : ∃ zs, Ints .u8 W a1 len1 zs ∧ len1 ≤ cap1 := by
    obtain ⟨fuel, hf⟩ := h1
    rcases open_ints Try.underlying26 Try.underlying5 (by kernel_rfl) hf with ⟨hcs, _⟩ | ⟨x, l, c, zs, hcs, _, hl, hm, hz, _, hcell, hwz⟩
    · simp [Value.cells] at hcs
      obtain ⟨rfl, rfl, rfl⟩ := hcs
      exact ⟨[], ⟨rfl, by omega, by simp, .inl rfl⟩, by omega⟩
    · simp [Value.cells] at hcs
      obtain ⟨rfl, rfl, rfl⟩ := hcs
      exact ⟨_, Ints.of_cells hl hm (by simpa using hz) hcell hwz, hl⟩
  clear hA0 hval0
  refine (polySelf_walk W a0 len0 cap0 z0 w0 c0 a1 len1 cap1 z1 w1 c1).mono fun e W' ⟨he, bel⟩ => ?_
  subst he
  exact ⟨_, rfl, _, _, _, [], _, [], hW', trodAll_mk1 (shut_bool Try.underlying4 _), (trodAll_cons_mk (Below.trod Try.laidOut (by kernel_rfl) (of_decide_eq_true (by kernel_rfl)) k0 bel lt0) (trodAll_cons_mk (Below.trod Try.laidOut (by kernel_rfl) (of_decide_eq_true (by kernel_rfl)) k1 bel lt1) trodAll_mk0)), rfl, bel.frame _, fun h => by cases h⟩

theorem holds : Rows.PolySelfSaid :=
  OpenClaim.holds_of_wide 8 Try.f8 rfl rfl rfl rfl rfl rfl rfl ⟨rfl, rfl, rfl, rfl, rfl⟩ rfl rfl rfl rfl rfl (by kernel_rfl) Try.func8 (by kernel_rfl)
    (of_decide_eq_true (by kernel_rfl)) (by unfold Func.isWrapper; first | (rw [if_pos (by decide +kernel)]; kernel_rfl) | (rw [if_neg (by decide +kernel)]; exact ⟨rfl, rfl⟩))
    (fun os started H enc _ => lifted os started H enc)
end polySelf
end Go.Proofs.Ytebjfkfmjmegfaa
