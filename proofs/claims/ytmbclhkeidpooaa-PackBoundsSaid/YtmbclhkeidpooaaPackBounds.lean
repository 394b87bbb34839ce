/- freeboardlaw02.PackBounds: for every input the law answers true, and what is handed in reads as it did. Conditions: none. -/
import Derived.Test.YtmbclhkeidpooaaPackAlive
namespace Go.Proofs.Ytmbclhkeidpooaa
open Go.ChangeShapes Go.WideShapes Go.ChangeAt Go.RowKit PolyM PackM
set_option maxHeartbeats 4000000 in
theorem packBounds_walk (w : World) (a : Option Addr) (n c : Nat) (zs : List Int) (hi : Ints .u8 w a n zs) (_ : n ≤ c) (p : Int) (wp : (Lit.int .i64 p).wf = true) (s : Int) (ws : (Lit.int .i64 s).wf = true) (v : Int) (wv : (Lit.int .i64 v).wf = true) :
    Calls Try.prog 8 #[.slice a n c, .int .i64 p, .int .i64 s, .int .i64 v] w fun e w' => e = .returned (.bool true) ∧ Below w.heap.size w w' := by
  obtain ⟨v0, v1⟩ := bounds_i64 wv
  obtain ⟨s0, s1⟩ := bounds_i64 ws
  obtain ⟨p0, p1⟩ := bounds_i64 wp
  have hm := hi.max
  by_cases hbig : (1000 : Int) < (n : Int)
  · go_enter Try.func8, Try.ntmps8
    go_wp2_with (go_at_call 11; refine (alive_calls _).mono ?_; rintro e w1 ⟨rfl, hb1⟩)
    go_ret
    exact ⟨rfl, hb1⟩
  by_cases hn : n = 0 ∨ n = 128
  · have hdd : (((n : Int) != 0) = false) ∨ (((n : Int) != 0) = true ∧ ((n : Int) != 128) = false) := by
      rcases hn with h | h
      · left; simp; omega
      · right; exact ⟨by simp; omega, by simp; omega⟩
    by_cases hp : Place p s
    · have hgp := hp
      obtain ⟨q1, q2, q3, q4⟩ := hp
      obtain ⟨P, rfl⟩ := Int.eq_ofNat_of_zero_le q3
      have hs : s = 1 ∨ s = 2 ∨ s = 3 ∨ s = 4 := by omega
      clear wp ws wv
      rcases hs with rfl | rfl | rfl | rfl
      · have hv : (v < 0) ∨ (0 ≤ v ∧ v < 256) ∨ (0 ≤ v ∧ 256 ≤ v) := by omega
        rcases hv with hv | ⟨hv, hv'⟩ | ⟨hv, hv'⟩
        · have c1 := fun W => put_number a n c P 1 v W hn hgp v0 v1 (fun q => by omega)
          have c2 := fun W (hW : Ints .u8 W a n zs) => take_ok a n c zs P 1 W hW hn (by omega) (by omega) (by omega)
          rcases hdd with hdd | ⟨hdd, hdd'⟩
          all_goals
            go_enter Try.func8, Try.ntmps8
            go_wp2_with (first
              | (go_at_call 11; refine (alive_calls _).mono ?_; rintro e w1 ⟨rfl, hb1⟩)
              | (go_at_call 9; refine (c1 _).mono ?_; rintro e w2 ⟨rfl, rfl⟩)
              | (go_at_call 10; refine (c2 _ (hi.below hb1 (Nat.le_refl _))).mono ?_; rintro e w2 ⟨rfl, hb2⟩))
            go_ret
            exact ⟨rfl, hb1.trans (hb2.mono hb1.size)⟩
        · have c1 := fun W (hW : Ints .u8 W a n zs) => put_ok a n c zs P 1 v W hW hn (by omega) (by omega) (by omega) hv (show v < 256 ^ 1 by omega)
          have c2 := fun W (hW : Ints .u8 W a n zs) => take_ok a n c zs P 1 W hW hn (by omega) (by omega) (by omega)
          rcases hdd with hdd | ⟨hdd, hdd'⟩
          all_goals
            go_enter Try.func8, Try.ntmps8
            go_wp2_with (first
              | (go_at_call 11; refine (alive_calls _).mono ?_; rintro e w1 ⟨rfl, hb1⟩)
              | (go_at_call 9; refine (c1 _ (hi.below hb1 (Nat.le_refl _))).mono ?_; rintro e w2 ⟨g, hg, rfl, hgc, hb2⟩; have hb3 := hb1.trans (hb2.mono hb1.size))
              | (go_at_call 10; refine (c2 _ (hi.below hb3 (Nat.le_refl _))).mono ?_; rintro e w4 ⟨rfl, hb4⟩))
            go_ret
            exact ⟨rfl, hb3.trans (hb4.mono hb3.size)⟩
        · have c1 := fun W => put_number a n c P 1 v W hn hgp v0 v1 (fun q => by have := q.2; change v < 256 ^ 1 at this; omega)
          have hv2 : decide (v < 256) = false := by simp; omega
          have c2 := fun W (hW : Ints .u8 W a n zs) => take_ok a n c zs P 1 W hW hn (by omega) (by omega) (by omega)
          rcases hdd with hdd | ⟨hdd, hdd'⟩
          all_goals
            go_enter Try.func8, Try.ntmps8
            go_wp2_with (first
              | (go_at_call 11; refine (alive_calls _).mono ?_; rintro e w1 ⟨rfl, hb1⟩)
              | (go_at_call 9; refine (c1 _).mono ?_; rintro e w2 ⟨rfl, rfl⟩)
              | (go_at_call 10; refine (c2 _ (hi.below hb1 (Nat.le_refl _))).mono ?_; rintro e w2 ⟨rfl, hb2⟩))
            go_ret
            exact ⟨rfl, hb1.trans (hb2.mono hb1.size)⟩
      · have hv : (v < 0) ∨ (0 ≤ v ∧ v < 65536) ∨ (0 ≤ v ∧ 65536 ≤ v) := by omega
        rcases hv with hv | ⟨hv, hv'⟩ | ⟨hv, hv'⟩
        · have c1 := fun W => put_number a n c P 2 v W hn hgp v0 v1 (fun q => by omega)
          have c2 := fun W (hW : Ints .u8 W a n zs) => take_ok a n c zs P 2 W hW hn (by omega) (by omega) (by omega)
          rcases hdd with hdd | ⟨hdd, hdd'⟩
          all_goals
            go_enter Try.func8, Try.ntmps8
            go_wp2_with (first
              | (go_at_call 11; refine (alive_calls _).mono ?_; rintro e w1 ⟨rfl, hb1⟩)
              | (go_at_call 9; refine (c1 _).mono ?_; rintro e w2 ⟨rfl, rfl⟩)
              | (go_at_call 10; refine (c2 _ (hi.below hb1 (Nat.le_refl _))).mono ?_; rintro e w2 ⟨rfl, hb2⟩))
            go_ret
            exact ⟨rfl, hb1.trans (hb2.mono hb1.size)⟩
        · have c1 := fun W (hW : Ints .u8 W a n zs) => put_ok a n c zs P 2 v W hW hn (by omega) (by omega) (by omega) hv (show v < 256 ^ 2 by omega)
          have c2 := fun W (hW : Ints .u8 W a n zs) => take_ok a n c zs P 2 W hW hn (by omega) (by omega) (by omega)
          rcases hdd with hdd | ⟨hdd, hdd'⟩
          all_goals
            go_enter Try.func8, Try.ntmps8
            go_wp2_with (first
              | (go_at_call 11; refine (alive_calls _).mono ?_; rintro e w1 ⟨rfl, hb1⟩)
              | (go_at_call 9; refine (c1 _ (hi.below hb1 (Nat.le_refl _))).mono ?_; rintro e w2 ⟨g, hg, rfl, hgc, hb2⟩; have hb3 := hb1.trans (hb2.mono hb1.size))
              | (go_at_call 10; refine (c2 _ (hi.below hb3 (Nat.le_refl _))).mono ?_; rintro e w4 ⟨rfl, hb4⟩))
            go_ret
            exact ⟨rfl, hb3.trans (hb4.mono hb3.size)⟩
        · have c1 := fun W => put_number a n c P 2 v W hn hgp v0 v1 (fun q => by have := q.2; change v < 256 ^ 2 at this; omega)
          have hv2 : decide (v < 65536) = false := by simp; omega
          have c2 := fun W (hW : Ints .u8 W a n zs) => take_ok a n c zs P 2 W hW hn (by omega) (by omega) (by omega)
          rcases hdd with hdd | ⟨hdd, hdd'⟩
          all_goals
            go_enter Try.func8, Try.ntmps8
            go_wp2_with (first
              | (go_at_call 11; refine (alive_calls _).mono ?_; rintro e w1 ⟨rfl, hb1⟩)
              | (go_at_call 9; refine (c1 _).mono ?_; rintro e w2 ⟨rfl, rfl⟩)
              | (go_at_call 10; refine (c2 _ (hi.below hb1 (Nat.le_refl _))).mono ?_; rintro e w2 ⟨rfl, hb2⟩))
            go_ret
            exact ⟨rfl, hb1.trans (hb2.mono hb1.size)⟩
      · have hv : (v < 0) ∨ (0 ≤ v ∧ v < 16777216) ∨ (0 ≤ v ∧ 16777216 ≤ v) := by omega
        rcases hv with hv | ⟨hv, hv'⟩ | ⟨hv, hv'⟩
        · have c1 := fun W => put_number a n c P 3 v W hn hgp v0 v1 (fun q => by omega)
          have c2 := fun W (hW : Ints .u8 W a n zs) => take_ok a n c zs P 3 W hW hn (by omega) (by omega) (by omega)
          rcases hdd with hdd | ⟨hdd, hdd'⟩
          all_goals
            go_enter Try.func8, Try.ntmps8
            go_wp2_with (first
              | (go_at_call 11; refine (alive_calls _).mono ?_; rintro e w1 ⟨rfl, hb1⟩)
              | (go_at_call 9; refine (c1 _).mono ?_; rintro e w2 ⟨rfl, rfl⟩)
              | (go_at_call 10; refine (c2 _ (hi.below hb1 (Nat.le_refl _))).mono ?_; rintro e w2 ⟨rfl, hb2⟩))
            go_ret
            exact ⟨rfl, hb1.trans (hb2.mono hb1.size)⟩
        · have c1 := fun W (hW : Ints .u8 W a n zs) => put_ok a n c zs P 3 v W hW hn (by omega) (by omega) (by omega) hv (show v < 256 ^ 3 by omega)
          have c2 := fun W (hW : Ints .u8 W a n zs) => take_ok a n c zs P 3 W hW hn (by omega) (by omega) (by omega)
          rcases hdd with hdd | ⟨hdd, hdd'⟩
          all_goals
            go_enter Try.func8, Try.ntmps8
            go_wp2_with (first
              | (go_at_call 11; refine (alive_calls _).mono ?_; rintro e w1 ⟨rfl, hb1⟩)
              | (go_at_call 9; refine (c1 _ (hi.below hb1 (Nat.le_refl _))).mono ?_; rintro e w2 ⟨g, hg, rfl, hgc, hb2⟩; have hb3 := hb1.trans (hb2.mono hb1.size))
              | (go_at_call 10; refine (c2 _ (hi.below hb3 (Nat.le_refl _))).mono ?_; rintro e w4 ⟨rfl, hb4⟩))
            go_ret
            exact ⟨rfl, hb3.trans (hb4.mono hb3.size)⟩
        · have c1 := fun W => put_number a n c P 3 v W hn hgp v0 v1 (fun q => by have := q.2; change v < 256 ^ 3 at this; omega)
          have hv2 : decide (v < 16777216) = false := by simp; omega
          have c2 := fun W (hW : Ints .u8 W a n zs) => take_ok a n c zs P 3 W hW hn (by omega) (by omega) (by omega)
          rcases hdd with hdd | ⟨hdd, hdd'⟩
          all_goals
            go_enter Try.func8, Try.ntmps8
            go_wp2_with (first
              | (go_at_call 11; refine (alive_calls _).mono ?_; rintro e w1 ⟨rfl, hb1⟩)
              | (go_at_call 9; refine (c1 _).mono ?_; rintro e w2 ⟨rfl, rfl⟩)
              | (go_at_call 10; refine (c2 _ (hi.below hb1 (Nat.le_refl _))).mono ?_; rintro e w2 ⟨rfl, hb2⟩))
            go_ret
            exact ⟨rfl, hb1.trans (hb2.mono hb1.size)⟩
      · have hv : (v < 0) ∨ (0 ≤ v ∧ v < 4294967296) ∨ (0 ≤ v ∧ 4294967296 ≤ v) := by omega
        rcases hv with hv | ⟨hv, hv'⟩ | ⟨hv, hv'⟩
        · have c1 := fun W => put_number a n c P 4 v W hn hgp v0 v1 (fun q => by omega)
          have c2 := fun W (hW : Ints .u8 W a n zs) => take_ok a n c zs P 4 W hW hn (by omega) (by omega) (by omega)
          rcases hdd with hdd | ⟨hdd, hdd'⟩
          all_goals
            go_enter Try.func8, Try.ntmps8
            go_wp2_with (first
              | (go_at_call 11; refine (alive_calls _).mono ?_; rintro e w1 ⟨rfl, hb1⟩)
              | (go_at_call 9; refine (c1 _).mono ?_; rintro e w2 ⟨rfl, rfl⟩)
              | (go_at_call 10; refine (c2 _ (hi.below hb1 (Nat.le_refl _))).mono ?_; rintro e w2 ⟨rfl, hb2⟩))
            go_ret
            exact ⟨rfl, hb1.trans (hb2.mono hb1.size)⟩
        · have c1 := fun W (hW : Ints .u8 W a n zs) => put_ok a n c zs P 4 v W hW hn (by omega) (by omega) (by omega) hv (show v < 256 ^ 4 by omega)
          have c2 := fun W (hW : Ints .u8 W a n zs) => take_ok a n c zs P 4 W hW hn (by omega) (by omega) (by omega)
          rcases hdd with hdd | ⟨hdd, hdd'⟩
          all_goals
            go_enter Try.func8, Try.ntmps8
            go_wp2_with (first
              | (go_at_call 11; refine (alive_calls _).mono ?_; rintro e w1 ⟨rfl, hb1⟩)
              | (go_at_call 9; refine (c1 _ (hi.below hb1 (Nat.le_refl _))).mono ?_; rintro e w2 ⟨g, hg, rfl, hgc, hb2⟩; have hb3 := hb1.trans (hb2.mono hb1.size))
              | (go_at_call 10; refine (c2 _ (hi.below hb3 (Nat.le_refl _))).mono ?_; rintro e w4 ⟨rfl, hb4⟩))
            go_ret
            exact ⟨rfl, hb3.trans (hb4.mono hb3.size)⟩
        · have c1 := fun W => put_number a n c P 4 v W hn hgp v0 v1 (fun q => by have := q.2; change v < 256 ^ 4 at this; omega)
          have hv2 : decide (v < 4294967296) = false := by simp; omega
          have c2 := fun W (hW : Ints .u8 W a n zs) => take_ok a n c zs P 4 W hW hn (by omega) (by omega) (by omega)
          rcases hdd with hdd | ⟨hdd, hdd'⟩
          all_goals
            go_enter Try.func8, Try.ntmps8
            go_wp2_with (first
              | (go_at_call 11; refine (alive_calls _).mono ?_; rintro e w1 ⟨rfl, hb1⟩)
              | (go_at_call 9; refine (c1 _).mono ?_; rintro e w2 ⟨rfl, rfl⟩)
              | (go_at_call 10; refine (c2 _ (hi.below hb1 (Nat.le_refl _))).mono ?_; rintro e w2 ⟨rfl, hb2⟩))
            go_ret
            exact ⟨rfl, hb1.trans (hb2.mono hb1.size)⟩
    · have c1 := fun W => put_arg a n c p s v W hn hp
      have c2 := fun W => take_arg a n c p s W hn hp
      have hc : s < 1 ∨ (1 ≤ s ∧ 4 < s) ∨ (1 ≤ s ∧ s ≤ 4 ∧ p < 0) ∨ (1 ≤ s ∧ s ≤ 4 ∧ 0 ≤ p ∧ 128 - s < p) := by unfold Place at hp; omega
      rcases hdd with hdd | ⟨hdd, hdd'⟩
      all_goals
        rcases hc with hc | ⟨g1, hc⟩ | ⟨g1, g2, hc⟩ | ⟨g1, g2, g3, hc⟩
        all_goals
          go_enter Try.func8, Try.ntmps8
          go_wp2_with (first
            | (go_at_call 11; refine (alive_calls _).mono ?_; rintro e w1 ⟨rfl, hb1⟩)
            | (go_at_call 9; refine (c1 _).mono ?_; rintro e w2 ⟨rfl, rfl⟩)
            | (go_at_call 10; refine (c2 _).mono ?_; rintro e w2 ⟨rfl, rfl⟩))
          go_ret
          exact ⟨rfl, hb1⟩
  · have d0 : ((n : Int) != 0) = true := by simp; omega
    have d1 : ((n : Int) != 128) = true := by simp; omega
    have c1 := fun W => put_text a n c p s v W hm (fun q => hn (.inl q)) (fun q => hn (.inr q))
    have c2 := fun W => take_text a n c p s W hm (fun q => hn (.inl q)) (fun q => hn (.inr q))
    clear hn
    go_enter Try.func8, Try.ntmps8
    go_wp2_with (first
      | (go_at_call 11; refine (alive_calls _).mono ?_; rintro e w1 ⟨rfl, hb1⟩)
      | (go_at_call 9; refine (c1 _).mono ?_; rintro e w2 ⟨rfl, rfl⟩)
      | (go_at_call 10; refine (c2 _).mono ?_; rintro e w2 ⟨rfl, rfl⟩))
    go_ret
    exact ⟨rfl, hb1⟩

namespace packBounds
set_option linter.unusedVariables false
set_option maxRecDepth 100000 in
theorem lifted (os : Os) (started : os.Started) (H : Type) (enc : TypeId × Value → H) :
    ReturnsInHanded {} Try.checked os 8 .any (Rows.packBoundsSpec.pre6 enc Try.prog Try.f8 Rows.packBoundsRow.domain false) (Rows.packBoundsSpec.post enc Try.prog Try.f8 false true false false) := by
  refine returnsInHanded_of_change (C := Try.checked) Try.own started (by kernel_rfl) Try.func8
    (ChangeSpec.witness6 (enc := enc) (C := Try.checked) false ⟨#[], #[.slice none 0 0, .int .i64 0, .int .i64 0, .int .i64 0], []⟩ 8 (by kernel_rfl) (by kernel_rfl) (by kernel_rfl) (by kernel_rfl)) ?_
  intro W base args ds gs before hval0 hW hcnd _
  have hval : ∀ (j : Nat) t v, Try.f8.params[j]? = some t → args[j]? = some v → Value.okWide Try.prog W .any base t v := hval0
  have hW' := hW
  obtain ⟨p, q, hA0, hV, rfl, hfz, hnd⟩ := hW
  have hA : DataW.TrodAll enc Try.prog W 0 (fun _ => true) true Try.f8.params.toList args.toList ds p := hA0
  rw [Try.params8] at hA hval
  obtain ⟨v0, vs0, d0, ds0, p0, q0, hargs, rfl, rfl, h0, r0⟩ := trodAll_cons hA
  obtain ⟨v1, vs1, d1, ds1, p1, q1, rfl, rfl, rfl, h1, r1⟩ := trodAll_cons r0
  obtain ⟨v2, vs2, d2, ds2, p2, q2, rfl, rfl, rfl, h2, r2⟩ := trodAll_cons r1
  obtain ⟨v3, vs3, d3, ds3, p3, q3, rfl, rfl, rfl, h3, r3⟩ := trodAll_cons r2
  obtain ⟨rfl, rfl, rfl⟩ := trodAll_nil r3
  obtain rfl : args = #[v0, v1, v2, v3] := by cases args; simp_all
  obtain ⟨rfl, rfl⟩ := trodVars_none hV
  obtain ⟨a0, len0, cap0, rfl⟩ := okWide_slice Try.underlying22 (hval 0 22 v0 rfl rfl)
  have k0 := h0
  have lt0 : ∀ x ∈ p0, x.block < W.heap.size := by obtain ⟨m, hm⟩ := k0; exact DataW.trod_lt m _ _ _ hm
  obtain ⟨z0, w0, c0⟩ : ∃ zs, Ints .u8 W a0 len0 zs ∧ len0 ≤ cap0 := by
    obtain ⟨fuel, hf⟩ := h0
    rcases open_ints Try.underlying22 Try.underlying5 (by kernel_rfl) hf with ⟨hcs, _⟩ | ⟨x, l, c, zs, hcs, _, hl, hm, hz, _, hcell, hwz⟩
    · simp [Value.cells] at hcs
      obtain ⟨rfl, rfl, rfl⟩ := hcs
      exact ⟨[], ⟨rfl, by omega, by simp, .inl rfl⟩, by omega⟩
    · simp [Value.cells] at hcs
      obtain ⟨rfl, rfl, rfl⟩ := hcs
      exact ⟨_, Ints.of_cells hl hm (by simpa using hz) hcell hwz, hl⟩
  obtain ⟨a1, rfl, rfl, rfl, w1⟩ := open_int Try.underlying3 (hval 1 3 v1 rfl rfl) h1
  obtain ⟨a2, rfl, rfl, rfl, w2⟩ := open_int Try.underlying3 (hval 2 3 v2 rfl rfl) h2
  obtain ⟨a3, rfl, rfl, rfl, w3⟩ := open_int Try.underlying3 (hval 3 3 v3 rfl rfl) h3
  clear hA0 hval0
  refine (packBounds_walk W a0 len0 cap0 z0 w0 c0 a1 w1 a2 w2 a3 w3).mono fun e W' ⟨he, bel⟩ => ?_
  subst he
  exact ⟨_, rfl, _, _, _, [], _, [], hW', trodAll_mk1 (shut_bool Try.underlying4 _), (trodAll_cons_mk (Below.trod Try.laidOut (by kernel_rfl) (of_decide_eq_true (by kernel_rfl)) k0 bel lt0) (trodAll_cons_mk (shut_int Try.underlying3 w1) (trodAll_cons_mk (shut_int Try.underlying3 w2) (trodAll_cons_mk (shut_int Try.underlying3 w3) trodAll_mk0)))), rfl, bel.frame _, fun h => by cases h⟩

theorem holds : Rows.PackBoundsSaid :=
  OpenClaim.holds_of_wide 8 Try.f8 rfl rfl rfl rfl rfl rfl rfl ⟨rfl, rfl, rfl, rfl, rfl⟩ rfl rfl rfl rfl rfl (by kernel_rfl) Try.func8 (by kernel_rfl)
    (of_decide_eq_true (by kernel_rfl)) (by unfold Func.isWrapper; first | (rw [if_pos (by decide +kernel)]; kernel_rfl) | (rw [if_neg (by decide +kernel)]; exact ⟨rfl, rfl⟩))
    (fun os started H enc _ => lifted os started H enc)
end packBounds
end Go.Proofs.Ytmbclhkeidpooaa
