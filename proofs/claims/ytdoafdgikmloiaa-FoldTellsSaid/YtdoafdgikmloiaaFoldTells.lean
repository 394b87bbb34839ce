/- freeboardlaw03.FoldTells: for every input the law answers true, and what is handed in reads as it did. Conditions: none. -/
import Derived.Test.YtdoafdgikmloiaaFoldLaws
namespace Go.Proofs.Ytdoafdgikmloiaa
open Go.ChangeShapes Go.WideShapes Go.ChangeAt Go.RowKit PolyM PackM FoldM
/-- What holds while the answer's bytes are turned. -/
def TellsRel (w1 : World) (g : Nat) (wr : World) : Prop := ∃ zs : List Int, zs.length = 128 ∧ wr.heap[g]? = some (.cells (cells zs) 39 (0, 0)) ∧ Below w1.heap.size w1 wr
theorem TellsRel.next {w1 : World} {g : Nat} {wr : World} (h : TellsRel w1 g wr) (hg : w1.heap.size ≤ g) {k : Nat} (hk : k < 128) : ∃ z, wr.cell? ⟨g, k, none⟩ = some (.int .u8 z) ∧ wr.frozen? ⟨g, k, none⟩ = false ∧ ∀ y, TellsRel w1 g (wr.setCell ⟨g, k, none⟩ (.int .u8 y)) := by
  obtain ⟨zs, h1, h2, h3⟩ := h
  refine ⟨zs.getD k 0, ?_, frozen_of_row _ _ _ _ _ h2, fun y => ⟨zs.set k y, by rw [List.length_set]; exact h1, ?_, h3.setCell hg _⟩⟩
  · rw [cell_of_row _ _ _ _ _ _ h2, cells_getD (by omega)]
  · rw [heap_setCell_same _ _ _ _ _ _ h2, cells_set]
set_option maxHeartbeats 2000000 in
set_option maxRecDepth 100000 in
theorem foldTells_walk (w : World) (a : Option Addr) (na ca : Nat) (hs : List Value) (ls : List (List Int)) (ha : Slab w a na hs ls) (hca : na ≤ ca) :
    Calls Try.prog 4 #[.slice a na ca] w fun e w' => e = .returned (.bool true) ∧ Below w.heap.size w w' := by
  have hm := ha.max
  have cg := great_calls a na ca hs ls w ha
  by_cases hG : Great ls
  · rw [decide_eq_true hG] at cg
    clear hG
    go_enter Try.func4, Try.ntmps4
    go_wp2_with fail
    refine cg.mono ?_
    rintro e w1 ⟨rfl, rfl⟩
    go_wp2
    go_ret
    exact ⟨rfl, Below.refl _ _⟩
  · rw [decide_eq_false hG] at cg
    have ct := twin_calls a na ca hs ls w ha (by have := ha.len; unfold Great at hG; omega) (fun b hb => by
      rcases Nat.lt_or_ge 1000 b.length with q | q
      · exact absurd (.inr ⟨b, hb, q⟩) hG
      · exact q)
    clear hG
    by_cases hc : code ls = 0
    · have hB := foldL_bytes ha.each.bytes
      go_enter Try.func4, Try.ntmps4
      go_wp2_with fail
      refine cg.mono ?_
      rintro e w0 ⟨rfl, rfl⟩
      go_wp2_with fail
      refine ct.mono ?_
      rintro e w1 ⟨A, C, hs', rfl, hS, hb1⟩
      go_wp2_with fail
      refine (fold_ok hS hc).mono ?_
      rintro e w2 ⟨g, hg, rfl, hgc, hb2⟩
      have hb3 := hb1.trans (hb2.mono hb1.size)
      go_wp2_with fail
      refine (rfold_calls _ _ _ _ _ _ (ha.below hb3 (Nat.le_refl _))).mono ?_
      rintro e w3 (⟨-, g2, hg2, rfl, hgc2, hb4⟩ | ⟨q, _⟩)
      case inr => exact absurd hc q
      have t1 := block_text hgc (foldL_len _) hB (Nat.le_refl _) hb4
      have t2 := block_text hgc2 (foldL_len _) hB (Nat.le_refl _) (Below.refl _ _)
      have hgl : g < w2.heap.size := by
        rcases Nat.lt_or_ge g w2.heap.size with q | q
        · exact q
        · rw [Array.getElem?_eq_none q] at hgc; cases hgc
      have T0 : TellsRel w1 g w3 := ⟨_, foldL_len ls, by rw [hb4.block _ hgl]; exact hgc, hb2.trans (hb4.mono hb2.size)⟩
      clear cg ct hgc hgc2 hb3 hb2 hb4 hgl
      go_wp2
      go_loopw [8] (fun i wr => ∃ k : Nat, k ≤ 128 ∧ i = .int .i64 k ∧ TellsRel w1 g wr) (fun i _ => 128 - (intOf i).toNat)
      case atStart => exact ⟨0, by omega, rfl, T0⟩
      case round =>
        obtain ⟨k, hk, rfl, hT⟩ := hrel
        clear T0 t1 t2
        by_cases hkn : k < 128
        · obtain ⟨z, f1, f2, hN⟩ := hT.next hg hkn
          clear hT
          go_wp2
          go_roundw
          case rel => exact ⟨k + 1, by omega, by go_num, hN _⟩
          case measure => simp [intOf]; omega
        · obtain rfl : k = 128 := by omega
          obtain ⟨zs, _, _, hb5⟩ := hT
          have cs := rsame_yes A a na C ca hs' hs ls wr (hS.below hb5 (Nat.le_refl _)) (ha.below (hb1.trans (hb5.mono hb1.size)) (Nat.le_refl _))
          have hb6 := hb1.trans (hb5.mono hb1.size)
          clear hb5 hS
          go_wp2_with fail
          refine cs.mono ?_
          rintro e w4 ⟨rfl, hb7⟩
          clear cs
          go_wp2
          go_ret
          exact ⟨rfl, hb6.trans (hb7.mono hb6.size)⟩
    · have nt := fun W => nil_text W 0
      have hne : (code ls != code ls) = false := by simp
      go_enter Try.func4, Try.ntmps4
      go_wp2_with fail
      refine cg.mono ?_
      rintro e w0 ⟨rfl, rfl⟩
      go_wp2_with fail
      refine ct.mono ?_
      rintro e w1 ⟨A, C, hs', rfl, hS, hb1⟩
      go_wp2_with fail
      refine (fold_no hS hc).mono ?_
      rintro e w2 ⟨rfl, hb2⟩
      have hb3 := hb1.trans (hb2.mono hb1.size)
      go_wp2_with fail
      refine (rfold_calls _ _ _ _ _ _ (ha.below hb3 (Nat.le_refl _))).mono ?_
      rintro e w3 (⟨q, _⟩ | ⟨-, rfl, rfl⟩)
      case inl => exact absurd q hc
      have cs := rsame_yes A a na C ca hs' hs ls w2 (hS.below hb2 (Nat.le_refl _)) (ha.below hb3 (Nat.le_refl _))
      clear cg ct hb2 hS hb1 hc
      go_wp2
      refine wp_loop_rounds 1 ?_
      rw [rounds_succ]
      go_wp2_with fail
      refine cs.mono ?_
      rintro e w4 ⟨rfl, hb7⟩
      clear cs
      go_wp2
      go_ret
      exact ⟨rfl, hb3.trans (hb7.mono hb3.size)⟩

namespace foldTells
set_option linter.unusedVariables false
set_option maxRecDepth 100000 in
theorem lifted (os : Os) (started : os.Started) (H : Type) (enc : TypeId × Value → H) :
    ReturnsInHanded {} Try.checked os 4 .any (Rows.foldTellsSpec.pre6 enc Try.prog Try.f4 Rows.foldTellsRow.domain false) (Rows.foldTellsSpec.post enc Try.prog Try.f4 false true false false) := by
  refine returnsInHanded_of_change (C := Try.checked) Try.own started (by kernel_rfl) Try.func4
    (ChangeSpec.witness6 (enc := enc) (C := Try.checked) false ⟨#[], #[.slice none 0 0], []⟩ 8 (by kernel_rfl) (by kernel_rfl) (by kernel_rfl) (by kernel_rfl)) ?_
  intro W base args ds gs before hval0 hW hcnd _
  have hval : ∀ (j : Nat) t v, Try.f4.params[j]? = some t → args[j]? = some v → Value.okWide Try.prog W .any base t v := hval0
  have hW' := hW
  obtain ⟨p, q, hA0, hV, rfl, hfz, hnd⟩ := hW
  have hA : DataW.TrodAll enc Try.prog W 0 (fun _ => true) true Try.f4.params.toList args.toList ds p := hA0
  rw [Try.params4] at hA hval
  obtain ⟨v0, vs0, d0, ds0, p0, q0, hargs, rfl, rfl, h0, r0⟩ := trodAll_cons hA
  obtain ⟨rfl, rfl, rfl⟩ := trodAll_nil r0
  obtain rfl : args = #[v0] := by cases args; simp_all
  obtain ⟨rfl, rfl⟩ := trodVars_none hV
  obtain ⟨a0, len0, cap0, rfl⟩ := okWide_slice Try.underlying27 (hval 0 27 v0 rfl rfl)
  have k0 := h0
  have lt0 : ∀ x ∈ p0, x.block < W.heap.size := by obtain ⟨m, hm⟩ := k0; exact DataW.trod_lt m _ _ _ hm
  obtain ⟨s0, z0, w0, c0⟩ : ∃ hs ls, Slab W a0 len0 hs ls ∧ len0 ≤ cap0 := by
    obtain ⟨fuel, hf⟩ := h0
    exact open_slab Try.underlying27 Try.underlying22 Try.underlying5 (by kernel_rfl) (by kernel_rfl) hf
  clear hA0 hval0
  refine (foldTells_walk W a0 len0 cap0 s0 z0 w0 c0).mono fun e W' ⟨he, bel⟩ => ?_
  subst he
  exact ⟨_, rfl, _, _, _, [], _, [], hW', trodAll_mk1 (shut_bool Try.underlying4 _), (trodAll_cons_mk (Below.trod Try.laidOut (by kernel_rfl) (of_decide_eq_true (by kernel_rfl)) k0 bel lt0) trodAll_mk0), rfl, bel.frame _, fun h => by cases h⟩

theorem holds : Rows.FoldTellsSaid :=
  OpenClaim.holds_of_wide 4 Try.f4 rfl rfl rfl rfl rfl rfl rfl ⟨rfl, rfl, rfl, rfl, rfl⟩ rfl rfl rfl rfl rfl (by kernel_rfl) Try.func4 (by kernel_rfl)
    (of_decide_eq_true (by kernel_rfl)) (by unfold Func.isWrapper; first | (rw [if_pos (by decide +kernel)]; kernel_rfl) | (rw [if_neg (by decide +kernel)]; exact ⟨rfl, rfl⟩))
    (fun os started H enc _ => lifted os started H enc)
end foldTells
end Go.Proofs.Ytdoafdgikmloiaa
