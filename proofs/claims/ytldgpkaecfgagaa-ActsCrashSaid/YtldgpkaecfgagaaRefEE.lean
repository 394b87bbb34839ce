/- What the two power cuts make is the same, as lists. -/
import Derived.Test.YtldgpkaecfgagaaRefED
import Derived.Test.YtldgpkaecfgagaaRefDI
import Derived.Test.YtldgpkaecfgagaaActK
namespace Go.Proofs.Ytldgpkaecfgagaa
open Go.RowKit PolyM PackM FoldM DevM

theorem mem_keptB (l : List ((Int × List Int) × Bool)) : ∀ (bl : List (List Int)), ∀ b ∈ keptB bl l, b ∈ bl ∨ ∃ p ∈ l, b = p.1.2 := by
  induction l with
  | nil => intro bl b hb; exact .inl hb
  | cons p l ih =>
    intro bl b hb
    rcases ih (if p.2 = true then bl.set p.1.1.toNat p.1.2 else bl) b hb with q | ⟨r, hr, e⟩
    · split at q
      · rcases List.mem_or_eq_of_mem_set q with t | t
        · exact .inl t
        · exact .inr ⟨p, List.mem_cons_self, t⟩
      · exact .inl q
    · exact .inr ⟨r, List.mem_cons_of_mem _ hr, e⟩
theorem kept_map : ∀ (wt : List (Int × List Int)) (ms : List Bool) (bl bl' : List (List Int)), bl.map fullD = bl'.map fullD → (keptB bl (wt.zip ms)).map fullD = (keptB bl' ((wt.map fullW).zip ms)).map fullD := by
  intro wt
  induction wt with
  | nil => intro ms bl bl' h; exact h
  | cons x wt ih =>
    intro ms bl bl' h
    cases ms with
    | nil => exact h
    | cons m ms =>
      cases m
      · exact ih ms bl bl' h
      · refine ih ms (bl.set x.1.toNat x.2) (bl'.set x.1.toNat (fullD x.2)) ?_
        rw [List.map_set, List.map_set, h, fullD_twice]
theorem same_cut (d : Dev) (ms : List Bool) : SameD (keptD d ms) (cutD d ms) := ⟨rfl, kept_map _ _ _ _ rfl, rfl⟩
theorem cut_small {d : Dev} (h : MayD d) (ms : List Bool) : SmallD (cutD d ms) := by
  obtain ⟨h1, h2⟩ := may_smallD h
  refine ⟨fun b hb => ?_, fun x hx => absurd hx List.not_mem_nil⟩
  rcases mem_keptB _ _ b hb with q | ⟨p, hp, rfl⟩
  · exact h1 b q
  · obtain ⟨y, hy, e⟩ := List.mem_map.1 (List.of_mem_zip (show (p.1, p.2) ∈ _ from hp)).1
    rw [← e]
    exact fullD_small (h2 y hy) (by omega)
theorem same_cutL : ∀ (ds : List Dev) (bs : List Bool), (∀ d ∈ ds, MayD d) → SameL (crashL ds bs) (cutL ds bs)
  | [], _, _ => ⟨rfl, fun i a b ha => by simp [crashL] at ha⟩
  | d :: ds, bs, h => by
    have ih := same_cutL ds (bs.drop d.wait.length) fun x hx => h x (List.mem_cons_of_mem _ hx)
    refine ⟨by rw [crashL_len, cutL_len], fun i a b ha hb => ?_⟩
    cases i with
    | zero =>
      simp only [crashL, cutL, List.getElem?_cons_zero, Option.some.injEq] at ha hb
      subst ha; subst hb
      exact ⟨may_smallD (keptD_may (h d List.mem_cons_self) _), cut_small (h d List.mem_cons_self) _, same_cut _ _⟩
    | succ i =>
      simp only [crashL, cutL, List.getElem?_cons_succ] at ha hb
      exact ih.2 i a b ha hb
theorem same_crashR (ds : List Dev) (bs : List Bool) : SameL (crashR ds bs) (cutR ds bs) := by
  unfold crashR cutR
  by_cases h : crashE ds bs = 0
  · rw [if_pos h, if_pos h]
    have hM : MayL ds := by
      unfold crashE at h
      by_cases hM : MayL ds
      · exact hM
      · rw [if_pos hM] at h; omega
    exact same_cutL _ _ hM.2.2
  · rw [if_neg h, if_neg h]
    exact SameL.refl fun d hd => absurd hd List.not_mem_nil
end Go.Proofs.Ytldgpkaecfgagaa
