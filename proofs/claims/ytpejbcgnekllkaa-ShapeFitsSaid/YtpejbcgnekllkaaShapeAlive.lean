/- The walks of the laws' own helpers of layer 6: small, alive. -/
import Derived.Test.YtpejbcgnekllkaaShapeCheck
namespace Go.Proofs.Ytpejbcgnekllkaa
open Go.RowKit ShapeM

/-- The chapter's config. -/
def smallC : Cfg := ⟨0, 3, 2, 3, 12, 2⟩
theorem smallC_may : MayC smallC := by decide
set_option maxRecDepth 100000 in
theorem small_calls (w : World) : Calls Try.prog 8 #[] w fun e w' => e = .returned (cfgV smallC) ∧ Below w.heap.size w w' := by
  go_enter Try.func8, Try.ntmps8
  go_wp2
  exact bodyPost_ret (v := cfgV smallC) (by simp [results, Try.results8, cfgV, smallC, go_sem]) rfl ⟨rfl, (Below.refl _ _).alloc (Nat.le_refl _) _⟩

set_option maxRecDepth 100000 in
set_option maxHeartbeats 4000000 in
theorem alive_calls (w : World) : Calls Try.prog 9 #[] w fun e w' => e = .returned (.bool true) ∧ Below w.heap.size w w' := by
  have hb := Below.refl w.heap.size w
  have cs := fun W => small_calls W
  have c1 := fun W => stripes_told smallC W
  have c2 := fun W => blocks_told smallC W
  have c3 := fun W => need_told smallC W
  have c4 := fun W => member_told smallC W
  have c5 := fun W => journal_told smallC W
  simp only [numC_may smallC_may, chkC_may smallC_may, show strC smallC = 6 from rfl, show blkC smallC = 12 from rfl, show smallC.mem + 1 = 4 from rfl, show (6 + 1 : Int) = 7 from rfl, show smallC.log + 1 = 13 from rfl] at c1 c2 c3 c4 c5
  generalize cfgV smallC = v at *
  go_enter Try.func9, Try.ntmps9
  go_wp2_with (first
    | (go_at_call 8; refine (cs _).mono ?_; rintro e w2 ⟨rfl, hb2⟩; replace hb := hb.trans (hb2.mono hb.size); clear hb2)
    | (go_at_call 11; refine (c1 _).mono ?_; rintro e w2 ⟨rfl, hb2⟩; replace hb := hb.trans (hb2.mono hb.size); clear hb2)
    | (go_at_call 12; refine (c2 _).mono ?_; rintro e w2 ⟨rfl, hb2⟩; replace hb := hb.trans (hb2.mono hb.size); clear hb2)
    | (go_at_call 13; refine (c3 _).mono ?_; rintro e w2 ⟨rfl, hb2⟩; replace hb := hb.trans (hb2.mono hb.size); clear hb2)
    | (go_at_call 14; refine (c4 _).mono ?_; rintro e w2 ⟨rfl, hb2⟩; replace hb := hb.trans (hb2.mono hb.size); clear hb2)
    | (go_at_call 15; refine (c5 _).mono ?_; rintro e w2 ⟨rfl, hb2⟩; replace hb := hb.trans (hb2.mono hb.size); clear hb2))
  go_ret
  exact ⟨rfl, hb⟩
end Go.Proofs.Ytpejbcgnekllkaa
