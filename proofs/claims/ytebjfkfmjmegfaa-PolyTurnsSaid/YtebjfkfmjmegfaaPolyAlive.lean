/- The walk of the law's own test that the program is there. -/
import Derived.Test.YtebjfkfmjmegfaaPolyWalk
import Derived.Lib.SlBytesConst
namespace Go.Proofs.Ytebjfkfmjmegfaa
open Go.RowKit PolyM

theorem Ints.lit {k : IntKind} {w : World} {t : TypeId} {fr : Nat × Nat} (vs : Array Value) (zs : List Int) (hv : vs.toList = zs.map (Value.int k)) (hm : zs.length ≤ 9223372036854775807) (hw : ∀ z ∈ zs, (Lit.int k z).wf = true) :
    Ints k (w.alloc (.cells vs t fr)) (some ⟨w.heap.size, 0, none⟩) zs.length zs := by
  refine ⟨rfl, hm, hw, .inr ⟨w.heap.size, 0, rfl, by simp, fun i hi => ?_⟩⟩
  rw [World.cell?_alloc_mark, Nat.zero_add, ← Array.getElem?_toList, hv, List.getElem?_map, List.getElem?_eq_getElem hi, List.getD_eq_getElem?_getD, List.getElem?_eq_getElem hi]
  rfl

theorem alive_calls (w : World) : Calls Try.prog 10 #[] w fun e w' => e = .returned (.bool true) ∧ Below w.heap.size w w' := by
  have hi : ∀ t fr, Ints .u8 (w.alloc (.cells #[.int .u8 49, .int .u8 50, .int .u8 51, .int .u8 52, .int .u8 53, .int .u8 54, .int .u8 55, .int .u8 56, .int .u8 57] t fr)) (some ⟨w.heap.size, 0, none⟩) 9 [49, 50, 51, 52, 53, 54, 55, 56, 57] :=
    fun t fr => Ints.lit _ [49, 50, 51, 52, 53, 54, 55, 56, 57] rfl (by decide) (by decide)
  have hv : (overI 0 [49, 50, 51, 52, 53, 54, 55, 56, 57] == 3808858755) = true := by decide +kernel
  have kc := fun (w : World) (C : Array Value) (n c : Nat) => Lib.run_convert_bytes_const (P := Try.prog) w 26 5 C n c Try.underlying26 Try.underlying5
  go_enter Try.func10, Try.ntmps10
  go_wp2_with (go_at_call 11; refine (sum_calls _ _ _ _ _ (hi _ _)).mono ?_; rintro e w1 ⟨rfl, hb1⟩)
  go_ret
  exact ⟨rfl, ((Below.refl _ _).alloc (Nat.le_refl _) _).trans (hb1.mono (by simp))⟩
end Go.Proofs.Ytebjfkfmjmegfaa
