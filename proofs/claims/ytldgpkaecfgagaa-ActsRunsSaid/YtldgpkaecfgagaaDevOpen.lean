/- Opening a device that comes in. -/
import Derived.Test.YtldgpkaecfgagaaDev
namespace Go.Proofs.Ytldgpkaecfgagaa
open Go.RowKit Go.WideShapes Go.ChangeShapes PolyM

set_option maxRecDepth 100000 in
theorem dev_in {H : Type} {enc : TypeId × Value → H} {w : World} {r : Reach} {base b : Nat} {held : Bool} {v : Value} {d : DataW H} {p : List MemPlace} (hv : Value.okWide Try.prog w r base 25 v) (h : DataW.Trod enc Try.prog w b (fun _ => true) held 25 v d p) : ∃ dv, DevV w v dv :=
  open_dev Try.underlying25 (by kernel_rfl) (by kernel_rfl) (by kernel_rfl) (by kernel_rfl) (by kernel_rfl) (by kernel_rfl) (by kernel_rfl) Try.underlying22 Try.underlying29 Try.underlying5 (by kernel_rfl) (by kernel_rfl)
    Try.underlying23 Try.underlying88 (by kernel_rfl) (by kernel_rfl) (by kernel_rfl) (by kernel_rfl) (by kernel_rfl) Try.underlying3 Try.underlying29 Try.underlying4 hv h
end Go.Proofs.Ytldgpkaecfgagaa
