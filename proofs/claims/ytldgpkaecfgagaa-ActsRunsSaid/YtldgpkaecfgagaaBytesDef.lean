/- Lists of bytes. -/
namespace Go.Proofs.Ytldgpkaecfgagaa.PolyM
def Bytes (l : List Int) : Prop := ∀ z ∈ l, 0 ≤ z ∧ z ≤ 255
end Go.Proofs.Ytldgpkaecfgagaa.PolyM
