/- Lists of bytes. -/
namespace Go.Proofs.Ytcngonedcnddlaa.PolyM
def Bytes (l : List Int) : Prop := ∀ z ∈ l, 0 ≤ z ∧ z ≤ 255
end Go.Proofs.Ytcngonedcnddlaa.PolyM
