/- Lists of bytes. -/
namespace Go.Proofs.Ytdljondmlooeaaa.PolyM
def Bytes (l : List Int) : Prop := ∀ z ∈ l, 0 ≤ z ∧ z ≤ 255
end Go.Proofs.Ytdljondmlooeaaa.PolyM
