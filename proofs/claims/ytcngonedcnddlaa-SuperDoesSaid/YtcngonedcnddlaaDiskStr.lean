/- Strings of bytes: when two are equal. -/
import Derived.Test.YtcngonedcnddlaaBlocks
import Derived.Lib.Bytes
namespace Go.Proofs.Ytcngonedcnddlaa
open Go.RowKit PolyM PackM

theorem str_inj {x y : List Int} (hx : Bytes x) (hy : Bytes y) (h : strOfNums x = strOfNums y) : x = y := by
  have h2 : x.map (fun n => UInt8.ofNat n.toNat) = y.map (fun n => UInt8.ofNat n.toNat) := by
    rw [← strOfNums_data, ← strOfNums_data, h]
  have key : ∀ (x y : List Int), Bytes x → Bytes y → x.map (fun n => UInt8.ofNat n.toNat) = y.map (fun n => UInt8.ofNat n.toNat) → x = y := by
    intro x
    induction x with
    | nil => intro y _ _ h; cases y with
      | nil => rfl
      | cons b y => simp at h
    | cons a x ih =>
      intro y ha hb h
      cases y with
      | nil => simp at h
      | cons b y =>
        rw [List.map_cons, List.map_cons] at h
        injection h with h1 h2
        have ha0 := ha a (List.mem_cons_self ..)
        have hb0 := hb b (List.mem_cons_self ..)
        have e : a = b := by
          have := congrArg UInt8.toNat h1
          simp only [UInt8.toNat_ofNat'] at this
          omega
        rw [e, ih y (fun z hz => ha z (List.mem_cons_of_mem _ hz)) (fun z hz => hb z (List.mem_cons_of_mem _ hz)) h2]
  exact key x y hx hy h2

theorem str_eq {xs ys : List Int} (hx : Bytes xs) (hy : Bytes ys) : ((strOfNums xs).toList == (strOfNums ys).toList) = decide (xs = ys) := by
  rw [Lib.strOfNums_toList, Lib.strOfNums_toList]
  by_cases h : xs = ys
  · rw [h]; simp
  · rw [decide_eq_false h, beq_eq_false_iff_ne]
    intro e
    refine h (str_inj hx hy ?_)
    unfold strOfNums
    congr 1
    rw [show (xs.map fun n => UInt8.ofNat n.toNat) = (ys.map fun n => UInt8.ofNat n.toNat) from e]
end Go.Proofs.Ytcngonedcnddlaa
