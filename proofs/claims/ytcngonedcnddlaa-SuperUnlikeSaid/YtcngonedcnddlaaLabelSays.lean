/- What Write of package label answers, for every label, in one form. -/
import Derived.Test.YtcngonedcnddlaaLabelAlive
namespace Go.Proofs.Ytcngonedcnddlaa
open Go.RowKit PolyM PackM ShapeM SealM LabelM
set_option linter.unusedVariables false

/-- The bytes that Write answers, and how many. -/
def outL (l : Lab) : List Int := if MayL l then blockL l else []
def outN (l : Lab) : Nat := if MayL l then 128 else 0
theorem nil_ints9 (k : IntKind) (w : World) : Ints k w none 0 [] := ⟨rfl, by omega, by simp, .inl rfl⟩
theorem labWrite_any {l : Lab} (hw : WideL l) (w : World) : Calls Try.prog 18 #[labV l] w fun e w' => ∃ A c, e = .returned (.tuple #[.slice A (outN l) c, .int .i64 (chkL l)]) ∧ outN l ≤ c ∧ Ints .u8 w' A (outN l) (outL l) ∧ Below w.heap.size w w' := by
  unfold outN outL
  by_cases h : MayL l
  · rw [if_pos h, if_pos h, chkL_may h]
    refine (labWrite_ok hw h w).mono ?_
    rintro e w' ⟨g, hg, rfl, hc, hb⟩
    exact ⟨_, _, rfl, by omega, block_ints hc, hb⟩
  · rw [if_neg h, if_neg h, chkL_not h]
    refine (labWrite_no h w).mono ?_
    rintro e w' ⟨rfl, hb⟩
    exact ⟨_, _, rfl, by omega, nil_ints9 _ _, hb⟩
/-- Read of whatever bytes. -/
def rdL (n : Nat) (zs : List Int) : Lab := if n = 0 ∨ n = 128 then readL (pad zs) else zeroL
def rdE (n : Nat) (zs : List Int) : Int := if n = 0 ∨ n = 128 then readE (pad zs) else 3
theorem labRead_any (a : Option Addr) (n c : Nat) (zs : List Int) (w : World) (hI : Ints .u8 w a n zs) : Calls Try.prog 17 #[.slice a n c] w fun e w' => e = .returned (.tuple #[labV (rdL n zs), .int .i64 (rdE n zs)]) ∧ Below w.heap.size w w' := by
  unfold rdL rdE
  by_cases h : n = 0 ∨ n = 128
  · rw [if_pos h, if_pos h]
    exact labRead a n c zs w hI h
  · rw [if_neg h, if_neg h]
    exact labRead_text a n c hI.max (fun q => h (.inl q)) (fun q => h (.inr q)) w
theorem chk_cases (l : Lab) : (MayL l ∧ chkL l = 0 ∧ outN l = 128 ∧ outL l = blockL l) ∨ (¬ MayL l ∧ chkL l = 8 ∧ outN l = 0 ∧ outL l = []) := by
  unfold outN outL
  by_cases h : MayL l
  · exact .inl ⟨h, chkL_may h, if_pos h, if_pos h⟩
  · exact .inr ⟨h, chkL_not h, if_neg h, if_neg h⟩
theorem out_bytes (l : Lab) : Bytes (outL l) := by
  unfold outL
  split
  · exact block_bytes l
  · intro z hz; cases hz
theorem labV_eql (l m : Lab) (t : Bool) (h : t = true ↔ l = m) (W : World) : (binOp .eql 43 (.agg (labA l)) (.agg (labA m))).run Try.prog W = .ok (.bool t) W := by
  unfold labA
  rw [lab_eql]
  congr 2
  rw [Bool.eq_iff_iff, decide_eq_true_iff, h]
  obtain ⟨a0, a1, a2, a3, a4, a5, a6, a7, a8, a9⟩ := l
  obtain ⟨b0, b1, b2, b3, b4, b5, b6, b7, b8, b9⟩ := m
  simp
theorem then_not {r : Result Bool} {d : Bool} {W : World} (h : (r.andThen fun b w' => Result.ok (Value.bool b) w') = .ok (.bool d) W) : (r.andThen fun b w' => Result.ok (Value.bool (!b)) w') = .ok (.bool (!d)) W := by
  cases r with
  | ok b w' =>
    simp only [Result.andThen, Result.ok.injEq, Value.bool.injEq] at h ⊢
    exact ⟨by rw [h.1], h.2⟩
  | halt x w' => simp [Result.andThen] at h
theorem labV_neq (l m : Lab) (t : Bool) (h : t = true ↔ l = m) (W : World) : (binOp .neq 43 (.agg (labA l)) (.agg (labA m))).run Try.prog W = .ok (.bool (!t)) W := by
  have := labV_eql l m t h W
  rw [run_eql_struct] at this
  rw [run_neq_struct]
  exact then_not this
end Go.Proofs.Ytcngonedcnddlaa
