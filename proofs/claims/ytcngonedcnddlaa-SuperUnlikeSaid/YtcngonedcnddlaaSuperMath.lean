/- Supers as numbers and as blocks (layer 10). No program in it. -/
import Derived.Test.YtcngonedcnddlaaLabelMath
namespace Go.Proofs.Ytcngonedcnddlaa.SuperM
open Go.Proofs.Ytcngonedcnddlaa PolyM PackM SealM
set_option linter.unusedVariables false

/-- A super. -/
structure Sup where
  id : Int
  age : Int
  seq : Int
  tail : Int
/-- Its numbers are Go's. -/
structure WideS (s : Sup) : Prop where
  id : (Lit.int .u32 s.id).wf = true
  age : (Lit.int .u32 s.age).wf = true
  seq : (Lit.int .u32 s.seq).wf = true
  tail : (Lit.int .i64 s.tail).wf = true
/-- A super may be. -/
def MayS (s : Sup) : Prop := (1 ≤ s.age ∧ s.age ≤ 2147483648) ∧ (1 ≤ s.seq ∧ s.seq ≤ 2147483648) ∧ 0 ≤ s.tail ∧ s.tail ≤ 254
instance (s : Sup) : Decidable (MayS s) := by unfold MayS; infer_instance
def chkS (s : Sup) : Int := if MayS s then 0 else 8
theorem chkS_may {s : Sup} (h : MayS s) : chkS s = 0 := by unfold chkS; rw [if_pos h]
theorem chkS_not {s : Sup} (h : ¬ MayS s) : chkS s = 8 := by unfold chkS; rw [if_neg h]
def rowsS : List (Nat × Nat) := [(0, 1), (1, 4), (5, 4), (9, 4), (13, 1)]
def valsS (s : Sup) : List Int := [83, s.id, s.age, s.seq, s.tail]
theorem rowsS_lay : Lay rowsS := by
  refine ⟨?_, ?_⟩
  · show ∀ m, m < 5 → ∀ k, k < m → _
    decide
  · show ∀ k, k < 5 → _
    decide
def bodyS (s : Sup) : List Int := chain rowsS (valsS s) 5
def blockS (s : Sup) : List Int := sealL (bodyS s)
/-- The super of a block. -/
def tookS (zs : List Int) : Sup := ⟨takeN zs 1 4, takeN zs 5 4, takeN zs 9 4, takeN zs 13 1⟩
theorem may_boxS {s : Sup} (hw : WideS s) (h : MayS s) : (0 ≤ s.id ∧ s.id ≤ 4294967295) ∧ (1 ≤ s.age ∧ s.age ≤ 2147483648) ∧ (1 ≤ s.seq ∧ s.seq ≤ 2147483648) ∧ (0 ≤ s.tail ∧ s.tail ≤ 254) :=
  ⟨bounds_u32 hw.id, h.1, h.2.1, h.2.2⟩
theorem vals_fitS {s : Sup} (hw : WideS s) (h : MayS s) : ∀ k, k < 5 → 0 ≤ (valsS s).getD k 0 ∧ (valsS s).getD k 0 < 256 ^ (rowsS.getD k (0, 0)).2 := by
  intro k hk
  have b := may_boxS hw h
  have hk' : k = 0 ∨ k = 1 ∨ k = 2 ∨ k = 3 ∨ k = 4 := by omega
  obtain ⟨e0, e1, e2, e3, e4⟩ := pow_256
  rcases hk' with rfl | rfl | rfl | rfl | rfl
  · show 0 ≤ (83 : Int) ∧ (83 : Int) < 256 ^ 1; omega
  · show 0 ≤ s.id ∧ s.id < 256 ^ 4; omega
  · show 0 ≤ s.age ∧ s.age < 256 ^ 4; omega
  · show 0 ≤ s.seq ∧ s.seq < 256 ^ 4; omega
  · show 0 ≤ s.tail ∧ s.tail < 256 ^ 1; omega
theorem bodyS_len (s : Sup) : (bodyS s).length = 128 := chain_len _ _ (by omega)
theorem bodyS_bytes (s : Sup) : Bytes (bodyS s) := chain_bytes _ _ _
theorem blockS_len (s : Sup) : (blockS s).length = 128 := sealL_len _
theorem blockS_bytes (s : Sup) : Bytes (blockS s) := sealL_bytes (bodyS_bytes s)
theorem blockS_sealed (s : Sup) : Sealed (blockS s) := sealL_sealed (bodyS_len s)
theorem blockS_take {s : Sup} (hw : WideS s) (h : MayS s) {k : Nat} (hk : k < 5) : takeN (blockS s) (rowsS.getD k (0, 0)).1 (rowsS.getD k (0, 0)).2 = (valsS s).getD k 0 := by
  have b := rowsS_lay.2 k hk
  have f := vals_fitS hw h k hk
  unfold blockS
  rw [sealL_take b.2.2]
  exact chain_take rowsS_lay f.1 f.2 5 hk (by decide)
/-- WHAT IS WRITTEN IS READ. -/
theorem took_blockS {s : Sup} (hw : WideS s) (h : MayS s) : tookS (blockS s) = s := by
  have t : ∀ k, k < 5 → takeN (blockS s) (rowsS.getD k (0, 0)).1 (rowsS.getD k (0, 0)).2 = (valsS s).getD k 0 := fun k hk => blockS_take hw h hk
  have t1 : takeN (blockS s) 1 4 = s.id := t 1 (by omega)
  have t2 : takeN (blockS s) 5 4 = s.age := t 2 (by omega)
  have t3 : takeN (blockS s) 9 4 = s.seq := t 3 (by omega)
  have t4 : takeN (blockS s) 13 1 = s.tail := t 4 (by omega)
  unfold tookS
  rw [t1, t2, t3, t4]
theorem blockS_inj {s t : Sup} (hs : WideS s) (ht : WideS t) (h : MayS s) (k : MayS t) (e : blockS s = blockS t) : s = t := by
  rw [← took_blockS hs h, ← took_blockS ht k, e]
theorem tookS_wide {zs : List Int} (h : Bytes zs) : WideS (tookS zs) := by
  have t4 : ∀ p, 0 ≤ takeN zs p 4 ∧ takeN zs p 4 ≤ 4294967295 := fun p => by have := takeN_in h p 4; rw [pow_256.2.2.2.2] at this; omega
  have q : 0 ≤ takeN zs 13 1 ∧ takeN zs 13 1 ≤ 255 := by have := takeN_in h 13 1; rw [pow_256.2.1] at this; omega
  have wu : ∀ n : Int, 0 ≤ n → n ≤ 4294967295 → (Lit.int .u32 n).wf = true := fun n a b => WalkArith.wf_u32 (by omega)
  have wi : ∀ n : Int, 0 ≤ n → n ≤ 255 → (Lit.int .i64 n).wf = true := fun n a b => WalkArith.wf_i64 (by omega)
  exact ⟨wu _ (t4 1).1 (t4 1).2, wu _ (t4 5).1 (t4 5).2, wu _ (t4 9).1 (t4 9).2, wi _ q.1 q.2⟩
/-- What Read answers of a block. -/
def ReadsS (zs : List Int) : Prop := MayS (tookS zs) ∧ blockS (tookS zs) = zs
instance (zs : List Int) : Decidable (ReadsS zs) := by unfold ReadsS; infer_instance
def zeroS : Sup := ⟨0, 0, 0, 0⟩
def readS (zs : List Int) : Sup := if ReadsS zs then tookS zs else zeroS
def readES (zs : List Int) : Int := if ReadsS zs then 0 else 90
theorem reads_blockS {s : Sup} (hw : WideS s) (h : MayS s) : ReadsS (blockS s) := by
  unfold ReadsS; rw [took_blockS hw h]; exact ⟨h, rfl⟩
theorem readsS_sealed {zs : List Int} (h : ReadsS zs) : Sealed zs := by rw [← h.2]; exact blockS_sealed _
theorem not_mayS_nil : ¬ MayS (tookS (pad [])) := by
  intro h
  have := h.1.1
  revert this
  decide
/-- No block is both a label's and a super's. -/
theorem first_S (s : Sup) : (blockS s).getD 0 0 = 83 := by
  show (putL _ _ _ _).getD 0 0 = _
  rw [putL_getD (by omega), if_neg (by omega)]
  show (chain rowsS (valsS s) 5).getD 0 0 = _
  rw [chain_at (k := 0) rowsS_lay (by decide) (by decide) 5 (by omega) (by decide)]
  show byt 83 0 = 83
  decide
theorem first_L (l : LabelM.Lab) : (LabelM.blockL l).getD 0 0 = 76 := by
  show (putL _ _ _ _).getD 0 0 = _
  rw [putL_getD (by omega), if_neg (by omega)]
  show (chain LabelM.rowsL (LabelM.valsL l) 11).getD 0 0 = _
  rw [chain_at (k := 0) LabelM.rowsL_lay (by decide) (by decide) 11 (by omega) (by decide)]
  show byt 76 0 = 76
  decide
theorem super_no_label (s : Sup) : ¬ LabelM.ReadsAs (blockS s) := by
  intro h
  have := first_L (LabelM.tookL (blockS s))
  rw [h.2, first_S] at this
  omega
theorem label_no_super (l : LabelM.Lab) : ¬ ReadsS (LabelM.blockL l) := by
  intro h
  have := first_S (tookS (LabelM.blockL l))
  rw [h.2, first_L] at this
  omega
/-- The document's own text ahead of the sum. -/
def textS (s : Sup) : List Int := [83] ++ LabelM.fourL s.id ++ LabelM.fourL s.age ++ LabelM.fourL s.seq ++ [s.tail]
theorem text_bodyS {s : Sup} (hw : WideS s) (h : MayS s) : pad (textS s) = bodyS s := by
  have f := vals_fitS hw h
  have b := may_boxS hw h
  have hlen : (textS s).length = 14 := rfl
  refine ext128 (pad_len (by rw [hlen]; omega)) (bodyS_len s) fun j hj => ?_
  rw [pad_getD]
  by_cases q : 14 ≤ j
  · have : ∀ k, k < 5 → (rowsS.getD k (0, 0)).1 + (rowsS.getD k (0, 0)).2 ≤ j := by
      intro k hk
      have : ∀ k, k < 5 → (rowsS.getD k (0, 0)).1 + (rowsS.getD k (0, 0)).2 ≤ 14 := by decide
      have := this k hk
      omega
    unfold bodyS
    rw [chain_out hj 5 fun k hk => .inr (this k hk), List.getD_eq_getElem?_getD, List.getElem?_eq_none (by rw [hlen]; exact q)]
    rfl
  · have key : ∀ k, k < 5 → ∀ j, (rowsS.getD k (0, 0)).1 ≤ j → j < (rowsS.getD k (0, 0)).1 + (rowsS.getD k (0, 0)).2 → (bodyS s).getD j 0 = byt ((valsS s).getD k 0) (j - (rowsS.getD k (0, 0)).1) := fun k hk j h1 h2 => chain_at rowsS_lay h1 h2 5 hk (by decide)
    have one : ∀ n : Int, 0 ≤ n → n < 256 ^ 1 → byt n 0 = n := fun n h0 h1 => by unfold byt; rw [pow_256.1]; rw [pow_256.2.1] at h1; omega
    have hj' : j = 0 ∨ j = 1 ∨ j = 2 ∨ j = 3 ∨ j = 4 ∨ j = 5 ∨ j = 6 ∨ j = 7 ∨ j = 8 ∨ j = 9 ∨ j = 10 ∨ j = 11 ∨ j = 12 ∨ j = 13 := by omega
    obtain ⟨e0, e1, e2, e3, e4⟩ := pow_256
    have b4 : ∀ n : Int, 0 ≤ n → n ≤ 4294967295 → byt n 0 = n % 256 ∧ byt n 1 = n / 256 % 256 ∧ byt n 2 = n / 65536 % 256 ∧ byt n 3 = n / 16777216 := by
      intro n h0 h1
      unfold byt
      rw [e0, e1, e2, e3]
      omega
    have i4 := b4 s.id b.1.1 b.1.2
    have a4 := b4 s.age (by omega) (by omega)
    have s4 := b4 s.seq (by omega) (by omega)
    rcases hj' with rfl | rfl | rfl | rfl | rfl | rfl | rfl | rfl | rfl | rfl | rfl | rfl | rfl | rfl
    · rw [key 0 (by omega) 0 (by decide) (by decide)]; exact (one _ (f 0 (by omega)).1 (f 0 (by omega)).2).symm
    · rw [key 1 (by omega) 1 (by decide) (by decide)]; exact i4.1.symm
    · rw [key 1 (by omega) 2 (by decide) (by decide)]; exact i4.2.1.symm
    · rw [key 1 (by omega) 3 (by decide) (by decide)]; exact i4.2.2.1.symm
    · rw [key 1 (by omega) 4 (by decide) (by decide)]; exact i4.2.2.2.symm
    · rw [key 2 (by omega) 5 (by decide) (by decide)]; exact a4.1.symm
    · rw [key 2 (by omega) 6 (by decide) (by decide)]; exact a4.2.1.symm
    · rw [key 2 (by omega) 7 (by decide) (by decide)]; exact a4.2.2.1.symm
    · rw [key 2 (by omega) 8 (by decide) (by decide)]; exact a4.2.2.2.symm
    · rw [key 3 (by omega) 9 (by decide) (by decide)]; exact s4.1.symm
    · rw [key 3 (by omega) 10 (by decide) (by decide)]; exact s4.2.1.symm
    · rw [key 3 (by omega) 11 (by decide) (by decide)]; exact s4.2.2.1.symm
    · rw [key 3 (by omega) 12 (by decide) (by decide)]; exact s4.2.2.2.symm
    · rw [key 4 (by omega) 13 (by decide) (by decide)]; exact (one _ (f 4 (by omega)).1 (f 4 (by omega)).2).symm
end Go.Proofs.Ytcngonedcnddlaa.SuperM
