/- The laws' own helpers of layer 7: small, spot, parity, alive; '==' of spots; what the numbers say to the laws. -/
import Derived.Test.YtilcmkaibfolcaaTurnTold
import Derived.Laws.StructEq
namespace Go.Proofs.Ytilcmkaibfolcaa
open Go.RowKit ShapeM TurnM
set_option linter.unusedVariables false

set_option maxRecDepth 100000 in
theorem spot_eql (W : World) (a b c a' b' c' : Int) : (binOp .eql 30 (.agg #[.int .i64 a, .int .i64 b, .int .i64 c]) (.agg #[.int .i64 a', .int .i64 b', .int .i64 c'])).run Try.prog W = .ok (.bool (decide (a = a' ∧ b = b' ∧ c = c'))) W := by
  have hu := Try.underlying30
  have hf : Try.prog.fieldsOf 30 = (match Try.prog.underlying 30 with | some (.struct fs) => fs | _ => #[]) := rfl
  rw [hu] at hf
  dsimp only at hf
  rw [run_eql_struct, run_equalIn_agg _ _ _ _ _ (by rw [hf]; exact hu) (by kernel_rfl), hf]
  have hi := Try.underlying3
  simp [go_sem, hi]
  clear hu hf hi
  by_cases q0 : a = a'
  · by_cases q1 : b = b'
    · by_cases q2 : c = c' <;> simp [q0, q1, q2]
    · simp [q0, q1]
  · simp [q0]

/-- The chapter's config. -/
def small7 : Cfg := ⟨0, 3, 2, 3, 12, 2⟩
set_option maxRecDepth 100000 in
theorem small7_calls (w : World) : Calls Try.prog 9 #[] w fun e w' => e = .returned (cfgV small7) ∧ Below w.heap.size w w' := by
  go_enter Try.func9, Try.ntmps9
  go_wp2
  exact bodyPost_ret (v := cfgV small7) (by simp [results, Try.results9, cfgV, small7, go_sem]) rfl ⟨rfl, (Below.refl _ _).alloc (Nat.le_refl _) _⟩

set_option maxRecDepth 100000 in
set_option maxHeartbeats 4000000 in
theorem spot7_calls (b s k m : Int) (h0 : eSpot small7 b = 0) (h1 : vSpS small7 b = s) (h2 : vSpK small7 b = k) (h3 : vSpM small7 b = m) (w : World) : Calls Try.prog 27 #[.int .i64 b, .int .i64 s, .int .i64 k, .int .i64 m] w fun e w' => e = .returned (.bool true) ∧ Below w.heap.size w w' := by
  have cs := fun W => small7_calls W
  have c1 := fun W => turnSpot small7 b W
  simp only [h0, h1, h2, h3, pickE_0] at c1
  have eq := fun W => spot_eql W s k m s k m
  simp only [and_self, decide_true] at eq
  unfold spotV at c1
  clear h0 h1 h2 h3
  generalize cfgV small7 = v at *
  go_enter Try.func27, Try.ntmps27
  go_wp2_with (first
    | (go_at_call 9; refine (cs _).mono ?_; rintro e w2 ⟨rfl, hb⟩)
    | (go_at_call 12; refine (c1 _).mono ?_; rintro e w3 ⟨rfl, hb2⟩; replace hb := hb.trans (hb2.mono hb.size); clear hb2))
  go_ret
  exact ⟨rfl, hb.alloc hb.size _⟩

set_option maxRecDepth 100000 in
set_option maxHeartbeats 4000000 in
theorem parity7_calls (s m : Int) (h0 : ePar small7 s = 0) (h1 : vPar small7 s = m) (w : World) : Calls Try.prog 28 #[.int .i64 s, .int .i64 m] w fun e w' => e = .returned (.bool true) ∧ Below w.heap.size w w' := by
  have cs := fun W => small7_calls W
  have c1 := fun W => turnParity small7 s W
  simp only [h0, h1, pickE_0] at c1
  clear h0 h1
  generalize cfgV small7 = v at *
  go_enter Try.func28, Try.ntmps28
  go_wp2_with (first
    | (go_at_call 9; refine (cs _).mono ?_; rintro e w2 ⟨rfl, hb⟩)
    | (go_at_call 16; refine (c1 _).mono ?_; rintro e w3 ⟨rfl, hb2⟩; replace hb := hb.trans (hb2.mono hb.size); clear hb2))
  go_ret
  exact ⟨rfl, hb⟩

set_option maxRecDepth 100000 in
set_option maxHeartbeats 4000000 in
theorem alive7_calls (w : World) : Calls Try.prog 13 #[] w fun e w' => e = .returned (.bool true) ∧ Below w.heap.size w w' := by
  have hb := Below.refl w.heap.size w
  have s0 := fun W => spot7_calls 0 0 0 0 (by decide) (by decide) (by decide) (by decide) W
  have s1 := fun W => spot7_calls 1 1 0 0 (by decide) (by decide) (by decide) (by decide) W
  have s2 := fun W => spot7_calls 2 0 1 1 (by decide) (by decide) (by decide) (by decide) W
  have s3 := fun W => spot7_calls 4 2 0 2 (by decide) (by decide) (by decide) (by decide) W
  have s4 := fun W => spot7_calls 11 5 1 2 (by decide) (by decide) (by decide) (by decide) W
  have p0 := fun W => parity7_calls 0 2 (by decide) (by decide) W
  have p1 := fun W => parity7_calls 1 2 (by decide) (by decide) W
  have p2 := fun W => parity7_calls 2 1 (by decide) (by decide) W
  have p3 := fun W => parity7_calls 4 0 (by decide) (by decide) W
  go_enter Try.func13, Try.ntmps13
  go_wp2_with (first
    | (go_at_call 27; (with_reducible refine (s0 _).mono ?_); rintro e w2 ⟨rfl, hb2⟩; replace hb := hb.trans (hb2.mono hb.size); clear hb2)
    | (go_at_call 27; (with_reducible refine (s1 _).mono ?_); rintro e w2 ⟨rfl, hb2⟩; replace hb := hb.trans (hb2.mono hb.size); clear hb2)
    | (go_at_call 27; (with_reducible refine (s2 _).mono ?_); rintro e w2 ⟨rfl, hb2⟩; replace hb := hb.trans (hb2.mono hb.size); clear hb2)
    | (go_at_call 27; (with_reducible refine (s3 _).mono ?_); rintro e w2 ⟨rfl, hb2⟩; replace hb := hb.trans (hb2.mono hb.size); clear hb2)
    | (go_at_call 27; (with_reducible refine (s4 _).mono ?_); rintro e w2 ⟨rfl, hb2⟩; replace hb := hb.trans (hb2.mono hb.size); clear hb2)
    | (go_at_call 28; (with_reducible refine (p0 _).mono ?_); rintro e w2 ⟨rfl, hb2⟩; replace hb := hb.trans (hb2.mono hb.size); clear hb2)
    | (go_at_call 28; (with_reducible refine (p1 _).mono ?_); rintro e w2 ⟨rfl, hb2⟩; replace hb := hb.trans (hb2.mono hb.size); clear hb2)
    | (go_at_call 28; (with_reducible refine (p2 _).mono ?_); rintro e w2 ⟨rfl, hb2⟩; replace hb := hb.trans (hb2.mono hb.size); clear hb2)
    | (go_at_call 28; (with_reducible refine (p3 _).mono ?_); rintro e w2 ⟨rfl, hb2⟩; replace hb := hb.trans (hb2.mono hb.size); clear hb2))
  go_ret
  exact ⟨rfl, hb⟩

theorem back_spot {c : Cfg} (h : MayC c) {b : Int} (hb : amongB b (blkC c) = true) : eSpot c b = 0 ∧ eBlk c (vSpS c b) (vSpK c b) = 0 ∧ vBlk c (vSpS c b) (vSpK c b) = b ∧ eMem c (vSpS c b) (vSpK c b) = 0 ∧ vMem c (vSpS c b) (vSpK c b) = vSpM c b := by
  have M := may3 h
  have e0 : eSpot c b = 0 := by unfold eSpot; rw [hb]; exact okE_ok h
  rw [blkC_n h] at hb
  obtain ⟨x, rfl, hx⟩ := among_lt hb
  have q1 := spS_lt M hx
  have q2 := spK_lt M x
  have t1 : amongB (vSpS c x) (strC c) = true := by unfold vSpS; rw [strC_n h]; exact decide_eq_true ⟨by omega, by rw [show ((x : Nat) : Int).toNat = x by omega]; omega⟩
  have t2 : amongB (vSpK c x) (c.mem - 1) = true := by unfold vSpK; rw [mem_minus h]; exact decide_eq_true ⟨by omega, by rw [show ((x : Nat) : Int).toNat = x by omega]; omega⟩
  have t3 : amongB (vSpK c x) c.mem = true := by have := of_decide_eq_true t2; exact decide_eq_true ⟨by omega, by omega⟩
  refine ⟨e0, ?_, ?_, ?_, ?_⟩
  · unfold eBlk; rw [t1, t2]; exact okE_ok h
  · unfold vBlk vSpS vSpK
    simp only [Int.toNat_natCast]
    rw [blk_sp M]
  · unfold eMem; rw [t1, t3]; exact okE_ok h
  · unfold vMem vSpM vSpS vSpK
    simp only [Int.toNat_natCast]
theorem back_slot {c : Cfg} (h : MayC c) {s m : Int} (hs : amongB s (strC c) = true) (hm : amongB m c.mem = true) : eMem c s m = 0 ∧ eMem c s (vSlot c s m) = 0 ∧ vMem c s (vSlot c s m) = m ∧ ePar c s = 0 ∧ (vSlot c s m = c.mem - 1 ↔ vPar c s = m) ∧ (vSlot c s m ≠ c.mem - 1 → eBlk c s (vSlot c s m) = 0 ∧ eSpot c (vBlk c s (vSlot c s m)) = 0 ∧ vSpS c (vBlk c s (vSlot c s m)) = s ∧ vSpK c (vBlk c s (vSlot c s m)) = vSlot c s m ∧ vSpM c (vBlk c s (vSlot c s m)) = m) := by
  have M := may3 h
  have e0 : eMem c s m = 0 := by unfold eMem; rw [hs, hm]; exact okE_ok h
  have e1 : ePar c s = 0 := by unfold ePar; rw [hs]; exact okE_ok h
  have hs2 := hs
  have hm2 := hm
  rw [strC_n h] at hs2
  rw [mem_nN h] at hm2
  obtain ⟨x, rfl, hx⟩ := among_lt hs2
  obtain ⟨y, rfl, hy⟩ := among_lt hm2
  have q := slot_lt M x y
  have t3 : amongB (vSlot c x y) c.mem = true := by unfold vSlot; rw [mem_nN h]; simp only [Int.toNat_natCast]; exact decide_eq_true ⟨by omega, by omega⟩
  have hN := mem_minus h
  refine ⟨e0, by unfold eMem; rw [hs, t3]; exact okE_ok h, ?_, e1, ?_, fun hn => ?_⟩
  · unfold vMem vSlot
    simp only [Int.toNat_natCast]
    rw [mem_slot M hx hy]
  · unfold vSlot vPar
    rw [hN]
    simp only [Int.toNat_natCast]
    have := slot_par M hx hy
    constructor
    · intro e; rw [this.1 (by omega)]
    · intro e; rw [this.2 (by omega)]
  · have hk : slot (nN c) (nK c) x y < nN c - 1 := by
      unfold vSlot at hn
      rw [hN] at hn
      simp only [Int.toNat_natCast] at hn
      omega
    have t2 : amongB (vSlot c x y) (c.mem - 1) = true := by unfold vSlot; rw [hN]; simp only [Int.toNat_natCast]; exact decide_eq_true ⟨by omega, by omega⟩
    have q2 := blk_lt M hx hk
    have t4 : amongB (vBlk c x (vSlot c x y)) (blkC c) = true := by unfold vBlk vSlot; rw [blkC_n h]; simp only [Int.toNat_natCast]; exact decide_eq_true ⟨by omega, by omega⟩
    refine ⟨by unfold eBlk; rw [hs, t2]; exact okE_ok h, by unfold eSpot; rw [t4]; exact okE_ok h, ?_, ?_, ?_⟩
    · unfold vSpS vBlk vSlot
      simp only [Int.toNat_natCast]
      rw [spS_blk M hk]
    · unfold vSpK vBlk vSlot
      simp only [Int.toNat_natCast]
      rw [spK_blk M hk]
    · unfold vSpM vBlk vSlot
      simp only [Int.toNat_natCast]
      rw [spS_blk M hk, spK_blk M hk, mem_slot M hx hy]
end Go.Proofs.Ytilcmkaibfolcaa
