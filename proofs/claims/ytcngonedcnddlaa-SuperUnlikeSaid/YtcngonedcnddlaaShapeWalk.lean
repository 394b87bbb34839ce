/- The walks of package shape: within, need, stripes, Check, told, and the five numbers. -/
import Derived.Test.YtcngonedcnddlaaCfg
import Derived.WalkMore
import Derived.IntWalk
import Derived.Deep.RegionHeld3
namespace Go.Proofs.Ytcngonedcnddlaa
open Go.RowKit ShapeM

/-- Rows of three numbers. -/
def Trips (w : World) (g n : Nat) (f : Nat → Int × Int × Int) : Prop := g < w.heap.size ∧ ∀ k, k < n → w.cell? ⟨g, k * 3, none⟩ = some (.int .i64 (f k).1) ∧ w.cell? ⟨g, k * 3 + 1, none⟩ = some (.int .i64 (f k).2.1) ∧ w.cell? ⟨g, k * 3 + 2, none⟩ = some (.int .i64 (f k).2.2)
theorem Trips.below {w w' : World} {g n : Nat} {f : Nat → Int × Int × Int} (h : Trips w g n f) (hb : Below w.heap.size w w') : Trips w' g n f := by
  refine ⟨Nat.lt_of_lt_of_le h.1 hb.size, fun k hk => ?_⟩
  rw [hb.cell (p := ⟨g, k * 3, none⟩) h.1, hb.cell (p := ⟨g, k * 3 + 1, none⟩) h.1, hb.cell (p := ⟨g, k * 3 + 2, none⟩) h.1]
  exact h.2 k hk
def okT (x : Int × Int × Int) : Prop := x.1 ≤ x.2.1 ∧ x.2.1 ≤ x.2.2

set_option maxRecDepth 100000 in
set_option maxHeartbeats 1000000 in
theorem within_calls (w : World) (g n C : Nat) (f : Nat → Int × Int × Int) (hn : n ≤ 1000) (h : Trips w g n f) (r : Bool) (hr : r = true ↔ ∀ k, k < n → okT (f k)) :
    Calls Try.prog 64 #[.slice (some ⟨g, 0, none⟩) n C] w fun e w' => e = .returned (.bool r) ∧ Below w.heap.size w w' := by
  have R := Lib.hid hr
  clear hr
  go_enter Try.func64, Try.ntmps64
  go_wp2
  go_loopw [7] (fun i wr => ∃ k : Nat, k ≤ n ∧ i = .int .i64 k ∧ Below w.heap.size w wr ∧ Hid (∀ j, j < k → okT (f j))) (fun i _ => n - (intOf i).toNat)
  case atStart => exact ⟨0, by omega, rfl, Below.refl _ _, Lib.hid fun b hb => by omega⟩
  case round =>
    obtain ⟨k, hk, rfl, hbk, hok⟩ := hrel
    by_cases hkn : k < n
    · obtain ⟨c0, c1, c2⟩ := (h.below hbk).2 k hkn
      have hbk' := Lib.hid hbk
      have hs := (h.below hbk).1
      have hB : Hid (Below w.heap.size w (wr.alloc (.cells #[.int .i64 (f k).1, .int .i64 (f k).2.1, .int .i64 (f k).2.2] 99))) := Lib.hid (hbk.alloc hbk.size _)
      clear hbk h
      have hx : ((f k).2.1 < (f k).1 ∧ Hid (r = false)) ∨ ((f k).1 ≤ (f k).2.1 ∧ (f k).2.2 < (f k).2.1 ∧ Hid (r = false)) ∨ ((f k).1 ≤ (f k).2.1 ∧ (f k).2.1 ≤ (f k).2.2 ∧ Hid (∀ j, j < k + 1 → okT (f j))) := by
        by_cases q1 : (f k).2.1 < (f k).1
        · exact .inl ⟨q1, by refine Lib.hid ?_; rw [Bool.eq_false_iff]; intro q; have := (R.out.1 q k hkn).1; omega⟩
        by_cases q2 : (f k).2.2 < (f k).2.1
        · exact .inr (.inl ⟨by omega, q2, by refine Lib.hid ?_; rw [Bool.eq_false_iff]; intro q; have := (R.out.1 q k hkn).2; omega⟩)
        refine .inr (.inr ⟨by omega, by omega, Lib.hid fun j hj => ?_⟩)
        rcases Nat.lt_succ_iff_lt_or_eq.1 hj with q | rfl
        · exact hok.out j q
        · exact ⟨by omega, by omega⟩
      generalize (f k).1 = a at *
      generalize (f k).2.1 = b at *
      generalize (f k).2.2 = c at *
      rcases hx with ⟨q1, F⟩ | ⟨q1, q2, F⟩ | ⟨q1, q2, F⟩
      · go_wp2
        go_ret
        exact ⟨ret_bool F.out.symm, hB.out⟩
      · go_wp2
        go_ret
        exact ⟨ret_bool F.out.symm, hB.out⟩
      · go_wp2
        go_roundw
        case rel => exact ⟨k + 1, by omega, by go_num, hB.out, F⟩
        case measure => simp [intOf]; omega
    · obtain rfl : k = n := by omega
      have F : Hid (r = true) := Lib.hid (R.out.2 hok.out)
      go_wp2
      go_ret
      exact ⟨ret_bool F.out.symm, hbk⟩

theorem need_calls (c : Cfg) (w : World) : Calls Try.prog 65 #[cfgV c] w fun e w' => e = .returned (.int .i64 (wrap64 (c.mem + 1))) ∧ Below w.heap.size w w' := by
  obtain ⟨id, m, ch, ro, lo, he⟩ := c
  unfold cfgV
  have B := Box6.new w (.int .u32 id) (.int .i64 m) (.int .i64 ch) (.int .i64 ro) (.int .i64 lo) (.int .i64 he) 85
  have hb : Below w.heap.size w (w.alloc (.cells #[.int .u32 id, .int .i64 m, .int .i64 ch, .int .i64 ro, .int .i64 lo, .int .i64 he] 85 (0, 0))) := (Below.refl _ _).alloc (Nat.le_refl _) _
  obtain ⟨_, c0, c1, c2, c3, c4, c5, _⟩ := B
  go_enter Try.func65, Try.ntmps65
  go_wp2
  go_ret
  exact ⟨rfl, hb⟩
theorem stripes_calls (c : Cfg) (w : World) : Calls Try.prog 59 #[cfgV c] w fun e w' => e = .returned (.int .i64 (wrap64 (c.chunk * c.rows))) ∧ Below w.heap.size w w' := by
  obtain ⟨id, m, ch, ro, lo, he⟩ := c
  unfold cfgV
  have B := Box6.new w (.int .u32 id) (.int .i64 m) (.int .i64 ch) (.int .i64 ro) (.int .i64 lo) (.int .i64 he) 85
  have hb : Below w.heap.size w (w.alloc (.cells #[.int .u32 id, .int .i64 m, .int .i64 ch, .int .i64 ro, .int .i64 lo, .int .i64 he] 85 (0, 0))) := (Below.refl _ _).alloc (Nat.le_refl _) _
  obtain ⟨_, c0, c1, c2, c3, c4, c5, _⟩ := B
  go_enter Try.func59, Try.ntmps59
  go_wp2
  go_ret
  exact ⟨rfl, hb⟩
end Go.Proofs.Ytcngonedcnddlaa
