/- The walks of the document's own answer for layer 1: With, Over, Sum answer what package poly does. -/
import Derived.Test.YtcngonedcnddlaaPolyWalk
namespace Go.Proofs.Ytcngonedcnddlaa
open Go.RowKit PolyM
set_option linter.unusedVariables false

/-- k of the eight steps. -/
def steps : Nat → Nat → Nat
  | 0, v => v
  | k + 1, v => steps k (T v)
theorem steps8 (v : Nat) : steps 8 v = T8 v := rfl

theorem over1_calls (s x : Int) (w : World) (h0 : 0 ≤ s) (h1 : s ≤ 4294967295) (h2 : 0 ≤ x) (h3 : x ≤ 255) :
    Calls Try.prog 63 #[.int .u32 s, .int .u8 x] w fun e w' => e = .returned (.int .u32 (overI s [x])) ∧ w = w' := by
  obtain ⟨s, rfl⟩ := Int.eq_ofNat_of_zero_le h0
  obtain ⟨x, rfl⟩ := Int.eq_ofNat_of_zero_le h2
  have hs : s < 4294967296 := by omega
  have hx : x < 4294967296 := by omega
  obtain ⟨m, em, hm, FM⟩ : ∃ m : Nat, bits .xor .u32 (4294967295 - (s : Int)) (x : Int) = (m : Int) ∧ m < 4294967296 ∧ Hid (m = not32 s ^^^ x) := by
    refine ⟨not32 s ^^^ x, ?_, xor_lt (not32_lt _) hx, rfl⟩
    rw [show 4294967295 - (s : Int) = ((not32 s : Nat) : Int) by unfold not32; omega, u32_xor_nat _ _ (not32_lt _) hx]
  have FR : Hid (overI (s : Int) [(x : Int)] = ((not32 (T8 m) : Nat) : Int)) := by rw [FM.out]; rfl
  go_enter Try.func63, Try.ntmps63
  go_wp2
  go_loop [5, 6] (fun t i => ∃ k v : Nat, k ≤ 8 ∧ v < 4294967296 ∧ steps (8 - k) v = T8 m ∧ i = .int .i64 k ∧ t = .int .u32 v) (fun _ i => 8 - (intOf i).toNat)
  case atStart => exact ⟨0, m, by omega, hm, rfl, rfl, rfl⟩
  case round =>
    obtain ⟨k, v, hk, hv, hst, rfl, rfl⟩ := hrel
    by_cases hk8 : k < 8
    · obtain ⟨q, FQ, hq⟩ : ∃ q : Nat, Hid (q = T v) ∧ q < 4294967296 := ⟨_, rfl, T_lt hv⟩
      have FS : Hid (steps (8 - (k + 1)) q = T8 m) := by
        rw [FQ.out, ← hst, show 8 - k = (8 - (k + 1)) + 1 by omega]; rfl
      clear hst em
      by_cases ho : v % 2 = 1
      · have e1 : bits .xor .u32 ((v : Int) / 2) 2197175160 = (q : Int) := by
          rw [show (v : Int) / 2 = ((v / 2 : Nat) : Int) by omega, show (2197175160 : Int) = ((2197175160 : Nat) : Int) from rfl, u32_xor_nat _ _ (by omega) (by omega), FQ.out]
          unfold T poly
          rw [if_pos ho]
        have e2 : (v : Int) % 2 = 1 := by omega
        go_wp2
        go_round
        case rel => exact ⟨k + 1, q, by omega, hq, FS.out, by go_num, rfl⟩
        case measure => simp [intOf]; omega
      · have e1 : (v : Int) / 2 = (q : Int) := by
          rw [FQ.out]
          unfold T
          rw [if_neg ho, Nat.xor_zero]
          omega
        have e2 : (v : Int) % 2 = 0 := by omega
        go_wp2
        go_round
        case rel => exact ⟨k + 1, q, by omega, hq, FS.out, by go_num, rfl⟩
        case measure => simp [intOf]; omega
    · obtain rfl : k = 8 := by omega
      have F : Hid (4294967295 - (v : Int) = overI (s : Int) [(x : Int)]) := by
        rw [FR.out, ← hst]
        show _ = ((not32 v : Nat) : Int)
        unfold not32
        omega
      clear hst em
      go_wp2
      go_ret
      exact ⟨ret_int F.out, rfl⟩

theorem rover_calls (s : Int) (a : Option Addr) (n c : Nat) (zs : List Int) (w : World) (h0 : 0 ≤ s) (h1 : s ≤ 4294967295) (h : Ints .u8 w a n zs) :
    Calls Try.prog 61 #[.int .u32 s, .slice a n c] w fun e w' => e = .returned (.int .u32 (overI s zs)) ∧ w = w' := by
  have hB := bytes_of h
  obtain ⟨hlen, hmax, _, hrow⟩ := h
  rcases hrow with rfl | ⟨b, o, rfl, hlt, hc⟩
  · obtain rfl : zs = [] := List.length_eq_zero_iff.1 hlen
    have E0 := Lib.hid (overI_nil h0 h1)
    go_enter Try.func61, Try.ntmps61
    go_wp2
    refine wp_loop_rounds 1 ?_
    rw [rounds_succ]
    go_wp2
    go_ret
    exact ⟨ret_int E0.out.symm, rfl⟩
  · go_enter Try.func61, Try.ntmps61
    go_wp2
    go_loop [0, 5] (fun t i => ∃ (k : Nat) (v : Int), k ≤ n ∧ 0 ≤ v ∧ v ≤ 4294967295 ∧ v = overI s (zs.take k) ∧ i = .int .i64 k ∧ t = .int .u32 v) (fun _ i => n - (intOf i).toNat)
    case atStart => exact ⟨0, s, by omega, h0, h1, (overI_nil h0 h1).symm, rfl, rfl⟩
    case round =>
      obtain ⟨k, v, hk, hv0, hv1, hv, rfl, rfl⟩ := hrel
      by_cases hkn : k < n
      · have hzz := hB _ (getD_mem (zs := zs) (i := k) (by omega))
        have hts := take_snoc (zs := zs) (i := k) (by omega)
        have hcell := hc k hkn
        generalize zs.getD k 0 = z at *
        obtain ⟨hz0, hz1⟩ := hzz
        have hbt : Bytes (zs.take k) := fun y hy => hB y (List.mem_of_mem_take hy)
        have F : Hid (overI v [z] = overI s (zs.take (k + 1))) := by refine Lib.hid ?_; rw [hts, overI_append hbt, ← hv]
        have hq := overI_in v [z]
        clear hts hv hc
        go_wp2_with (go_at_call 63; refine (over1_calls _ _ _ (by omega) (by omega) (by omega) (by omega)).mono ?_; rintro e w1 ⟨rfl, rfl⟩)
        go_round
        case rel => exact ⟨k + 1, _, by omega, hq.1, hq.2, F.out, by go_num, rfl⟩
        case measure => simp [intOf]; omega
      · obtain rfl : k = n := by omega
        have F : Hid (v = overI s zs) := by refine Lib.hid ?_; rw [hv, List.take_of_length_le (by omega)]
        clear hv hc
        go_wp2
        go_ret
        exact ⟨ret_int F.out, rfl⟩

theorem rsum_calls (a : Option Addr) (n c : Nat) (zs : List Int) (w : World) (h : Ints .u8 w a n zs) :
    Calls Try.prog 57 #[.slice a n c] w fun e w' => e = .returned (.int .u32 (overI 0 zs)) ∧ w = w' := by
  go_enter Try.func57, Try.ntmps57
  go_wp2_with (go_at_call 61; refine (rover_calls 0 _ _ _ zs _ (by omega) (by omega) h).mono ?_; rintro e w1 ⟨rfl, rfl⟩)
  go_ret
  exact ⟨rfl, rfl⟩
end Go.Proofs.Ytcngonedcnddlaa
