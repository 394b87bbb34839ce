/- The walks of package poly: what halves, Over, Sum answer. -/
import Derived.Test.YtcngonedcnddlaaBlocks
import Derived.Test.YtcngonedcnddlaaPolyMath
import Derived.Laws.BitsAllLaws
namespace Go.Proofs.Ytcngonedcnddlaa
open Go.RowKit PolyM

theorem halves_calls (w : World) : Calls Try.prog 60 #[] w fun e w' => e = .returned (.agg #[.int .u32 0, .int .u32 0x105ec76f, .int .u32 0x20bd8ede, .int .u32 0x30e349b1, .int .u32 0x417b1dbc, .int .u32 0x5125dad3, .int .u32 0x61c69362, .int .u32 0x7198540d, .int .u32 0x82f63b78, .int .u32 0x92a8fc17, .int .u32 0xa24bb5a6, .int .u32 0xb21572c9, .int .u32 0xc38d26c4, .int .u32 0xd3d3e1ab, .int .u32 0xe330a81a, .int .u32 0xf36e6f75]) ∧ Below w.heap.size w w' := by
  go_enter Try.func60, Try.ntmps60
  go_wp2
  exact bodyPost_ret (v := .agg #[.int .u32 0, .int .u32 0x105ec76f, .int .u32 0x20bd8ede, .int .u32 0x30e349b1, .int .u32 0x417b1dbc, .int .u32 0x5125dad3, .int .u32 0x61c69362, .int .u32 0x7198540d, .int .u32 0x82f63b78, .int .u32 0x92a8fc17, .int .u32 0xa24bb5a6, .int .u32 0xb21572c9, .int .u32 0xc38d26c4, .int .u32 0xd3d3e1ab, .int .u32 0xe330a81a, .int .u32 0xf36e6f75]) (by simp [results, Try.results60, go_sem]) rfl ⟨rfl, (Below.refl _ _).alloc (Nat.le_refl _) _⟩

theorem tab_cells (w : World) (i : Nat) (hi : i < 16) : (w.alloc (.cells #[.int .u32 0, .int .u32 0x105ec76f, .int .u32 0x20bd8ede, .int .u32 0x30e349b1, .int .u32 0x417b1dbc, .int .u32 0x5125dad3, .int .u32 0x61c69362, .int .u32 0x7198540d, .int .u32 0x82f63b78, .int .u32 0x92a8fc17, .int .u32 0xa24bb5a6, .int .u32 0xb21572c9, .int .u32 0xc38d26c4, .int .u32 0xd3d3e1ab, .int .u32 0xe330a81a, .int .u32 0xf36e6f75] 93)).cell? ⟨w.heap.size, i, none⟩ = some (.int .u32 (tab i)) := by
  have h : i = 0 ∨ i = 1 ∨ i = 2 ∨ i = 3 ∨ i = 4 ∨ i = 5 ∨ i = 6 ∨ i = 7 ∨ i = 8 ∨ i = 9 ∨ i = 10 ∨ i = 11 ∨ i = 12 ∨ i = 13 ∨ i = 14 ∨ i = 15 := by omega
  rcases h with rfl | rfl | rfl | rfl | rfl | rfl | rfl | rfl | rfl | rfl | rfl | rfl | rfl | rfl | rfl | rfl <;> simp [World.cell?_alloc_new, tab]

theorem round (st z : Nat) (hst : st < 4294967296) (hz : z < 256) : ∃ a a1 b1 : Nat, b1 = T8 (st ^^^ z) ∧ a < 4294967296 ∧ a1 < 4294967296 ∧ b1 < 4294967296 ∧
    bits .xor .u32 st z = (a : Int) ∧ bits .and .u32 (a : Int) 15 = ((a % 16 : Nat) : Int) ∧ bits .xor .u32 ((a : Int) / 16) (tab (a % 16) : Int) = (a1 : Int) ∧
    bits .and .u32 (a1 : Int) 15 = ((a1 % 16 : Nat) : Int) ∧ bits .xor .u32 ((a1 : Int) / 16) (tab (a1 % 16) : Int) = (b1 : Int) := by
  have ha := xor_lt hst (show z < 4294967296 by omega)
  have h1 := half_lt ha
  have key : ∀ a : Nat, a < 4294967296 → bits .and .u32 (a : Int) 15 = ((a % 16 : Nat) : Int) := fun a h => by
    rw [show (15 : Int) = ((15 : Nat) : Int) from rfl, u32_and_nat _ _ h (by omega), show (15 : Nat) = 2 ^ 4 - 1 from rfl, Nat.and_two_pow_sub_one_eq_mod]
  have key2 : ∀ a : Nat, a < 4294967296 → bits .xor .u32 ((a : Int) / 16) (tab (a % 16) : Int) = ((half a : Nat) : Int) := fun a h => by
    rw [show (a : Int) / 16 = ((a / 16 : Nat) : Int) from rfl, u32_xor_nat _ _ (by omega) (tab_lt _)]; rfl
  exact ⟨st ^^^ z, half (st ^^^ z), half (half (st ^^^ z)), by rw [half_T4, half_T4]; rfl, ha, h1, half_lt h1, u32_xor_nat _ _ hst (by omega), key _ ha, key2 _ ha, key _ h1, key2 _ h1⟩

theorem xor_max (s : Nat) (hs : s < 4294967296) : bits .xor .u32 4294967295 (s : Int) = ((not32 s : Nat) : Int) := by
  rw [show (4294967295 : Int) = ((4294967295 : Nat) : Int) from rfl, u32_xor_nat _ _ (by omega) hs, not32_xor hs]

theorem over_calls (s : Int) (a : Option Addr) (n c : Nat) (zs : List Int) (w : World) (h0 : 0 ≤ s) (h1 : s ≤ 4294967295) (h : Ints .u8 w a n zs) :
    Calls Try.prog 55 #[.int .u32 s, .slice a n c] w fun e w' => e = .returned (.int .u32 (overI s zs)) ∧ Below w.heap.size w w' := by
  obtain ⟨s, rfl⟩ := Int.eq_ofNat_of_zero_le h0
  have hs : s < 4294967296 := by omega
  have hB := bytes_of h
  obtain ⟨hlen, hmax, _, hrow⟩ := h
  have em := xor_max s hs
  have hm : IntKind.u32.max = 4294967295 := by decide
  have hsig : ¬ IntKind.u32.signed = true := by decide
  have hn0 : not32 s < 4294967296 := not32_lt s
  rcases hrow with rfl | ⟨b, o, rfl, hlt, hc⟩
  · obtain rfl : zs = [] := List.length_eq_zero_iff.1 hlen
    have e0 : overI (s : Int) [] = s := overI_nil h0 h1
    have em2 := xor_max (not32 s) hn0
    rw [not32_not32 hs] at em2
    have E0 := Lib.hid e0
    clear e0
    go_enter Try.func55, Try.ntmps55
    go_wp2_with (go_at_call 60; refine (halves_calls _).mono ?_; rintro e w1 ⟨rfl, hb1⟩)
    refine wp_loop_rounds 1 ?_
    rw [rounds_succ]
    go_wp2
    go_ret
    exact ⟨ret_int E0.out.symm, hb1.alloc hb1.size _⟩
  · go_enter Try.func55, Try.ntmps55
    go_wp2_with (go_at_call 60; refine (halves_calls _).mono ?_; rintro e w1 ⟨rfl, hb1⟩)
    go_loop [0, 13] (fun t i => ∃ k st : Nat, k ≤ n ∧ st < 4294967296 ∧ st = fz (not32 s) (zs.take k) ∧ i = .int .i64 k ∧ t = .int .u32 st) (fun _ i => n - (intOf i).toNat)
    case atStart => exact ⟨0, not32 s, by omega, hn0, rfl, rfl, rfl⟩
    case round =>
      obtain ⟨k, st, hk, hst, hfz, rfl, rfl⟩ := hrel
      have htab := tab_cells w1
      have hb2 : Below w.heap.size w (w1.alloc (.cells #[.int .u32 0, .int .u32 0x105ec76f, .int .u32 0x20bd8ede, .int .u32 0x30e349b1, .int .u32 0x417b1dbc, .int .u32 0x5125dad3, .int .u32 0x61c69362, .int .u32 0x7198540d, .int .u32 0x82f63b78, .int .u32 0x92a8fc17, .int .u32 0xa24bb5a6, .int .u32 0xb21572c9, .int .u32 0xc38d26c4, .int .u32 0xd3d3e1ab, .int .u32 0xe330a81a, .int .u32 0xf36e6f75] 93)) := hb1.alloc hb1.size _
      generalize World.alloc _ _ = w2 at *
      clear hb1 em
      by_cases hkn : k < n
      · have hzz := hB _ (getD_mem (zs := zs) (i := k) (by omega))
        have hts := take_snoc (zs := zs) (i := k) (by omega)
        have hcell : w2.cell? ⟨b, o + k, none⟩ = some (.int .u8 (zs.getD k 0)) := by rw [hb2.cell (p := ⟨b, o + k, none⟩) hlt]; exact hc k hkn
        generalize zs.getD k 0 = zk at *
        obtain ⟨z, rfl⟩ := Int.eq_ofNat_of_zero_le hzz.1
        obtain ⟨a, a1, b1, eb1, ha, ha1, hb1, e1, e2, e3, e4, e5⟩ := round st z hst (by omega)
        have t1 := htab (a % 16) (by omega)
        have t2 := htab (a1 % 16) (by omega)
        have hi1 : a % 16 < 16 := by omega
        have hi2 : a1 % 16 < 16 := by omega
        have F : Hid (b1 = fz (not32 s) (zs.take (k + 1))) := by rw [hts, fz_snoc, ← hfz]; exact eb1
        clear hc htab hts hfz eb1 hlen
        go_wp2
        go_round
        case rel => exact ⟨k + 1, b1, by omega, hb1, F.out, by go_num, rfl⟩
        case measure => simp [intOf]; omega
      · obtain rfl : k = n := by omega
        have em2 := xor_max st hst
        have F : Hid (((not32 st : Nat) : Int) = overI (s : Int) zs) := by
          rw [hfz, List.take_of_length_le (by omega)]; rfl
        clear hc htab hfz hlen
        go_wp2
        go_ret
        exact ⟨ret_int F.out, hb2⟩

theorem sum_calls (a : Option Addr) (n c : Nat) (zs : List Int) (w : World) (h : Ints .u8 w a n zs) :
    Calls Try.prog 34 #[.slice a n c] w fun e w' => e = .returned (.int .u32 (overI 0 zs)) ∧ Below w.heap.size w w' := by
  go_enter Try.func34, Try.ntmps34
  go_wp2_with (go_at_call 55; refine (over_calls 0 _ _ _ zs _ (by omega) (by omega) h).mono ?_; rintro e w1 ⟨rfl, hb1⟩)
  go_ret
  exact ⟨rfl, hb1⟩
end Go.Proofs.Ytcngonedcnddlaa
