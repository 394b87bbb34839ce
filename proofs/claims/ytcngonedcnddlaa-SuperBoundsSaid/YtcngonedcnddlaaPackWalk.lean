/- The walks of package pack: what whole, check, fits, Put, Take answer. -/
import Derived.Test.YtcngonedcnddlaaBlk
import Derived.Laws.BitsAllLaws
import Derived.Laws.CopyOwn
import Derived.Laws.Rows
import Derived.Outline
import Derived.IntWalk
import Derived.Deep.WholeRow
namespace Go.Proofs.Ytcngonedcnddlaa
open Go.RowKit PolyM PackM
set_option linter.unusedVariables false

/-- A place of a number of a size. -/
def Place (p s : Int) : Prop := 1 ≤ s ∧ s ≤ 4 ∧ 0 ≤ p ∧ p ≤ 128 - s

theorem check_text (a : Option Addr) (n c : Nat) (p s : Int) (w : World) (hm : n ≤ 9223372036854775807) (h0 : n ≠ 0) (h1 : n ≠ 128) :
    Calls Try.prog 35 #[.slice a n c, .int .i64 p, .int .i64 s] w fun e w' => e = .returned (.int .i64 3) ∧ w = w' := by
  have d0 : ((n : Int) != 0) = true := by simp; omega
  have d1 : ((n : Int) != 128) = true := by simp; omega
  go_enter Try.func35, Try.ntmps35
  go_wp2
  go_ret
  exact ⟨rfl, rfl⟩

theorem check_arg (a : Option Addr) (n c : Nat) (p s : Int) (w : World) (h : n = 0 ∨ n = 128) (hp : ¬ Place p s) :
    Calls Try.prog 35 #[.slice a n c, .int .i64 p, .int .i64 s] w fun e w' => e = .returned (.int .i64 2) ∧ w = w' := by
  have hc : s < 1 ∨ (1 ≤ s ∧ 4 < s) ∨ (1 ≤ s ∧ s ≤ 4 ∧ p < 0) ∨ (1 ≤ s ∧ s ≤ 4 ∧ 0 ≤ p ∧ 128 - s < p) := by unfold Place at hp; omega
  rcases h with h | h
  · have d0 : ((n : Int) != 0) = false := by simp; omega
    have hm : n ≤ 9223372036854775807 := by omega
    clear h
    rcases hc with hc | ⟨h1, hc⟩ | ⟨h1, h2, hc⟩ | ⟨h1, h2, h3, hc⟩
    all_goals
      go_enter Try.func35, Try.ntmps35
      go_wp2
      go_ret
      exact ⟨rfl, rfl⟩
  · have d0 : ((n : Int) != 0) = true := by simp; omega
    have d1 : ((n : Int) != 128) = false := by simp; omega
    have hm : n ≤ 9223372036854775807 := by omega
    clear h
    rcases hc with hc | ⟨h1, hc⟩ | ⟨h1, h2, hc⟩ | ⟨h1, h2, h3, hc⟩
    all_goals
      go_enter Try.func35, Try.ntmps35
      go_wp2
      go_ret
      exact ⟨rfl, rfl⟩

theorem check_ok (a : Option Addr) (n c : Nat) (p s : Int) (w : World) (h : n = 0 ∨ n = 128) (hp : Place p s) :
    Calls Try.prog 35 #[.slice a n c, .int .i64 p, .int .i64 s] w fun e w' => e = .returned (.int .i64 0) ∧ w = w' := by
  obtain ⟨p1, p2, p3, p4⟩ := hp
  rcases h with h | h
  · have d0 : ((n : Int) != 0) = false := by simp; omega
    have hm : n ≤ 9223372036854775807 := by omega
    clear h
    go_enter Try.func35, Try.ntmps35
    go_wp2
    go_ret
    exact ⟨rfl, rfl⟩
  · have d0 : ((n : Int) != 0) = true := by simp; omega
    have d1 : ((n : Int) != 128) = false := by simp; omega
    have hm : n ≤ 9223372036854775807 := by omega
    clear h
    go_enter Try.func35, Try.ntmps35
    go_wp2
    go_ret
    exact ⟨rfl, rfl⟩

theorem pfits_calls (n s : Int) (w : World) (h1 : 1 ≤ s) (h2 : s ≤ 4) (n0 : -9223372036854775808 ≤ n) (n1 : n ≤ 9223372036854775807) :
    Calls Try.prog 54 #[.int .i64 n, .int .i64 s] w fun e w' => e = .returned (.bool (decide (0 ≤ n ∧ n < 256 ^ s.toNat))) ∧ w = w' := by
  go_enter Try.func54, Try.ntmps54
  go_wp2
  go_ret
  refine ⟨ret_bool ?_, rfl⟩
  have hs : s = 1 ∨ s = 2 ∨ s = 3 ∨ s = 4 := by omega
  obtain ⟨e0, e1, e2, e3, e4⟩ := pow_256
  rcases hs with rfl | rfl | rfl | rfl
  · show (n / 256 == 0) = decide (0 ≤ n ∧ n < 256)
    rw [Bool.eq_iff_iff]; simp; omega
  · show (n / 65536 == 0) = decide (0 ≤ n ∧ n < 65536)
    rw [Bool.eq_iff_iff]; simp; omega
  · show (n / 16777216 == 0) = decide (0 ≤ n ∧ n < 16777216)
    rw [Bool.eq_iff_iff]; simp; omega
  · show (n / 4294967296 == 0) = decide (0 ≤ n ∧ n < 4294967296)
    rw [Bool.eq_iff_iff]; simp; omega

theorem whole_calls (a : Option Addr) (n c : Nat) (zs : List Int) (w : World) (h : Ints .u8 w a n zs) (hn : n ≤ 128) :
    Calls Try.prog 36 #[.slice a n c] w fun e w' => e = .returned (.agg (cells (pad zs))) ∧ Below w.heap.size w w' := by
  obtain ⟨hz, hs⟩ := zero_of_info zero_block
  have hl := Lib.hid h.len
  have hpl : Hid ((cells (pad zs)).size = 128) := by refine Lib.hid ?_; rw [cells_size, pad_len (by rw [hl.out]; exact hn)]
  have hpo : (cells (pad zs)).all (·.oneCell') = true := cells_one _
  have hsp := map_splice zs
  have hin : ∀ W, Below w.heap.size w W → 0 < zs.length → ∃ ad, a = some ad ∧ ∀ j v, (zs.map (Value.int .u8))[j]? = some v → W.cell? (ad.add j) = some v := fun W hW => ints_src (h.below hW (Nat.le_refl _))
  go_enter Try.func36, Try.ntmps36
  go_wp2_with (refine wpList_copy_splice rfl (.tmp 4) (.tmp 5) 22 22 rfl 5 Try.underlying22 (by kernel_rfl) _ _ _ _ _ _ rfl rfl (w.heap.size + 1) 0 (noughts.map (Value.int .u8)) 79 ?c1 (zs.map (Value.int .u8)) ?c2 ?c3 ?c4 ?c5 (w.heap.size + 1) (w.alloc (.cells (cells noughts) 79)) ?c6 ?c7 ?_)
  case c1 => exact heap_alloc2_new _ _ _
  case c2 => rw [List.length_map, hl.out]; exact (Nat.min_eq_left hn).symm
  case c3 =>
    intro h0
    obtain ⟨ad, e, q⟩ := hin _ (((Below.refl _ _).alloc (Nat.le_refl _) (.cells (cells noughts) 79)).alloc (by simp) (.cells (cells noughts) 79)) h0
    exact ⟨ad, e, fun j z hz => q j _ (by rw [List.getElem?_map, hz]; rfl)⟩
  case c4 => simp [noughts]; rw [hl.out]; exact hn
  case c5 => simp [Value.oneCell']
  case c6 => exact (Below.refl _ _).alloc (by simp) _
  case c7 => omega
  intro w1 hg1 hb1
  have hg0 : w1.heap[w.heap.size]? = some (.cells (cells noughts) 79 (0, 0)) := by rw [hb1.block _ (by omega)]; exact heap_alloc_new _ _
  have hbw : Below w.heap.size w w1 := ((Below.refl _ _).alloc (Nat.le_refl _) _).trans (hb1.mono (by omega))
  clear hin hsp
  go_wp2_with (first
    | refine wpList_load_row rfl 79 (.tmp 3) rfl (w.heap.size + 1) rfl _ _ _ _ hg1.out Try.underlying79 rfl (by rw [hs]; exact congrArg some hpl.out.symm) ?_
    | refine wpList_store_row rfl 79 (.tmp 2) (.tmp 7) rfl w.heap.size (cells (pad zs)) rfl rfl 79 _ hg0 (by rw [hs, hpl.out]) (by rw [hpl.out]; exact cells_size) hpo ?_)
  have hg2 := setRow_heap w1 w.heap.size _ (cells (pad zs)) 79 (0, 0) hg0
  exact bodyPost_ret (v := .agg (cells (pad zs))) (results_cell_row (p := 2) (ty := 79) rfl _ _ w.heap.size _ (cells (pad zs)) _ _ rfl hg2 Try.underlying79 rfl (by rw [hs]; exact congrArg some hpl.out.symm)) rfl ⟨rfl, below_setRow hbw (Nat.le_refl _) _⟩

theorem put_text (a : Option Addr) (n c : Nat) (p s v : Int) (w : World) (hm : n ≤ 9223372036854775807) (h0 : n ≠ 0) (h1 : n ≠ 128) :
    Calls Try.prog 33 #[.slice a n c, .int .i64 p, .int .i64 s, .int .i64 v] w fun e w' => e = .returned (.tuple #[.slice none 0 0, .int .i64 3]) ∧ w = w' := by
  go_enter Try.func33, Try.ntmps33
  go_wp2_with (go_at_call 35; refine (check_text _ _ _ _ _ _ hm h0 h1).mono ?_; rintro e w1 ⟨rfl, rfl⟩)
  go_ret2
  exact ⟨rfl, rfl⟩
theorem put_arg (a : Option Addr) (n c : Nat) (p s v : Int) (w : World) (h : n = 0 ∨ n = 128) (hp : ¬ Place p s) :
    Calls Try.prog 33 #[.slice a n c, .int .i64 p, .int .i64 s, .int .i64 v] w fun e w' => e = .returned (.tuple #[.slice none 0 0, .int .i64 2]) ∧ w = w' := by
  go_enter Try.func33, Try.ntmps33
  go_wp2_with (go_at_call 35; refine (check_arg _ _ _ _ _ _ h hp).mono ?_; rintro e w1 ⟨rfl, rfl⟩)
  go_ret2
  exact ⟨rfl, rfl⟩
theorem put_number (a : Option Addr) (n c : Nat) (p s v : Int) (w : World) (h : n = 0 ∨ n = 128) (hp : Place p s) (v0 : -9223372036854775808 ≤ v) (v1 : v ≤ 9223372036854775807) (hv : ¬ (0 ≤ v ∧ v < 256 ^ s.toNat)) :
    Calls Try.prog 33 #[.slice a n c, .int .i64 p, .int .i64 s, .int .i64 v] w fun e w' => e = .returned (.tuple #[.slice none 0 0, .int .i64 2]) ∧ w = w' := by
  have hd : decide (0 ≤ v ∧ v < 256 ^ s.toNat) = false := by simpa using hv
  go_enter Try.func33, Try.ntmps33
  go_wp2_with (first
    | (go_at_call 35; refine (check_ok _ _ _ _ _ _ h hp).mono ?_; rintro e w1 ⟨rfl, rfl⟩)
    | (go_at_call 54; refine (pfits_calls _ _ _ hp.1 hp.2.1 v0 v1).mono ?_; rw [hd]; rintro e w1 ⟨rfl, rfl⟩))
  go_ret2
  exact ⟨rfl, rfl⟩
theorem shr_byt (v : Int) (k : Nat) (hk : k < 4) : v / 2 ^ (8 * (k : Int)).toNat = v / 256 ^ k := by
  have hs : k = 0 ∨ k = 1 ∨ k = 2 ∨ k = 3 := by omega
  rcases hs with rfl | rfl | rfl | rfl <;> rfl
theorem put_ok (a : Option Addr) (n c : Nat) (zs : List Int) (p s : Nat) (v : Int) (w : World) (hi : Ints .u8 w a n zs) (h : n = 0 ∨ n = 128) (s1 : 1 ≤ s) (s4 : s ≤ 4) (hp : p + s ≤ 128) (v0 : 0 ≤ v) (v1 : v < 256 ^ s) :
    Calls Try.prog 33 #[.slice a n c, .int .i64 p, .int .i64 s, .int .i64 v] w (PutIs w (putL zs p s v)) := by
  have hpl : Place p s := by unfold Place; omega
  have hv : v ≤ 4294967295 := by
    have hs : s = 1 ∨ s = 2 ∨ s = 3 ∨ s = 4 := by omega
    obtain ⟨e0, e1, e2, e3, e4⟩ := pow_256
    rcases hs with rfl | rfl | rfl | rfl <;> omega
  have hd : decide (0 ≤ v ∧ v < 256 ^ (s : Int).toNat) = true := by rw [Int.toNat_natCast]; simpa using ⟨v0, v1⟩
  have hn : n ≤ 128 := by omega
  obtain ⟨hz, hs⟩ := zero_of_info zero_block
  have hlen := Lib.hid hi.len
  have hpl2 : Hid ((cells (pad zs)).size = 128) := by refine Lib.hid ?_; rw [cells_size, pad_len (by rw [hlen.out]; exact hn)]
  have hpo : (cells (pad zs)).all (·.oneCell') = true := cells_one _
  have hb := pad_bytes (bytes_of hi)
  have h00 := Lib.hid (putL_zero zs (by rw [hlen.out]; exact hn) p v)
  go_enter Try.func33, Try.ntmps33
  go_wp2_with (first
    | (go_at_call 35; refine (check_ok _ _ _ _ _ _ h hpl).mono ?_; rintro e w1 ⟨rfl, rfl⟩)
    | (go_at_call 54; refine (pfits_calls _ _ _ hpl.1 hpl.2.1 (by omega) (by omega)).mono ?_; rw [hd]; rintro e w1 ⟨rfl, rfl⟩)
    | (go_at_call 36; refine (whole_calls _ _ _ _ _ hi hn).mono ?_; rintro e w1 ⟨rfl, hb1⟩)
    | refine wpList_store_row rfl 79 (.tmp 11) (.tmp 25) rfl w1.heap.size (cells (pad zs)) rfl rfl 79 _ (heap_alloc_new _ _) (by rw [hs, hpl2.out]) (by rw [hpl2.out]; exact cells_size) hpo ?_)
  have hg : ((w1.alloc (.cells (cells noughts) 79)).setRow w1.heap.size (cells (pad zs))).heap[w1.heap.size]? = some (.cells (cells (pad zs)) 79 (0, 0)) := setRow_heap _ _ _ _ _ _ (heap_alloc_new _ _)
  have hb2 : Below w.heap.size w ((w1.alloc (.cells (cells noughts) 79)).setRow w1.heap.size (cells (pad zs))) := below_setRow (hb1.alloc hb1.size _) hb1.size _
  have hsz := hb1.size
  generalize World.setRow _ _ _ = w2 at *
  generalize w1.heap.size = g at *
  clear hz hb1 hd hpo h hpl
  rw [← h00.out] at hg
  clear h00 hpl2
  go_loopw [27] (fun i wr => ∃ k : Nat, k ≤ s ∧ i = .int .i64 k ∧ wr.heap[g]? = some (.cells (cells (putL zs p k v)) 79 (0, 0)) ∧ Below w.heap.size w wr) (fun i _ => s - (intOf i).toNat)
  case atStart => exact ⟨0, by omega, rfl, hg, hb2⟩
  case round =>
    obtain ⟨k, hk, rfl, hgk, hbk⟩ := hrel
    clear hg hb2
    by_cases hks : k < s
    · have hcell : wr.cell? ⟨g, p + k, none⟩ = some (.int .u8 ((putL zs p k v).getD (p + k) 0)) := by
        rw [cell_of_row _ _ _ _ _ _ hgk, cells_getD (by rw [putL_len]; omega)]
      have hfr : wr.frozen? ⟨g, p + k, none⟩ = false := frozen_of_row _ _ _ _ _ hgk
      have hshr := shr_byt v k (by omega)
      go_wp2
      go_roundw
      case rel =>
        refine ⟨k + 1, by omega, by go_num, ?_, hbk.setCell hsz _⟩
        rw [heap_setCell_same _ _ _ _ _ _ hgk, cells_set, putL_succ]
        rfl
      case measure => simp [intOf]; omega
    · obtain rfl : k = s := by omega
      go_wp2
      go_ret2
      exact ⟨g, hsz, rfl, hgk, hbk⟩

theorem take_text (a : Option Addr) (n c : Nat) (p s : Int) (w : World) (hm : n ≤ 9223372036854775807) (h0 : n ≠ 0) (h1 : n ≠ 128) :
    Calls Try.prog 21 #[.slice a n c, .int .i64 p, .int .i64 s] w fun e w' => e = .returned (.tuple #[.int .i64 0, .int .i64 3]) ∧ w = w' := by
  go_enter Try.func21, Try.ntmps21
  go_wp2_with (go_at_call 35; refine (check_text _ _ _ _ _ _ hm h0 h1).mono ?_; rintro e w1 ⟨rfl, rfl⟩)
  go_ret2
  exact ⟨rfl, rfl⟩
theorem take_arg (a : Option Addr) (n c : Nat) (p s : Int) (w : World) (h : n = 0 ∨ n = 128) (hp : ¬ Place p s) :
    Calls Try.prog 21 #[.slice a n c, .int .i64 p, .int .i64 s] w fun e w' => e = .returned (.tuple #[.int .i64 0, .int .i64 2]) ∧ w = w' := by
  go_enter Try.func21, Try.ntmps21
  go_wp2_with (go_at_call 35; refine (check_arg _ _ _ _ _ _ h hp).mono ?_; rintro e w1 ⟨rfl, rfl⟩)
  go_ret2
  exact ⟨rfl, rfl⟩
theorem i64_or_nat (a b : Nat) (ha : a < 9223372036854775808) (hb : b < 9223372036854775808) : bits .or .i64 (a : Int) (b : Int) = ((a ||| b : Nat) : Int) := by
  have hx : a ||| b < 2 ^ 63 := Nat.or_lt_two_pow (by omega) (by omega)
  show IntKind.i64.wrap ((BitVec.ofInt 64 (a : Int) ||| BitVec.ofInt 64 (b : Int)).toNat : Int) = _
  rw [BitVec.toNat_or, ofInt_u64 a (by omega), ofInt_u64 b (by omega)]
  exact IntWalk.i64_in _ (by omega)
theorem or_byte (t b : Int) (k : Nat) (hk : k < 4) (t0 : 0 ≤ t) (t1 : t < 256 ^ k) (b0 : 0 ≤ b) (b1 : b ≤ 255) : bits .or .i64 t (wrap64 (b * 2 ^ (8 * k))) = t + b * 256 ^ k := by
  obtain ⟨t, rfl⟩ := Int.eq_ofNat_of_zero_le t0
  obtain ⟨b, rfl⟩ := Int.eq_ofNat_of_zero_le b0
  have key : ∀ m : Nat, m ≤ 24 → t < 2 ^ m → ((b : Int) * 2 ^ m) = ((2 ^ m * b : Nat) : Int) → bits .or .i64 (t : Int) (wrap64 ((b : Int) * 2 ^ m)) = t + b * 2 ^ m := by
    intro m hm ht e
    have hq : (2 : Nat) ^ m ≤ 16777216 := Nat.pow_le_pow_right (n := 2) (by omega) (show m ≤ 24 from hm)
    have hle : 2 ^ m * b ≤ 16777216 * 255 := Nat.mul_le_mul hq (by omega)
    have hj := nat_join m (2 ^ m * b) t (Nat.mul_mod_right _ _) ht
    rw [e, IntWalk.wrap64_in _ (by omega), i64_or_nat _ _ (by omega) (by omega), Nat.or_comm, hj]
    omega
  have hs : k = 0 ∨ k = 1 ∨ k = 2 ∨ k = 3 := by omega
  rcases hs with rfl | rfl | rfl | rfl
  · exact key 0 (by omega) (by omega) (by omega)
  · exact key 8 (by omega) (by omega) (by omega)
  · exact key 16 (by omega) (by omega) (by omega)
  · exact key 24 (by omega) (by omega) (by omega)
theorem take_ok (a : Option Addr) (n c : Nat) (zs : List Int) (p s : Nat) (w : World) (hi : Ints .u8 w a n zs) (h : n = 0 ∨ n = 128) (s1 : 1 ≤ s) (s4 : s ≤ 4) (hp : p + s ≤ 128) :
    Calls Try.prog 21 #[.slice a n c, .int .i64 p, .int .i64 s] w fun e w' => e = .returned (.tuple #[.int .i64 (takeN zs p s), .int .i64 0]) ∧ Below w.heap.size w w' := by
  have hpl : Place p s := by unfold Place; omega
  have hn : n ≤ 128 := by omega
  obtain ⟨hz, hs⟩ := zero_of_info zero_block
  have hlen := Lib.hid hi.len
  have hpl2 : Hid ((cells (pad zs)).size = 128) := by refine Lib.hid ?_; rw [cells_size, pad_len (by rw [hlen.out]; exact hn)]
  have hpo : (cells (pad zs)).all (·.oneCell') = true := cells_one _
  have hB := bytes_of hi
  go_enter Try.func21, Try.ntmps21
  go_wp2_with (first
    | (go_at_call 35; refine (check_ok _ _ _ _ _ _ h hpl).mono ?_; rintro e w1 ⟨rfl, rfl⟩)
    | (go_at_call 36; refine (whole_calls _ _ _ _ _ hi hn).mono ?_; rintro e w1 ⟨rfl, hb1⟩)
    | refine wpList_store_row rfl 79 (.tmp 9) (.tmp 20) rfl w1.heap.size (cells (pad zs)) rfl rfl 79 _ (heap_alloc_new _ _) (by rw [hs, hpl2.out]) (by rw [hpl2.out]; exact cells_size) hpo ?_)
  have hg : ((w1.alloc (.cells (cells noughts) 79)).setRow w1.heap.size (cells (pad zs))).heap[w1.heap.size]? = some (.cells (cells (pad zs)) 79 (0, 0)) := setRow_heap _ _ _ _ _ _ (heap_alloc_new _ _)
  have hb2 : Below w.heap.size w ((w1.alloc (.cells (cells noughts) 79)).setRow w1.heap.size (cells (pad zs))) := below_setRow (hb1.alloc hb1.size _) hb1.size _
  generalize World.setRow _ _ _ = w2 at *
  generalize w1.heap.size = g at *
  clear hz hb1 hpo h hpl
  go_loop [10, 22] (fun t i => ∃ k : Nat, k ≤ s ∧ i = .int .i64 k ∧ t = .int .i64 (takeN zs p k)) (fun _ i => s - (intOf i).toNat)
  case atStart => exact ⟨0, by omega, rfl, rfl⟩
  case round =>
    obtain ⟨k, hk, rfl, rfl⟩ := hrel
    by_cases hks : k < s
    · have hcell : w2.cell? ⟨g, p + k, none⟩ = some (.int .u8 ((pad zs).getD (p + k) 0)) := by
        rw [cell_of_row _ _ _ _ _ _ hg, cells_getD (by rw [← cells_size, hpl2.out]; omega)]
      have hbb := getD_in (pad_bytes hB) (p + k)
      have htt := takeN_in hB p k
      have F : Hid (takeN zs p (k + 1) = takeN zs p k + (pad zs).getD (p + k) 0 * 256 ^ k) := rfl
      clear hg
      generalize (pad zs).getD (p + k) 0 = b at *
      generalize takeN zs p k = t at *
      have hor := or_byte t b k (by omega) htt.1 htt.2 hbb.1 hbb.2
      obtain ⟨b0, b1⟩ := hbb
      go_wp2
      go_round
      case rel => exact ⟨k + 1, by omega, by go_num, by rw [F.out]⟩
      case measure => simp [intOf]; omega
    · obtain rfl : k = s := by omega
      go_wp2
      go_ret2
      exact ⟨rfl, hb2⟩
end Go.Proofs.Ytcngonedcnddlaa
