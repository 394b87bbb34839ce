/- The walks of the document's own answer for layer 2: Block, fits, room, Whole, With, At, Put, Take answer what package pack does. -/
import Derived.Test.YtcngonedcnddlaaPackWalk
import Derived.Test.YtcngonedcnddlaaRef02
import Derived.RegionTactic
import Derived.WalkLawsBesides
import Derived.Deep.QuietTactic
import Derived.BigQuiet
import Derived.Deep.OwnRows
import Derived.Laws.MakeOwn
namespace Go.Proofs.Ytcngonedcnddlaa
open Go.RowKit PolyM PackM
set_option linter.unusedVariables false

theorem div_byt (v : Int) (k : Nat) (hk : k < 4) : v / 256 ^ k / 256 = v / 256 ^ (k + 1) := by
  have hs : k = 0 ∨ k = 1 ∨ k = 2 ∨ k = 3 := by omega
  obtain ⟨e0, e1, e2, e3, e4⟩ := pow_256
  rcases hs with rfl | rfl | rfl | rfl <;> simp only [e0, e1, e2, e3, e4, Nat.zero_add, Nat.reduceAdd] <;> omega
theorem div_in (v : Int) (k : Nat) (h0 : 0 ≤ v) (h1 : v ≤ 4294967295) : 0 ≤ v / 256 ^ k ∧ v / 256 ^ k ≤ 4294967295 := by
  have hp : (0 : Int) < 256 ^ k := Int.pow_pos (by omega)
  refine ⟨Int.ediv_nonneg h0 (by omega), ?_⟩
  have := Int.ediv_le_self (256 ^ k) h0
  omega
theorem with_calls (a : Option Addr) (n c : Nat) (zs : List Int) (p s : Nat) (v : Int) (w : World) (hi : Ints .u8 w a n zs) (hn : n ≤ 128) (s4 : s ≤ 4) (hp : p + s ≤ 128) (v0 : 0 ≤ v) (v1 : v ≤ 4294967295) :
    Calls Try.prog 56 #[.slice a n c, .int .i64 p, .int .i64 s, .int .i64 v] w (NewBlk w (putL zs p s v)) := by
  have hlen := Lib.hid hi.len
  have h00 := Lib.hid (putL_zero zs (by rw [hlen.out]; exact hn) p v)
  have hd0 : Hid (v = v / 256 ^ 0) := by refine Lib.hid ?_; rw [pow_256.1]; omega
  go_enter Try.func56, Try.ntmps56
  go_wp2_with (go_at_call 27; refine (rwhole_calls _ _ _ _ _ hi hn).mono ?_; rintro e w1 ⟨g, hgw, rfl, hg, hb1⟩)
  rw [← h00.out] at hg
  clear h00
  go_loopw [3, 10] (fun t i wr => ∃ (k : Nat) (m : Int), k ≤ s ∧ i = .int .i64 k ∧ t = .int .i64 m ∧ m = v / 256 ^ k ∧ wr.heap[g]? = some (.cells (cells (putL zs p k v)) 5 (0, 0)) ∧ Below w.heap.size w wr) (fun _ i _ => s - (intOf i).toNat)
  case atStart => exact ⟨0, v, by omega, rfl, rfl, hd0.out, hg, hb1⟩
  case round =>
    obtain ⟨k, m, hk, rfl, rfl, hm, hgk, hbk⟩ := hrel
    clear hg hb1
    by_cases hks : k < s
    · have hcell : wr.cell? ⟨g, p + k, none⟩ = some (.int .u8 ((putL zs p k v).getD (p + k) 0)) := by
        rw [cell_of_row _ _ _ _ _ _ hgk, cells_getD (by rw [putL_len]; omega)]
      have hfr : wr.frozen? ⟨g, p + k, none⟩ = false := frozen_of_row _ _ _ _ _ hgk
      have hmi := div_in v k v0 v1
      rw [← hm] at hmi
      obtain ⟨m0, m1⟩ := hmi
      have F1 : Hid (m % 256 = byt v k) := by refine Lib.hid ?_; rw [hm]; rfl
      have F2 : Hid (m / 256 = v / 256 ^ (k + 1)) := by refine Lib.hid ?_; rw [hm]; exact div_byt v k (by omega)
      clear hm hd0
      generalize (putL zs p k v).getD (p + k) 0 = y at *
      go_wp2
      go_roundw
      case rel =>
        refine ⟨k + 1, m / 256, by omega, by go_num, rfl, F2.out, ?_, hbk.setCell hgw _⟩
        rw [heap_setCell_same _ _ _ _ _ _ hgk, cells_set, putL_succ, F1.out]
      case measure => simp [intOf]; omega
    · obtain rfl : k = s := by omega
      clear hm hd0
      go_wp2
      go_ret
      exact ⟨g, hgw, rfl, hgk, hbk⟩
theorem at_calls (a : Option Addr) (n c : Nat) (zs : List Int) (p s : Nat) (w : World) (hi : Ints .u8 w a n zs) (hn : n ≤ 128) (s1 : 1 ≤ s) (s4 : s ≤ 4) (hp : p + s ≤ 128) :
    Calls Try.prog 39 #[.slice a n c, .int .i64 p, .int .i64 s] w fun e w' => e = .returned (.int .i64 (takeN zs p s)) ∧ Below w.heap.size w w' := by
  have hlen := Lib.hid hi.len
  have hB := bytes_of hi
  have hT := takeN_in hB p s
  have hmax : takeN zs p s ≤ 4294967295 := by
    have hs : s = 1 ∨ s = 2 ∨ s = 3 ∨ s = 4 := by omega
    obtain ⟨e0, e1, e2, e3, e4⟩ := pow_256
    rcases hs with rfl | rfl | rfl | rfl <;> omega
  have hst : Hid (0 * 256 ^ s + takeN zs p s = takeN zs p s) := by refine Lib.hid ?_; rw [Int.zero_mul, Int.zero_add]
  go_enter Try.func39, Try.ntmps39
  go_wp2_with (go_at_call 27; refine (rwhole_calls _ _ _ _ _ hi hn).mono ?_; rintro e w1 ⟨g, hgw, rfl, hg, hb1⟩)
  go_loop [8, 9] (fun t i => ∃ (k : Nat) (m j : Int), k ≤ s ∧ i = .int .i64 j ∧ t = .int .i64 m ∧ j = k - 1 ∧ 0 ≤ m ∧ m * 256 ^ k + takeN zs p k = takeN zs p s) (fun _ i => (intOf i + 1).toNat)
  case atStart => exact ⟨s, 0, _, by omega, rfl, rfl, rfl, by omega, hst.out⟩
  case round =>
    obtain ⟨k, m, j, hk, rfl, rfl, hj, m0, hm⟩ := hrel
    clear hst
    by_cases hk0 : k = 0
    · subst hk0
      obtain rfl : j = -1 := by omega
      have F : Hid (m = takeN zs p s) := by
        refine Lib.hid ?_
        rw [← hm, pow_256.1]
        show m = m * 1 + 0
        omega
      clear hm hj
      go_wp2
      go_ret
      exact ⟨ret_int F.out, hb1⟩
    · obtain ⟨i, rfl⟩ : ∃ i, k = i + 1 := ⟨k - 1, by omega⟩
      obtain rfl : j = (i : Int) := by omega
      have hcell : w1.cell? ⟨g, p + i, none⟩ = some (.int .u8 ((pad zs).getD (p + i) 0)) := by
        rw [cell_of_row _ _ _ _ _ _ hg, cells_getD (by rw [pad_len (by rw [hlen.out]; exact hn)]; omega)]
      have hbb := getD_in (pad_bytes hB) (p + i)
      have hti := takeN_in hB p i
      have e1 : takeN zs p (i + 1) = takeN zs p i + (pad zs).getD (p + i) 0 * 256 ^ i := rfl
      rw [e1] at hm
      generalize (pad zs).getD (p + i) 0 = y at *
      have hq : (m * 256 + y) * 256 ^ i + takeN zs p i = takeN zs p s ∧ m ≤ 4294967295 := by
        rw [← hm, Int.pow_succ, Int.add_mul]
        have hs : i = 0 ∨ i = 1 ∨ i = 2 ∨ i = 3 := by omega
        obtain ⟨f0, f1, f2, f3, f4⟩ := pow_256
        rcases hs with rfl | rfl | rfl | rfl <;> omega
      have F := Lib.hid hq.1
      obtain ⟨y0, y1⟩ := hbb
      have m1 := hq.2
      clear hq hm e1 hj hti hT hmax hg hk0
      go_wp2
      go_round
      case rel => exact ⟨i, m * 256 + y, _, by omega, rfl, rfl, rfl, by omega, F.out⟩
      case measure => simp [intOf]
/-- What the document's own Put leaves. -/
def RPutIs (w : World) (l : List Int) (e : Ending) (w' : World) : Prop :=
  ∃ g, w.heap.size ≤ g ∧ e = .returned (.tuple #[.slice (some ⟨g, 0, none⟩) 128 128, .int .i64 0]) ∧ w'.heap[g]? = some (.cells (cells l) 5 (0, 0)) ∧ Below w.heap.size w w'
end Go.Proofs.Ytcngonedcnddlaa
