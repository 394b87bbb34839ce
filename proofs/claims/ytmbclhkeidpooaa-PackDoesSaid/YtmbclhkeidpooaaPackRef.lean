/- The walks of the document's own answer for layer 2: Block, fits, room, Whole, With, At, Put, Take answer what package pack does. -/
import Derived.Test.YtmbclhkeidpooaaPackWalk
import Derived.RegionTactic
import Derived.WalkLawsBesides
import Derived.Deep.QuietTactic
import Derived.BigQuiet
import Derived.Deep.OwnRows
import Derived.Laws.MakeOwn
namespace Go.Proofs.Ytmbclhkeidpooaa
open Go.RowKit PolyM PackM

theorem rblock_no (a : Option Addr) (n c : Nat) (w : World) (hm : n ≤ 9223372036854775807) (h0 : n ≠ 0) (h1 : n ≠ 128) :
    Calls Try.prog 18 #[.slice a n c] w fun e w' => e = .returned (.bool false) ∧ w = w' := by
  have d0 : ((n : Int) == 0) = false := by simp; omega
  have d1 : ((n : Int) == 128) = false := by simp; omega
  go_enter Try.func18, Try.ntmps18
  go_wp2
  go_ret
  exact ⟨rfl, rfl⟩
theorem rblock_yes (a : Option Addr) (n c : Nat) (w : World) (h : n = 0 ∨ n = 128) :
    Calls Try.prog 18 #[.slice a n c] w fun e w' => e = .returned (.bool true) ∧ w = w' := by
  have hm : n ≤ 9223372036854775807 := by omega
  rcases h with h | h
  · have d0 : ((n : Int) == 0) = true := by simp; omega
    clear h
    go_enter Try.func18, Try.ntmps18
    go_wp2
    go_ret
    exact ⟨rfl, rfl⟩
  · have d0 : ((n : Int) == 0) = false := by simp; omega
    have d1 : ((n : Int) == 128) = true := by simp; omega
    clear h
    go_enter Try.func18, Try.ntmps18
    go_wp2
    go_ret
    exact ⟨rfl, rfl⟩
theorem rfits_yes (p s : Int) (w : World) (hp : Place p s) :
    Calls Try.prog 19 #[.int .i64 p, .int .i64 s] w fun e w' => e = .returned (.bool true) ∧ w = w' := by
  obtain ⟨p1, p2, p3, p4⟩ := hp
  go_enter Try.func19, Try.ntmps19
  go_wp2
  go_ret
  exact ⟨rfl, rfl⟩
theorem rfits_no (p s : Int) (w : World) (hp : ¬ Place p s) :
    Calls Try.prog 19 #[.int .i64 p, .int .i64 s] w fun e w' => e = .returned (.bool false) ∧ w = w' := by
  have hc : s < 1 ∨ (1 ≤ s ∧ 4 < s) ∨ (1 ≤ s ∧ s ≤ 4 ∧ p < 0) ∨ (1 ≤ s ∧ s ≤ 4 ∧ 0 ≤ p ∧ 128 - s < p) := by unfold Place at hp; omega
  rcases hc with hc | ⟨h1, hc⟩ | ⟨h1, h2, hc⟩ | ⟨h1, h2, h3, hc⟩
  case' inr.inr.inr => have hd : decide (p ≤ 128 - s) = false := by simp; omega
  all_goals
    go_enter Try.func19, Try.ntmps19
    go_wp2
    go_ret
    exact ⟨rfl, rfl⟩
theorem room_calls (s : Nat) (w : World) (hs : s ≤ 4) :
    Calls Try.prog 20 #[.int .i64 s] w fun e w' => e = .returned (.int .i64 (256 ^ s)) ∧ w = w' := by
  go_enter Try.func20, Try.ntmps20
  go_wp2
  have h0 := Lib.hid pow_256.1.symm
  go_loop [3, 4] (fun t i => ∃ (k : Nat) (v : Int), k ≤ s ∧ i = .int .i64 k ∧ t = .int .i64 v ∧ v = 256 ^ k) (fun _ i => s - (intOf i).toNat)
  case atStart => exact ⟨0, 1, by omega, rfl, rfl, h0.out⟩
  case round =>
    obtain ⟨k, v, hk, rfl, rfl, hv⟩ := hrel
    by_cases hks : k < s
    · have F : Hid (v * 256 = 256 ^ (k + 1)) := by refine Lib.hid ?_; rw [hv]; rfl
      have hb : 0 ≤ v ∧ v ≤ 16777216 := by
        have hk' : k = 0 ∨ k = 1 ∨ k = 2 ∨ k = 3 := by omega
        obtain ⟨e0, e1, e2, e3, e4⟩ := pow_256
        rcases hk' with rfl | rfl | rfl | rfl <;> omega
      obtain ⟨hv0, hv1⟩ := hb
      clear hv
      go_wp2
      go_round
      case rel => exact ⟨k + 1, v * 256, by omega, by go_num, rfl, F.out⟩
      case measure => simp [intOf]; omega
    · obtain rfl : k = s := by omega
      have F := Lib.hid hv
      clear hv
      go_wp2
      go_ret
      exact ⟨ret_int F.out, rfl⟩

/-- A new block of 128 bytes: what Whole leaves. -/
def NewBlk (w : World) (l : List Int) (e : Ending) (w' : World) : Prop :=
  ∃ g, w.heap.size ≤ g ∧ e = .returned (.slice (some ⟨g, 0, none⟩) 128 128) ∧ w'.heap[g]? = some (.cells (cells l) 5 (0, 0)) ∧ Below w.heap.size w w'
theorem made_noughts : madeCells #[.int .u8 0] 128 = cells noughts := by kernel_rfl
theorem make_128 (W : World) : (Instr.makeSlice 22 (.int .i64 128) (.int .i64 128)).run Try.prog W = .ok (.slice (some ⟨W.heap.size, 0, none⟩) 128 128) (W.alloc (.cells (cells noughts) 5)) := by
  rw [← made_noughts]
  exact run_make_row' (P := Try.prog) 22 5 (.int .u8 0) 1 Try.underlying22 (by kernel_rfl) rfl .i64 .i64 128 (by omega) (by omega) W
/-- The first k bytes of a block, noughts behind them. -/
theorem pad_take_succ {zs : List Int} {k : Nat} (h : k < zs.length) (hl : zs.length ≤ 128) : pad (zs.take (k + 1)) = (pad (zs.take k)).set k (zs.getD k 0) := by
  refine ext128 (pad_len (by simp; omega)) (by rw [List.length_set]; exact pad_len (by simp; omega)) fun j hj => ?_
  rw [pad_getD, List.getD_eq_getElem?_getD (l := List.set _ _ _), List.getElem?_set]
  by_cases e : k = j
  · subst e
    rw [if_pos rfl, if_pos (by rw [pad_len (by simp; omega)]; exact hj)]
    simp [List.getD_eq_getElem?_getD]
  · rw [if_neg e, ← List.getD_eq_getElem?_getD, pad_getD]
    simp only [List.getD_eq_getElem?_getD, List.getElem?_take]
    by_cases q : j < k
    · rw [if_pos q, if_pos (by omega)]
    · rw [if_neg q, if_neg (by omega)]
theorem rwhole_calls (a : Option Addr) (n c : Nat) (zs : List Int) (w : World) (hi : Ints .u8 w a n zs) (hn : n ≤ 128) :
    Calls Try.prog 23 #[.slice a n c] w (NewBlk w (pad zs)) := by
  have hmk := make_128
  have hlen := Lib.hid hi.len
  have hB := bytes_of hi
  have hg0 : (w.alloc (.cells (cells noughts) 5)).heap[w.heap.size]? = some (.cells (cells (pad (zs.take 0))) 5 (0, 0)) := heap_alloc_new _ _
  have hb0 : Below w.heap.size w (w.alloc (.cells (cells noughts) 5)) := (Below.refl _ _).alloc (Nat.le_refl _) _
  go_enter Try.func23, Try.ntmps23
  go_wp2
  generalize World.alloc _ _ = w1 at *
  obtain ⟨g, hg, hgw⟩ : ∃ g, g = w.heap.size ∧ w.heap.size ≤ g := ⟨_, rfl, Nat.le_refl _⟩
  have hgH : Hid (w.heap.size = g) := hg.symm
  rw [← hg] at hg0 ⊢
  clear hg hmk
  go_loopw [4] (fun i wr => ∃ k : Nat, k ≤ n ∧ i = .int .i64 k ∧ wr.heap[g]? = some (.cells (cells (pad (zs.take k))) 5 (0, 0)) ∧ Below w.heap.size w wr) (fun i _ => n - (intOf i).toNat)
  case atStart => exact ⟨0, by omega, rfl, hg0, hb0⟩
  case round =>
    obtain ⟨k, hk, rfl, hgk, hbk⟩ := hrel
    clear hg0 hb0
    by_cases hkn : k < n
    · have hl1 : (pad (zs.take k)).length = 128 := pad_len (by simp; have := hlen.out; omega)
      have hcell : wr.cell? ⟨g, k, none⟩ = some (.int .u8 ((pad (zs.take k)).getD k 0)) := by
        rw [cell_of_row _ _ _ _ _ _ hgk, cells_getD (by rw [hl1]; omega)]
      have hfr : wr.frozen? ⟨g, k, none⟩ = false := frozen_of_row _ _ _ _ _ hgk
      obtain ⟨b, off, rfl, hsrc⟩ : ∃ b off, a = some ⟨b, off, none⟩ ∧ wr.cell? ⟨b, off + k, none⟩ = some (.int .u8 (zs.getD k 0)) := by
        rcases (hi.below hbk (Nat.le_refl _)).row with q | ⟨b, off, e, _, hc⟩
        · omega
        · exact ⟨b, off, e, hc k hkn⟩
      have F : Hid (pad (zs.take (k + 1)) = (pad (zs.take k)).set k (zs.getD k 0)) := pad_take_succ (by rw [hlen.out]; exact hkn) (by rw [hlen.out]; exact hn)
      have hb := getD_in hB k
      clear hl1
      generalize zs.getD k 0 = z at *
      generalize (pad (zs.take k)).getD k 0 = y at *
      go_wp2
      go_roundw
      case rel =>
        refine ⟨k + 1, by omega, by go_num, ?_, hbk.setCell hgw _⟩
        rw [heap_setCell_same _ _ _ _ _ _ hgk, cells_set, F.out]
      case measure => simp [intOf]; omega
    · obtain rfl : k = n := by omega
      have F : Hid (zs.take k = zs) := by refine Lib.hid ?_; rw [List.take_of_length_le (by rw [hlen.out]; omega)]
      go_wp2
      go_ret
      exact ⟨g, hgw, rfl, by rw [hgk, F.out], hbk⟩
theorem div_byt (v : Int) (k : Nat) (hk : k < 4) : v / 256 ^ k / 256 = v / 256 ^ (k + 1) := by
  have hs : k = 0 ∨ k = 1 ∨ k = 2 ∨ k = 3 := by omega
  obtain ⟨e0, e1, e2, e3, e4⟩ := pow_256
  rcases hs with rfl | rfl | rfl | rfl <;> simp only [e0, e1, e2, e3, e4, Nat.zero_add, Nat.reduceAdd] <;> omega
theorem div_in (v : Int) (k : Nat) (h0 : 0 ≤ v) (h1 : v ≤ 4294967295) : 0 ≤ v / 256 ^ k ∧ v / 256 ^ k ≤ 4294967295 := by
  have hp : (0 : Int) < 256 ^ k := Int.pow_pos (by omega)
  refine ⟨Int.ediv_nonneg h0 (by omega), ?_⟩
  have := Int.ediv_le_self (256 ^ k) h0
  omega
theorem with_calls (a : Option Addr) (n c : Nat) (zs : List Int) (p s : Nat) (v : Int) (w : World) (hi : Ints .u8 w a n zs) (hn : n ≤ 128) (s4 : s ≤ 4) (hp : p + s ≤ 128) (v0 : 0 ≤ v) (v1 : v ≤ 4294967295) :
    Calls Try.prog 21 #[.slice a n c, .int .i64 p, .int .i64 s, .int .i64 v] w (NewBlk w (putL zs p s v)) := by
  have hlen := Lib.hid hi.len
  have h00 := Lib.hid (putL_zero zs (by rw [hlen.out]; exact hn) p v)
  have hd0 : Hid (v = v / 256 ^ 0) := by refine Lib.hid ?_; rw [pow_256.1]; omega
  go_enter Try.func21, Try.ntmps21
  go_wp2_with (go_at_call 23; refine (rwhole_calls _ _ _ _ _ hi hn).mono ?_; rintro e w1 ⟨g, hgw, rfl, hg, hb1⟩)
  rw [← h00.out] at hg
  clear h00
  go_loopw [3, 10] (fun t i wr => ∃ (k : Nat) (m : Int), k ≤ s ∧ i = .int .i64 k ∧ t = .int .i64 m ∧ m = v / 256 ^ k ∧ wr.heap[g]? = some (.cells (cells (putL zs p k v)) 5 (0, 0)) ∧ Below w.heap.size w wr) (fun _ i _ => s - (intOf i).toNat)
  case atStart => exact ⟨0, v, by omega, rfl, rfl, hd0.out, hg, hb1⟩
  case round =>
    obtain ⟨k, m, hk, rfl, rfl, hm, hgk, hbk⟩ := hrel
    clear hg hb1
    by_cases hks : k < s
    · have hcell : wr.cell? ⟨g, p + k, none⟩ = some (.int .u8 ((putL zs p k v).getD (p + k) 0)) := by
        rw [cell_of_row _ _ _ _ _ _ hgk, cells_getD (by rw [putL_len]; omega)]
      have hfr : wr.frozen? ⟨g, p + k, none⟩ = false := frozen_of_row _ _ _ _ _ hgk
      have hmi := div_in v k v0 v1
      rw [← hm] at hmi
      obtain ⟨m0, m1⟩ := hmi
      have F1 : Hid (m % 256 = byt v k) := by refine Lib.hid ?_; rw [hm]; rfl
      have F2 : Hid (m / 256 = v / 256 ^ (k + 1)) := by refine Lib.hid ?_; rw [hm]; exact div_byt v k (by omega)
      clear hm hd0
      generalize (putL zs p k v).getD (p + k) 0 = y at *
      go_wp2
      go_roundw
      case rel =>
        refine ⟨k + 1, m / 256, by omega, by go_num, rfl, F2.out, ?_, hbk.setCell hgw _⟩
        rw [heap_setCell_same _ _ _ _ _ _ hgk, cells_set, putL_succ, F1.out]
      case measure => simp [intOf]; omega
    · obtain rfl : k = s := by omega
      clear hm hd0
      go_wp2
      go_ret
      exact ⟨g, hgw, rfl, hgk, hbk⟩
theorem at_calls (a : Option Addr) (n c : Nat) (zs : List Int) (p s : Nat) (w : World) (hi : Ints .u8 w a n zs) (hn : n ≤ 128) (s1 : 1 ≤ s) (s4 : s ≤ 4) (hp : p + s ≤ 128) :
    Calls Try.prog 22 #[.slice a n c, .int .i64 p, .int .i64 s] w fun e w' => e = .returned (.int .i64 (takeN zs p s)) ∧ Below w.heap.size w w' := by
  have hlen := Lib.hid hi.len
  have hB := bytes_of hi
  have hT := takeN_in hB p s
  have hmax : takeN zs p s ≤ 4294967295 := by
    have hs : s = 1 ∨ s = 2 ∨ s = 3 ∨ s = 4 := by omega
    obtain ⟨e0, e1, e2, e3, e4⟩ := pow_256
    rcases hs with rfl | rfl | rfl | rfl <;> omega
  have hst : Hid (0 * 256 ^ s + takeN zs p s = takeN zs p s) := by refine Lib.hid ?_; rw [Int.zero_mul, Int.zero_add]
  go_enter Try.func22, Try.ntmps22
  go_wp2_with (go_at_call 23; refine (rwhole_calls _ _ _ _ _ hi hn).mono ?_; rintro e w1 ⟨g, hgw, rfl, hg, hb1⟩)
  go_loop [8, 9] (fun t i => ∃ (k : Nat) (m j : Int), k ≤ s ∧ i = .int .i64 j ∧ t = .int .i64 m ∧ j = k - 1 ∧ 0 ≤ m ∧ m * 256 ^ k + takeN zs p k = takeN zs p s) (fun _ i => (intOf i + 1).toNat)
  case atStart => exact ⟨s, 0, _, by omega, rfl, rfl, rfl, by omega, hst.out⟩
  case round =>
    obtain ⟨k, m, j, hk, rfl, rfl, hj, m0, hm⟩ := hrel
    clear hst
    by_cases hk0 : k = 0
    · subst hk0
      obtain rfl : j = -1 := by omega
      have F : Hid (m = takeN zs p s) := by
        refine Lib.hid ?_
        rw [← hm, pow_256.1]
        show m = m * 1 + 0
        omega
      clear hm hj
      go_wp2
      go_ret
      exact ⟨ret_int F.out, hb1⟩
    · obtain ⟨i, rfl⟩ : ∃ i, k = i + 1 := ⟨k - 1, by omega⟩
      obtain rfl : j = (i : Int) := by omega
      have hcell : w1.cell? ⟨g, p + i, none⟩ = some (.int .u8 ((pad zs).getD (p + i) 0)) := by
        rw [cell_of_row _ _ _ _ _ _ hg, cells_getD (by rw [pad_len (by rw [hlen.out]; exact hn)]; omega)]
      have hbb := getD_in (pad_bytes hB) (p + i)
      have hti := takeN_in hB p i
      have e1 : takeN zs p (i + 1) = takeN zs p i + (pad zs).getD (p + i) 0 * 256 ^ i := rfl
      rw [e1] at hm
      generalize (pad zs).getD (p + i) 0 = y at *
      have hq : (m * 256 + y) * 256 ^ i + takeN zs p i = takeN zs p s ∧ m ≤ 4294967295 := by
        rw [← hm, Int.pow_succ, Int.add_mul]
        have hs : i = 0 ∨ i = 1 ∨ i = 2 ∨ i = 3 := by omega
        obtain ⟨f0, f1, f2, f3, f4⟩ := pow_256
        rcases hs with rfl | rfl | rfl | rfl <;> omega
      have F := Lib.hid hq.1
      obtain ⟨y0, y1⟩ := hbb
      have m1 := hq.2
      clear hq hm e1 hj hti hT hmax hg hk0
      go_wp2
      go_round
      case rel => exact ⟨i, m * 256 + y, _, by omega, rfl, rfl, rfl, by omega, F.out⟩
      case measure => simp [intOf]
theorem rput_text (a : Option Addr) (n c : Nat) (p s v : Int) (w : World) (hm : n ≤ 9223372036854775807) (h0 : n ≠ 0) (h1 : n ≠ 128) :
    Calls Try.prog 12 #[.slice a n c, .int .i64 p, .int .i64 s, .int .i64 v] w fun e w' => e = .returned (.tuple #[.slice none 0 0, .int .i64 3]) ∧ w = w' := by
  go_enter Try.func12, Try.ntmps12
  go_wp2_with (go_at_call 18; refine (rblock_no _ _ _ _ hm h0 h1).mono ?_; rintro e w1 ⟨rfl, rfl⟩)
  go_ret2
  exact ⟨rfl, rfl⟩
theorem rput_arg (a : Option Addr) (n c : Nat) (p s v : Int) (w : World) (h : n = 0 ∨ n = 128) (hp : ¬ Place p s) :
    Calls Try.prog 12 #[.slice a n c, .int .i64 p, .int .i64 s, .int .i64 v] w fun e w' => e = .returned (.tuple #[.slice none 0 0, .int .i64 2]) ∧ w = w' := by
  go_enter Try.func12, Try.ntmps12
  go_wp2_with (first
    | (go_at_call 18; refine (rblock_yes _ _ _ _ h).mono ?_; rintro e w1 ⟨rfl, rfl⟩)
    | (go_at_call 19; refine (rfits_no _ _ _ hp).mono ?_; rintro e w1 ⟨rfl, rfl⟩))
  go_ret2
  exact ⟨rfl, rfl⟩
theorem rput_number (a : Option Addr) (n c : Nat) (p s : Nat) (v : Int) (w : World) (h : n = 0 ∨ n = 128) (hp : Place p s) (hv : ¬ (0 ≤ v ∧ v < 256 ^ s)) :
    Calls Try.prog 12 #[.slice a n c, .int .i64 p, .int .i64 s, .int .i64 v] w fun e w' => e = .returned (.tuple #[.slice none 0 0, .int .i64 2]) ∧ w = w' := by
  have hs4 : s ≤ 4 := by unfold Place at hp; omega
  by_cases v0 : 0 ≤ v
  · have v1 : (256 : Int) ^ s ≤ v := by
      rcases Int.lt_or_le v (256 ^ s) with q | q
      · exact absurd ⟨v0, q⟩ hv
      · exact q
    clear hv
    obtain ⟨r, hr⟩ : ∃ r : Int, r = 256 ^ s := ⟨_, rfl⟩
    have hroom := fun w => room_calls s w hs4
    rw [← hr] at hroom v1
    clear hr
    go_enter Try.func12, Try.ntmps12
    go_wp2_with (first
      | (go_at_call 18; refine (rblock_yes _ _ _ _ h).mono ?_; rintro e w1 ⟨rfl, rfl⟩)
      | (go_at_call 19; refine (rfits_yes _ _ _ hp).mono ?_; rintro e w1 ⟨rfl, rfl⟩)
      | (go_at_call 20; refine (hroom _).mono ?_; rintro e w1 ⟨rfl, rfl⟩))
    go_ret2
    exact ⟨rfl, rfl⟩
  · have v1 : v < 0 := by omega
    clear hv v0
    go_enter Try.func12, Try.ntmps12
    go_wp2_with (first
      | (go_at_call 18; refine (rblock_yes _ _ _ _ h).mono ?_; rintro e w1 ⟨rfl, rfl⟩)
      | (go_at_call 19; refine (rfits_yes _ _ _ hp).mono ?_; rintro e w1 ⟨rfl, rfl⟩))
    go_ret2
    exact ⟨rfl, rfl⟩
/-- What the document's own Put leaves. -/
def RPutIs (w : World) (l : List Int) (e : Ending) (w' : World) : Prop :=
  ∃ g, w.heap.size ≤ g ∧ e = .returned (.tuple #[.slice (some ⟨g, 0, none⟩) 128 128, .int .i64 0]) ∧ w'.heap[g]? = some (.cells (cells l) 5 (0, 0)) ∧ Below w.heap.size w w'
theorem rput_ok (a : Option Addr) (n c : Nat) (zs : List Int) (p s : Nat) (v : Int) (w : World) (hi : Ints .u8 w a n zs) (h : n = 0 ∨ n = 128) (s1 : 1 ≤ s) (s4 : s ≤ 4) (hp : p + s ≤ 128) (v0 : 0 ≤ v) (v1 : v < 256 ^ s) :
    Calls Try.prog 12 #[.slice a n c, .int .i64 p, .int .i64 s, .int .i64 v] w (RPutIs w (putL zs p s v)) := by
  have hpl : Place p s := by unfold Place; omega
  have hmax : v ≤ 4294967295 := by
    have hs : s = 1 ∨ s = 2 ∨ s = 3 ∨ s = 4 := by omega
    obtain ⟨e0, e1, e2, e3, e4⟩ := pow_256
    rcases hs with rfl | rfl | rfl | rfl <;> omega
  have hw := fun w (hi : Ints .u8 w a n zs) => with_calls a n c zs p s v w hi (by omega) s4 hp v0 hmax
  obtain ⟨r, hr⟩ : ∃ r : Int, r = 256 ^ s := ⟨_, rfl⟩
  have hroom := fun w => room_calls s w s4
  rw [← hr] at hroom v1
  clear hr
  go_enter Try.func12, Try.ntmps12
  go_wp2_with (first
    | (go_at_call 18; refine (rblock_yes _ _ _ _ h).mono ?_; rintro e w1 ⟨rfl, rfl⟩)
    | (go_at_call 19; refine (rfits_yes _ _ _ hpl).mono ?_; rintro e w1 ⟨rfl, rfl⟩)
    | (go_at_call 20; refine (hroom _).mono ?_; rintro e w1 ⟨rfl, rfl⟩)
    | (go_at_call 21; refine (hw _ hi).mono ?_; rintro e w1 ⟨g, hg, rfl, hgc, hb⟩))
  go_ret2
  exact ⟨g, hg, rfl, hgc, hb⟩
theorem rtake_text (a : Option Addr) (n c : Nat) (p s : Int) (w : World) (hm : n ≤ 9223372036854775807) (h0 : n ≠ 0) (h1 : n ≠ 128) :
    Calls Try.prog 13 #[.slice a n c, .int .i64 p, .int .i64 s] w fun e w' => e = .returned (.tuple #[.int .i64 0, .int .i64 3]) ∧ w = w' := by
  go_enter Try.func13, Try.ntmps13
  go_wp2_with (go_at_call 18; refine (rblock_no _ _ _ _ hm h0 h1).mono ?_; rintro e w1 ⟨rfl, rfl⟩)
  go_ret2
  exact ⟨rfl, rfl⟩
theorem rtake_arg (a : Option Addr) (n c : Nat) (p s : Int) (w : World) (h : n = 0 ∨ n = 128) (hp : ¬ Place p s) :
    Calls Try.prog 13 #[.slice a n c, .int .i64 p, .int .i64 s] w fun e w' => e = .returned (.tuple #[.int .i64 0, .int .i64 2]) ∧ w = w' := by
  go_enter Try.func13, Try.ntmps13
  go_wp2_with (first
    | (go_at_call 18; refine (rblock_yes _ _ _ _ h).mono ?_; rintro e w1 ⟨rfl, rfl⟩)
    | (go_at_call 19; refine (rfits_no _ _ _ hp).mono ?_; rintro e w1 ⟨rfl, rfl⟩))
  go_ret2
  exact ⟨rfl, rfl⟩
theorem rtake_ok (a : Option Addr) (n c : Nat) (zs : List Int) (p s : Nat) (w : World) (hi : Ints .u8 w a n zs) (h : n = 0 ∨ n = 128) (s1 : 1 ≤ s) (s4 : s ≤ 4) (hp : p + s ≤ 128) :
    Calls Try.prog 13 #[.slice a n c, .int .i64 p, .int .i64 s] w fun e w' => e = .returned (.tuple #[.int .i64 (takeN zs p s), .int .i64 0]) ∧ Below w.heap.size w w' := by
  have hpl : Place p s := by unfold Place; omega
  have hn : n ≤ 128 := by omega
  go_enter Try.func13, Try.ntmps13
  go_wp2_with (first
    | (go_at_call 18; refine (rblock_yes _ _ _ _ h).mono ?_; rintro e w1 ⟨rfl, rfl⟩)
    | (go_at_call 19; refine (rfits_yes _ _ _ hpl).mono ?_; rintro e w1 ⟨rfl, rfl⟩)
    | (go_at_call 22; refine (at_calls _ _ _ _ _ _ _ hi hn s1 s4 hp).mono ?_; rintro e w1 ⟨rfl, hb⟩))
  go_ret2
  exact ⟨rfl, hb⟩
end Go.Proofs.Ytmbclhkeidpooaa
