/- The walks of package disk's checks: hasPlace, Check, mayUse. -/
import Derived.Test.YtldgpkaecfgagaaDiskA
import Derived.Test.YtldgpkaecfgagaaDevGreat
import Derived.WalkMore
namespace Go.Proofs.Ytldgpkaecfgagaa
open Go.RowKit PolyM PackM FoldM DevM

/-- Has the device that block? -/
def placeB (d : Dev) (k : Int) : Bool := decide (0 ≤ k ∧ k < d.blocks.length)
theorem hasplace_calls (v : Value) (d : Dev) (k : Int) (w : World) (h : DevV w v d) :
    Calls Try.prog 67 #[v, .int .i64 k] w fun e w' => e = .returned (.bool (placeB d k)) ∧ Below w.heap.size w w' := by
  obtain ⟨A, n, C, hs, B, m, D, ht, rfl, h1, h2⟩ := h
  have hm1 := h1.max
  have hl1 := h1.len
  obtain ⟨c0, c1, c2, hb⟩ := boxed_dev (w := w) (x := .slice A n C) (y := .slice B m D) (z := .bool d.dead) (t := 25)
  have hx : (k < 0 ∧ Hid (placeB d k = false)) ∨ (0 ≤ k ∧ k < (n : Int) ∧ Hid (placeB d k = true)) ∨ (0 ≤ k ∧ (n : Int) ≤ k ∧ Hid (placeB d k = false)) := by
    unfold placeB
    rw [hl1]
    by_cases q0 : k < 0
    · exact .inl ⟨q0, decide_eq_false (by omega)⟩
    · by_cases q1 : k < (n : Int)
      · exact .inr (.inl ⟨by omega, q1, decide_eq_true (by omega)⟩)
      · exact .inr (.inr ⟨by omega, by omega, decide_eq_false (by omega)⟩)
  clear hl1 h1 h2
  rcases hx with ⟨q0, E⟩ | ⟨q0, q1, E⟩ | ⟨q0, q1, E⟩
  all_goals
    rw [E.out]
    go_enter Try.func67, Try.ntmps67
    go_wp2
    go_ret
    first
      | exact ⟨rfl, hb⟩
      | exact ⟨ret_bool (by simp; omega), hb⟩

/-- Check's error. -/
def chk (d : Dev) : Int := if MayD d then 0 else 8
def OkB (dead : Bool) (b : List Int) : Prop := Blk b ∧ (dead = true → b.length = 0)
def OkW (n : Nat) (x : Int × List Int) : Prop := 0 ≤ x.1 ∧ x.1 < n ∧ Blk x.2
theorem may_iff (d : Dev) : MayD d ↔ (1 ≤ d.blocks.length ∧ d.blocks.length ≤ 256 ∧ d.wait.length ≤ 1024 ∧ (d.dead = true → d.wait.length = 0)) ∧ (∀ b ∈ d.blocks, OkB d.dead b) ∧ ∀ x ∈ d.wait, OkW d.blocks.length x := by
  unfold MayD OkB OkW
  exact ⟨fun ⟨a, b, c, e, f, g⟩ => ⟨⟨a, b, c, e⟩, f, g⟩, fun ⟨⟨a, b, c, e⟩, f, g⟩ => ⟨a, b, c, e, f, g⟩⟩
theorem ret_num {a b : Int} (h : a = b) : Ending.returned (.int .i64 a) = .returned (.int .i64 b) := by rw [h]
theorem take_snocL {α : Type} {l : List α} {k : Nat} {x : α} (h : l[k]? = some x) : l.take (k + 1) = l.take k ++ [x] := by
  have hk : k < l.length := (List.getElem?_eq_some_iff.1 h).1
  rw [List.take_succ_eq_append_getElem hk]
  rw [List.getElem?_eq_getElem hk] at h
  injection h with h
  rw [h]

set_option maxRecDepth 100000 in
set_option maxHeartbeats 4000000 in
theorem check_no (v : Value) (d : Dev) (w : World) (h : DevV w v d) (hno : ¬ (1 ≤ d.blocks.length ∧ d.blocks.length ≤ 256 ∧ d.wait.length ≤ 1024 ∧ (d.dead = true → d.wait.length = 0))) :
    Calls Try.prog 21 #[v] w fun e w' => e = .returned (.int .i64 8) ∧ Below w.heap.size w w' := by
  obtain ⟨A, n, C, hs, B, m, D, ht, rfl, h1, h2⟩ := h
  have hm1 := h1.max
  have hm2 := h2.max
  rw [h1.len, h2.len] at hno
  generalize d.dead = dd at *
  obtain ⟨c0, c1, c2, hb⟩ := boxed_dev (w := w) (x := .slice A n C) (y := .slice B m D) (z := .bool dd) (t := 25)
  have hx : ((n : Int) < 1) ∨ ((1 : Int) ≤ (n : Int) ∧ (256 : Int) < (n : Int)) ∨ ((1 : Int) ≤ (n : Int) ∧ (n : Int) ≤ 256 ∧ (1024 : Int) < (m : Int)) ∨ ((1 : Int) ≤ (n : Int) ∧ (n : Int) ≤ 256 ∧ (m : Int) ≤ 1024 ∧ dd = true ∧ ((m : Int) != 0) = true) := by
    rcases dd with _ | _
    · have : ¬ (1 ≤ n ∧ n ≤ 256 ∧ m ≤ 1024) := fun q => hno ⟨q.1, q.2.1, q.2.2, by simp⟩
      omega
    · have : ¬ (1 ≤ n ∧ n ≤ 256 ∧ m ≤ 1024 ∧ m = 0) := fun q => hno ⟨q.1, q.2.1, q.2.2.1, fun _ => q.2.2.2⟩
      by_cases q : 1 ≤ n ∧ n ≤ 256 ∧ m ≤ 1024
      · exact .inr (.inr (.inr ⟨by omega, by omega, by omega, rfl, by simp; omega⟩))
      · omega
  clear hno
  rcases hx with q1 | ⟨q1, q2⟩ | ⟨q1, q2, q3⟩ | ⟨q1, q2, q3, q4, q5⟩
  case' inr.inr.inr => subst q4
  all_goals
    go_enter Try.func21, Try.ntmps21
    go_wp2
    go_ret
    exact ⟨rfl, hb⟩

set_option maxRecDepth 100000 in
set_option maxHeartbeats 4000000 in
theorem check_alive (A B : Option Addr) (n C m D : Nat) (hs ht : List Value) (bl : List (List Int)) (wt : List (Int × List Int)) (w : World) (h1 : Slab w A n hs bl) (h2 : WSlab w B m ht wt) (y1 : (1 : Int) ≤ (n : Int)) (y2 : (n : Int) ≤ 256) (y3 : (m : Int) ≤ 1024) (r : Int) (hr : (r = 0 ∧ (∀ b ∈ bl, OkB false b) ∧ ∀ x ∈ wt, OkW bl.length x) ∨ (r = 8 ∧ ¬ ((∀ b ∈ bl, OkB false b) ∧ ∀ x ∈ wt, OkW bl.length x))) :
    Calls Try.prog 21 #[.agg #[.slice A n C, .slice B m D, .bool false]] w fun e w' => e = .returned (.int .i64 r) ∧ Below w.heap.size w w' := by
  have hm1 := h1.max
  have hm2 := h2.max
  have hl1 := Lib.hid h1.len
  have hl2 := Lib.hid h2.len
  have hsz : Hid (w.heap.size < (w.alloc (.cells #[.slice A n C, .slice B m D, .bool false] 25)).heap.size) := by refine Lib.hid ?_; simp
  have R8 : Hid ((¬ ((∀ b ∈ bl, OkB false b) ∧ ∀ x ∈ wt, OkW bl.length x)) → r = 8) := by
    refine Lib.hid fun q => ?_
    rcases hr with ⟨_, q2⟩ | ⟨q2, _⟩
    · exact absurd q2 q
    · exact q2
  have R0 : Hid (((∀ b ∈ bl, OkB false b) ∧ ∀ x ∈ wt, OkW bl.length x) → r = 0) := by
    refine Lib.hid fun q => ?_
    rcases hr with ⟨q2, _⟩ | ⟨_, q2⟩
    · exact q2
    · exact absurd q q2
  clear hr
  obtain ⟨c0, c1, c2, hb⟩ := boxed_dev (w := w) (x := .slice A n C) (y := .slice B m D) (z := .bool false) (t := 25)
  go_enter Try.func21, Try.ntmps21
  go_wp2
  generalize World.alloc _ _ = w1 at *
  have k1 := h1.below hb (Nat.le_refl _)
  have k2 := h2.below hb (Nat.le_refl _)
  go_loop [34] (fun i => ∃ k : Nat, k ≤ n ∧ i = .int .i64 k ∧ Hid (∀ b ∈ bl.take k, OkB false b)) (fun i => n - (intOf i).toNat)
  case atStart => exact ⟨0, by omega, rfl, fun b hb => by simp at hb⟩
  case round =>
    obtain ⟨k, hk, rfl, hok⟩ := hrel
    by_cases hkn : k < n
    · obtain ⟨b, off, A1, L, C1, zs, rfl, _, _, hls, hcell, hi⟩ := k1.at hkn
      have hLm := hi.max
      have cs := isblock_calls A1 L C1 zs w1 hi
      have hls' := Lib.hid hls
      have hL := Lib.hid hi.len
      clear hls hi
      by_cases hB : Blk zs
      · rw [decide_eq_true hB] at cs
        have F : Hid (∀ b ∈ bl.take (k + 1), OkB false b) := by
          refine Lib.hid ?_
          rw [take_snocL hls'.out]
          intro x hx
          rcases List.mem_append.1 hx with q | q
          · exact hok.out x q
          · rw [List.mem_singleton.1 q]; exact ⟨hB, fun h => by cases h⟩
        clear hB
        go_wp2_with (go_at_call 66; refine cs.mono ?_; rintro e w2 ⟨rfl, rfl⟩)
        go_round
        case rel => exact ⟨k + 1, by omega, by go_num, F⟩
        case measure => simp [intOf]; omega
      · rw [decide_eq_false hB] at cs
        have F : Hid (r = 8) := Lib.hid (R8.out fun q => hB (q.1 zs (List.mem_of_getElem? hls'.out)).1)
        go_wp2_with (go_at_call 66; refine cs.mono ?_; rintro e w2 ⟨rfl, rfl⟩)
        go_ret
        exact ⟨ret_num F.out.symm, hb⟩
    · obtain rfl : k = n := by omega
      have G : Hid (∀ b ∈ bl, OkB false b) := by
        have := hok.out
        rwa [List.take_of_length_le (by rw [hl1.out]; exact Nat.le_refl _)] at this
      go_wp2
      go_loopw [54] (fun i wr => ∃ j : Nat, j ≤ m ∧ i = .int .i64 j ∧ Below w1.heap.size w1 wr ∧ Hid (∀ x ∈ wt.take j, OkW bl.length x)) (fun i _ => m - (intOf i).toNat)
      case atStart => exact ⟨0, by omega, rfl, Below.refl _ _, fun b hb => by simp at hb⟩
      case round =>
        obtain ⟨j, hj, rfl, hbj, hokw⟩ := hrel
        have hbR : Below w.heap.size w wr := hb.trans (hbj.mono hb.size)
        by_cases hjm : j < m
        · obtain ⟨b, off, A1, L, C1, x, rfl, _, hls, hcat, hcell, wx, hi, _, _⟩ := (k2.below hbj (Nat.le_refl _)).at hjm
          have hLm := hi.max
          have hls' := Lib.hid hls
          obtain ⟨x0, x1⟩ := bounds_i64 wx
          have hbad : Hid (¬ OkW bl.length x → r = 8) := by
            refine Lib.hid fun q => R8.out fun q2 => q (q2.2 x (List.mem_of_getElem? hls'.out))
          have hgood : Hid (OkW bl.length x → ∀ y ∈ wt.take (j + 1), OkW bl.length y) := by
            refine Lib.hid fun q => ?_
            rw [take_snocL hls'.out]
            intro y hy
            rcases List.mem_append.1 hy with q2 | q2
            · exact hokw.out y q2
            · rw [List.mem_singleton.1 q2]; exact q
          obtain ⟨at_, dat⟩ := x
          simp only at *
          have hb2 : Below wr.heap.size wr (wr.alloc (.cells #[.int .i64 at_, .slice A1 L C1] 88)) := (Below.refl _ _).alloc (Nat.le_refl _) _
          have hb3 := hb.trans ((hbj.trans (hb2.mono hbj.size)).mono hb.size)
          have hdv : DevV (wr.alloc (.cells #[.int .i64 at_, .slice A1 L C1] 88)) (.agg #[.slice A k C, .slice (some ⟨b, off, none⟩) m D, .bool false]) ⟨bl, wt, false⟩ := ⟨_, _, _, _, _, _, _, _, rfl, h1.below hb3 (Nat.le_refl _), h2.below hb3 (Nat.le_refl _)⟩
          have cp := hasplace_calls _ _ at_ _ hdv
          have e0 : wr.cell? ⟨w.heap.size, 0, none⟩ = some (.slice A k C) := by rw [hbj.cell (p := ⟨w.heap.size, 0, none⟩) hsz.out]; exact c0
          have e1 : wr.cell? ⟨w.heap.size, 1, none⟩ = some (.slice (some ⟨b, off, none⟩) m D) := by rw [hbj.cell (p := ⟨w.heap.size, 1, none⟩) hsz.out]; exact c1
          have e2 : wr.cell? ⟨w.heap.size, 2, none⟩ = some (.bool false) := by rw [hbj.cell (p := ⟨w.heap.size, 2, none⟩) hsz.out]; exact c2
          have hlt : w.heap.size < wr.heap.size := Nat.lt_of_lt_of_le hsz.out hbj.size
          have cs := fun W (hW : Below wr.heap.size wr W) => isblock_calls A1 L C1 dat W (hi.below hW (Nat.le_refl _))
          have hi' := Lib.hid hi
          have hcel : ∀ W, Below (wr.alloc (.cells #[.int .i64 at_, .slice A1 L C1] 88)).heap.size (wr.alloc (.cells #[.int .i64 at_, .slice A1 L C1] 88)) W → W.cell? ⟨wr.heap.size, 1, none⟩ = some (.slice A1 L C1) := fun W hW => by
            rw [hW.cell (p := ⟨wr.heap.size, 1, none⟩) (by simp)]
            exact cell_of_row _ _ _ _ _ _ (heap_alloc_new _ _)
          have hl1' := hl1.out
          have hpart : (placeB ⟨bl, wt, false⟩ at_ = false ∧ Hid (r = 8)) ∨ (placeB ⟨bl, wt, false⟩ at_ = true ∧ decide (Blk dat) = false ∧ Hid (r = 8)) ∨ (placeB ⟨bl, wt, false⟩ at_ = true ∧ decide (Blk dat) = true ∧ Hid (∀ y ∈ wt.take (j + 1), OkW bl.length y)) := by
            unfold OkW at hbad hgood
            unfold placeB
            simp only at *
            by_cases a1 : 0 ≤ at_ ∧ at_ < (bl.length : Int)
            · by_cases a3 : Blk dat
              · exact .inr (.inr ⟨decide_eq_true a1, decide_eq_true a3, by unfold OkW; exact hgood.out ⟨a1.1, a1.2, a3⟩⟩)
              · exact .inr (.inl ⟨decide_eq_true a1, decide_eq_false a3, hbad.out fun q => a3 q.2.2⟩)
            · exact .inl ⟨decide_eq_false a1, hbad.out fun q => a1 ⟨q.1, q.2.1⟩⟩
          have hA := Lib.hid hbj
          have hBB := Lib.hid hb2
          clear hls hi wx hdv hbad hgood hl1' hbj hb2 hb3
          rcases hpart with ⟨a1, F⟩ | ⟨a1, a2, F⟩ | ⟨a1, a2, F⟩
          · rw [a1] at cp
            clear cs hcel
            go_wp2_with (go_at_call 67; refine cp.mono ?_; rintro e w3 ⟨rfl, hb4⟩)
            go_ret
            exact ⟨ret_num F.out.symm, hbR.trans ((hBB.out.trans (hb4.mono hBB.out.size)).mono hbR.size)⟩
          · rw [a1] at cp
            rw [a2] at cs
            go_wp2_with (first
              | (go_at_call 67; refine cp.mono ?_; rintro e w3 ⟨rfl, hb4⟩; have e5 := hcel w3 hb4; clear cp hcel)
              | (go_at_call 66; refine (cs w3 (hBB.out.trans (hb4.mono hBB.out.size))).mono ?_; rintro e w4 ⟨rfl, rfl⟩))
            go_ret
            exact ⟨ret_num F.out.symm, hbR.trans ((hBB.out.trans (hb4.mono hBB.out.size)).mono hbR.size)⟩
          · rw [a1] at cp
            rw [a2] at cs
            go_wp2_with (first
              | (go_at_call 67; refine cp.mono ?_; rintro e w3 ⟨rfl, hb4⟩; have e5 := hcel w3 hb4; clear cp hcel)
              | (go_at_call 66; refine (cs w3 (hBB.out.trans (hb4.mono hBB.out.size))).mono ?_; rintro e w4 ⟨rfl, rfl⟩))
            go_roundw
            case rel => exact ⟨j + 1, by omega, by go_num, hA.out.trans ((hBB.out.trans (hb4.mono hBB.out.size)).mono hA.out.size), F⟩
            case measure => simp [intOf]; omega
        · obtain rfl : j = m := by omega
          have F : Hid (r = 0) := by
            refine Lib.hid (R0.out ⟨G.out, ?_⟩)
            have := hokw.out
            rwa [List.take_of_length_le (by rw [hl2.out]; exact Nat.le_refl _)] at this
          go_wp2
          go_ret
          exact ⟨ret_num F.out.symm, hbR⟩
set_option maxRecDepth 100000 in
set_option maxHeartbeats 4000000 in
theorem check_dead (A B : Option Addr) (n C m D : Nat) (hs ht : List Value) (bl : List (List Int)) (wt : List (Int × List Int)) (w : World) (h1 : Slab w A n hs bl) (h2 : WSlab w B m ht wt) (y1 : (1 : Int) ≤ (n : Int)) (y2 : (n : Int) ≤ 256) (y3 : (m : Int) ≤ 1024) (y4 : ((m : Int) != 0) = false) (r : Int) (hr : (r = 0 ∧ (∀ b ∈ bl, OkB true b) ∧ ∀ x ∈ wt, OkW bl.length x) ∨ (r = 8 ∧ ¬ ((∀ b ∈ bl, OkB true b) ∧ ∀ x ∈ wt, OkW bl.length x))) :
    Calls Try.prog 21 #[.agg #[.slice A n C, .slice B m D, .bool true]] w fun e w' => e = .returned (.int .i64 r) ∧ Below w.heap.size w w' := by
  have hm1 := h1.max
  have hm2 := h2.max
  have hl1 := Lib.hid h1.len
  have hl2 := Lib.hid h2.len
  have hsz : Hid (w.heap.size < (w.alloc (.cells #[.slice A n C, .slice B m D, .bool true] 25)).heap.size) := by refine Lib.hid ?_; simp
  have R8 : Hid ((¬ ((∀ b ∈ bl, OkB true b) ∧ ∀ x ∈ wt, OkW bl.length x)) → r = 8) := by
    refine Lib.hid fun q => ?_
    rcases hr with ⟨_, q2⟩ | ⟨q2, _⟩
    · exact absurd q2 q
    · exact q2
  have R0 : Hid (((∀ b ∈ bl, OkB true b) ∧ ∀ x ∈ wt, OkW bl.length x) → r = 0) := by
    refine Lib.hid fun q => ?_
    rcases hr with ⟨q2, _⟩ | ⟨_, q2⟩
    · exact q2
    · exact absurd q q2
  clear hr
  obtain ⟨c0, c1, c2, hb⟩ := boxed_dev (w := w) (x := .slice A n C) (y := .slice B m D) (z := .bool true) (t := 25)
  go_enter Try.func21, Try.ntmps21
  go_wp2
  generalize World.alloc _ _ = w1 at *
  have k1 := h1.below hb (Nat.le_refl _)
  have k2 := h2.below hb (Nat.le_refl _)
  go_loop [34] (fun i => ∃ k : Nat, k ≤ n ∧ i = .int .i64 k ∧ Hid (∀ b ∈ bl.take k, OkB true b)) (fun i => n - (intOf i).toNat)
  case atStart => exact ⟨0, by omega, rfl, fun b hb => by simp at hb⟩
  case round =>
    obtain ⟨k, hk, rfl, hok⟩ := hrel
    by_cases hkn : k < n
    · obtain ⟨b, off, A1, L, C1, zs, rfl, _, _, hls, hcell, hi⟩ := k1.at hkn
      have hLm := hi.max
      have cs := isblock_calls A1 L C1 zs w1 hi
      have hls' := Lib.hid hls
      have hL := Lib.hid hi.len
      clear hls hi
      by_cases hB : Blk zs
      · rw [decide_eq_true hB] at cs
        by_cases hL0 : L = 0
        · have hz : ((L : Int) != 0) = false := by simp; omega
          have F : Hid (∀ b ∈ bl.take (k + 1), OkB true b) := by
            refine Lib.hid ?_
            rw [take_snocL hls'.out]
            intro x hx
            rcases List.mem_append.1 hx with q | q
            · exact hok.out x q
            · rw [List.mem_singleton.1 q]; exact ⟨hB, fun _ => by rw [hL.out]; exact hL0⟩
          clear hB hL0
          go_wp2_with (go_at_call 66; refine cs.mono ?_; rintro e w2 ⟨rfl, rfl⟩)
          go_round
          case rel => exact ⟨k + 1, by omega, by go_num, F⟩
          case measure => simp [intOf]; omega
        · have hz : ((L : Int) != 0) = true := by simp; omega
          have F : Hid (r = 8) := Lib.hid (R8.out fun q => hL0 (by rw [← hL.out]; exact (q.1 zs (List.mem_of_getElem? hls'.out)).2 rfl))
          go_wp2_with (go_at_call 66; refine cs.mono ?_; rintro e w2 ⟨rfl, rfl⟩)
          go_ret
          exact ⟨ret_num F.out.symm, hb⟩
      · rw [decide_eq_false hB] at cs
        have F : Hid (r = 8) := Lib.hid (R8.out fun q => hB (q.1 zs (List.mem_of_getElem? hls'.out)).1)
        go_wp2_with (go_at_call 66; refine cs.mono ?_; rintro e w2 ⟨rfl, rfl⟩)
        go_ret
        exact ⟨ret_num F.out.symm, hb⟩
    · obtain rfl : k = n := by omega
      have G : Hid (∀ b ∈ bl, OkB true b) := by
        have := hok.out
        rwa [List.take_of_length_le (by rw [hl1.out]; exact Nat.le_refl _)] at this
      go_wp2
      go_loopw [54] (fun i wr => ∃ j : Nat, j ≤ m ∧ i = .int .i64 j ∧ Below w1.heap.size w1 wr ∧ Hid (∀ x ∈ wt.take j, OkW bl.length x)) (fun i _ => m - (intOf i).toNat)
      case atStart => exact ⟨0, by omega, rfl, Below.refl _ _, fun b hb => by simp at hb⟩
      case round =>
        obtain ⟨j, hj, rfl, hbj, hokw⟩ := hrel
        have hbR : Below w.heap.size w wr := hb.trans (hbj.mono hb.size)
        by_cases hjm : j < m
        · obtain ⟨b, off, A1, L, C1, x, rfl, _, hls, hcat, hcell, wx, hi, _, _⟩ := (k2.below hbj (Nat.le_refl _)).at hjm
          have hLm := hi.max
          have hls' := Lib.hid hls
          obtain ⟨x0, x1⟩ := bounds_i64 wx
          have hbad : Hid (¬ OkW bl.length x → r = 8) := by
            refine Lib.hid fun q => R8.out fun q2 => q (q2.2 x (List.mem_of_getElem? hls'.out))
          have hgood : Hid (OkW bl.length x → ∀ y ∈ wt.take (j + 1), OkW bl.length y) := by
            refine Lib.hid fun q => ?_
            rw [take_snocL hls'.out]
            intro y hy
            rcases List.mem_append.1 hy with q2 | q2
            · exact hokw.out y q2
            · rw [List.mem_singleton.1 q2]; exact q
          obtain ⟨at_, dat⟩ := x
          simp only at *
          have hb2 : Below wr.heap.size wr (wr.alloc (.cells #[.int .i64 at_, .slice A1 L C1] 88)) := (Below.refl _ _).alloc (Nat.le_refl _) _
          have hb3 := hb.trans ((hbj.trans (hb2.mono hbj.size)).mono hb.size)
          have hdv : DevV (wr.alloc (.cells #[.int .i64 at_, .slice A1 L C1] 88)) (.agg #[.slice A k C, .slice (some ⟨b, off, none⟩) m D, .bool true]) ⟨bl, wt, true⟩ := ⟨_, _, _, _, _, _, _, _, rfl, h1.below hb3 (Nat.le_refl _), h2.below hb3 (Nat.le_refl _)⟩
          have cp := hasplace_calls _ _ at_ _ hdv
          have e0 : wr.cell? ⟨w.heap.size, 0, none⟩ = some (.slice A k C) := by rw [hbj.cell (p := ⟨w.heap.size, 0, none⟩) hsz.out]; exact c0
          have e1 : wr.cell? ⟨w.heap.size, 1, none⟩ = some (.slice (some ⟨b, off, none⟩) m D) := by rw [hbj.cell (p := ⟨w.heap.size, 1, none⟩) hsz.out]; exact c1
          have e2 : wr.cell? ⟨w.heap.size, 2, none⟩ = some (.bool true) := by rw [hbj.cell (p := ⟨w.heap.size, 2, none⟩) hsz.out]; exact c2
          have hlt : w.heap.size < wr.heap.size := Nat.lt_of_lt_of_le hsz.out hbj.size
          have cs := fun W (hW : Below wr.heap.size wr W) => isblock_calls A1 L C1 dat W (hi.below hW (Nat.le_refl _))
          have hi' := Lib.hid hi
          have hcel : ∀ W, Below (wr.alloc (.cells #[.int .i64 at_, .slice A1 L C1] 88)).heap.size (wr.alloc (.cells #[.int .i64 at_, .slice A1 L C1] 88)) W → W.cell? ⟨wr.heap.size, 1, none⟩ = some (.slice A1 L C1) := fun W hW => by
            rw [hW.cell (p := ⟨wr.heap.size, 1, none⟩) (by simp)]
            exact cell_of_row _ _ _ _ _ _ (heap_alloc_new _ _)
          have hl1' := hl1.out
          have hpart : (placeB ⟨bl, wt, true⟩ at_ = false ∧ Hid (r = 8)) ∨ (placeB ⟨bl, wt, true⟩ at_ = true ∧ decide (Blk dat) = false ∧ Hid (r = 8)) ∨ (placeB ⟨bl, wt, true⟩ at_ = true ∧ decide (Blk dat) = true ∧ Hid (∀ y ∈ wt.take (j + 1), OkW bl.length y)) := by
            unfold OkW at hbad hgood
            unfold placeB
            simp only at *
            by_cases a1 : 0 ≤ at_ ∧ at_ < (bl.length : Int)
            · by_cases a3 : Blk dat
              · exact .inr (.inr ⟨decide_eq_true a1, decide_eq_true a3, by unfold OkW; exact hgood.out ⟨a1.1, a1.2, a3⟩⟩)
              · exact .inr (.inl ⟨decide_eq_true a1, decide_eq_false a3, hbad.out fun q => a3 q.2.2⟩)
            · exact .inl ⟨decide_eq_false a1, hbad.out fun q => a1 ⟨q.1, q.2.1⟩⟩
          have hA := Lib.hid hbj
          have hBB := Lib.hid hb2
          clear hls hi wx hdv hbad hgood hl1' hbj hb2 hb3
          rcases hpart with ⟨a1, F⟩ | ⟨a1, a2, F⟩ | ⟨a1, a2, F⟩
          · rw [a1] at cp
            clear cs hcel
            go_wp2_with (go_at_call 67; refine cp.mono ?_; rintro e w3 ⟨rfl, hb4⟩)
            go_ret
            exact ⟨ret_num F.out.symm, hbR.trans ((hBB.out.trans (hb4.mono hBB.out.size)).mono hbR.size)⟩
          · rw [a1] at cp
            rw [a2] at cs
            go_wp2_with (first
              | (go_at_call 67; refine cp.mono ?_; rintro e w3 ⟨rfl, hb4⟩; have e5 := hcel w3 hb4; clear cp hcel)
              | (go_at_call 66; refine (cs w3 (hBB.out.trans (hb4.mono hBB.out.size))).mono ?_; rintro e w4 ⟨rfl, rfl⟩))
            go_ret
            exact ⟨ret_num F.out.symm, hbR.trans ((hBB.out.trans (hb4.mono hBB.out.size)).mono hbR.size)⟩
          · rw [a1] at cp
            rw [a2] at cs
            go_wp2_with (first
              | (go_at_call 67; refine cp.mono ?_; rintro e w3 ⟨rfl, hb4⟩; have e5 := hcel w3 hb4; clear cp hcel)
              | (go_at_call 66; refine (cs w3 (hBB.out.trans (hb4.mono hBB.out.size))).mono ?_; rintro e w4 ⟨rfl, rfl⟩))
            go_roundw
            case rel => exact ⟨j + 1, by omega, by go_num, hA.out.trans ((hBB.out.trans (hb4.mono hBB.out.size)).mono hA.out.size), F⟩
            case measure => simp [intOf]; omega
        · obtain rfl : j = m := by omega
          have F : Hid (r = 0) := by
            refine Lib.hid (R0.out ⟨G.out, ?_⟩)
            have := hokw.out
            rwa [List.take_of_length_le (by rw [hl2.out]; exact Nat.le_refl _)] at this
          go_wp2
          go_ret
          exact ⟨ret_num F.out.symm, hbR⟩
theorem check_calls (v : Value) (d : Dev) (w : World) (h : DevV w v d) :
    Calls Try.prog 21 #[v] w fun e w' => e = .returned (.int .i64 (chk d)) ∧ Below w.heap.size w w' := by
  by_cases h0 : 1 ≤ d.blocks.length ∧ d.blocks.length ≤ 256 ∧ d.wait.length ≤ 1024 ∧ (d.dead = true → d.wait.length = 0)
  · have hr : (chk d = 0 ∧ (∀ b ∈ d.blocks, OkB d.dead b) ∧ ∀ x ∈ d.wait, OkW d.blocks.length x) ∨ (chk d = 8 ∧ ¬ ((∀ b ∈ d.blocks, OkB d.dead b) ∧ ∀ x ∈ d.wait, OkW d.blocks.length x)) := by
      unfold chk
      by_cases q : (∀ b ∈ d.blocks, OkB d.dead b) ∧ ∀ x ∈ d.wait, OkW d.blocks.length x
      · exact .inl ⟨if_pos ((may_iff d).2 ⟨h0, q⟩), q⟩
      · exact .inr ⟨if_neg fun q2 => q ((may_iff d).1 q2).2, q⟩
    obtain ⟨A, n, C, hs, B, m, D, ht, rfl, h1, h2⟩ := h
    have l1 := h1.len
    have l2 := h2.len
    generalize chk d = r at *
    obtain ⟨bl, wt, dd⟩ := d
    simp only at *
    rcases dd with _ | _
    · exact check_alive A B n C m D hs ht bl wt w h1 h2 (by omega) (by omega) (by omega) r hr
    · exact check_dead A B n C m D hs ht bl wt w h1 h2 (by omega) (by omega) (by omega) (by have := h0.2.2.2 rfl; simp; omega) r hr
  · rw [show chk d = 8 from if_neg fun q => h0 ((may_iff d).1 q).1]
    exact check_no v d w h h0

/-- The error of a use. -/
def useE (d : Dev) (k : Int) (zs : List Int) : Int := if ¬ MayD d then 8 else if placeB d k = false then 2 else if ¬ Blk zs then 3 else if d.dead = true then 40 else 0
theorem chk_may {d : Dev} (h : MayD d) : chk d = 0 := if_pos h
theorem chk_not {d : Dev} (h : ¬ MayD d) : chk d = 8 := if_neg h
set_option maxRecDepth 100000 in
set_option maxHeartbeats 2000000 in
theorem mayuse_calls (v : Value) (d : Dev) (k : Int) (a : Option Addr) (q c : Nat) (zs : List Int) (w : World) (h : DevV w v d) (hz : Ints .u8 w a q zs) :
    Calls Try.prog 62 #[v, .int .i64 k, .slice a q c] w fun e w' => e = .returned (.int .i64 (useE d k zs)) ∧ Below w.heap.size w w' := by
  obtain ⟨A, n, C, hs, B, m, D, ht, rfl, h1, h2⟩ := h
  obtain ⟨c0, c1, c2, hb⟩ := boxed_dev (w := w) (x := .slice A n C) (y := .slice B m D) (z := .bool d.dead) (t := 25)
  have hsz : w.heap.size < (w.alloc (.cells #[.slice A n C, .slice B m D, .bool d.dead] 25)).heap.size := by simp
  have hE : (chk d = 8 ∧ Hid (useE d k zs = 8)) ∨ (chk d = 0 ∧ placeB d k = false ∧ Hid (useE d k zs = 2)) ∨ (chk d = 0 ∧ placeB d k = true ∧ decide (Blk zs) = false ∧ Hid (useE d k zs = 3)) ∨ (chk d = 0 ∧ placeB d k = true ∧ decide (Blk zs) = true ∧ d.dead = true ∧ Hid (useE d k zs = 40)) ∨ (chk d = 0 ∧ placeB d k = true ∧ decide (Blk zs) = true ∧ d.dead = false ∧ Hid (useE d k zs = 0)) := by
    unfold useE
    by_cases p1 : MayD d
    · rw [if_neg (fun q => q p1)]
      by_cases p2 : placeB d k = false
      · exact .inr (.inl ⟨chk_may p1, p2, if_pos p2⟩)
      · rw [if_neg p2]
        by_cases p3 : Blk zs
        · rw [if_neg (fun q => q p3)]
          by_cases p4 : d.dead = true
          · exact .inr (.inr (.inr (.inl ⟨chk_may p1, by simpa using p2, decide_eq_true p3, p4, if_pos p4⟩)))
          · exact .inr (.inr (.inr (.inr ⟨chk_may p1, by simpa using p2, decide_eq_true p3, by simpa using p4, if_neg p4⟩)))
        · exact .inr (.inr (.inl ⟨chk_may p1, by simpa using p2, decide_eq_false p3, if_pos p3⟩))
    · exact .inl ⟨chk_not p1, if_pos p1⟩
  have hd : ∀ W, Below w.heap.size w W → DevV W (.agg #[.slice A n C, .slice B m D, .bool d.dead]) d := fun W hW => ⟨A, n, C, hs, B, m, D, ht, rfl, h1.below hW (Nat.le_refl _), h2.below hW (Nat.le_refl _)⟩
  have cc := fun W (hW : Below w.heap.size w W) => check_calls _ d W (hd W hW)
  have cp := fun W (hW : Below w.heap.size w W) => hasplace_calls _ d k W (hd W hW)
  have ci := fun W (hW : Below w.heap.size w W) => isblock_calls a q c zs W (hz.below hW (Nat.le_refl _))
  clear h1 h2 hd hz
  generalize d.dead = dd at *
  rcases hE with ⟨q1, E⟩ | ⟨q1, q2, E⟩ | ⟨q1, q2, q3, E⟩ | ⟨q1, q2, q3, q4, E⟩ | ⟨q1, q2, q3, q4, E⟩
  all_goals
    rw [E.out]
    rw [q1] at cc
    try rw [q2] at cp
    try rw [q3] at ci
    try subst q4
    clear q1
    try clear q2
    try clear q3
    go_enter Try.func62, Try.ntmps62
    go_wp2_with fail
    refine (cc _ hb).mono ?_
    rintro e w2 ⟨rfl, hb2⟩
    obtain ⟨e0, e1, e2⟩ : w2.cell? ⟨w.heap.size, 0, none⟩ = some (.slice A n C) ∧ w2.cell? ⟨w.heap.size, 1, none⟩ = some (.slice B m D) ∧ w2.cell? ⟨w.heap.size, 2, none⟩ = some (.bool _) := by
      refine ⟨?_, ?_, ?_⟩
      · rw [hb2.cell (p := ⟨w.heap.size, 0, none⟩) hsz]; exact c0
      · rw [hb2.cell (p := ⟨w.heap.size, 1, none⟩) hsz]; exact c1
      · rw [hb2.cell (p := ⟨w.heap.size, 2, none⟩) hsz]; exact c2
    have hz2 := Nat.lt_of_lt_of_le hsz hb2.size
    have hb3 := hb.trans (hb2.mono hb.size)
    clear c0 c1 c2 hb hb2 cc hsz
  · go_wp2
    go_ret
    exact ⟨rfl, hb3⟩
  all_goals
    go_wp2_with fail
    refine (cp _ hb3).mono ?_
    rintro e w4 ⟨rfl, hb4⟩
    have f2 := (hb4.cell (p := ⟨w.heap.size, 2, none⟩) hz2).trans e2
    have hb5 := hb3.trans (hb4.mono hb3.size)
    clear e0 e1 e2 hb3 hb4 cp hz2
  · go_wp2
    go_ret
    exact ⟨rfl, hb5⟩
  all_goals
    go_wp2_with fail
    refine (ci _ hb5).mono ?_
    rintro e w6 ⟨rfl, rfl⟩
    clear ci
    go_wp2
    go_ret
    exact ⟨rfl, hb5⟩
end Go.Proofs.Ytldgpkaecfgagaa
