/- The walks of the reference's asked, Check, Seen, Read, Lasting. -/
import Derived.Test.YtldgpkaecfgagaaRefDB
namespace Go.Proofs.Ytldgpkaecfgagaa
open Go.RowKit PolyM PackM FoldM DevM

/-- The reference's error of a device and a place. -/
def askE (d : Dev) (k : Int) : Int := if ¬ MayD d then 8 else if placeB d k = false then 2 else 0
theorem askE_zero {d : Dev} {k : Int} (h : askE d k = 0) : MayD d ∧ 0 ≤ k ∧ k < d.blocks.length := by
  unfold askE at h
  split at h
  · omega
  · rename_i h1
    split at h
    · omega
    · rename_i h2
      exact ⟨Classical.not_not.1 h1, placeB_iff.1 (by simpa using h2)⟩
theorem askE_use (d : Dev) (k : Int) : (askE d k ≠ 0 ∧ useE d k [] = askE d k) ∨ (askE d k = 0 ∧ d.dead = true ∧ useE d k [] = 40) ∨ (askE d k = 0 ∧ d.dead = false ∧ useE d k [] = 0) := by
  unfold askE useE
  by_cases h1 : MayD d <;> by_cases h2 : placeB d k = false <;> by_cases h3 : d.dead = true <;> simp [h1, h2, h3, blk_nil]

set_option maxRecDepth 100000 in
set_option maxHeartbeats 4000000 in
theorem refasked_calls (v : Value) (d : Dev) (k : Int) (w : World) (h : DevV w v d) :
    Calls Try.prog 68 #[v, .int .i64 k] w fun e w' => e = .returned (.int .i64 (askE d k)) ∧ Below w.heap.size w w' := by
  have hv := h
  obtain ⟨A, n, C, hs, B, m, D, ht, rfl, h1, h2⟩ := h
  have hn := h1.max
  have hl := h1.len
  obtain ⟨c0, c1, c2, hb⟩ := boxed_dev (w := w) (x := .slice A n C) (y := .slice B m D) (z := .bool d.dead) (t := 25)
  have hsz : w.heap.size < (w.alloc (.cells #[.slice A n C, .slice B m D, .bool d.dead] 25)).heap.size := by simp
  have cc := refmay_calls _ d _ (hv.below hb (Nat.le_refl _))
  have hx : (decide (MayD d) = false ∧ Hid (askE d k = 8)) ∨ (decide (MayD d) = true ∧ k < 0 ∧ Hid (askE d k = 2)) ∨ (decide (MayD d) = true ∧ 0 ≤ k ∧ (n : Int) ≤ k ∧ Hid (askE d k = 2)) ∨ (decide (MayD d) = true ∧ 0 ≤ k ∧ k < (n : Int) ∧ Hid (askE d k = 0)) := by
    unfold askE
    by_cases h1 : MayD d
    · rw [if_neg (fun q => q h1)]
      by_cases a1 : k < 0
      · exact .inr (.inl ⟨decide_eq_true h1, a1, Lib.hid (if_pos (by unfold placeB; exact decide_eq_false (by omega)))⟩)
      · by_cases a2 : (n : Int) ≤ k
        · exact .inr (.inr (.inl ⟨decide_eq_true h1, by omega, a2, Lib.hid (if_pos (by unfold placeB; exact decide_eq_false (by omega)))⟩))
        · exact .inr (.inr (.inr ⟨decide_eq_true h1, by omega, by omega, Lib.hid (if_neg (by rw [placeB_iff.2 ⟨by omega, by omega⟩]; simp))⟩))
    · exact .inl ⟨decide_eq_false h1, Lib.hid (if_pos h1)⟩
  generalize askE d k = r at *
  clear hv h1 h2 hl
  rcases hx with ⟨q, F⟩ | ⟨q, q1, F⟩ | ⟨q, q1, q2, F⟩ | ⟨q, q1, q2, F⟩
  all_goals
    rw [q] at cc
    clear q
    go_enter Try.func68, Try.ntmps68
    go_wp2_with fail
    (with_reducible refine cc.mono ?_)
    rintro e w2 ⟨rfl, hb2⟩
    have e0 := (hb2.cell (p := ⟨w.heap.size, 0, none⟩) hsz).trans c0
    have hb3 := hb.trans (hb2.mono hb.size)
    clear cc c0 c1 c2 hb hb2 hsz
    go_wp2
    go_ret
    exact ⟨ret_num F.out.symm, hb3⟩

set_option maxRecDepth 100000 in
set_option maxHeartbeats 4000000 in
theorem refcheck_calls (v : Value) (d : Dev) (w : World) (h : DevV w v d) :
    Calls Try.prog 30 #[v] w fun e w' => e = .returned (.int .i64 (chk d)) ∧ Below w.heap.size w w' := by
  have hv := h
  obtain ⟨A, n, C, hs, B, m, D, ht, rfl, h1, h2⟩ := h
  obtain ⟨c0, c1, c2, hb⟩ := boxed_dev (w := w) (x := .slice A n C) (y := .slice B m D) (z := .bool d.dead) (t := 25)
  have cc := refmay_calls _ d _ (hv.below hb (Nat.le_refl _))
  have hx : (decide (MayD d) = false ∧ Hid (chk d = 8)) ∨ (decide (MayD d) = true ∧ Hid (chk d = 0)) := by
    by_cases h1 : MayD d
    · exact .inr ⟨decide_eq_true h1, Lib.hid (chk_may h1)⟩
    · exact .inl ⟨decide_eq_false h1, Lib.hid (chk_not h1)⟩
  generalize chk d = r at *
  clear hv h1 h2
  rcases hx with ⟨q, F⟩ | ⟨q, F⟩
  all_goals
    rw [q] at cc
    clear q
    go_enter Try.func30, Try.ntmps30
    go_wp2_with fail
    (with_reducible refine cc.mono ?_)
    rintro e w2 ⟨rfl, hb2⟩
    have hb3 := hb.trans (hb2.mono hb.size)
    clear cc c0 c1 c2 hb hb2
    go_wp2
    go_ret
    exact ⟨ret_num F.out.symm, hb3⟩

/-- What is seen at k behind the first j waits. -/
def foldS (d : Dev) (k : Int) (j : Nat) : List Int := fullD ((d.wait.take j).foldl (fun acc x => if x.1 = k then x.2 else acc) (d.blocks.getD k.toNat []))
theorem foldS_zero (d : Dev) (k : Int) : foldS d k 0 = lies d k := rfl
theorem foldS_all {d : Dev} {k : Int} {m : Nat} (h : d.wait.length = m) : foldS d k m = seen d k := by
  unfold foldS seen
  rw [List.take_of_length_le (by omega)]
theorem foldS_succ {d : Dev} {k : Int} {j : Nat} {x : Int × List Int} (h : d.wait[j]? = some x) : foldS d k (j + 1) = if x.1 = k then fullD x.2 else foldS d k j := by
  unfold foldS
  rw [take_snocL h, List.foldl_append]
  show fullD (if x.1 = k then x.2 else _) = _
  split <;> rfl

set_option maxRecDepth 100000 in
set_option maxHeartbeats 8000000 in
theorem refseen_calls (v : Value) (d : Dev) (k : Int) (w : World) (h : DevV w v d) (hM : MayD d) (p2 : 0 ≤ k) (p3 : k < d.blocks.length) :
    Calls Try.prog 69 #[v, .int .i64 k] w (NewB w (seen d k)) := by
  have hv := h
  obtain ⟨A, n, C, hs, B, m, D, ht, rfl, h1, h2⟩ := h
  have hm2 := h2.max
  obtain ⟨c0, c1, c2, hb⟩ := boxed_dev (w := w) (x := .slice A n C) (y := .slice B m D) (z := .bool d.dead) (t := 25)
  have hsz : Hid (w.heap.size < (w.alloc (.cells #[.slice A n C, .slice B m D, .bool d.dead] 25)).heap.size) := by refine Lib.hid ?_; simp
  have cl := reflies_calls _ d k _ (hv.below hb (Nat.le_refl _)) hM p2 p3
  have hWt : Hid (∀ x ∈ d.wait, x.2.length ≤ 1000000) := Lib.hid fun x hx => by
    rcases (hM.2.2.2.2.2 x hx).2.2 with q | q <;> omega
  have SM : Hid (foldS d k m = seen d k) := Lib.hid (foldS_all h2.len)
  have SJ : Hid (∀ j x, d.wait[j]? = some x → foldS d k (j + 1) = if x.1 = k then fullD x.2 else foldS d k j) := Lib.hid fun j x q => foldS_succ q
  rw [← foldS_zero] at cl
  clear hM h1 hv p2 p3
  go_enter Try.func69, Try.ntmps69
  go_wp2_with fail
  (with_reducible refine cl.mono ?_)
  rintro e w2 ⟨A5, L5, C5, rfl, hF, hb2⟩
  generalize World.alloc _ _ = w1 at *
  have hF' := Lib.hid (hF.mono hb.size)
  clear cl hF
  go_wp2
  go_loopw [5, 6] (fun s5 s6 wr => ∃ (j : Nat) (A5 : Option Addr) (L5 C5 : Nat), j ≤ m ∧ s5 = .slice A5 L5 C5 ∧ s6 = .int .i64 j ∧ Hid (Fresh w.heap.size wr (.slice A5 L5 C5) (foldS d k j)) ∧ Below w1.heap.size w1 wr) (fun _ s6 _ => m - (intOf s6).toNat)
  case atStart => exact ⟨0, _, _, _, by omega, rfl, rfl, hF', hb2⟩
  case round =>
    obtain ⟨j, A6, L6, C6, hj, rfl, rfl, hG, hbj⟩ := hrel
    have e1 : wr.cell? ⟨w.heap.size, 1, none⟩ = some (.slice B m D) := (hbj.cell (p := ⟨w.heap.size, 1, none⟩) hsz.out).trans c1
    have hbR := hb.trans (hbj.mono hb.size)
    by_cases hjm : j < m
    · obtain ⟨b, off, A1, L, C1, x, rfl, _, hls, hcat, hcell, wx, hi, _, _⟩ := (h2.below hbR (Nat.le_refl _)).at hjm
      have hE := SJ.out j x hls
      have hL : L ≤ 1000000 := by rw [← hi.len]; exact hWt.out x (List.mem_of_getElem? hls)
      have hj0 : (0 : Int) ≤ (j : Int) := by omega
      have hj1 : (j : Int) < (m : Int) := by omega
      obtain ⟨at_, dat⟩ := x
      simp only at *
      by_cases hk : at_ = k
      · rw [if_pos hk] at hE
        have d0 : (at_ == k) = true := by rw [hk]; simp
        have cf := reffull_calls A1 L C1 dat wr hi hL
        rw [← hE] at cf
        clear hE hls hi hG hL hk
        go_wp2_with (go_at_call 73; refine cf.mono ?_; rintro e w9 ⟨A9, L9, C9, rfl, hF9, hb9⟩)
        have hF9' := Lib.hid (hF9.mono hbR.size)
        go_roundw
        case rel => exact ⟨j + 1, _, _, _, by omega, rfl, by go_num, hF9', hbj.trans (hb9.mono hbj.size)⟩
        case measure => simp [intOf]; omega
      · rw [if_neg hk] at hE
        have d0 : (at_ == k) = false := by simp; exact hk
        have hG' := Lib.hid hG.out
        rw [← hE] at hG'
        clear hE hls hi hG hL hk
        go_wp2
        go_roundw
        case rel => exact ⟨j + 1, _, _, _, by omega, rfl, by go_num, hG', hbj⟩
        case measure => simp [intOf]; omega
    · obtain rfl : j = m := by omega
      have hG' := hG.out
      rw [SM.out] at hG'
      have hGG := Lib.hid hG'
      clear hG hG'
      go_wp2
      go_ret
      exact ⟨_, _, _, rfl, hGG.out, hbR⟩

set_option maxRecDepth 100000 in
set_option maxHeartbeats 8000000 in
theorem refread_calls (v : Value) (d : Dev) (k : Int) (w : World) (h : DevV w v d) :
    Calls Try.prog 24 #[v, .int .i64 k] w (BytesIs w (useE d k []) (resB (useE d k []) (seen d k))) := by
  have hv := h
  obtain ⟨A, n, C, hs, B, m, D, ht, rfl, h1, h2⟩ := h
  obtain ⟨c0, c1, c2, hb⟩ := boxed_dev (w := w) (x := .slice A n C) (y := .slice B m D) (z := .bool d.dead) (t := 25)
  have hsz : w.heap.size < (w.alloc (.cells #[.slice A n C, .slice B m D, .bool d.dead] 25)).heap.size := by simp
  have cc := refasked_calls _ d k _ (hv.below hb (Nat.le_refl _))
  rcases askE_use d k with ⟨q1, q2⟩ | ⟨q1, q2, q3⟩ | ⟨q1, q2, q3⟩
  · rw [q2, resB_not q1]
    have hne : (askE d k != 0) = true := by simp; exact q1
    have heq : (askE d k == 0) = false := by simp; exact q1
    generalize askE d k = er at *
    clear q1 q2 hv h1 h2
    go_enter Try.func24, Try.ntmps24
    go_wp2_with fail
    (with_reducible refine cc.mono ?_)
    rintro e w2 ⟨rfl, hb2⟩
    have hb3 := hb.trans (hb2.mono hb.size)
    clear cc c0 c1 c2 hb hb2 hsz
    go_wp2
    go_ret2
    exact ⟨_, _, _, rfl, Fresh.nil _ _, hb3⟩
  · rw [q3, resB_not (by omega)]
    rw [q1] at cc
    generalize d.dead = dd at *
    subst q2
    clear q1 q3 hv h1 h2
    go_enter Try.func24, Try.ntmps24
    go_wp2_with fail
    (with_reducible refine cc.mono ?_)
    rintro e w2 ⟨rfl, hb2⟩
    have e2 := (hb2.cell (p := ⟨w.heap.size, 2, none⟩) hsz).trans c2
    have hb3 := hb.trans (hb2.mono hb.size)
    clear cc c0 c1 c2 hb hb2 hsz
    go_wp2
    go_ret2
    exact ⟨_, _, _, rfl, Fresh.nil _ _, hb3⟩
  · obtain ⟨p1, p2, p3⟩ := askE_zero q1
    rw [q3, resB_zero]
    rw [q1] at cc
    have cs := fun W (hW : Below w.heap.size w W) => refseen_calls _ d k W (hv.below hW (Nat.le_refl _)) p1 p2 p3
    generalize d.dead = dd at *
    subst q2
    clear q1 q3 hv h1 h2 p1 p2 p3
    go_enter Try.func24, Try.ntmps24
    go_wp2_with fail
    (with_reducible refine cc.mono ?_)
    rintro e w2 ⟨rfl, hb2⟩
    have e0 := (hb2.cell (p := ⟨w.heap.size, 0, none⟩) hsz).trans c0
    have e1 := (hb2.cell (p := ⟨w.heap.size, 1, none⟩) hsz).trans c1
    have e2 := (hb2.cell (p := ⟨w.heap.size, 2, none⟩) hsz).trans c2
    have hb3 := hb.trans (hb2.mono hb.size)
    clear cc c0 c1 c2 hb hb2 hsz
    go_wp2_with fail
    (with_reducible refine (cs _ hb3).mono ?_)
    rintro e w3 ⟨A3, L3, C3, rfl, hF, hb4⟩
    have hF' := Lib.hid (hF.mono hb3.size)
    clear cs hF
    go_wp2
    go_ret2
    exact ⟨_, _, _, rfl, hF'.out, hb3.trans (hb4.mono hb3.size)⟩

set_option maxRecDepth 100000 in
set_option maxHeartbeats 8000000 in
theorem reflasting_calls (v : Value) (d : Dev) (k : Int) (w : World) (h : DevV w v d) :
    Calls Try.prog 26 #[v, .int .i64 k] w (BytesIs w (useE d k []) (resB (useE d k []) (lies d k))) := by
  have hv := h
  obtain ⟨A, n, C, hs, B, m, D, ht, rfl, h1, h2⟩ := h
  obtain ⟨c0, c1, c2, hb⟩ := boxed_dev (w := w) (x := .slice A n C) (y := .slice B m D) (z := .bool d.dead) (t := 25)
  have hsz : w.heap.size < (w.alloc (.cells #[.slice A n C, .slice B m D, .bool d.dead] 25)).heap.size := by simp
  have cc := refasked_calls _ d k _ (hv.below hb (Nat.le_refl _))
  rcases askE_use d k with ⟨q1, q2⟩ | ⟨q1, q2, q3⟩ | ⟨q1, q2, q3⟩
  · rw [q2, resB_not q1]
    have hne : (askE d k != 0) = true := by simp; exact q1
    have heq : (askE d k == 0) = false := by simp; exact q1
    generalize askE d k = er at *
    clear q1 q2 hv h1 h2
    go_enter Try.func26, Try.ntmps26
    go_wp2_with fail
    (with_reducible refine cc.mono ?_)
    rintro e w2 ⟨rfl, hb2⟩
    have hb3 := hb.trans (hb2.mono hb.size)
    clear cc c0 c1 c2 hb hb2 hsz
    go_wp2
    go_ret2
    exact ⟨_, _, _, rfl, Fresh.nil _ _, hb3⟩
  · rw [q3, resB_not (by omega)]
    rw [q1] at cc
    generalize d.dead = dd at *
    subst q2
    clear q1 q3 hv h1 h2
    go_enter Try.func26, Try.ntmps26
    go_wp2_with fail
    (with_reducible refine cc.mono ?_)
    rintro e w2 ⟨rfl, hb2⟩
    have e2 := (hb2.cell (p := ⟨w.heap.size, 2, none⟩) hsz).trans c2
    have hb3 := hb.trans (hb2.mono hb.size)
    clear cc c0 c1 c2 hb hb2 hsz
    go_wp2
    go_ret2
    exact ⟨_, _, _, rfl, Fresh.nil _ _, hb3⟩
  · obtain ⟨p1, p2, p3⟩ := askE_zero q1
    rw [q3, resB_zero]
    rw [q1] at cc
    have cs := fun W (hW : Below w.heap.size w W) => reflies_calls _ d k W (hv.below hW (Nat.le_refl _)) p1 p2 p3
    generalize d.dead = dd at *
    subst q2
    clear q1 q3 hv h1 h2 p1 p2 p3
    go_enter Try.func26, Try.ntmps26
    go_wp2_with fail
    (with_reducible refine cc.mono ?_)
    rintro e w2 ⟨rfl, hb2⟩
    have e0 := (hb2.cell (p := ⟨w.heap.size, 0, none⟩) hsz).trans c0
    have e1 := (hb2.cell (p := ⟨w.heap.size, 1, none⟩) hsz).trans c1
    have e2 := (hb2.cell (p := ⟨w.heap.size, 2, none⟩) hsz).trans c2
    have hb3 := hb.trans (hb2.mono hb.size)
    clear cc c0 c1 c2 hb hb2 hsz
    go_wp2_with fail
    (with_reducible refine (cs _ hb3).mono ?_)
    rintro e w3 ⟨A3, L3, C3, rfl, hF, hb4⟩
    have hF' := Lib.hid (hF.mono hb3.size)
    clear cs hF
    go_wp2
    go_ret2
    exact ⟨_, _, _, rfl, hF'.out, hb3.trans (hb4.mono hb3.size)⟩
end Go.Proofs.Ytldgpkaecfgagaa
