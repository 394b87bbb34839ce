/- The walks of acts.Same and of the reference's Same of layer 5. -/
import Derived.Test.YtldgpkaecfgagaaRefFB
import Derived.Deep.QuietTactic
import Derived.BigQuiet
namespace Go.Proofs.Ytldgpkaecfgagaa
open Go.RowKit PolyM PackM FoldM DevM

instance : DecidableEq Act5 := fun x y =>
  if h : x.disk = y.disk ∧ x.kind = y.kind ∧ x.at_ = y.at_ ∧ x.data = y.data then isTrue (by
    obtain ⟨x1, x2, x3, x4⟩ := x
    obtain ⟨y1, y2, y3, y4⟩ := y
    obtain ⟨h1, h2, h3, h4⟩ := h
    simp only at h1 h2 h3 h4
    rw [h1, h2, h3, h4])
  else isFalse (fun e => h (by rw [e]; exact ⟨rfl, rfl, rfl, rfl⟩))
theorem act_ne1 {x1 x2 x3 y1 y2 y3 : Int} {x4 y4 : List Int} (h : x1 ≠ y1) : (⟨x1, x2, x3, x4⟩ : Act5) ≠ ⟨y1, y2, y3, y4⟩ := fun e => h (by injection e)
theorem act_ne2 {x1 x2 x3 y1 y2 y3 : Int} {x4 y4 : List Int} (h : x2 ≠ y2) : (⟨x1, x2, x3, x4⟩ : Act5) ≠ ⟨y1, y2, y3, y4⟩ := fun e => h (by injection e)
theorem act_ne3 {x1 x2 x3 y1 y2 y3 : Int} {x4 y4 : List Int} (h : x3 ≠ y3) : (⟨x1, x2, x3, x4⟩ : Act5) ≠ ⟨y1, y2, y3, y4⟩ := fun e => h (by injection e)
theorem act_ne4 {x1 x2 x3 y1 y2 y3 : Int} {x4 y4 : List Int} (h : x4 ≠ y4) : (⟨x1, x2, x3, x4⟩ : Act5) ≠ ⟨y1, y2, y3, y4⟩ := fun e => h (by injection e)
theorem list_ne {α : Type} {l l' : List α} {k : Nat} {x y : α} (hx : l[k]? = some x) (hy : l'[k]? = some y) (e : x ≠ y) : l ≠ l' := by
  intro h
  rw [h, hy] at hx
  injection hx with hx
  exact e hx.symm
set_option maxRecDepth 100000 in
set_option maxHeartbeats 4000000 in
theorem sameact_calls (x y : Act5) (A1 A2 : Option Addr) (L1 C1 L2 C2 : Nat) (w : World) (h1 : Ints .u8 w A1 L1 x.data) (h2 : Ints .u8 w A2 L2 y.data) :
    Calls Try.prog 95 #[.agg #[.int .i64 x.disk, .int .u8 x.kind, .int .i64 x.at_, .slice A1 L1 C1], .agg #[.int .i64 y.disk, .int .u8 y.kind, .int .i64 y.at_, .slice A2 L2 C2]] w fun e w' => e = .returned (.bool (decide (x = y))) ∧ Below w.heap.size w w' := by
  have hb : Below w.heap.size w ((w.alloc (.cells #[.int .i64 x.disk, .int .u8 x.kind, .int .i64 x.at_, .slice A1 L1 C1] 67)).alloc (.cells #[.int .i64 y.disk, .int .u8 y.kind, .int .i64 y.at_, .slice A2 L2 C2] 67)) := ((Below.refl _ _).alloc (Nat.le_refl _) _).alloc (by simp) _
  have cs := equal_calls A1 A2 L1 C1 L2 C2 x.data y.data _ (h1.below hb (Nat.le_refl _)) (h2.below hb (Nat.le_refl _))
  clear h1 h2
  obtain ⟨x1, x2, x3, x4⟩ := x
  obtain ⟨y1, y2, y3, y4⟩ := y
  simp only at *
  by_cases q1 : x1 = y1
  · have a1 : (x1 == y1) = true := by simp [q1]
    have b1 : (x1 != y1) = false := by simp [q1]
    by_cases q2 : x2 = y2
    · have a2 : (x2 == y2) = true := by simp [q2]
      have b2 : (x2 != y2) = false := by simp [q2]
      by_cases q3 : x3 = y3
      · have a3 : (x3 == y3) = true := by simp [q3]
        have b3 : (x3 != y3) = false := by simp [q3]
        by_cases q4 : x4 = y4
        · have F : Hid (decide ((⟨x1, x2, x3, x4⟩ : Act5) = ⟨y1, y2, y3, y4⟩) = true) := Lib.hid (decide_eq_true (by rw [q1, q2, q3, q4]))
          rw [decide_eq_true q4] at cs
          rw [F.out]
          clear q1 q2 q3 q4 F
          go_enter Try.func95, Try.ntmps95
          go_wp2_with fail
          (with_reducible refine cs.mono ?_)
          rintro e w2 ⟨rfl, rfl⟩
          clear cs
          go_wp2
          go_ret
          exact ⟨rfl, hb⟩
        · have F : Hid (decide ((⟨x1, x2, x3, x4⟩ : Act5) = ⟨y1, y2, y3, y4⟩) = false) := Lib.hid (decide_eq_false (act_ne4 q4))
          rw [decide_eq_false q4] at cs
          rw [F.out]
          clear q1 q2 q3 q4 F
          go_enter Try.func95, Try.ntmps95
          go_wp2_with fail
          (with_reducible refine cs.mono ?_)
          rintro e w2 ⟨rfl, rfl⟩
          clear cs
          go_wp2
          go_ret
          exact ⟨rfl, hb⟩
      · have a3 : (x3 == y3) = false := by simp [q3]
        have b3 : (x3 != y3) = true := by simp [q3]
        have F : Hid (decide ((⟨x1, x2, x3, x4⟩ : Act5) = ⟨y1, y2, y3, y4⟩) = false) := Lib.hid (decide_eq_false (act_ne3 q3))
        rw [F.out]
        clear q1 q2 q3 F cs
        go_enter Try.func95, Try.ntmps95
        go_wp2
        go_ret
        exact ⟨rfl, hb⟩
    · have a2 : (x2 == y2) = false := by simp [q2]
      have b2 : (x2 != y2) = true := by simp [q2]
      have F : Hid (decide ((⟨x1, x2, x3, x4⟩ : Act5) = ⟨y1, y2, y3, y4⟩) = false) := Lib.hid (decide_eq_false (act_ne2 q2))
      rw [F.out]
      clear q1 q2 F cs
      go_enter Try.func95, Try.ntmps95
      go_wp2
      go_ret
      exact ⟨rfl, hb⟩
  · have a1 : (x1 == y1) = false := by simp [q1]
    have b1 : (x1 != y1) = true := by simp [q1]
    have F : Hid (decide ((⟨x1, x2, x3, x4⟩ : Act5) = ⟨y1, y2, y3, y4⟩) = false) := Lib.hid (decide_eq_false (act_ne1 q1))
    rw [F.out]
    clear q1 F cs
    go_enter Try.func95, Try.ntmps95
    go_wp2
    go_ret
    exact ⟨rfl, hb⟩

set_option maxRecDepth 100000 in
set_option maxHeartbeats 8000000 in
theorem eq_acts (a b : Option Addr) (n c m d : Nat) (hs ht : List Value) (ls lt : List Act5) (w : World) (h : ASlab w a n hs ls) (g : ASlab w b m ht lt) :
    Calls Try.prog 94 #[.slice a n c, .slice b m d, .func (.func 95) #[] #[]] w fun e w' => e = .returned (.bool (decide (ls = lt))) ∧ Below w.heap.size w w' := by
  have hm1 := h.max
  have hm2 := g.max
  have hl1 := Lib.hid h.len
  have hl2 := Lib.hid g.len
  by_cases hnm : n = m
  · subst hnm
    have hne : ((n : Int) != (n : Int)) = false := by simp
    go_enter Try.func94, Try.ntmps94
    go_wp2
    go_loopw [17] (fun i wr => ∃ k : Nat, k ≤ n ∧ i = .int .i64 k ∧ Below w.heap.size w wr ∧ Hid (ls.take k = lt.take k)) (fun i _ => n - (intOf i).toNat)
    case atStart => exact ⟨0, by omega, rfl, Below.refl _ _, rfl⟩
    case round =>
      obtain ⟨k, hk, rfl, hbk, heq⟩ := hrel
      by_cases hkn : k < n
      · obtain ⟨b1, o1, A1, L1, C1, x, rfl, hls, p1, c0, c1, c2, c3, hi1⟩ := (h.below hbk (Nat.le_refl _)).at hkn
        obtain ⟨b2, o2, A2, L2, C2, y, rfl, hlt, p2, g0, g1, g2, g3, hi2⟩ := (g.below hbk (Nat.le_refl _)).at hkn
        have hb2 : Below wr.heap.size wr ((wr.alloc (.cells #[.int .i64 x.disk, .int .u8 x.kind, .int .i64 x.at_, .slice A1 L1 C1] 67)).alloc (.cells #[.int .i64 y.disk, .int .u8 y.kind, .int .i64 y.at_, .slice A2 L2 C2] 67)) := ((Below.refl _ _).alloc (Nat.le_refl _) _).alloc (by simp) _
        have cs := sameact_calls x y A1 A2 L1 C1 L2 C2 _ (hi1.bytes.below hb2 (Nat.le_refl _)) (hi2.bytes.below hb2 (Nat.le_refl _))
        have hls' := Lib.hid hls
        have hlt' := Lib.hid hlt
        have hkn1 : (k : Int) < (n : Int) := by omega
        have hbb := hbk.trans (hb2.mono hbk.size)
        clear hls hlt hi1 hi2 hb2
        by_cases he : x = y
        · rw [decide_eq_true he] at cs
          have F : Hid (ls.take (k + 1) = lt.take (k + 1)) := Lib.hid (by rw [take_snocL hls'.out, take_snocL hlt'.out, heq.out, he])
          obtain ⟨x1, x2, x3, x4⟩ := x
          obtain ⟨y1, y2, y3, y4⟩ := y
          simp only at *
          clear he
          go_wp2_with (go_at_call 95; refine cs.mono ?_; rintro e w3 ⟨rfl, hb3⟩)
          go_roundw
          case rel => exact ⟨k + 1, by omega, by go_num, hbb.trans (hb3.mono hbb.size), F⟩
          case measure => simp [intOf]; omega
        · rw [decide_eq_false he] at cs
          have F : Hid (decide (ls = lt) = false) := Lib.hid (decide_eq_false (list_ne hls'.out hlt'.out he))
          obtain ⟨x1, x2, x3, x4⟩ := x
          obtain ⟨y1, y2, y3, y4⟩ := y
          simp only at *
          clear he
          go_wp2_with (go_at_call 95; refine cs.mono ?_; rintro e w3 ⟨rfl, hb3⟩)
          go_ret
          exact ⟨ret_bool F.out.symm, hbb.trans (hb3.mono hbb.size)⟩
      · obtain rfl : n = k := by omega
        have F : Hid (decide (ls = lt) = true) := by
          refine Lib.hid (decide_eq_true ?_)
          have := heq.out
          rwa [List.take_of_length_le (by rw [hl1.out]; exact Nat.le_refl _), List.take_of_length_le (by rw [hl2.out]; exact Nat.le_refl _)] at this
        go_wp2
        go_ret
        exact ⟨ret_bool F.out.symm, hbk⟩
  · have hne : ((n : Int) != (m : Int)) = true := by simp; omega
    have F : Hid (decide (ls = lt) = false) := by
      refine Lib.hid (decide_eq_false fun e => hnm ?_)
      rw [← hl1.out, ← hl2.out, e]
    clear hnm h g
    go_enter Try.func94, Try.ntmps94
    go_wp2
    go_ret
    exact ⟨ret_bool F.out.symm, Below.refl _ _⟩
theorem actssame_calls (a b : Option Addr) (n c m d : Nat) (hs ht : List Value) (ls lt : List Act5) (w : World) (h : ASlab w a n hs ls) (g : ASlab w b m ht lt) :
    Calls Try.prog 55 #[.slice a n c, .slice b m d] w fun e w' => e = .returned (.bool (decide (ls = lt))) ∧ Below w.heap.size w w' := by
  have cs := eq_acts a b n c m d hs ht ls lt w h g
  clear h g
  generalize decide (ls = lt) = r at *
  go_enter Try.func55, Try.ntmps55
  go_wp2_with fail
  (with_reducible refine cs.mono ?_)
  rintro e w2 ⟨rfl, hb2⟩
  clear cs
  go_wp2
  go_ret
  exact ⟨rfl, hb2⟩

set_option maxRecDepth 100000 in
set_option maxHeartbeats 8000000 in
theorem refactssame_calls (a b : Option Addr) (n c m d : Nat) (hs ht : List Value) (ls lt : List Act5) (w : World) (h : ASlab w a n hs ls) (g : ASlab w b m ht lt) :
    Calls Try.prog 56 #[.slice a n c, .slice b m d] w fun e w' => e = .returned (.bool (decide (ls = lt))) ∧ Below w.heap.size w w' := by
  have hm1 := h.max
  have hm2 := g.max
  have hl1 := Lib.hid h.len
  have hl2 := Lib.hid g.len
  by_cases hnm : n = m
  · subst hnm
    have hne : ((n : Int) != (n : Int)) = false := by simp
    go_enter Try.func56, Try.ntmps56
    go_wp2
    go_loopw [5] (fun i wr => ∃ k : Nat, k ≤ n ∧ i = .int .i64 k ∧ Below w.heap.size w wr ∧ Hid (ls.take k = lt.take k)) (fun i _ => n - (intOf i).toNat)
    case atStart => exact ⟨0, by omega, rfl, Below.refl _ _, rfl⟩
    case round =>
      obtain ⟨k, hk, rfl, hbk, heq⟩ := hrel
      by_cases hkn : k < n
      · obtain ⟨b1, o1, A1, L1, C1, ⟨x1, x2, x3, x4⟩, rfl, hls, p1, c0, c1, c2, c3, hi1⟩ := (h.below hbk (Nat.le_refl _)).at hkn
        obtain ⟨b2, o2, A2, L2, C2, ⟨y1, y2, y3, y4⟩, rfl, hlt, p2, g0, g1, g2, g3, hi2⟩ := (g.below hbk (Nat.le_refl _)).at hkn
        have hi1 := hi1.bytes
        have hi2 := hi2.bytes
        simp only at c0 c1 c2 g0 g1 g2 hi1 hi2
        have t1 := fun m => (hi1.below (below_drewN (Below.refl wr.heap.size wr) m) (Nat.le_refl _)).text (P := Try.prog) (c := C1) Try.underlying29 Try.underlying5 Try.underlying9
        have t2 := fun m => (hi2.below (below_drewN (Below.refl wr.heap.size wr) m) (Nat.le_refl _)).text (P := Try.prog) (c := C2) Try.underlying29 Try.underlying5 Try.underlying9
        have bA := Lib.hid (bytes_of hi1)
        have bB := Lib.hid (bytes_of hi2)
        have hls' := Lib.hid hls
        have hlt' := Lib.hid hlt
        have hk0 : (0 : Int) ≤ (k : Int) := by omega
        have hkn1 : (k : Int) < (n : Int) := by omega
        clear hls hlt hi1 hi2
        by_cases q1 : x1 = y1
        · have a1 : (x1 == y1) = true := by simp [q1]
          have b1 : (x1 != y1) = false := by simp [q1]
          by_cases q2 : x2 = y2
          · have a2 : (x2 == y2) = true := by simp [q2]
            have b2 : (x2 != y2) = false := by simp [q2]
            by_cases q3 : x3 = y3
            · have a3 : (x3 == y3) = true := by simp [q3]
              have b3 : (x3 != y3) = false := by simp [q3]
              by_cases q4 : x4 = y4
              · have d4 : ((strOfNums x4).toList == (strOfNums y4).toList) = true := by rw [str_eq bA.out bB.out]; exact decide_eq_true q4
                have F : Hid (ls.take (k + 1) = lt.take (k + 1)) := Lib.hid (by rw [take_snocL hls'.out, take_snocL hlt'.out, heq.out, q1, q2, q3, q4])
                clear q1 q2 q3 q4
                go_wp2
                go_quiet (fail)
                go_wp2
                go_roundw
                case rel => exact ⟨k + 1, by omega, by go_num, below_drewN hbk _, F⟩
                case measure => simp [intOf]; omega
              · have F : Hid (decide (ls = lt) = false) := Lib.hid (decide_eq_false (list_ne hls'.out hlt'.out (act_ne4 q4)))
                have d4 : ((strOfNums x4).toList == (strOfNums y4).toList) = false := by rw [str_eq bA.out bB.out]; exact decide_eq_false q4
                clear q1 q2 q3 q4
                go_wp2
                go_quiet (fail)
                go_wp2
                go_ret
                exact ⟨ret_bool F.out.symm, below_drewN hbk _⟩
            · have a3 : (x3 == y3) = false := by simp [q3]
              have b3 : (x3 != y3) = true := by simp [q3]
              have F : Hid (decide (ls = lt) = false) := Lib.hid (decide_eq_false (list_ne hls'.out hlt'.out (act_ne3 q3)))
              clear q1 q2 q3
              go_wp2
              go_quiet (fail)
              go_wp2
              go_ret
              exact ⟨ret_bool F.out.symm, below_drewN hbk _⟩
          · have a2 : (x2 == y2) = false := by simp [q2]
            have b2 : (x2 != y2) = true := by simp [q2]
            have F : Hid (decide (ls = lt) = false) := Lib.hid (decide_eq_false (list_ne hls'.out hlt'.out (act_ne2 q2)))
            clear q1 q2
            go_wp2
            go_quiet (fail)
            go_wp2
            go_ret
            exact ⟨ret_bool F.out.symm, below_drewN hbk _⟩
        · have a1 : (x1 == y1) = false := by simp [q1]
          have b1 : (x1 != y1) = true := by simp [q1]
          have F : Hid (decide (ls = lt) = false) := Lib.hid (decide_eq_false (list_ne hls'.out hlt'.out (act_ne1 q1)))
          clear q1
          go_wp2
          go_quiet (fail)
          go_wp2
          go_ret
          exact ⟨ret_bool F.out.symm, below_drewN hbk _⟩
      · obtain rfl : n = k := by omega
        have F : Hid (decide (ls = lt) = true) := by
          refine Lib.hid (decide_eq_true ?_)
          have := heq.out
          rwa [List.take_of_length_le (by rw [hl1.out]; exact Nat.le_refl _), List.take_of_length_le (by rw [hl2.out]; exact Nat.le_refl _)] at this
        go_wp2
        go_ret
        exact ⟨ret_bool F.out.symm, hbk⟩
  · have hne : ((n : Int) != (m : Int)) = true := by simp; omega
    have F : Hid (decide (ls = lt) = false) := by
      refine Lib.hid (decide_eq_false fun e => hnm ?_)
      rw [← hl1.out, ← hl2.out, e]
    clear hnm h g
    go_enter Try.func56, Try.ntmps56
    go_wp2
    go_ret
    exact ⟨ret_bool F.out.symm, Below.refl _ _⟩
end Go.Proofs.Ytldgpkaecfgagaa
