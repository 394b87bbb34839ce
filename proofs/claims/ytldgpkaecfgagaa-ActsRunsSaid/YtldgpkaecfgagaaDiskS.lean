/- The walks of package disk's Same: two devices byte by byte. -/
import Derived.Test.YtldgpkaecfgagaaDiskB
import Derived.Test.YtldgpkaecfgagaaDiskStr
import Derived.RegionTactic
import Derived.Deep.QuietTactic
import Derived.BigQuiet
import Derived.Lib.Bytes
namespace Go.Proofs.Ytldgpkaecfgagaa
open Go.RowKit PolyM PackM FoldM DevM

theorem equal_calls (a b : Option Addr) (n c m e : Nat) (xs ys : List Int) (w : World) (hx : Ints .u8 w a n xs) (hy : Ints .u8 w b m ys) :
    Calls Try.prog 100 #[.slice a n c, .slice b m e] w fun e w' => e = .returned (.bool (decide (xs = ys))) ∧ w = w' := by
  have t1 := hx.text (P := Try.prog) (c := c) Try.underlying29 Try.underlying5 Try.underlying9
  have t2 := hy.text (P := Try.prog) (c := e) Try.underlying29 Try.underlying5 Try.underlying9
  have bx := Lib.hid (bytes_of hx)
  have by_ := Lib.hid (bytes_of hy)
  clear hx hy
  go_enter Try.func100, Try.ntmps100
  go_wp2
  go_ret
  exact ⟨ret_bool (str_eq bx.out by_.out), rfl⟩

theorem ints_noughts (w : World) : Ints .u8 (w.alloc (.cells (cells noughts) 121)) (some ⟨w.heap.size, 0, none⟩) 128 noughts :=
  Ints.ofCells (heap_alloc_new _ _) (by simp [noughts]) (by omega) (fun z hz => by unfold noughts at hz; rw [List.eq_of_mem_replicate hz]; omega)
set_option maxRecDepth 100000 in
set_option maxHeartbeats 2000000 in
theorem same_block (a b : Option Addr) (n c m e : Nat) (xs ys : List Int) (w : World) (hx : Ints .u8 w a n xs) (hy : Ints .u8 w b m ys) :
    Calls Try.prog 76 #[.slice a n c, .slice b m e] w fun e w' => e = .returned (.bool (decide (fullD xs = fullD ys))) ∧ Below w.heap.size w w' := by
  obtain ⟨hz, hsz⟩ := zero_of_info zero_block
  have hb : Below w.heap.size w (w.alloc (.cells (cells noughts) 121)) := (Below.refl _ _).alloc (Nat.le_refl _) _
  have hN := ints_noughts w
  have hm1 := hx.max
  have hm2 := hy.max
  have fx : (((n : Int) == 0) = true ∧ Hid (fullD xs = noughts)) ∨ (((n : Int) == 0) = false ∧ Hid (fullD xs = xs)) := by
    unfold fullD
    rw [hx.len]
    by_cases q : n = 0
    · exact .inl ⟨by simp [q], by refine Lib.hid ?_; rw [if_pos q]; rfl⟩
    · exact .inr ⟨by simp; omega, by refine Lib.hid ?_; rw [if_neg q]⟩
  have fy : (((m : Int) == 0) = true ∧ Hid (fullD ys = noughts)) ∨ (((m : Int) == 0) = false ∧ Hid (fullD ys = ys)) := by
    unfold fullD
    rw [hy.len]
    by_cases q : m = 0
    · exact .inl ⟨by simp [q], by refine Lib.hid ?_; rw [if_pos q]; rfl⟩
    · exact .inr ⟨by simp; omega, by refine Lib.hid ?_; rw [if_neg q]⟩
  have hx1 := hx.below hb (Nat.le_refl _)
  have hy1 := hy.below hb (Nat.le_refl _)
  have c00 := equal_calls _ _ _ 128 _ 128 _ _ _ hN hN
  have c01 := equal_calls _ _ _ 128 _ e _ _ _ hN hy1
  have c10 := equal_calls _ _ _ c _ 128 _ _ _ hx1 hN
  have c11 := equal_calls _ _ _ c _ e _ _ _ hx1 hy1
  clear hN hx hy hx1 hy1
  rcases fx with ⟨q1, F1⟩ | ⟨q1, F1⟩
  all_goals
    rcases fy with ⟨q2, F2⟩ | ⟨q2, F2⟩
  all_goals
    rw [F1.out, F2.out]
    go_enter Try.func76, Try.ntmps76
    go_wp2_with fail
    first
      | (with_reducible refine c00.mono ?_)
      | (with_reducible refine c01.mono ?_)
      | (with_reducible refine c10.mono ?_)
      | (with_reducible refine c11.mono ?_)
    rintro e w2 ⟨rfl, rfl⟩
    clear c00 c01 c10 c11
    go_wp2
    go_ret
    exact ⟨rfl, hb⟩
/-- Lists that read alike. -/
theorem map_take_next {α β : Type} [DecidableEq β] {f : α → β} {l l' : List α} {k : Nat} {x y : α} (h : (l.take k).map f = (l'.take k).map f) (hx : l[k]? = some x) (hy : l'[k]? = some y) (e : f x = f y) : (l.take (k + 1)).map f = (l'.take (k + 1)).map f := by
  rw [take_snocL hx, take_snocL hy, List.map_append, List.map_append, h]
  simp [e]
theorem map_ne {α β : Type} {f : α → β} {l l' : List α} {k : Nat} {x y : α} (hx : l[k]? = some x) (hy : l'[k]? = some y) (e : f x ≠ f y) : l.map f ≠ l'.map f := by
  intro h
  have := congrArg (fun q => q[k]?) h
  simp only [List.getElem?_map, hx, hy, Option.map_some] at this
  injection this with this
  exact e this
set_option maxRecDepth 100000 in
set_option maxHeartbeats 2000000 in
theorem eq_blocks (a b : Option Addr) (n c m d : Nat) (hs ht : List Value) (ls lt : List (List Int)) (w : World) (h : Slab w a n hs ls) (g : Slab w b m ht lt) :
    Calls Try.prog 75 #[.slice a n c, .slice b m d, .func (.func 76) #[] #[]] w fun e w' => e = .returned (.bool (decide (ls.map fullD = lt.map fullD))) ∧ Below w.heap.size w w' := by
  have hm1 := h.max
  have hm2 := g.max
  have hl1 := Lib.hid h.len
  have hl2 := Lib.hid g.len
  by_cases hnm : n = m
  · subst hnm
    have hne : ((n : Int) != (n : Int)) = false := by simp
    go_enter Try.func75, Try.ntmps75
    go_wp2
    go_loopw [17] (fun i wr => ∃ k : Nat, k ≤ n ∧ i = .int .i64 k ∧ Below w.heap.size w wr ∧ Hid ((ls.take k).map fullD = (lt.take k).map fullD)) (fun i _ => n - (intOf i).toNat)
    case atStart => exact ⟨0, by omega, rfl, Below.refl _ _, rfl⟩
    case round =>
      obtain ⟨k, hk, rfl, hbk, heq⟩ := hrel
      by_cases hkn : k < n
      · obtain ⟨b1, o1, A1, L1, C1, z1, rfl, hls, hc1, hi1, _⟩ := h.at_below hkn hbk
        obtain ⟨b2, o2, A2, L2, C2, z2, rfl, hlt, hc2, hi2, _⟩ := g.at_below hkn hbk
        have cs := same_block A1 A2 L1 C1 L2 C2 z1 z2 wr hi1 hi2
        have hls' := Lib.hid hls
        have hlt' := Lib.hid hlt
        have hkn1 : (k : Int) < (n : Int) := by omega
        clear hls hlt hi1 hi2
        by_cases he : fullD z1 = fullD z2
        · rw [decide_eq_true he] at cs
          have F : Hid ((ls.take (k + 1)).map fullD = (lt.take (k + 1)).map fullD) := Lib.hid (map_take_next heq.out hls'.out hlt'.out he)
          clear he
          go_wp2_with (go_at_call 76; refine cs.mono ?_; rintro e w3 ⟨rfl, hb3⟩)
          go_roundw
          case rel => exact ⟨k + 1, by omega, by go_num, hbk.trans (hb3.mono hbk.size), F⟩
          case measure => simp [intOf]; omega
        · rw [decide_eq_false he] at cs
          have F : Hid (decide (ls.map fullD = lt.map fullD) = false) := Lib.hid (decide_eq_false (map_ne hls'.out hlt'.out he))
          clear he
          go_wp2_with (go_at_call 76; refine cs.mono ?_; rintro e w3 ⟨rfl, hb3⟩)
          go_ret
          exact ⟨ret_bool F.out.symm, hbk.trans (hb3.mono hbk.size)⟩
      · obtain rfl : n = k := by omega
        have F : Hid (decide (ls.map fullD = lt.map fullD) = true) := by
          refine Lib.hid (decide_eq_true ?_)
          have := heq.out
          rwa [List.take_of_length_le (by rw [hl1.out]; exact Nat.le_refl _), List.take_of_length_le (by rw [hl2.out]; exact Nat.le_refl _)] at this
        go_wp2
        go_ret
        exact ⟨ret_bool F.out.symm, hbk⟩
  · have hne : ((n : Int) != (m : Int)) = true := by simp; omega
    have F : Hid (decide (ls.map fullD = lt.map fullD) = false) := by
      refine Lib.hid (decide_eq_false fun e => hnm ?_)
      have := congrArg List.length e
      simp only [List.length_map] at this
      rw [hl1.out, hl2.out] at this
      exact this
    clear hnm h g
    go_enter Try.func75, Try.ntmps75
    go_wp2
    go_ret
    exact ⟨ret_bool F.out.symm, Below.refl _ _⟩

/-- A write, its bytes whole. -/
def fullW (x : Int × List Int) : Int × List Int := (x.1, fullD x.2)
set_option maxRecDepth 100000 in
set_option maxHeartbeats 2000000 in
theorem same_write (x y : Int × List Int) (A1 A2 : Option Addr) (L1 C1 L2 C2 : Nat) (w : World) (h1 : Ints .u8 w A1 L1 x.2) (h2 : Ints .u8 w A2 L2 y.2) :
    Calls Try.prog 78 #[.agg #[.int .i64 x.1, .slice A1 L1 C1], .agg #[.int .i64 y.1, .slice A2 L2 C2]] w fun e w' => e = .returned (.bool (decide (fullW x = fullW y))) ∧ Below w.heap.size w w' := by
  have hb : Below w.heap.size w ((w.alloc (.cells #[.int .i64 x.1, .slice A1 L1 C1] 88)).alloc (.cells #[.int .i64 y.1, .slice A2 L2 C2] 88)) := ((Below.refl _ _).alloc (Nat.le_refl _) _).alloc (by simp) _
  have cs := same_block A1 A2 L1 C1 L2 C2 x.2 y.2 _ (h1.below hb (Nat.le_refl _)) (h2.below hb (Nat.le_refl _))
  clear h1 h2
  by_cases he : x.1 = y.1
  · have e1 : (x.1 == y.1) = true := by simp [he]
    have F : Hid (decide (fullW x = fullW y) = decide (fullD x.2 = fullD y.2)) := by
      refine Lib.hid ?_
      rw [decide_eq_decide]
      unfold fullW
      rw [Prod.mk.injEq]
      exact ⟨fun q => q.2, fun q => ⟨he, q⟩⟩
    obtain ⟨x1, x2⟩ := x
    obtain ⟨y1, y2⟩ := y
    simp only at *
    rw [F.out]
    clear he F
    go_enter Try.func78, Try.ntmps78
    go_wp2_with fail
    (with_reducible refine cs.mono ?_)
    rintro e w2 ⟨rfl, hb2⟩
    clear cs
    go_wp2
    go_ret
    exact ⟨rfl, hb.trans (hb2.mono hb.size)⟩
  · have e1 : (x.1 == y.1) = false := by simp [he]
    have F : Hid (decide (fullW x = fullW y) = false) := by
      refine Lib.hid (decide_eq_false fun q => he ?_)
      unfold fullW at q
      rw [Prod.mk.injEq] at q
      exact q.1
    obtain ⟨x1, x2⟩ := x
    obtain ⟨y1, y2⟩ := y
    simp only at *
    rw [F.out]
    clear he F cs
    go_enter Try.func78, Try.ntmps78
    go_wp2
    go_ret
    exact ⟨rfl, hb⟩
theorem WSlab.at_below {w w' : World} {a : Option Addr} {n : Nat} {hs : List Value} {ls : List (Int × List Int)} (h : WSlab w a n hs ls) {i : Nat} (hi : i < n) (hb : Below w.heap.size w w') :
    ∃ (b off : Nat) (A : Option Addr) (L C : Nat) (x : Int × List Int), a = some ⟨b, off, none⟩ ∧ b < w'.heap.size ∧ ls[i]? = some x ∧ w'.cell? ⟨b, off + i * 2, none⟩ = some (.int .i64 x.1) ∧ w'.cell? ⟨b, off + i * 2 + 1, none⟩ = some (.slice A L C) ∧ Ints .u8 w' A L x.2 := by
  obtain ⟨b, off, A, L, C, x, e1, e2, e3, e4, e5, _, e6, _⟩ := (h.below hb (Nat.le_refl _)).at hi
  exact ⟨b, off, A, L, C, x, e1, e2, e3, e4, e5, e6⟩
set_option maxRecDepth 100000 in
set_option maxHeartbeats 2000000 in
theorem eq_waits (a b : Option Addr) (n c m d : Nat) (hs ht : List Value) (ls lt : List (Int × List Int)) (w : World) (h : WSlab w a n hs ls) (g : WSlab w b m ht lt) :
    Calls Try.prog 77 #[.slice a n c, .slice b m d, .func (.func 78) #[] #[]] w fun e w' => e = .returned (.bool (decide (ls.map fullW = lt.map fullW))) ∧ Below w.heap.size w w' := by
  have hm1 := h.max
  have hm2 := g.max
  have hl1 := Lib.hid h.len
  have hl2 := Lib.hid g.len
  by_cases hnm : n = m
  · subst hnm
    have hne : ((n : Int) != (n : Int)) = false := by simp
    go_enter Try.func77, Try.ntmps77
    go_wp2
    go_loopw [17] (fun i wr => ∃ k : Nat, k ≤ n ∧ i = .int .i64 k ∧ Below w.heap.size w wr ∧ Hid ((ls.take k).map fullW = (lt.take k).map fullW)) (fun i _ => n - (intOf i).toNat)
    case atStart => exact ⟨0, by omega, rfl, Below.refl _ _, rfl⟩
    case round =>
      obtain ⟨k, hk, rfl, hbk, heq⟩ := hrel
      by_cases hkn : k < n
      · obtain ⟨b1, o1, A1, L1, C1, x, rfl, p1, hls, hc1, hd1, hi1⟩ := h.at_below hkn hbk
        obtain ⟨b2, o2, A2, L2, C2, y, rfl, p2, hlt, hc2, hd2, hi2⟩ := g.at_below hkn hbk
        have hb2 : Below wr.heap.size wr ((wr.alloc (.cells #[.int .i64 x.1, .slice A1 L1 C1] 88)).alloc (.cells #[.int .i64 y.1, .slice A2 L2 C2] 88)) := ((Below.refl _ _).alloc (Nat.le_refl _) _).alloc (by simp) _
        have cs := same_write x y A1 A2 L1 C1 L2 C2 _ (hi1.below hb2 (Nat.le_refl _)) (hi2.below hb2 (Nat.le_refl _))
        have hls' := Lib.hid hls
        have hlt' := Lib.hid hlt
        have hkn1 : (k : Int) < (n : Int) := by omega
        have hbb := hbk.trans (hb2.mono hbk.size)
        clear hls hlt hi1 hi2 hb2
        by_cases he : fullW x = fullW y
        · rw [decide_eq_true he] at cs
          have F : Hid ((ls.take (k + 1)).map fullW = (lt.take (k + 1)).map fullW) := Lib.hid (map_take_next heq.out hls'.out hlt'.out he)
          obtain ⟨x1, x2⟩ := x
          obtain ⟨y1, y2⟩ := y
          simp only at *
          clear he
          go_wp2_with (go_at_call 78; refine cs.mono ?_; rintro e w3 ⟨rfl, hb3⟩)
          go_roundw
          case rel => exact ⟨k + 1, by omega, by go_num, hbb.trans (hb3.mono hbb.size), F⟩
          case measure => simp [intOf]; omega
        · rw [decide_eq_false he] at cs
          have F : Hid (decide (ls.map fullW = lt.map fullW) = false) := Lib.hid (decide_eq_false (map_ne hls'.out hlt'.out he))
          obtain ⟨x1, x2⟩ := x
          obtain ⟨y1, y2⟩ := y
          simp only at *
          clear he
          go_wp2_with (go_at_call 78; refine cs.mono ?_; rintro e w3 ⟨rfl, hb3⟩)
          go_ret
          exact ⟨ret_bool F.out.symm, hbb.trans (hb3.mono hbb.size)⟩
      · obtain rfl : n = k := by omega
        have F : Hid (decide (ls.map fullW = lt.map fullW) = true) := by
          refine Lib.hid (decide_eq_true ?_)
          have := heq.out
          rwa [List.take_of_length_le (by rw [hl1.out]; exact Nat.le_refl _), List.take_of_length_le (by rw [hl2.out]; exact Nat.le_refl _)] at this
        go_wp2
        go_ret
        exact ⟨ret_bool F.out.symm, hbk⟩
  · have hne : ((n : Int) != (m : Int)) = true := by simp; omega
    have F : Hid (decide (ls.map fullW = lt.map fullW) = false) := by
      refine Lib.hid (decide_eq_false fun e => hnm ?_)
      have := congrArg List.length e
      simp only [List.length_map] at this
      rw [hl1.out, hl2.out] at this
      exact this
    clear hnm h g
    go_enter Try.func77, Try.ntmps77
    go_wp2
    go_ret
    exact ⟨ret_bool F.out.symm, Below.refl _ _⟩

/-- Two devices that are the same. -/
def SameD (a b : Dev) : Prop := a.dead = b.dead ∧ a.blocks.map fullD = b.blocks.map fullD ∧ a.wait.map fullW = b.wait.map fullW
instance (a b : Dev) : Decidable (SameD a b) := inferInstanceAs (Decidable (_ ∧ _))
theorem SameD.refl (a : Dev) : SameD a a := ⟨rfl, rfl, rfl⟩
set_option maxRecDepth 100000 in
set_option maxHeartbeats 2000000 in
theorem same_calls (u v : Value) (a b : Dev) (w : World) (h : DevV w u a) (g : DevV w v b) :
    Calls Try.prog 31 #[u, v] w fun e w' => e = .returned (.bool (decide (SameD a b))) ∧ Below w.heap.size w w' := by
  obtain ⟨A, n, C, hs, B, m, D, ht, rfl, h1, h2⟩ := h
  obtain ⟨A', n', C', hs', B', m', D', ht', rfl, g1, g2⟩ := g
  have hb : Below w.heap.size w ((w.alloc (.cells #[.slice A n C, .slice B m D, .bool a.dead] 25)).alloc (.cells #[.slice A' n' C', .slice B' m' D', .bool b.dead] 25)) := ((Below.refl _ _).alloc (Nat.le_refl _) _).alloc (by simp) _
  have x1 := (BoxD.new w (.slice A n C) (.slice B m D) (.bool a.dead)).alloc (.cells #[.slice A' n' C', .slice B' m' D', .bool b.dead] 25)
  have x2 := BoxD.new (w.alloc (.cells #[.slice A n C, .slice B m D, .bool a.dead] 25)) (.slice A' n' C') (.slice B' m' D') (.bool b.dead)
  rw [World.size_alloc] at x2
  have c1 := eq_blocks A A' n C n' C' hs hs' _ _ _ (h1.below hb (Nat.le_refl _)) (g1.below hb (Nat.le_refl _))
  have c2 := fun W (hW : Below w.heap.size w W) => eq_waits B B' m D m' D' ht ht' _ _ W (h2.below hW (Nat.le_refl _)) (g2.below hW (Nat.le_refl _))
  obtain ⟨bl, wt, dd⟩ := a
  obtain ⟨bl', wt', dd'⟩ := b
  simp only at *
  have hx : (dd = dd' ∧ decide (bl.map fullD = bl'.map fullD) = true ∧ Hid (decide (SameD ⟨bl, wt, dd⟩ ⟨bl', wt', dd'⟩) = decide (wt.map fullW = wt'.map fullW))) ∨ (dd = dd' ∧ decide (bl.map fullD = bl'.map fullD) = false ∧ Hid (decide (SameD ⟨bl, wt, dd⟩ ⟨bl', wt', dd'⟩) = false)) ∨ ((dd == dd') = false ∧ Hid (decide (SameD ⟨bl, wt, dd⟩ ⟨bl', wt', dd'⟩) = false)) := by
    by_cases q1 : dd = dd'
    · by_cases q2 : bl.map fullD = bl'.map fullD
      · refine .inl ⟨q1, decide_eq_true q2, Lib.hid ?_⟩
        rw [decide_eq_decide]
        exact ⟨fun q => q.2.2, fun q => ⟨q1, q2, q⟩⟩
      · exact .inr (.inl ⟨q1, decide_eq_false q2, Lib.hid (decide_eq_false fun q => q2 q.2.1)⟩)
    · exact .inr (.inr ⟨by simp [q1], Lib.hid (decide_eq_false fun q => q1 q.1)⟩)
  clear h1 h2 g1 g2
  rcases hx with ⟨rfl, q2, E⟩ | ⟨rfl, q2, E⟩ | ⟨q1, E⟩
  · rw [E.out]
    rw [q2] at c1
    clear q2
    have hd : (dd == dd) = true := by simp
    go_enter Try.func31, Try.ntmps31
    go_wp2_with fail
    (with_reducible refine c1.mono ?_)
    rintro e w2 ⟨rfl, hb2⟩
    have y1 := x1.below hb2
    have y2 := x2.below hb2
    have e1 := y1.c1
    have e2 := y2.c1
    have hb3 := hb.trans (hb2.mono hb.size)
    clear c1 x1 x2 hb hb2
    go_wp2_with fail
    (with_reducible refine (c2 _ hb3).mono ?_)
    rintro e w4 ⟨rfl, hb4⟩
    clear c2
    go_wp2
    go_ret
    exact ⟨rfl, hb3.trans (hb4.mono hb3.size)⟩
  · rw [E.out]
    rw [q2] at c1
    clear q2 c2
    have hd : (dd == dd) = true := by simp
    go_enter Try.func31, Try.ntmps31
    go_wp2_with fail
    (with_reducible refine c1.mono ?_)
    rintro e w2 ⟨rfl, hb2⟩
    clear c1
    go_wp2
    go_ret
    exact ⟨rfl, hb.trans (hb2.mono hb.size)⟩
  · rw [E.out]
    clear c1 c2
    go_enter Try.func31, Try.ntmps31
    go_wp2
    go_ret
    exact ⟨rfl, hb⟩
end Go.Proofs.Ytldgpkaecfgagaa
