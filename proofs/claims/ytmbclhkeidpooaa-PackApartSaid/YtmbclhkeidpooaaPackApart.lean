/- freeboardlaw02.PackApart: for every input the law answers true, and what is handed in reads as it did. Conditions: none. -/
import Derived.Test.YtmbclhkeidpooaaPackAlive
namespace Go.Proofs.Ytmbclhkeidpooaa
open Go.ChangeShapes Go.WideShapes Go.ChangeAt Go.RowKit PolyM PackM
/-- The world behind the boxes. -/
def boxed (w : World) (p s v q t u : Int) : World := (w.alloc (.cells #[.int .i64 p, .int .i64 s, .int .i64 v] 35)).alloc (.cells #[.int .i64 q, .int .i64 t, .int .i64 u] 35)
theorem boxed_eq (w : World) (p s v q t u : Int) : boxed w p s v q t u = (w.alloc (.cells #[.int .i64 p, .int .i64 s, .int .i64 v] 35)).alloc (.cells #[.int .i64 q, .int .i64 t, .int .i64 u] 35) := rfl
theorem boxed_size (w : World) (p s v q t u : Int) : (boxed w p s v q t u).heap.size = w.heap.size + 2 := by simp [boxed]
theorem boxed_below (w : World) (p s v q t u : Int) : Below w.heap.size w (boxed w p s v q t u) := ((Below.refl _ _).alloc (Nat.le_refl _) _).alloc (by simp) _
theorem box2_cells {w w1 : World} {p s v q t u : Int} (hb : Below (w.heap.size + 2) (boxed w p s v q t u) w1) :
    w1.cell? ⟨w.heap.size, 0, none⟩ = some (.int .i64 p) ∧ w1.cell? ⟨w.heap.size, 1, none⟩ = some (.int .i64 s) ∧ w1.cell? ⟨w.heap.size, 2, none⟩ = some (.int .i64 v) ∧
    w1.cell? ⟨w.heap.size + 1, 0, none⟩ = some (.int .i64 q) ∧ w1.cell? ⟨w.heap.size + 1, 1, none⟩ = some (.int .i64 t) ∧ w1.cell? ⟨w.heap.size + 1, 2, none⟩ = some (.int .i64 u) := by
  have h0 : (boxed w p s v q t u).heap[w.heap.size]? = some (.cells #[.int .i64 p, .int .i64 s, .int .i64 v] 35 (0, 0)) := heap_alloc2_old _ _ _
  have h1 : (boxed w p s v q t u).heap[w.heap.size + 1]? = some (.cells #[.int .i64 q, .int .i64 t, .int .i64 u] 35 (0, 0)) := heap_alloc2_new _ _ _
  have e0 := (hb.block _ (by omega)).trans h0
  have e1 := (hb.block _ (by omega)).trans h1
  exact ⟨cell_of_row _ _ _ _ _ _ e0, cell_of_row _ _ _ _ _ _ e0, cell_of_row _ _ _ _ _ _ e0, cell_of_row _ _ _ _ _ _ e1, cell_of_row _ _ _ _ _ _ e1, cell_of_row _ _ _ _ _ _ e1⟩
/-- A call's world, behind the boxes. -/
structure Bx (w : World) (p s v q t u : Int) (W : World) : Prop where
  a : Below (w.heap.size + 2) (boxed w p s v q t u) W
  b : w.heap.size + 2 ≤ W.heap.size
theorem Bx.start (w : World) (p s v q t u : Int) : Bx w p s v q t u (boxed w p s v q t u) := ⟨Below.refl _ _, Nat.le_of_eq (boxed_size _ _ _ _ _ _ _).symm⟩
theorem Bx.call {w : World} {p s v q t u : Int} {W W' : World} (h : Bx w p s v q t u W) (hb : Below W.heap.size W W') : Bx w p s v q t u W' := ⟨h.a.trans (hb.mono h.b), Nat.le_trans h.b hb.size⟩
theorem Bx.all {w : World} {p s v q t u : Int} {W : World} (h : Bx w p s v q t u W) : Below w.heap.size w W := (boxed_below w p s v q t u).trans (h.a.mono (by omega))

set_option maxHeartbeats 1000000 in
theorem apart_big (w : World) (a : Option Addr) (n c : Nat) (zs : List Int) (p s v q t u : Int) (hi : Ints .u8 w a n zs) (v0 : -9223372036854775808 ≤ v) (v1 : v ≤ 9223372036854775807) (u0 : -9223372036854775808 ≤ u) (u1 : u ≤ 9223372036854775807) (hbig : (1000 : Int) < (n : Int)) : Calls Try.prog 6 #[.slice a n c, .agg #[.int .i64 p, .int .i64 s, .int .i64 v], .agg #[.int .i64 q, .int .i64 t, .int .i64 u]] w fun e w' => e = .returned (.bool true) ∧ Below w.heap.size w w' := by
  have hm := hi.max
  go_enter Try.func6, Try.ntmps6
  go_wp2_with fail
  rw [← boxed_eq]
  refine (alive_calls _).mono ?_
  rintro e w1 ⟨rfl, hb1⟩
  have B1 := (Bx.start w p s v q t u).call hb1
  clear hb1
  go_wp2
  go_ret
  exact ⟨rfl, B1.all⟩
set_option maxHeartbeats 1000000 in
theorem apart_bad1 (w : World) (a : Option Addr) (n c : Nat) (zs : List Int) (p s v q t u : Int) (hi : Ints .u8 w a n zs) (v0 : -9223372036854775808 ≤ v) (v1 : v ≤ 9223372036854775807) (u0 : -9223372036854775808 ≤ u) (u1 : u ≤ 9223372036854775807) (hbig : (n : Int) ≤ 1000) (h1 : ¬ Good n p s v) (h2 : ¬ Good n q t u) : Calls Try.prog 6 #[.slice a n c, .agg #[.int .i64 p, .int .i64 s, .int .i64 v], .agg #[.int .i64 q, .int .i64 t, .int .i64 u]] w fun e w' => e = .returned (.bool true) ∧ Below w.heap.size w w' := by
  have hm := hi.max
  have c1 := fun W => put_bad a n c p s v W hm v0 v1 h1
  have c2 := fun W => put_bad a n c q t u W hm u0 u1 h2
  obtain ⟨he, he'⟩ := putErr_ne n
  go_enter Try.func6, Try.ntmps6
  go_wp2_with fail
  rw [← boxed_eq]
  refine (alive_calls _).mono ?_
  rintro e w1 ⟨rfl, hb1⟩
  have B1 := (Bx.start w p s v q t u).call hb1
  clear hb1 h1 h2
  obtain ⟨k0, k1, k2, k3, k4, k5⟩ := box2_cells B1.a
  go_wp2_with fail
  refine (c1 _).mono ?_
  rintro e w2 ⟨rfl, rfl⟩
  go_wp2_with fail
  refine (c2 _).mono ?_
  rintro e w2 ⟨rfl, rfl⟩
  go_wp2
  go_ret
  exact ⟨rfl, B1.all⟩
set_option maxHeartbeats 1000000 in
theorem apart_bad2 (w : World) (a : Option Addr) (n c : Nat) (zs : List Int) (p s v q t u : Int) (hi : Ints .u8 w a n zs) (v0 : -9223372036854775808 ≤ v) (v1 : v ≤ 9223372036854775807) (u0 : -9223372036854775808 ≤ u) (u1 : u ≤ 9223372036854775807) (hbig : (n : Int) ≤ 1000) (h1 : ¬ Good n p s v) (h2 : Good n q t u) : Calls Try.prog 6 #[.slice a n c, .agg #[.int .i64 p, .int .i64 s, .int .i64 v], .agg #[.int .i64 q, .int .i64 t, .int .i64 u]] w fun e w' => e = .returned (.bool true) ∧ Below w.heap.size w w' := by
  have hm := hi.max
  have c1 := fun W => put_bad a n c p s v W hm v0 v1 h1
  obtain ⟨Q, T, rfl, rfl, hn, s1, s4, hp, v2, v3⟩ := h2.nat
  have c2 := fun W (hW : Ints .u8 W a n zs) => put_ok a n c zs Q T u W hW hn s1 s4 hp v2 v3
  obtain ⟨he, he'⟩ := putErr_ne n
  go_enter Try.func6, Try.ntmps6
  go_wp2_with fail
  rw [← boxed_eq]
  refine (alive_calls _).mono ?_
  rintro e w1 ⟨rfl, hb1⟩
  have B1 := (Bx.start w p s v (Q : Int) (T : Int) u).call hb1
  clear hb1 h1 h2 hn v3
  obtain ⟨k0, k1, k2, k3, k4, k5⟩ := box2_cells B1.a
  go_wp2_with fail
  refine (c1 _).mono ?_
  rintro e w2 ⟨rfl, rfl⟩
  go_wp2_with fail
  refine (c2 _ (hi.below B1.all (Nat.le_refl _))).mono ?_
  rintro e w2 ⟨g, hg, rfl, hgc, hb2⟩
  have B2 := B1.call hb2
  clear k0 k1 k2 k3 k4 k5 hb2 hgc
  go_wp2
  go_ret
  exact ⟨rfl, B2.all⟩
set_option maxHeartbeats 1000000 in
theorem apart_bad3 (w : World) (a : Option Addr) (n c : Nat) (zs : List Int) (p s v q t u : Int) (hi : Ints .u8 w a n zs) (v0 : -9223372036854775808 ≤ v) (v1 : v ≤ 9223372036854775807) (u0 : -9223372036854775808 ≤ u) (u1 : u ≤ 9223372036854775807) (hbig : (n : Int) ≤ 1000) (h1 : Good n p s v) (h2 : ¬ Good n q t u) : Calls Try.prog 6 #[.slice a n c, .agg #[.int .i64 p, .int .i64 s, .int .i64 v], .agg #[.int .i64 q, .int .i64 t, .int .i64 u]] w fun e w' => e = .returned (.bool true) ∧ Below w.heap.size w w' := by
  have hm := hi.max
  have c2 := fun W => put_bad a n c q t u W hm u0 u1 h2
  obtain ⟨P, S, rfl, rfl, hn, s1, s4, hp, v2, v3⟩ := h1.nat
  have c1 := fun W (hW : Ints .u8 W a n zs) => put_ok a n c zs P S v W hW hn s1 s4 hp v2 v3
  obtain ⟨he, he'⟩ := putErr_ne n
  go_enter Try.func6, Try.ntmps6
  go_wp2_with fail
  rw [← boxed_eq]
  refine (alive_calls _).mono ?_
  rintro e w1 ⟨rfl, hb1⟩
  have B1 := (Bx.start w (P : Int) (S : Int) v q t u).call hb1
  clear hb1 h1 h2 hn v3
  obtain ⟨k0, k1, k2, k3, k4, k5⟩ := box2_cells B1.a
  go_wp2_with fail
  refine (c1 _ (hi.below B1.all (Nat.le_refl _))).mono ?_
  rintro e w2 ⟨g, hg, rfl, hgc, hb2⟩
  have B2 := B1.call hb2
  clear k0 k1 k2 k3 k4 k5 hb2 hgc
  obtain ⟨k0, k1, k2, k3, k4, k5⟩ := box2_cells B2.a
  go_wp2_with fail
  refine (c2 _).mono ?_
  rintro e w3 ⟨rfl, rfl⟩
  go_wp2
  go_ret
  exact ⟨rfl, B2.all⟩
set_option maxRecDepth 100000 in
set_option maxHeartbeats 2000000 in
theorem apart_far (w : World) (a : Option Addr) (n c : Nat) (zs : List Int) (P S Q T : Nat) (v u : Int) (hi : Ints .u8 w a n zs) (hbig : (n : Int) ≤ 1000) (hn : n = 0 ∨ n = 128) (s1 : 1 ≤ S) (s4 : S ≤ 4) (hp : P + S ≤ 128) (v2 : 0 ≤ v) (v3 : v < 256 ^ S) (t1 : 1 ≤ T) (t4 : T ≤ 4) (hq : Q + T ≤ 128) (u2 : 0 ≤ u) (u3 : u < 256 ^ T) (hfar : P + S ≤ Q ∨ (¬ P + S ≤ Q ∧ Q + T ≤ P)) : Calls Try.prog 6 #[.slice a n c, .agg #[.int .i64 P, .int .i64 S, .int .i64 v], .agg #[.int .i64 Q, .int .i64 T, .int .i64 u]] w fun e w' => e = .returned (.bool true) ∧ Below w.heap.size w w' := by
  have F : Hid (putL (putL zs P S v) Q T u = putL (putL zs Q T u) P S v) := by refine Lib.hid ?_; exact putL_apart (by omega)
  have F2 : Hid (takeN (putL (putL zs Q T u) P S v) P S = v) := by refine Lib.hid ?_; exact takeN_putL s4 hp v2 v3
  have hm := hi.max
  have hB := bytes_of hi
  have c1 := fun W (hW : Ints .u8 W a n zs) => put_ok a n c zs P S v W hW hn s1 s4 hp v2 v3
  have c2 := fun W (hW : Ints .u8 W a n zs) => put_ok a n c zs Q T u W hW hn t1 t4 hq u2 u3
  have hv := num_max s4 v3
  have hu := num_max t4 u3
  go_enter Try.func6, Try.ntmps6
  go_wp2_with fail
  rw [← boxed_eq]
  refine (alive_calls _).mono ?_
  rintro e w1 ⟨rfl, hb1⟩
  have B1 := (Bx.start w (P : Int) (S : Int) v (Q : Int) (T : Int) u).call hb1
  clear hb1
  obtain ⟨k0, k1, k2, k3, k4, k5⟩ := box2_cells B1.a
  go_wp2_with fail
  refine (c1 _ (hi.below B1.all (Nat.le_refl _))).mono ?_
  rintro e w2 ⟨g1, hg1, rfl, hc1, hb2⟩
  have B2 := B1.call hb2
  have i1 := Ints.ofCells hc1 (putL_len _ _ _ _) (by omega) (putL_bytes hB _ _ _)
  clear k0 k1 k2 k3 k4 k5 hb2 hc1
  obtain ⟨k0, k1, k2, k3, k4, k5⟩ := box2_cells B2.a
  go_wp2_with fail
  refine (c2 _ (hi.below B2.all (Nat.le_refl _))).mono ?_
  rintro e w3 ⟨g2, hg2, rfl, hc2, hb3⟩
  have B3 := B2.call hb3
  have i2 := Ints.ofCells hc2 (putL_len _ _ _ _) (by omega) (putL_bytes hB _ _ _)
  have j1 := i1.below hb3 (Nat.le_refl _)
  clear k0 k1 k2 k3 k4 k5 hb3 hc2 i1
  obtain ⟨k0, k1, k2, k3, k4, k5⟩ := box2_cells B3.a
  go_wp2_with fail
  refine (put_ok _ 128 128 _ Q T u w3 j1 (.inr rfl) t1 t4 hq u2 u3).mono ?_
  rintro e w4 ⟨g3, hg3, rfl, hc3, hb4⟩
  have B4 := B3.call hb4
  have i3 := Ints.ofCells hc3 (putL_len _ _ _ _) (by omega) (putL_bytes (putL_bytes hB _ _ _) _ _ _)
  have j2 := i2.below hb4 (Nat.le_refl _)
  have l1 := j1.below hb4 (Nat.le_refl _)
  clear k0 k1 k2 k3 k4 k5 hb4 hc3 i2 j1
  obtain ⟨k0, k1, k2, k3, k4, k5⟩ := box2_cells B4.a
  go_wp2_with fail
  refine (put_ok _ 128 128 _ P S v w4 j2 (.inr rfl) s1 s4 hp v2 v3).mono ?_
  rintro e w5 ⟨g4, hg4, rfl, hc4, hb5⟩
  have B5 := B4.call hb5
  have i4 := Ints.ofCells hc4 (putL_len _ _ _ _) (by omega) (putL_bytes (putL_bytes hB _ _ _) _ _ _)
  have j3 := i3.below hb5 (Nat.le_refl _)
  have m2 := j2.below hb5 (Nat.le_refl _)
  have m1 := l1.below hb5 (Nat.le_refl _)
  clear k0 k1 k2 k3 k4 k5 hb5 hc4 i3 j2 l1
  obtain ⟨k0, k1, k2, k3, k4, k5⟩ := box2_cells B5.a
  rw [F.out] at j3
  have ht := take_ok _ 128 128 _ P S w5 j3 (.inr rfl) s1 s4 hp
  rw [F2.out] at ht
  have hc : (P : Int) + S ≤ Q ∨ ((Q : Int) < (P : Int) + S ∧ (Q : Int) + T ≤ P) := by omega
  clear c1 c2 v3 u3 hn hfar hi
  rcases hc with hc | ⟨hc, hc'⟩
  all_goals
    go_wp2_with fail
    refine ht.mono ?_
    rintro e w6 ⟨rfl, hb6⟩
    have B6 := B5.call hb6
    have x3 := (j3.below hb6 (Nat.le_refl _)).text (P := Try.prog) (c := 128) Try.underlying22 Try.underlying5 Try.underlying9
    have x4 := (i4.below hb6 (Nat.le_refl _)).text (P := Try.prog) (c := 128) Try.underlying22 Try.underlying5 Try.underlying9
    clear k0 k1 k2 k3 k4 k5 ht hb6 m1 m2 j3 i4
    obtain ⟨k0, k1, k2, k3, k4, k5⟩ := box2_cells B6.a
    go_wp2
    go_ret
    exact ⟨rfl, B6.all⟩
set_option maxRecDepth 100000 in
set_option maxHeartbeats 2000000 in
theorem apart_near (w : World) (a : Option Addr) (n c : Nat) (zs : List Int) (P S Q T : Nat) (v u : Int) (hi : Ints .u8 w a n zs) (hbig : (n : Int) ≤ 1000) (hn : n = 0 ∨ n = 128) (s1 : 1 ≤ S) (s4 : S ≤ 4) (hp : P + S ≤ 128) (v2 : 0 ≤ v) (v3 : v < 256 ^ S) (t1 : 1 ≤ T) (t4 : T ≤ 4) (hq : Q + T ≤ 128) (u2 : 0 ≤ u) (u3 : u < 256 ^ T) (hnear : ¬ P + S ≤ Q ∧ ¬ Q + T ≤ P) : Calls Try.prog 6 #[.slice a n c, .agg #[.int .i64 P, .int .i64 S, .int .i64 v], .agg #[.int .i64 Q, .int .i64 T, .int .i64 u]] w fun e w' => e = .returned (.bool true) ∧ Below w.heap.size w w' := by
  have F1 : Hid (P = Q → S = T → putL (putL zs P S v) Q T u = putL zs Q T u) := by refine Lib.hid ?_; rintro rfl rfl; exact putL_same
  have F2 : Hid (P = Q → S = T → putL (putL zs Q T u) P S v = putL zs P S v) := by refine Lib.hid ?_; rintro rfl rfl; exact putL_same
  have hm := hi.max
  have hB := bytes_of hi
  have c1 := fun W (hW : Ints .u8 W a n zs) => put_ok a n c zs P S v W hW hn s1 s4 hp v2 v3
  have c2 := fun W (hW : Ints .u8 W a n zs) => put_ok a n c zs Q T u W hW hn t1 t4 hq u2 u3
  have hv := num_max s4 v3
  have hu := num_max t4 u3
  go_enter Try.func6, Try.ntmps6
  go_wp2_with fail
  rw [← boxed_eq]
  refine (alive_calls _).mono ?_
  rintro e w1 ⟨rfl, hb1⟩
  have B1 := (Bx.start w (P : Int) (S : Int) v (Q : Int) (T : Int) u).call hb1
  clear hb1
  obtain ⟨k0, k1, k2, k3, k4, k5⟩ := box2_cells B1.a
  go_wp2_with fail
  refine (c1 _ (hi.below B1.all (Nat.le_refl _))).mono ?_
  rintro e w2 ⟨g1, hg1, rfl, hc1, hb2⟩
  have B2 := B1.call hb2
  have i1 := Ints.ofCells hc1 (putL_len _ _ _ _) (by omega) (putL_bytes hB _ _ _)
  clear k0 k1 k2 k3 k4 k5 hb2 hc1
  obtain ⟨k0, k1, k2, k3, k4, k5⟩ := box2_cells B2.a
  go_wp2_with fail
  refine (c2 _ (hi.below B2.all (Nat.le_refl _))).mono ?_
  rintro e w3 ⟨g2, hg2, rfl, hc2, hb3⟩
  have B3 := B2.call hb3
  have i2 := Ints.ofCells hc2 (putL_len _ _ _ _) (by omega) (putL_bytes hB _ _ _)
  have j1 := i1.below hb3 (Nat.le_refl _)
  clear k0 k1 k2 k3 k4 k5 hb3 hc2 i1
  obtain ⟨k0, k1, k2, k3, k4, k5⟩ := box2_cells B3.a
  go_wp2_with fail
  refine (put_ok _ 128 128 _ Q T u w3 j1 (.inr rfl) t1 t4 hq u2 u3).mono ?_
  rintro e w4 ⟨g3, hg3, rfl, hc3, hb4⟩
  have B4 := B3.call hb4
  have i3 := Ints.ofCells hc3 (putL_len _ _ _ _) (by omega) (putL_bytes (putL_bytes hB _ _ _) _ _ _)
  have j2 := i2.below hb4 (Nat.le_refl _)
  have l1 := j1.below hb4 (Nat.le_refl _)
  clear k0 k1 k2 k3 k4 k5 hb4 hc3 i2 j1
  obtain ⟨k0, k1, k2, k3, k4, k5⟩ := box2_cells B4.a
  go_wp2_with fail
  refine (put_ok _ 128 128 _ P S v w4 j2 (.inr rfl) s1 s4 hp v2 v3).mono ?_
  rintro e w5 ⟨g4, hg4, rfl, hc4, hb5⟩
  have B5 := B4.call hb5
  have i4 := Ints.ofCells hc4 (putL_len _ _ _ _) (by omega) (putL_bytes (putL_bytes hB _ _ _) _ _ _)
  have j3 := i3.below hb5 (Nat.le_refl _)
  have m2 := j2.below hb5 (Nat.le_refl _)
  have m1 := l1.below hb5 (Nat.le_refl _)
  clear k0 k1 k2 k3 k4 k5 hb5 hc4 i3 j2 l1
  obtain ⟨k0, k1, k2, k3, k4, k5⟩ := box2_cells B5.a
  have hc : (Q : Int) < (P : Int) + S ∧ (P : Int) < (Q : Int) + T := by omega
  obtain ⟨hc, hc'⟩ := hc
  have x1 := m1.text (P := Try.prog) (c := 128) Try.underlying22 Try.underlying5 Try.underlying9
  have x2 := m2.text (P := Try.prog) (c := 128) Try.underlying22 Try.underlying5 Try.underlying9
  have x3 := j3.text (P := Try.prog) (c := 128) Try.underlying22 Try.underlying5 Try.underlying9
  have x4 := i4.text (P := Try.prog) (c := 128) Try.underlying22 Try.underlying5 Try.underlying9
  clear c1 c2 v3 u3 hn hnear hi m1 m2 j3 i4
  by_cases hpq : P = Q
  · have d0 : ((P : Int) != (Q : Int)) = false := by simp; omega
    by_cases hst : S = T
    · rw [F1.out hpq hst] at x3
      rw [F2.out hpq hst] at x4
      have d1 : ((S : Int) != (T : Int)) = false := by simp; omega
      clear hpq hst
      go_wp2
      go_ret
      exact ⟨rfl, B5.all⟩
    · have d1 : ((S : Int) != (T : Int)) = true := by simp; omega
      clear hpq hst
      go_wp2
      go_ret
      exact ⟨rfl, B5.all⟩
  · have d0 : ((P : Int) != (Q : Int)) = true := by simp; omega
    clear hpq
    go_wp2
    go_ret
    exact ⟨rfl, B5.all⟩

theorem packApart_walk (w : World) (a : Option Addr) (n c : Nat) (zs : List Int) (hi : Ints .u8 w a n zs) (_ : n ≤ c) (xs : List Int) (lx : xs.length = 3) (wx : ∀ z ∈ xs, (Lit.int .i64 z).wf = true) (ys : List Int) (ly : ys.length = 3) (wy : ∀ z ∈ ys, (Lit.int .i64 z).wf = true) :
    Calls Try.prog 6 #[.slice a n c, .agg (xs.map (Value.int .i64)).toArray, .agg (ys.map (Value.int .i64)).toArray] w fun e w' => e = .returned (.bool true) ∧ Below w.heap.size w w' := by
  match xs, lx, ys, ly with
  | [p, s, v], _, [q, t, u], _ =>
    obtain ⟨v0, v1⟩ := bounds_i64 (wx v (by simp))
    obtain ⟨u0, u1⟩ := bounds_i64 (wy u (by simp))
    by_cases hbig : (1000 : Int) < (n : Int)
    · exact apart_big w a n c zs p s v q t u hi v0 v1 u0 u1 hbig
    · have hbig : (n : Int) ≤ 1000 := by omega
      by_cases h1 : Good n p s v <;> by_cases h2 : Good n q t u
      · obtain ⟨P, S, rfl, rfl, hn, s1, s4, hp, v2, v3⟩ := h1.nat
        obtain ⟨Q, T, rfl, rfl, _, t1, t4, hq, u2, u3⟩ := h2.nat
        by_cases hfar : P + S ≤ Q ∨ (¬ P + S ≤ Q ∧ Q + T ≤ P)
        · exact apart_far w a n c zs P S Q T v u hi hbig hn s1 s4 hp v2 v3 t1 t4 hq u2 u3 hfar
        · exact apart_near w a n c zs P S Q T v u hi hbig hn s1 s4 hp v2 v3 t1 t4 hq u2 u3 (by omega)
      · exact apart_bad3 w a n c zs p s v q t u hi v0 v1 u0 u1 hbig h1 h2
      · exact apart_bad2 w a n c zs p s v q t u hi v0 v1 u0 u1 hbig h1 h2
      · exact apart_bad1 w a n c zs p s v q t u hi v0 v1 u0 u1 hbig h1 h2

namespace packApart
set_option linter.unusedVariables false
set_option maxRecDepth 100000 in
theorem lifted (os : Os) (started : os.Started) (H : Type) (enc : TypeId × Value → H) :
    ReturnsInHanded {} Try.checked os 6 .any (Rows.packApartSpec.pre6 enc Try.prog Try.f6 Rows.packApartRow.domain false) (Rows.packApartSpec.post enc Try.prog Try.f6 false true false false) := by
  refine returnsInHanded_of_change (C := Try.checked) Try.own started (by kernel_rfl) Try.func6
    (ChangeSpec.witness6 (enc := enc) (C := Try.checked) false ⟨#[], #[.slice none 0 0, .agg #[.int .i64 0, .int .i64 0, .int .i64 0], .agg #[.int .i64 0, .int .i64 0, .int .i64 0]], []⟩ 8 (by kernel_rfl) (by kernel_rfl) (by kernel_rfl) (by kernel_rfl)) ?_
  intro W base args ds gs before hval0 hW hcnd _
  have hval : ∀ (j : Nat) t v, Try.f6.params[j]? = some t → args[j]? = some v → Value.okWide Try.prog W .any base t v := hval0
  have hW' := hW
  obtain ⟨p, q, hA0, hV, rfl, hfz, hnd⟩ := hW
  have hA : DataW.TrodAll enc Try.prog W 0 (fun _ => true) true Try.f6.params.toList args.toList ds p := hA0
  rw [Try.params6] at hA hval
  obtain ⟨v0, vs0, d0, ds0, p0, q0, hargs, rfl, rfl, h0, r0⟩ := trodAll_cons hA
  obtain ⟨v1, vs1, d1, ds1, p1, q1, rfl, rfl, rfl, h1, r1⟩ := trodAll_cons r0
  obtain ⟨v2, vs2, d2, ds2, p2, q2, rfl, rfl, rfl, h2, r2⟩ := trodAll_cons r1
  obtain ⟨rfl, rfl, rfl⟩ := trodAll_nil r2
  obtain rfl : args = #[v0, v1, v2] := by cases args; simp_all
  obtain ⟨rfl, rfl⟩ := trodVars_none hV
  obtain ⟨a0, len0, cap0, rfl⟩ := okWide_slice Try.underlying22 (hval 0 22 v0 rfl rfl)
  have k0 := h0
  have lt0 : ∀ x ∈ p0, x.block < W.heap.size := by obtain ⟨m, hm⟩ := k0; exact DataW.trod_lt m _ _ _ hm
  obtain ⟨z0, w0, c0⟩ : ∃ zs, Ints .u8 W a0 len0 zs ∧ len0 ≤ cap0 := by
    obtain ⟨fuel, hf⟩ := h0
    rcases open_ints Try.underlying22 Try.underlying5 (by kernel_rfl) hf with ⟨hcs, _⟩ | ⟨x, l, c, zs, hcs, _, hl, hm, hz, _, hcell, hwz⟩
    · simp [Value.cells] at hcs
      obtain ⟨rfl, rfl, rfl⟩ := hcs
      exact ⟨[], ⟨rfl, by omega, by simp, .inl rfl⟩, by omega⟩
    · simp [Value.cells] at hcs
      obtain ⟨rfl, rfl, rfl⟩ := hcs
      exact ⟨_, Ints.of_cells hl hm (by simpa using hz) hcell hwz, hl⟩
  have k1 := h1
  have lt1 : ∀ x ∈ p1, x.block < W.heap.size := by obtain ⟨m, hm⟩ := k1; exact DataW.trod_lt m _ _ _ hm
  obtain ⟨z1, l1, rfl, w1⟩ := open_array_ints (n := 3) Try.underlying35 Try.underlying3 (by kernel_rfl) (by kernel_rfl) (hval 1 35 v1 rfl rfl) h1
  have k2 := h2
  have lt2 : ∀ x ∈ p2, x.block < W.heap.size := by obtain ⟨m, hm⟩ := k2; exact DataW.trod_lt m _ _ _ hm
  obtain ⟨z2, l2, rfl, w2⟩ := open_array_ints (n := 3) Try.underlying35 Try.underlying3 (by kernel_rfl) (by kernel_rfl) (hval 2 35 v2 rfl rfl) h2
  clear hA0 hval0
  refine (packApart_walk W a0 len0 cap0 z0 w0 c0 z1 l1 w1 z2 l2 w2).mono fun e W' ⟨he, bel⟩ => ?_
  subst he
  exact ⟨_, rfl, _, _, _, [], _, [], hW', trodAll_mk1 (shut_bool Try.underlying4 _), (trodAll_cons_mk (Below.trod Try.laidOut (by kernel_rfl) (of_decide_eq_true (by kernel_rfl)) k0 bel lt0) (trodAll_cons_mk (Below.trod Try.laidOut (by kernel_rfl) (of_decide_eq_true (by kernel_rfl)) k1 bel lt1) (trodAll_cons_mk (Below.trod Try.laidOut (by kernel_rfl) (of_decide_eq_true (by kernel_rfl)) k2 bel lt2) trodAll_mk0))), rfl, bel.frame _, fun h => by cases h⟩

theorem holds : Rows.PackApartSaid :=
  OpenClaim.holds_of_wide 6 Try.f6 rfl rfl rfl rfl rfl rfl rfl ⟨rfl, rfl, rfl, rfl, rfl⟩ rfl rfl rfl rfl rfl (by kernel_rfl) Try.func6 (by kernel_rfl)
    (of_decide_eq_true (by kernel_rfl)) (by unfold Func.isWrapper; first | (rw [if_pos (by decide +kernel)]; kernel_rfl) | (rw [if_neg (by decide +kernel)]; exact ⟨rfl, rfl⟩))
    (fun os started H enc _ => lifted os started H enc)
end packApart
end Go.Proofs.Ytmbclhkeidpooaa
