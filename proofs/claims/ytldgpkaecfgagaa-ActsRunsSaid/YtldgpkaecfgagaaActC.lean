/- Devices in a slice of the call's own: how one is set; the walk of package acts's twins. -/
import Derived.Test.YtldgpkaecfgagaaActA
namespace Go.Proofs.Ytldgpkaecfgagaa
open Go.RowKit Go.WideShapes Go.ChangeShapes PolyM PackM FoldM DevM

theorem disk_info : (Try.prog.info? 25).map (fun i => (i.zero, i.size, i.bytes)) = some (some (.agg #[.slice none 0 0, .slice none 0 0, .bool false]), 3, 56) := by kernel_rfl
theorem make_disks (n : Nat) (hn : n ≤ 1000) (W : World) : (Instr.makeSlice 58 (.int .i64 (n : Int)) (.int .i64 (n : Int))).run Try.prog W = .ok (.slice (some ⟨W.heap.size, 0, none⟩) n n) (W.alloc (.cells (madeCells #[.slice none 0 0, .slice none 0 0, .bool false] (n * 3)) 25)) := by
  obtain ⟨i, hi, hz, hs, hb⟩ := info_parts disk_info
  have hb' : (i.bytes : Int) * (n : Int) ≤ 281474976710656 := by rw [hb]; omega
  have hr := run_make (P := Try.prog) W 58 25 i _ Try.underlying58 hi hz .i64 .i64 n n (by omega) (Int.le_refl _) hb' (by omega)
  simp only [Int.toNat_natCast, hs] at hr
  exact hr

/-- A device among others in cells of the call's own. -/
def EntN (K : Nat) (w : World) (hs : List Value) (i : Nat) (d : Dev) : Prop :=
  ∃ (A : Option Addr) (n C : Nat) (B : Option Addr) (m D : Nat), hs[i * 3]? = some (.slice A n C) ∧ hs[i * 3 + 1]? = some (.slice B m D) ∧ hs[i * 3 + 2]? = some (.bool d.dead) ∧ DevN K w (.agg #[.slice A n C, .slice B m D, .bool d.dead]) d
/-- A slice of devices of the call's own, the first k of which are known; no two share the row of their blocks. -/
structure OutK (k K : Nat) (w : World) (g n C : Nat) (hs : List Value) (ds : List Dev) : Prop where
  own : w.ownsRow K 25 3 (.slice (some ⟨g, 0, none⟩) n C) n hs
  each : ∀ i d, i < k → ds[i]? = some d → EntN K w hs i d
  sep : ∀ i j, i < k → j < k → i ≠ j → ∀ x y, hs[i * 3]? = some x → hs[j * 3]? = some y → ∀ q, x.ownBlock = some q → y.ownBlock ≠ some q
  nob : ∀ v ∈ hs, ∀ q, v ≠ .int .u8 q
theorem OutK.below {k K : Nat} {w w' : World} {g n C : Nat} {hs : List Value} {ds : List Dev} (h : OutK k K w g n C hs ds) (hb : Below w.heap.size w w') : OutK k K w' g n C hs ds := by
  refine ⟨own_below h.own hb, fun i d hi hd => ?_, h.sep, h.nob⟩
  obtain ⟨A, l, C', B, m, D, q0, q1, q2, q3⟩ := h.each i d hi hd
  exact ⟨A, l, C', B, m, D, q0, q1, q2, q3.below hb⟩
theorem OutK.cells {k K : Nat} {w : World} {g n C : Nat} {hs : List Value} {ds : List Dev} (h : OutK k K w g n C hs ds) {j : Nat} (hj : j < n) :
    ∃ u0 u1 u2, w.cell? ⟨g, j * 3, none⟩ = some u0 ∧ w.cell? ⟨g, j * 3 + 1, none⟩ = some u1 ∧ w.cell? ⟨g, j * 3 + 2, none⟩ = some u2 ∧ w.frozen? ⟨g, j * 3, none⟩ = false ∧ w.frozen? ⟨g, j * 3 + 1, none⟩ = false ∧ w.frozen? ⟨g, j * 3 + 2, none⟩ = false := by
  have rl := h.own.1
  have x0 := own_cell (k := j * 3) h.own (List.getElem?_eq_getElem (by omega))
  have x1 := own_cell (k := j * 3 + 1) h.own (List.getElem?_eq_getElem (by omega))
  have x2 := own_cell (k := j * 3 + 2) h.own (List.getElem?_eq_getElem (by omega))
  exact ⟨_, _, _, x0.1, x1.1, x2.1, x0.2, x1.2, x2.2⟩
theorem OutK.lt {k K : Nat} {w : World} {g n C : Nat} {hs : List Value} {ds : List Dev} (h : OutK k K w g n C hs ds) : g < w.heap.size ∧ K ≤ g := own_lt h.own rfl
/-- A store into cells of devices turns no device. -/
theorem DevN.setDisk {K g o : Nat} {w : World} {v : Value} {d : Dev} {cs : Array Value} {c u : Value} (h : DevN K w v d) (hg : w.heap[g]? = some (.cells cs 25 (0, 0))) (hc : w.cell? ⟨g, o, none⟩ = some c) (hn : ∀ q, c ≠ .int .u8 q) : DevN K (w.setCell ⟨g, o, none⟩ u) v d := by
  obtain ⟨A, n, C, hs, B, m, D, ht, e, o1, o2, h1, h2, g1, g2, m1, m2⟩ := h
  exact ⟨A, n, C, hs, B, m, D, ht, e, own_other o1 (fun q => own_kind o1 hg (by decide) q.symm) _, own_other o2 (fun q => own_kind o2 hg (by decide) q.symm) _, h1.setOther hc hn, h2.setOther hc hn, g1.setCell _ _, g2.setCell _ _, m1, m2⟩
theorem own_heap {w : World} {base n C g size : Nat} {e : TypeId} {hs : List Value} (own : w.ownsRow base e size (.slice (some ⟨g, 0, none⟩) n C) n hs) : ∃ cs, w.heap[g]? = some (.cells cs e (0, 0)) := by
  obtain ⟨h1, ⟨h2, _⟩ | ⟨g', cap, cur, e1, hb, hh, _⟩⟩ := own
  · cases h2
  · cases e1
    exact ⟨_, hh⟩
/-- What holds of the row while one device is set. -/
structure Row3 (K : Nat) (w : World) (g n C : Nat) (hs : List Value) : Prop where
  own : w.ownsRow K 25 3 (.slice (some ⟨g, 0, none⟩) n C) n hs
  nob : ∀ v ∈ hs, ∀ q, v ≠ .int .u8 q
theorem Row3.set {K : Nat} {w : World} {g n C : Nat} {hs : List Value} (h : Row3 K w g n C hs) {o : Nat} {u : Value} (hu : ∀ q, u ≠ .int .u8 q) : Row3 K (w.setCell ⟨g, o, none⟩ u) g n C (hs.set o u) := by
  refine ⟨own_set h.own _, fun v hv => ?_⟩
  rcases List.mem_or_eq_of_mem_set hv with p | p
  · exact h.nob v p
  · rw [p]; exact hu
theorem Row3.dev {K K' : Nat} {w : World} {g n C : Nat} {hs : List Value} (h : Row3 K w g n C hs) {o : Nat} (ho : o < n * 3) {u v : Value} {d : Dev} (hd : DevN K' w v d) : DevN K' (w.setCell ⟨g, o, none⟩ u) v d := by
  obtain ⟨cs, hg⟩ := own_heap h.own
  have hx : hs[o]? = some (hs[o]'(by have := h.own.1; omega)) := List.getElem?_eq_getElem _
  exact hd.setDisk hg (own_cell h.own hx).1 (h.nob _ (List.getElem_mem _))
theorem Row3.dev3 {K K' : Nat} {w : World} {g n C j : Nat} {hs : List Value} (h : Row3 K w g n C hs) (hj : j < n) {x y z v : Value} {d : Dev} (hx : ∀ q, x ≠ .int .u8 q) (hy : ∀ q, y ≠ .int .u8 q) (hd : DevN K' w v d) :
    DevN K' (((w.setCell ⟨g, j * 3, none⟩ x).setCell ⟨g, j * 3 + 1, none⟩ y).setCell ⟨g, j * 3 + 2, none⟩ z) v d := by
  have h1 := h.set (o := j * 3) hx
  have h2 := h1.set (o := j * 3 + 1) hy
  exact h2.dev (by omega) (h1.dev (by omega) (h.dev (by omega) hd))
theorem get3 {hs : List Value} {i j : Nat} {x y z : Value} (h : i ≠ j) (o : Nat) (ho : o < 3) : (((hs.set (j * 3) x).set (j * 3 + 1) y).set (j * 3 + 2) z)[i * 3 + o]? = hs[i * 3 + o]? := by
  rw [List.getElem?_set, if_neg (by omega), List.getElem?_set, if_neg (by omega), List.getElem?_set, if_neg (by omega)]
theorem get3_0 {hs : List Value} {j : Nat} {x y z : Value} (h : j * 3 + 2 < hs.length) : (((hs.set (j * 3) x).set (j * 3 + 1) y).set (j * 3 + 2) z)[j * 3]? = some x := by
  rw [List.getElem?_set, if_neg (by omega), List.getElem?_set, if_neg (by omega), List.getElem?_set, if_pos rfl, if_pos (by omega)]
theorem get3_1 {hs : List Value} {j : Nat} {x y z : Value} (h : j * 3 + 2 < hs.length) : (((hs.set (j * 3) x).set (j * 3 + 1) y).set (j * 3 + 2) z)[j * 3 + 1]? = some y := by
  rw [List.getElem?_set, if_neg (by omega), List.getElem?_set, if_pos rfl, if_pos (by rw [List.length_set]; omega)]
theorem get3_2 {hs : List Value} {j : Nat} {x y z : Value} (h : j * 3 + 2 < hs.length) : (((hs.set (j * 3) x).set (j * 3 + 1) y).set (j * 3 + 2) z)[j * 3 + 2]? = some z := by
  rw [List.getElem?_set, if_pos rfl, if_pos (by simp only [List.length_set]; omega)]
/-- A new device is set at place j. -/
theorem OutK.put {k0 k1 K g n C j : Nat} {wr W5 : World} {hs : List Value} {ds ds' : List Dev} {d : Dev} {A B : Option Addr} {l C' m D : Nat} {dd : Bool} (h : OutK k0 K wr g n C hs ds) (hb : Below wr.heap.size wr W5) (hN : DevN wr.heap.size W5 (.agg #[.slice A l C', .slice B m D, .bool dd]) d) (hdd : dd = d.dead) (hj : j < n) (hK : K ≤ wr.heap.size)
    (hds : ∀ i d', i < k1 → ds'[i]? = some d' → (i = j ∧ d' = d) ∨ (i < k0 ∧ i ≠ j ∧ ds[i]? = some d')) (hk : ∀ i, i < k1 → i = j ∨ (i < k0 ∧ ∃ d, ds[i]? = some d)) :
    ∃ hs', OutK k1 K (((W5.setCell ⟨g, j * 3, none⟩ (.slice A l C')).setCell ⟨g, j * 3 + 1, none⟩ (.slice B m D)).setCell ⟨g, j * 3 + 2, none⟩ (.bool dd)) g n C hs' ds' := by
  subst hdd
  have h5 := h.below hb
  have r5 : Row3 K W5 g n C hs := ⟨h5.own, h5.nob⟩
  have hlen : j * 3 + 2 < hs.length := by have := h.own.1; omega
  have r6 := ((r5.set (o := j * 3) (u := .slice A l C') (by intro q; simp)).set (o := j * 3 + 1) (u := .slice B m D) (by intro q; simp)).set (o := j * 3 + 2) (u := .bool d.dead) (by intro q; simp)
  have hx : ∀ q, (Value.slice A l C') ≠ .int .u8 q := by intro q; simp
  have hy : ∀ q, (Value.slice B m D) ≠ .int .u8 q := by intro q; simp
  have newer : ∀ q, (Value.slice A l C').ownBlock = some q → wr.heap.size ≤ q := by
    intro q hq
    obtain ⟨A1, n1, C1, hs1, B1, m1, D1, ht1, e, o1, _⟩ := hN
    simp only [Value.agg.injEq, Array.mk.injEq, List.cons.injEq, Value.slice.injEq, and_true] at e
    obtain ⟨⟨rfl, rfl, rfl⟩, _⟩ := e
    exact (own_lt o1 hq).2
  have older : ∀ i x, i < k0 → (∃ d, ds[i]? = some d) → hs[i * 3]? = some x → ∀ q, x.ownBlock = some q → q < wr.heap.size := by
    intro i x hi hd hx q hq
    obtain ⟨d0, hd0⟩ := hd
    obtain ⟨A0, n0, C0, B0, m0, D0, p0, _, _, pN⟩ := h.each i d0 hi hd0
    rw [hx] at p0
    injection p0 with p0
    subst p0
    obtain ⟨A1, n1, C1, hs1, B1, m1, D1, ht1, e, o1, _⟩ := pN
    simp only [Value.agg.injEq, Array.mk.injEq, List.cons.injEq, Value.slice.injEq, and_true] at e
    obtain ⟨⟨rfl, rfl, rfl⟩, _⟩ := e
    exact (own_lt o1 hq).1
  refine ⟨_, r6.own, fun i d' hi hd' => ?_, fun i i' hi hi' hne x y hx' hy' q hq hq' => ?_, r6.nob⟩
  · rcases hds i d' hi hd' with ⟨rfl, rfl⟩ | ⟨hi0, hij, hd0⟩
    · exact ⟨A, l, C', B, m, D, get3_0 hlen, get3_1 hlen, get3_2 hlen, (r5.dev3 hj hx hy hN).mono hK⟩
    · obtain ⟨A0, n0, C0, B0, m0, D0, p0, p1, p2, pN⟩ := h5.each i d' hi0 hd0
      exact ⟨A0, n0, C0, B0, m0, D0, (get3 hij 0 (by omega)).trans p0, (get3 hij 1 (by omega)).trans p1, (get3 hij 2 (by omega)).trans p2, r5.dev3 hj hx hy pN⟩
  · by_cases e1 : i = j
    · subst e1
      rw [get3_0 hlen] at hx'
      injection hx' with hx'
      subst hx'
      rcases hk i' hi' with p | ⟨p, pd⟩
      · exact hne p.symm
      · have := (get3 (x := .slice A l C') (y := .slice B m D) (z := .bool d.dead) (hs := hs) (i := i') (j := i) (fun e => hne e.symm) 0 (by omega))
        simp only [Nat.add_zero] at this
        rw [this] at hy'
        have a1 := older i' y p pd hy' q hq'
        have a2 := newer q hq
        omega
    · rcases hk i hi with p | ⟨p, pd⟩
      · exact e1 p
      · have g1 := (get3 (x := .slice A l C') (y := .slice B m D) (z := .bool d.dead) (hs := hs) (i := i) (j := j) e1 0 (by omega))
        simp only [Nat.add_zero] at g1
        rw [g1] at hx'
        have a1 := older i x p pd hx' q hq
        by_cases e2 : i' = j
        · subst e2
          rw [get3_0 hlen] at hy'
          injection hy' with hy'
          subst hy'
          have a2 := newer q hq'
          omega
        · rcases hk i' hi' with p' | ⟨p', pd'⟩
          · exact e2 p'
          · have g2 := (get3 (x := .slice A l C') (y := .slice B m D) (z := .bool d.dead) (hs := hs) (i := i') (j := j) e2 0 (by omega))
            simp only [Nat.add_zero] at g2
            rw [g2] at hy'
            exact h.sep i i' p p' hne x y hx' hy' q hq hq'
/-- The same device is set again. -/
theorem OutK.again {k K g n C j : Nat} {wr : World} {hs : List Value} {ds : List Dev} {A B : Option Addr} {l C' m D : Nat} {dd : Bool} (h : OutK k K wr g n C hs ds) (hj : j < n) (q0 : hs[j * 3]? = some (.slice A l C')) (q1 : hs[j * 3 + 1]? = some (.slice B m D)) (q2 : hs[j * 3 + 2]? = some (.bool dd)) :
    OutK k K (((wr.setCell ⟨g, j * 3, none⟩ (.slice A l C')).setCell ⟨g, j * 3 + 1, none⟩ (.slice B m D)).setCell ⟨g, j * 3 + 2, none⟩ (.bool dd)) g n C hs ds := by
  have r5 : Row3 K wr g n C hs := ⟨h.own, h.nob⟩
  have r6 := ((r5.set (o := j * 3) (u := .slice A l C') (by intro q; simp)).set (o := j * 3 + 1) (u := .slice B m D) (by intro q; simp)).set (o := j * 3 + 2) (u := .bool dd) (by intro q; simp)
  rw [set_same q0, set_same q1, set_same q2] at r6
  refine ⟨r6.own, fun i d hi hd => ?_, h.sep, r6.nob⟩
  obtain ⟨A0, n0, C0, B0, m0, D0, p0, p1, p2, pN⟩ := h.each i d hi hd
  exact ⟨A0, n0, C0, B0, m0, D0, p0, p1, p2, r5.dev3 hj (by intro q; simp) (by intro q; simp) pN⟩
theorem OutK.slab {K g n C : Nat} {w : World} {hs : List Value} {ds : List Dev} (h : OutK n K w g n C hs ds) (hl : ds.length = n) (hm : n ≤ 9223372036854775807) : DSlab w (some ⟨g, 0, none⟩) n hs ds := by
  obtain ⟨A, C', e, _, ro, _⟩ := own_form h.own
  cases e
  refine ⟨ro, hm, by rw [hl]; exact h.own.1, fun i d hd => ?_⟩
  obtain ⟨A0, n0, C0, B0, m0, D0, p0, p1, p2, pN⟩ := h.each i d (by have := (List.getElem?_eq_some_iff.1 hd).1; omega) hd
  exact ⟨A0, n0, C0, B0, m0, D0, p0, p1, p2, pN.devV⟩
theorem below_set3 {K g o1 o2 o3 : Nat} {w W : World} {x y z : Value} (h : Below K w W) (hg : K ≤ g) : Below K w (((W.setCell ⟨g, o1, none⟩ x).setCell ⟨g, o2, none⟩ y).setCell ⟨g, o3, none⟩ z) := ((h.setCell hg _).setCell hg _).setCell hg _
theorem OutK.made (w : World) (n : Nat) (ds : List Dev) (hn : n ≤ 1000) : OutK 0 w.heap.size (w.alloc (.cells (madeCells #[.slice none 0 0, .slice none 0 0, .bool false] (n * 3)) 25)) w.heap.size n n (madeCells #[.slice none 0 0, .slice none 0 0, .bool false] (n * 3)).toList ds := by
  refine ⟨⟨by rw [Array.length_toList, size_madeCells], .inr ⟨w.heap.size, n, _, rfl, Nat.le_refl _, heap_alloc_new w _, Nat.le_refl _, by simp only [maxLen]; omega, by rw [size_madeCells], ?_⟩⟩, fun i d hi => absurd hi (by omega), fun i j hi => absurd hi (by omega), fun v hv q e => ?_⟩
  · rw [List.take_of_length_le (by rw [Array.length_toList, size_madeCells]; omega)]
  · subst e
    simp only [madeCells, Array.toList_map, List.mem_map] at hv
    obtain ⟨i, _, hi⟩ := hv
    have h3 : i % 3 < 3 := Nat.mod_lt _ (by omega)
    rw [show (#[Value.slice none 0 0, .slice none 0 0, .bool false] : Array Value).size = 3 from rfl] at hi
    rcases (show i % 3 = 0 ∨ i % 3 = 1 ∨ i % 3 = 2 by omega) with p | p | p <;> rw [p] at hi <;> simp at hi

set_option maxRecDepth 100000 in
set_option maxHeartbeats 4000000 in
theorem twins_calls (a : Option Addr) (n c : Nat) (hs : List Value) (ds : List Dev) (w : World) (h : DSlab w a n hs ds) (hM : MayL ds) :
    Calls Try.prog 85 #[.slice a n c] w fun e w' => ∃ hs', e = .returned (.slice (some ⟨w.heap.size, 0, none⟩) n n) ∧ OutK n w.heap.size w' w.heap.size n n hs' ds ∧ Below w.heap.size w w' := by
  have hl := Lib.hid h.len
  have hn : n ≤ 17 := by have := h.len; have := hM.2.1; omega
  have hmk := make_disks n (by omega)
  have hH0 : Hid (OutK 0 w.heap.size (w.alloc (.cells (madeCells #[.slice none 0 0, .slice none 0 0, .bool false] (n * 3)) 25)) w.heap.size n n (madeCells #[.slice none 0 0, .slice none 0 0, .bool false] (n * 3)).toList ds ∧ Below w.heap.size w (w.alloc (.cells (madeCells #[.slice none 0 0, .slice none 0 0, .bool false] (n * 3)) 25))) := Lib.hid ⟨OutK.made w n ds (by omega), (Below.refl _ _).alloc (Nat.le_refl _) _⟩
  have H := Lib.hid h
  have HM := Lib.hid hM
  clear h hM
  go_enter Try.func85, Try.ntmps85
  go_wp2
  generalize (madeCells #[.slice none 0 0, .slice none 0 0, .bool false] (n * 3)) = mc at *
  go_loopw [11] (fun i wr => ∃ (k : Nat) (hs' : List Value), k ≤ n ∧ i = .int .i64 k ∧ OutK k w.heap.size wr w.heap.size n n hs' ds ∧ Below w.heap.size w wr) (fun i _ => n - (intOf i).toNat)
  case atStart => exact ⟨0, _, by omega, rfl, hH0.out⟩
  case round =>
    obtain ⟨k, hs', hk, rfl, hO, hB⟩ := hrel
    clear hH0
    by_cases hkn : k < n
    · obtain ⟨b, off, A, l, C, B, m, D, d, rfl, hd, hlt, q0, q1, q2, hv⟩ := H.out.at hkn
      have hkn1 : (k : Int) < (n : Int) := by omega
      have c0 := (hB.cell (p := ⟨b, off + k * 3, none⟩) hlt).trans q0
      have c1 := (hB.cell (p := ⟨b, off + k * 3 + 1, none⟩) hlt).trans q1
      have c2 := (hB.cell (p := ⟨b, off + k * 3 + 2, none⟩) hlt).trans q2
      obtain ⟨s1, s2, s3, s4⟩ := may_small (HM.out.2.2 d (List.mem_of_getElem? hd))
      have cc := fun W (hW : Below w.heap.size w W) => twin_calls _ d W (hv.below hW (Nat.le_refl _)) s1 s2 s3 s4
      have hBa := hB.alloc hB.size (.cells #[.slice A l C, .slice B m D, .bool d.dead] 25)
      have hOa := Lib.hid (hO.below ((Below.refl _ _).alloc (Nat.le_refl _) (.cells #[.slice A l C, .slice B m D, .bool d.dead] 25)))
      have hdd := Lib.hid (show d.dead = d.dead from rfl)
      have hd' := Lib.hid hd
      clear hv q0 q1 q2 s1 s2 s3 s4 hO hd
      go_wp2_with fail
      (with_reducible refine (cc _ hBa).mono ?_)
      rintro e w2 ⟨v2, rfl, hN, hb2⟩
      obtain ⟨A2, n2, C2, B2, m2, D2, rfl, -, -⟩ := hN.form
      have hB2 := hBa.trans (hb2.mono hBa.size)
      obtain ⟨u0, u1, u2, y0, y1, y2, z0, z1, z2⟩ := (hOa.out.below hb2).cells hkn
      have hP := Lib.hid (OutK.put (k1 := k + 1) (ds' := ds) (j := k) hOa.out hb2 hN rfl hkn hBa.size (fun i d' hi hd1 => by
        by_cases e : i = k
        · subst e
          rw [hd'.out] at hd1
          injection hd1 with hd1
          exact .inl ⟨rfl, hd1.symm⟩
        · exact .inr ⟨by omega, e, hd1⟩) (fun i hi => by
        by_cases e : i = k
        · exact .inl e
        · exact .inr ⟨by omega, _, List.getElem?_eq_getElem (by have := hl.out; omega)⟩))
      have hB3 := Lib.hid (below_set3 (o1 := k * 3) (o2 := k * 3 + 1) (o3 := k * 3 + 2) (x := .slice A2 n2 C2) (y := .slice B2 m2 D2) (z := .bool d.dead) hB2 (Nat.le_refl w.heap.size))
      generalize d.dead = dd at *
      clear cc hN hb2 hBa hOa hB2 c0 c1 c2 hd' hdd hB
      go_wp2
      obtain ⟨hs2, hP2⟩ := hP.out
      have hP3 := Lib.hid hP2
      clear hP hP2 y0 y1 y2 z0 z1 z2
      go_roundw
      case rel => exact ⟨k + 1, _, by omega, by go_num, hP3.out, hB3.out⟩
      case measure => simp [intOf]; omega
    · obtain rfl : n = k := by omega
      clear H
      go_wp2
      go_ret
      exact ⟨_, rfl, hO, hB⟩
end Go.Proofs.Ytldgpkaecfgagaa
