/- Opening slices of devices, of acts and of marks that come in. -/
import Derived.Test.YtldgpkaecfgagaaActG
import Derived.Test.YtldgpkaecfgagaaDevOpen
namespace Go.Proofs.Ytldgpkaecfgagaa
open Go.RowKit Go.WideShapes Go.ChangeShapes PolyM PackM FoldM DevM

/-- Cells that come one element behind the other. -/
theorem row_of {w : World} {s n : Nat} {ad : Addr} {V : Nat → List Value} (hs : 0 < s) (hV : ∀ i, i < n → (V i).length = s ∧ ∀ o v, (V i)[o]? = some v → w.cell? (ad.add (i * s + o)) = some v) : Row w s (some ad) n ((List.range n).flatMap V) := by
  have hlen : ∀ k, k ≤ n → ((List.range k).flatMap V).length = k * s := by
    intro k
    induction k with
    | zero => intro _; simp
    | succ k ih =>
      intro hk
      rw [List.range_succ, List.flatMap_append, List.length_append, ih (by omega)]
      simp only [List.flatMap_cons, List.flatMap_nil, List.append_nil]
      rw [(hV k (by omega)).1, Nat.succ_mul]
  have hget : ∀ k, k ≤ n → ∀ j v, ((List.range k).flatMap V)[j]? = some v → (V (j / s))[j % s]? = some v := by
    intro k
    induction k with
    | zero => intro _ j v h; simp at h
    | succ k ih =>
      intro hk j v h
      rw [List.range_succ, List.flatMap_append] at h
      rcases Nat.lt_or_ge j (k * s) with q | q
      · rw [List.getElem?_append_left (by rw [hlen k (by omega)]; exact q)] at h
        exact ih (by omega) j v h
      · rw [List.getElem?_append_right (by rw [hlen k (by omega)]; exact q), hlen k (by omega)] at h
        simp only [List.flatMap_cons, List.flatMap_nil, List.append_nil] at h
        have hj := (List.getElem?_eq_some_iff.1 h).1
        rw [(hV k (by omega)).1] at hj
        obtain ⟨t, rfl⟩ : ∃ t, j = k * s + t := ⟨j - k * s, by omega⟩
        rw [Nat.add_sub_cancel_left] at h hj
        rw [Nat.mul_comm k s, Nat.mul_add_div hs, Nat.div_eq_of_lt hj, Nat.add_zero, Nat.mul_add_mod, Nat.mod_eq_of_lt hj]
        exact h
  refine ⟨hlen n (Nat.le_refl _), ?_⟩
  by_cases h0 : n = 0
  · exact .inl h0
  · have h1 := (hV 0 (by omega))
    have hv0 : (V 0)[0]? = some ((V 0)[0]'(by omega)) := List.getElem?_eq_getElem _
    have hc0 := h1.2 0 _ hv0
    obtain ⟨b, off, spot⟩ := ad
    have hspot : spot = none := by simpa [Addr.add] using World.cell?_spot hc0
    subst hspot
    rw [add_plain'] at hc0
    refine .inr ⟨b, off, rfl, cell_lt hc0, fun j v hv => ?_⟩
    have hjl := (List.getElem?_eq_some_iff.1 hv).1
    rw [hlen n (Nat.le_refl _)] at hjl
    have hq := (hV (j / s) (by rw [Nat.div_lt_iff_lt_mul hs]; exact hjl)).2 _ _ (hget n (Nat.le_refl _) j v hv)
    rw [add_plain', show j / s * s + j % s = j from by rw [Nat.mul_comm]; exact Nat.div_add_mod j s] at hq
    exact hq
theorem flat_at {s n i o : Nat} {V : Nat → List Value} (hV : ∀ i, i < n → (V i).length = s) (hi : i < n) (ho : o < s) : ((List.range n).flatMap V)[i * s + o]? = (V i)[o]? := by
  have hlen : ∀ k, k ≤ n → ((List.range k).flatMap V).length = k * s := by
    intro k
    induction k with
    | zero => intro _; simp
    | succ k ih =>
      intro hk
      rw [List.range_succ, List.flatMap_append, List.length_append, ih (by omega)]
      simp only [List.flatMap_cons, List.flatMap_nil, List.append_nil]
      rw [hV k (by omega), Nat.succ_mul]
  have h : ∀ k, i < k → k ≤ n → ((List.range k).flatMap V)[i * s + o]? = (V i)[o]? := by
    intro k
    induction k with
    | zero => intro h; omega
    | succ k ih =>
      intro hik hk
      rw [List.range_succ, List.flatMap_append]
      rcases Nat.lt_or_ge i k with q | q
      · have hlt : i * s + o < k * s := by
          have := Nat.mul_le_mul_right s (show i + 1 ≤ k by omega)
          rw [Nat.succ_mul] at this
          omega
        rw [List.getElem?_append_left (by rw [hlen k (by omega)]; exact hlt)]
        exact ih q (by omega)
      · obtain rfl : i = k := by omega
        rw [List.getElem?_append_right (by rw [hlen i (by omega)]; omega), hlen i (by omega), Nat.add_sub_cancel_left]
        simp
  exact h n hi (Nat.le_refl _)

instance : Inhabited Dev := ⟨⟨[], [], false⟩⟩
instance : Inhabited Act5 := ⟨⟨0, 0, 0, []⟩⟩
set_option maxRecDepth 100000 in
theorem dslab_in {H : Type} {enc : TypeId × Value → H} {w : World} {base : Nat} {held : Bool} {a : Option Addr} {len cap : Nat} {d : DataW H} {p : List MemPlace} (h : DataW.Trod enc Try.prog w base (fun _ => true) held 58 (.slice a len cap) d p) : ∃ hs ds, DSlab w a len hs ds ∧ len ≤ cap := by
  obtain ⟨fuel, hf⟩ := h
  rcases Go.Deep.open_slice Try.underlying58 hf with ⟨hcs, _⟩ | ⟨ad, l, c, m, n, D, Pl, hcs, _, hl, hm, hmm, _, hx⟩
  · simp [Value.cells] at hcs
    obtain ⟨rfl, rfl, rfl⟩ := hcs
    exact ⟨[], [], ⟨⟨rfl, .inl rfl⟩, by omega, ⟨rfl, fun i d h => by simp at h⟩⟩, by omega⟩
  · simp [Value.cells] at hcs
    obtain ⟨rfl, rfl, rfl⟩ := hcs
    simp only [if_true] at hmm
    subst hmm
    have hsz : Try.prog.cellsOf 25 = 3 := by kernel_rfl
    have each : ∀ i, i < m → ∃ q : Value × Value × Dev, (∃ A n C B m D, q.1 = .slice A n C ∧ q.2.1 = .slice B m D) ∧ w.cell? (ad.add (i * 3)) = some q.1 ∧ w.cell? (ad.add (i * 3 + 1)) = some q.2.1 ∧ w.cell? (ad.add (i * 3 + 2)) = some (.bool q.2.2.dead) ∧ DevV w (.agg #[q.1, q.2.1, .bool q.2.2.dead]) q.2.2 := by
      intro i hi
      obtain ⟨cs', h1, h2⟩ := hx i hi
      rw [hsz] at h1
      obtain ⟨_, hlen, hcell⟩ := World.cells?_some h1
      obtain ⟨y0, y1, y2, n', _, _, t0, t1, t2⟩ := Go.Deep.trod_struct3 Try.underlying25 h2
      match cs', hlen with
      | [v0, v1, v2], _ =>
        have o0 : ((([v0, v1, v2].drop 0).take (Try.prog.cellsOf 22)) : List Value) = [v0] := by rw [show Try.prog.cellsOf 22 = 1 by kernel_rfl]; rfl
        have o1 : ((([v0, v1, v2].drop 1).take (Try.prog.cellsOf 23)) : List Value) = [v1] := by rw [show Try.prog.cellsOf 23 = 1 by kernel_rfl]; rfl
        have o2 : ((([v0, v1, v2].drop 2).take (Try.prog.cellsOf 4)) : List Value) = [v2] := by rw [show Try.prog.cellsOf 4 = 1 by kernel_rfl]; rfl
        rw [o0] at t0
        rw [o1] at t1
        rw [o2] at t2
        obtain ⟨B, mB, DB, hs2, ls2, e1, g2, _⟩ := open_wslab Try.underlying23 Try.underlying88 (by kernel_rfl) (by kernel_rfl) (by kernel_rfl) (by kernel_rfl) (by kernel_rfl) Try.underlying3 Try.underlying29 Try.underlying5 (by kernel_rfl) t1
        obtain ⟨bd, e2, _⟩ := DataW.trod_bool Try.underlying4 t2
        obtain ⟨A, nA, CA, e0⟩ : ∃ A len C, v0 = .slice A len C := by
          rcases Go.Deep.open_slice1 Try.underlying22 (by kernel_rfl) t0 with ⟨hcs, _⟩ | ⟨a, len, cap, _, _, _, _, _, hcs, _⟩
          · simp at hcs; exact ⟨_, _, _, hcs⟩
          · simp at hcs; exact ⟨_, _, _, hcs⟩
        subst e0
        obtain ⟨hs, ls, g1, _⟩ := open_slab Try.underlying22 Try.underlying29 Try.underlying5 (by kernel_rfl) (by kernel_rfl) t0
        simp at e1 e2
        have q0 := hcell 0 (by omega)
        have q1 := hcell 1 (by omega)
        have q2 := hcell 2 (by omega)
        rw [Go.Deep.add_add] at q0 q1 q2
        refine ⟨(.slice A nA CA, v1, ⟨ls, ls2, bd⟩), ⟨A, nA, CA, B, mB, DB, rfl, e1⟩, by simpa using q0, by simpa using q1, ?_, ?_⟩
        · rw [← e2]; simpa using q2
        · rw [e1]
          exact ⟨A, nA, CA, hs, B, mB, DB, hs2, rfl, g1, g2⟩
    obtain ⟨q, hq⟩ := Go.Deep.choose_lt each
    have hVl : ∀ i, i < len → ([(q i).1, (q i).2.1, .bool (q i).2.2.dead] : List Value).length = 3 := fun _ _ => rfl
    refine ⟨(List.range len).flatMap fun i => [(q i).1, (q i).2.1, .bool (q i).2.2.dead], (List.range len).map fun i => (q i).2.2, ⟨row_of (by omega) (fun i hi => ⟨rfl, fun o v hv => ?_⟩), by unfold maxLen at hm; omega, ?_, fun i d hd => ?_⟩, hl⟩
    · obtain ⟨_, c0, c1, c2, _⟩ := hq i (by omega)
      rcases o with _ | _ | _ | o
      · obtain rfl := Option.some.inj hv; exact c0
      · obtain rfl := Option.some.inj hv; exact c1
      · obtain rfl := Option.some.inj hv; exact c2
      · simp at hv
    · have := (row_of (w := w) (s := 3) (n := len) (ad := ad) (V := fun i => [(q i).1, (q i).2.1, .bool (q i).2.2.dead]) (by omega) (fun i hi => ⟨rfl, fun o v hv => by
        obtain ⟨_, c0, c1, c2, _⟩ := hq i (by omega)
        rcases o with _ | _ | _ | o
        · obtain rfl := Option.some.inj hv; exact c0
        · obtain rfl := Option.some.inj hv; exact c1
        · obtain rfl := Option.some.inj hv; exact c2
        · simp at hv⟩)).1
      rw [this, List.length_map, List.length_range]
    · rw [List.getElem?_map] at hd
      rcases Nat.lt_or_ge i len with g | g
      · rw [List.getElem?_range g] at hd
        obtain rfl := Option.some.inj hd
        obtain ⟨⟨A, nA, CA, B, mB, DB, e0, e1⟩, _, _, _, hv⟩ := hq i (by omega)
        have f0 := flat_at hVl g (show 0 < 3 by omega)
        have f1 := flat_at hVl g (show 1 < 3 by omega)
        have f2 := flat_at hVl g (show 2 < 3 by omega)
        rw [Nat.add_zero] at f0
        refine ⟨A, nA, CA, B, mB, DB, f0.trans ?_, f1.trans ?_, f2.trans rfl, ?_⟩
        · show some (q i).1 = _; rw [e0]
        · show some (q i).2.1 = _; rw [e1]
        · rw [e0, e1] at hv; exact hv
      · rw [List.getElem?_eq_none (by simpa using g)] at hd
        cases hd

set_option maxRecDepth 100000 in
theorem aslab_in {H : Type} {enc : TypeId × Value → H} {w : World} {base : Nat} {held : Bool} {a : Option Addr} {len cap : Nat} {d : DataW H} {p : List MemPlace} (h : DataW.Trod enc Try.prog w base (fun _ => true) held 62 (.slice a len cap) d p) : ∃ hs ls, ASlab w a len hs ls ∧ len ≤ cap := by
  obtain ⟨fuel, hf⟩ := h
  rcases Go.Deep.open_slice Try.underlying62 hf with ⟨hcs, _⟩ | ⟨ad, l, c, m, n, D, Pl, hcs, _, hl, hm, hmm, _, hx⟩
  · simp [Value.cells] at hcs
    obtain ⟨rfl, rfl, rfl⟩ := hcs
    exact ⟨[], [], ⟨⟨rfl, .inl rfl⟩, by omega, ⟨rfl, fun i d h => by simp at h⟩⟩, by omega⟩
  · simp [Value.cells] at hcs
    obtain ⟨rfl, rfl, rfl⟩ := hcs
    simp only [if_true] at hmm
    subst hmm
    have hsz : Try.prog.cellsOf 67 = 4 := by kernel_rfl
    have each : ∀ i, i < m → ∃ q : Value × Act5, (∃ A L C, q.1 = .slice A L C ∧ ActOk w A L q.2) ∧ w.cell? (ad.add (i * 4)) = some (.int .i64 q.2.disk) ∧ w.cell? (ad.add (i * 4 + 1)) = some (.int .u8 q.2.kind) ∧ w.cell? (ad.add (i * 4 + 2)) = some (.int .i64 q.2.at_) ∧ w.cell? (ad.add (i * 4 + 3)) = some q.1 := by
      intro i hi
      obtain ⟨cs', h1, h2⟩ := hx i hi
      rw [hsz] at h1
      obtain ⟨_, hlen, hcell⟩ := World.cells?_some h1
      obtain ⟨xs, n', _, _, _, hxl, hg⟩ := DataW.trod_struct Try.underlying67 h2
      match xs, hxl, cs', hlen with
      | [y0, y1, y2, y3], _, [v0, v1, v2, v3], _ =>
        have t0 : DataW.trod enc Try.prog w base (fun _ => true) held n' 3 (([v0, v1, v2, v3].drop 0).take (Try.prog.cellsOf 3)) = some y0 := hg 0 _ rfl
        have t1 : DataW.trod enc Try.prog w base (fun _ => true) held n' 5 (([v0, v1, v2, v3].drop 1).take (Try.prog.cellsOf 5)) = some y1 := hg 1 _ rfl
        have t2 : DataW.trod enc Try.prog w base (fun _ => true) held n' 3 (([v0, v1, v2, v3].drop 2).take (Try.prog.cellsOf 3)) = some y2 := hg 2 _ rfl
        have t3 : DataW.trod enc Try.prog w base (fun _ => true) held n' 29 (([v0, v1, v2, v3].drop 3).take (Try.prog.cellsOf 29)) = some y3 := hg 3 _ rfl
        have o0 : ((([v0, v1, v2, v3].drop 0).take (Try.prog.cellsOf 3)) : List Value) = [v0] := by rw [show Try.prog.cellsOf 3 = 1 by kernel_rfl]; rfl
        have o1 : ((([v0, v1, v2, v3].drop 1).take (Try.prog.cellsOf 5)) : List Value) = [v1] := by rw [show Try.prog.cellsOf 5 = 1 by kernel_rfl]; rfl
        have o2 : ((([v0, v1, v2, v3].drop 2).take (Try.prog.cellsOf 3)) : List Value) = [v2] := by rw [show Try.prog.cellsOf 3 = 1 by kernel_rfl]; rfl
        have o3 : ((([v0, v1, v2, v3].drop 3).take (Try.prog.cellsOf 29)) : List Value) = [v3] := by rw [show Try.prog.cellsOf 29 = 1 by kernel_rfl]; rfl
        rw [o0] at t0
        rw [o1] at t1
        rw [o2] at t2
        rw [o3] at t3
        obtain ⟨z0, e0, _, w0⟩ := DataW.trod_int Try.underlying3 t0
        obtain ⟨z1, e1, _, w1⟩ := DataW.trod_int Try.underlying5 t1
        obtain ⟨z2, e2, _, w2⟩ := DataW.trod_int Try.underlying3 t2
        obtain ⟨A, L, C, zs, e3, hI⟩ : ∃ A L C zs, v3 = .slice A L C ∧ Ints .u8 w A L zs := by
          rcases open_ints Try.underlying29 Try.underlying5 (by kernel_rfl) t3 with ⟨hcs, _⟩ | ⟨x, l, c, zs, hcs, _, hl, hm, hz, _, hcell', hwz⟩
          · simp at hcs
            exact ⟨none, 0, 0, [], hcs, ⟨rfl, by omega, by simp, .inl rfl⟩⟩
          · simp at hcs
            exact ⟨_, _, _, _, hcs, Ints.of_cells hl hm (by simpa using hz) hcell' hwz⟩
        simp at e0 e1 e2
        have q0 := hcell 0 (by omega)
        have q1 := hcell 1 (by omega)
        have q2 := hcell 2 (by omega)
        have q3 := hcell 3 (by omega)
        rw [Go.Deep.add_add] at q0 q1 q2 q3
        refine ⟨(v3, ⟨z0, z1, z2, zs⟩), ⟨A, L, C, e3, ⟨w0, w1, w2, hI⟩⟩, ?_, ?_, ?_, by simpa using q3⟩
        · rw [← e0]; simpa using q0
        · rw [← e1]; simpa using q1
        · rw [← e2]; simpa using q2
    obtain ⟨q, hq⟩ := Go.Deep.choose_lt each
    have hVl : ∀ i, i < len → ([.int .i64 (q i).2.disk, .int .u8 (q i).2.kind, .int .i64 (q i).2.at_, (q i).1] : List Value).length = 4 := fun _ _ => rfl
    have hrow := row_of (w := w) (s := 4) (n := len) (ad := ad) (V := fun i => [.int .i64 (q i).2.disk, .int .u8 (q i).2.kind, .int .i64 (q i).2.at_, (q i).1]) (by omega) (fun i hi => ⟨rfl, fun o v hv => by
        obtain ⟨_, c0, c1, c2, c3⟩ := hq i (by omega)
        rcases o with _ | _ | _ | _ | o
        · obtain rfl := Option.some.inj hv; exact c0
        · obtain rfl := Option.some.inj hv; exact c1
        · obtain rfl := Option.some.inj hv; exact c2
        · obtain rfl := Option.some.inj hv; exact c3
        · simp at hv⟩)
    refine ⟨_, (List.range len).map fun i => (q i).2, ⟨hrow, by unfold maxLen at hm; omega, ?_, fun i x hd => ?_⟩, hl⟩
    · rw [hrow.1, List.length_map, List.length_range]
    · rw [List.getElem?_map] at hd
      rcases Nat.lt_or_ge i len with g | g
      · rw [List.getElem?_range g] at hd
        obtain rfl := Option.some.inj hd
        obtain ⟨⟨A, L, C, e0, hok⟩, _⟩ := hq i (by omega)
        have f0 := flat_at hVl g (show 0 < 4 by omega)
        have f1 := flat_at hVl g (show 1 < 4 by omega)
        have f2 := flat_at hVl g (show 2 < 4 by omega)
        have f3 := flat_at hVl g (show 3 < 4 by omega)
        rw [Nat.add_zero] at f0
        refine ⟨A, L, C, f0.trans rfl, f1.trans rfl, f2.trans rfl, f3.trans ?_, hok⟩
        show some (q i).1 = _; rw [e0]
      · rw [List.getElem?_eq_none (by simpa using g)] at hd
        cases hd

set_option maxRecDepth 100000 in
theorem bools_in {H : Type} {enc : TypeId × Value → H} {w : World} {base : Nat} {held : Bool} {a : Option Addr} {len cap : Nat} {d : DataW H} {p : List MemPlace} (h : DataW.Trod enc Try.prog w base (fun _ => true) held 65 (.slice a len cap) d p) : ∃ bs : List Bool, Row w 1 a len (bs.map Value.bool) ∧ len ≤ cap ∧ len ≤ 9223372036854775807 := by
  obtain ⟨fuel, hf⟩ := h
  rcases Go.Deep.open_slice1 Try.underlying65 (by kernel_rfl) hf with ⟨hcs, _⟩ | ⟨ad, l, c, m, n, V, D, Pl, hcs, _, hl, hm, hmm, _, hx⟩
  · simp [Value.cells] at hcs
    obtain ⟨rfl, rfl, rfl⟩ := hcs
    exact ⟨[], ⟨rfl, .inl rfl⟩, by omega, by omega⟩
  · simp [Value.cells] at hcs
    obtain ⟨rfl, rfl, rfl⟩ := hcs
    simp only [if_true] at hmm
    subst hmm
    have each : ∀ i, i < m → ∃ q : Bool, w.cell? (ad.add i) = some (.bool q) := by
      intro i hi
      obtain ⟨c0, t0⟩ := hx i hi
      obtain ⟨b, e, _⟩ := DataW.trod_bool Try.underlying4 t0
      simp at e
      exact ⟨b, by rw [c0, e]⟩
    obtain ⟨q, hq⟩ := Go.Deep.choose_lt each
    have hrow := row_of (w := w) (s := 1) (n := len) (ad := ad) (V := fun i => [.bool (q i)]) (by omega) (fun i hi => ⟨rfl, fun o v hv => by
        rcases o with _ | o
        · obtain rfl := Option.some.inj hv
          rw [Nat.mul_one, Nat.add_zero]
          exact hq i (by omega)
        · simp at hv⟩)
    refine ⟨(List.range len).map q, ?_, hl, by unfold maxLen at hm; omega⟩
    have e : ((List.range len).map q).map Value.bool = (List.range len).flatMap fun i => [Value.bool (q i)] := by
      rw [List.map_map, List.map_eq_flatMap]
      rfl
    rw [e]; exact hrow
end Go.Proofs.Ytldgpkaecfgagaa
