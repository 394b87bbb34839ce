/- freeboardlaw01.PolyTurns: for every input the law answers true, and what is handed in reads as it did. Conditions: none. -/
import Derived.Test.YtebjfkfmjmegfaaPolyAlive
import Derived.Outline
import Derived.RegionTactic
import Derived.Stop.BytesEq
namespace Go.Proofs.Ytebjfkfmjmegfaa
open Go.ChangeShapes Go.WideShapes Go.ChangeAt Go.RowKit PolyM

def xorI (a b : Int) : Int := ((a.toNat ^^^ b.toNat : Nat) : Int)
theorem xorI_in {a b : Int} (h0 : 0 ≤ a) (h1 : a ≤ 255) (k0 : 0 ≤ b) (k1 : b ≤ 255) : 0 ≤ xorI a b ∧ xorI a b ≤ 255 := by
  have : a.toNat ^^^ b.toNat < 2 ^ 8 := Nat.xor_lt_two_pow (by omega) (by omega)
  unfold xorI
  omega
theorem bits_xorI {a b : Int} (h0 : 0 ≤ a) (h1 : a ≤ 255) (k0 : 0 ≤ b) (k1 : b ≤ 255) : bits .xor .u8 a b = xorI a b := u8_xor _ _ h0 (by omega) k0 (by omega)
theorem xorI_ne {a b : Int} (h0 : 0 ≤ a) (k0 : 0 ≤ b) (e : xorI a b = a) : b = 0 := by
  unfold xorI at e
  have h : a.toNat ^^^ b.toNat = a.toNat := by omega
  have := congrArg (a.toNat ^^^ ·) h
  simp only [← Nat.xor_assoc, Nat.xor_self, Nat.zero_xor] at this
  omega
/-- The bytes, k of those from place p on turned. -/
def turned (xs bs : List Int) (p k j : Nat) : Int := if p ≤ j ∧ j < p + k then xorI (xs.getD j 0) (bs.getD (j - p) 0) else xs.getD j 0
theorem turned_zero (xs bs : List Int) (p j : Nat) : turned xs bs p 0 j = xs.getD j 0 := by unfold turned; rw [if_neg (by omega)]
theorem turned_here (xs bs : List Int) (p k : Nat) : turned xs bs p k (p + k) = xs.getD (p + k) 0 := by unfold turned; rw [if_neg (by omega)]
theorem turned_succ (xs bs : List Int) (p k : Nat) : turned xs bs p (k + 1) (p + k) = xorI (xs.getD (p + k) 0) (bs.getD k 0) := by
  unfold turned; rw [if_pos (by omega), show p + k - p = k by omega]
theorem turned_other (xs bs : List Int) (p k j : Nat) (h : j ≠ p + k) : turned xs bs p (k + 1) j = turned xs bs p k j := by
  unfold turned
  by_cases q : p ≤ j ∧ j < p + k
  · rw [if_pos q, if_pos (by omega)]
  · rw [if_neg q, if_neg (by omega)]
theorem getD_lt {l : List Int} {j : Nat} (h : j < l.length) : l[j]? = some (l.getD j 0) := by rw [List.getD_eq_getElem?_getD, List.getElem?_eq_getElem h]; rfl
theorem turned_list {xs : List Int} {x y z v : Int} {p : Nat} (h : p + 4 ≤ xs.length) :
    xs = xs.take p ++ ([xs.getD p 0, xs.getD (p + 1) 0, xs.getD (p + 2) 0, xs.getD (p + 3) 0] ++ xs.drop (p + 4)) ∧
    (List.range xs.length).map (turned xs [x, y, z, v] p 4) = xs.take p ++ ([xorI (xs.getD p 0) x, xorI (xs.getD (p + 1) 0) y, xorI (xs.getD (p + 2) 0) z, xorI (xs.getD (p + 3) 0) v] ++ xs.drop (p + 4)) := by
  have key : ∀ (f : Nat → Int) (q : List Int), q.length = 4 → (∀ j, j < p → f j = xs.getD j 0) → (∀ i, i < 4 → f (p + i) = q.getD i 0) → (∀ j, p + 4 ≤ j → f j = xs.getD j 0) →
      (List.range xs.length).map f = xs.take p ++ (q ++ xs.drop (p + 4)) := by
    intro f q hq h1 h2 h3
    apply List.ext_getElem?
    intro j
    rw [List.getElem?_map]
    rcases Nat.lt_or_ge j xs.length with hj | hj
    · rw [List.getElem?_range hj, List.getElem?_append, List.length_take, Nat.min_eq_left (by omega)]
      by_cases hp : j < p
      · rw [if_pos hp, List.getElem?_take, if_pos hp, getD_lt hj, Option.map_some, h1 j hp]
      · rw [if_neg hp, List.getElem?_append, hq]
        by_cases h4 : j - p < 4
        · rw [if_pos h4, getD_lt (by omega), Option.map_some, ← h2 _ h4, show p + (j - p) = j by omega]
        · rw [if_neg h4, List.getElem?_drop, show p + 4 + (j - p - 4) = j by omega, getD_lt hj, Option.map_some, h3 j (by omega)]
    · rw [List.getElem?_eq_none (by simpa using hj), List.getElem?_eq_none (by simp; omega)]
      rfl
  constructor
  · rw [← key (fun j => xs.getD j 0) _ rfl (fun _ _ => rfl) (fun i hi => ?_) (fun _ _ => rfl)]
    · apply List.ext_getElem?
      intro j
      rw [List.getElem?_map]
      rcases Nat.lt_or_ge j xs.length with hj | hj
      · rw [List.getElem?_range hj, getD_lt hj]; rfl
      · rw [List.getElem?_eq_none hj, List.getElem?_eq_none (by simpa using hj)]; rfl
    · have : i = 0 ∨ i = 1 ∨ i = 2 ∨ i = 3 := by omega
      rcases this with rfl | rfl | rfl | rfl <;> rfl
  · refine key _ _ rfl (fun j hj => ?_) (fun i hi => ?_) (fun j hj => ?_)
    · unfold turned; rw [if_neg (by omega)]
    · have : i = 0 ∨ i = 1 ∨ i = 2 ∨ i = 3 := by omega
      unfold turned
      rw [if_pos (by omega), show p + i - p = i by omega]
      rcases this with rfl | rfl | rfl | rfl <;> rfl
    · unfold turned; rw [if_neg (by omega)]

theorem turned_sum {xs : List Int} {x y z v : Int} {p : Nat} (h : p + 4 ≤ xs.length) (hB : Bytes xs) (hb : Bytes [x, y, z, v]) (hne : ¬ (x = 0 ∧ y = 0 ∧ z = 0 ∧ v = 0)) :
    overI 0 ((List.range xs.length).map (turned xs [x, y, z, v] p 4)) ≠ overI 0 xs := by
  obtain ⟨e1, e2⟩ := turned_list (x := x) (y := y) (z := z) (v := v) h
  rw [e2]
  conv => rhs; rw [e1]
  have b0 := hB _ (getD_mem (zs := xs) (i := p) (by omega))
  have b1 := hB _ (getD_mem (zs := xs) (i := p + 1) (by omega))
  have b2 := hB _ (getD_mem (zs := xs) (i := p + 2) (by omega))
  have b3 := hB _ (getD_mem (zs := xs) (i := p + 3) (by omega))
  have q0 := hb.cons; have q1 := q0.2.2.cons; have q2 := q1.2.2.cons; have q3 := q2.2.2.cons
  refine overI_turned _ _ _ _ _ _ _ _ _ _ (fun j hj => hB _ (List.mem_of_mem_take hj)) (fun j hj => hB _ (List.mem_of_mem_drop hj)) ?_ ?_ ?_
  · intro j hj
    simp only [List.mem_cons, List.not_mem_nil, or_false] at hj
    rcases hj with rfl | rfl | rfl | rfl
    · exact xorI_in b0.1 b0.2 q0.1 q0.2.1
    · exact xorI_in b1.1 b1.2 q1.1 q1.2.1
    · exact xorI_in b2.1 b2.2 q2.1 q2.2.1
    · exact xorI_in b3.1 b3.2 q3.1 q3.2.1
  · intro j hj
    simp only [List.mem_cons, List.not_mem_nil, or_false] at hj
    rcases hj with rfl | rfl | rfl | rfl <;> assumption
  · intro e
    injection e with e0 e
    injection e with e1 e
    injection e with e2 e
    injection e with e3 _
    exact hne ⟨xorI_ne b0.1 q0.1 e0, xorI_ne b1.1 q1.1 e1, xorI_ne b2.1 q2.1 e2, xorI_ne b3.1 q3.1 e3⟩

theorem arr_test {x y z v : Int} (h : Bytes [x, y, z, v]) : ∃ b : Bool, (b = true ↔ x = 0 ∧ y = 0 ∧ z = 0 ∧ v = 0) ∧
    ∀ w : World, (binOp .eql 29 (.agg #[.int .u8 x, .int .u8 y, .int .u8 z, .int .u8 v]) (.agg #[.int .u8 0, .int .u8 0, .int .u8 0, .int .u8 0])).run Try.prog w = .ok (.bool b) w := by
  have q0 := h.cons; have q1 := q0.2.2.cons; have q2 := q1.2.2.cons; have q3 := q2.2.2.cons
  have hc : ∀ n : Int, 0 ≤ n → n ≤ 255 → Extern.Stop.cell (UInt8.ofNat n.toNat) = .int .u8 n := by
    intro n h0 h1
    show Value.int .u8 ((UInt8.ofNat n.toNat).toNat : Int) = _
    rw [UInt8.toNat_ofNat', Nat.mod_eq_of_lt (by omega)]
    congr 1
    omega
  have hz : ∀ n : Int, 0 ≤ n → n ≤ 255 → (UInt8.ofNat n.toNat = 0 ↔ n = 0) := by
    intro n h0 h1
    constructor
    · intro e
      have := congrArg UInt8.toNat e
      rw [UInt8.toNat_ofNat', Nat.mod_eq_of_lt (by omega)] at this
      simp at this
      omega
    · rintro rfl; rfl
  refine ⟨([x, y, z, v].map fun n => UInt8.ofNat n.toNat) == [0, 0, 0, 0], ?_, fun w => ?_⟩
  · rw [beq_iff_eq]
    simp only [List.map_cons, List.map_nil, List.cons.injEq, and_true]
    rw [hz x q0.1 q0.2.1, hz y q1.1 q1.2.1, hz z q2.1 q2.2.1, hz v q3.1 q3.2.1]
  · have := run_eql_bytes (P := Try.prog) w 29 5 4 Try.underlying29 Try.underlying5 (fun w => by kernel_rfl) ([x, y, z, v].map fun n => UInt8.ofNat n.toNat) [0, 0, 0, 0] rfl rfl
    simp only [List.map_cons, List.map_nil, hc x q0.1 q0.2.1, hc y q1.1 q1.2.1, hc z q2.1 q2.2.1, hc v q3.1 q3.2.1] at this
    exact this

theorem box_cells {w w1 : World} {t : TypeId} {x y z v : Value} (hb : Below (w.alloc (.cells #[x, y, z, v] t)).heap.size (w.alloc (.cells #[x, y, z, v] t)) w1) :
    w1.cell? ⟨w.heap.size, 0, none⟩ = some x ∧ w1.cell? ⟨w.heap.size, 1, none⟩ = some y ∧ w1.cell? ⟨w.heap.size, 2, none⟩ = some z ∧ w1.cell? ⟨w.heap.size, 3, none⟩ = some v := by
  have key : ∀ i, w1.cell? ⟨w.heap.size, i, none⟩ = #[x, y, z, v][i]? := fun i => by
    rw [hb.cell (p := ⟨w.heap.size, i, none⟩) (by show w.heap.size < _; simp), World.cell?_alloc_new]
  exact ⟨key 0, key 1, key 2, key 3⟩

theorem own_turns {w : World} {base n : Nat} {v : Value} {xs : List Int} (h : w.ownsRow base 5 1 v (0 + n) ([] ++ xs.map (Value.int .u8))) (hn : 0 < n) :
    ∃ g C cur, v = .slice (some ⟨g, 0, none⟩) n C ∧ base ≤ g ∧ w.heap[g]? = some (.cells cur 5 (0, 0)) ∧ n ≤ cur.size ∧ ∀ j, j < n → cur[j]? = some (.int .u8 (xs.getD j 0)) := by
  obtain ⟨h1, ⟨_, h0⟩ | ⟨g, C, cur, rfl, hb, hh, hn', _, hc, ht⟩⟩ := h
  · omega
  · have hl : xs.length = n := by simpa using h1
    refine ⟨g, C, cur, by rw [Nat.zero_add], hb, hh, by omega, fun j hj => ?_⟩
    have q : (cur.toList.take ((0 + n) * 1))[j]? = (xs.map (Value.int .u8))[j]? := by rw [ht]; simp
    rw [List.getElem?_take, if_pos (by omega), Array.getElem?_toList, List.getElem?_map, getD_lt (by omega)] at q
    exact q

/-- What holds when k bytes are turned. -/
def TurnRel (w : World) (g : Nat) (xs bs : List Int) (p n k : Nat) (wr : World) : Prop :=
  ∃ cur : Array Value, wr.heap[g]? = some (.cells cur 5 (0, 0)) ∧ n ≤ cur.size ∧ (∀ j, j < n → cur[j]? = some (.int .u8 (turned xs bs p k j))) ∧
    wr.heap[w.heap.size]? = some (.cells (bs.map (Value.int .u8)).toArray 29 (0, 0)) ∧ Below w.heap.size w wr
theorem TurnRel.facts {w : World} {g : Nat} {xs : List Int} {x y z v : Int} {p n k : Nat} {wr : World} (h : TurnRel w g xs [x, y, z, v] p n k wr) (hk : k < 4) (hp : p + 4 ≤ n) (hB : Bytes xs) (hb : Bytes [x, y, z, v]) (hl : xs.length = n) :
    wr.cell? ⟨g, p + k, none⟩ = some (.int .u8 (xs.getD (p + k) 0)) ∧ wr.frozen? ⟨g, p + k, none⟩ = false ∧ wr.cell? ⟨w.heap.size, k, none⟩ = some (.int .u8 ([x, y, z, v].getD k 0)) ∧
      bits .xor .u8 (xs.getD (p + k) 0) ([x, y, z, v].getD k 0) = xorI (xs.getD (p + k) 0) ([x, y, z, v].getD k 0) := by
  obtain ⟨cur, h1, h2, h3, h4, h5⟩ := h
  refine ⟨?_, by simp [World.frozen?, h1], ?_, ?_⟩
  · rw [cell_of_row _ _ _ _ _ _ h1, h3 _ (by omega), turned_here]
  · rw [cell_of_row _ _ _ _ _ _ h4]
    have : k = 0 ∨ k = 1 ∨ k = 2 ∨ k = 3 := by omega
    rcases this with rfl | rfl | rfl | rfl <;> rfl
  · have q := hB _ (getD_mem (zs := xs) (i := p + k) (by omega))
    have q' := hb _ (getD_mem (zs := [x, y, z, v]) (i := k) (by simpa using hk))
    exact bits_xorI q.1 q.2 q'.1 q'.2
theorem TurnRel.next {w : World} {g : Nat} {xs bs : List Int} {p n k : Nat} {wr : World} (h : TurnRel w g xs bs p n k wr) (hp : p + k < n) (hg : w.heap.size + 1 ≤ g) :
    TurnRel w g xs bs p n (k + 1) (wr.setCell ⟨g, p + k, none⟩ (.int .u8 (xorI (xs.getD (p + k) 0) (bs.getD k 0)))) := by
  obtain ⟨cur, h1, h2, h3, h4, h5⟩ := h
  refine ⟨cur.setIfInBounds (p + k) (.int .u8 (xorI (xs.getD (p + k) 0) (bs.getD k 0))), ?_, by simpa using h2, fun j hj => ?_, ?_, h5.setCell (by show w.heap.size ≤ g; omega) _⟩
  · simp [World.setCell, Array.getElem?_modify, h1]
  · rw [Array.getElem?_setIfInBounds]
    by_cases e : p + k = j
    · subst e
      rw [if_pos rfl, if_pos (by omega), turned_succ]
    · rw [if_neg e, h3 j hj, turned_other _ _ _ _ _ (fun q => e q.symm)]
  · rw [Below.heap_setCell _ _ _ _ (by show w.heap.size ≠ g; omega)]
    exact h4

theorem TurnRel.drew {w : World} {g : Nat} {xs bs : List Int} {p n k : Nat} {wr : World} (h : TurnRel w g xs bs p n k wr) : TurnRel w g xs bs p n k wr.drew := by
  obtain ⟨cur, h1, h2, h3, h4, h5⟩ := h
  exact ⟨cur, h1, h2, h3, h4, h5.drew⟩

theorem polyTurns_walk (w : World) (a : Option Addr) (n c : Nat) (xs : List Int) (h : Ints .u8 w a n xs) (_ : n ≤ c) (p : Int) (wp : (Lit.int .i64 p).wf = true) (bs : List Int) (hbs : bs.length = 4) (wbs : ∀ z ∈ bs, (Lit.int .u8 z).wf = true) :
    Calls Try.prog 6 #[.slice a n c, .int .i64 p, .agg (bs.map (Value.int .u8)).toArray] w fun e w' => e = .returned (.bool true) ∧ Below w.heap.size w w' := by
  obtain ⟨x, y, z, v, rfl⟩ : ∃ x y z v, bs = [x, y, z, v] := by
    match bs, hbs with
    | [x, y, z, v], _ => exact ⟨x, y, z, v, rfl⟩
  have hBb : Bytes [x, y, z, v] := fun j hj => bounds_u8 (wbs j hj)
  have hBx := bytes_of h
  have hmax := h.max
  obtain ⟨p0, p1⟩ := bounds_i64 wp
  obtain ⟨t, ht, htr⟩ := arr_test hBb
  have hbox := heap_alloc_new w (.cells #[Value.int .u8 x, .int .u8 y, .int .u8 z, .int .u8 v] 29)
  show Calls Try.prog 6 #[.slice a n c, .int .i64 p, .agg #[.int .u8 x, .int .u8 y, .int .u8 z, .int .u8 v]] w _
  have hbel : Below w.heap.size w (w.alloc (.cells #[Value.int .u8 x, .int .u8 y, .int .u8 z, .int .u8 v] 29)) := (Below.refl _ _).alloc (Nat.le_refl _) _
  have hsz : (w.alloc (.cells #[Value.int .u8 x, .int .u8 y, .int .u8 z, .int .u8 v] 29)).heap.size = w.heap.size + 1 := by simp
  by_cases hn : (10000 : Int) < (n : Int)
  · go_enter Try.func6, Try.ntmps6
    go_wp2_with (go_at_call 10; refine (alive_calls _).mono ?_; rintro e w1 ⟨rfl, hb1⟩)
    go_ret
    exact ⟨rfl, hbel.trans (hb1.mono (by omega))⟩
  by_cases hm : p < 0
  · go_enter Try.func6, Try.ntmps6
    go_wp2_with (go_at_call 10; refine (alive_calls _).mono ?_; rintro e w1 ⟨rfl, hb1⟩)
    go_ret
    exact ⟨rfl, hbel.trans (hb1.mono (by omega))⟩
  by_cases hk : (n : Int) - 4 < p
  · go_enter Try.func6, Try.ntmps6
    go_wp2_with (go_at_call 10; refine (alive_calls _).mono ?_; rintro e w1 ⟨rfl, hb1⟩)
    go_ret
    exact ⟨rfl, hbel.trans (hb1.mono (by omega))⟩
  obtain ⟨p, rfl⟩ := Int.eq_ofNat_of_zero_le (show 0 ≤ p by omega)
  cases t with
  | true =>
    clear ht
    go_enter Try.func6, Try.ntmps6
    go_wp2_with (go_at_call 10; refine (alive_calls _).mono ?_; rintro e w1 ⟨rfl, hb1⟩; obtain ⟨c0, c1, c2, c3⟩ := box_cells hb1)
    go_ret
    exact ⟨rfl, hbel.trans (hb1.mono (by omega))⟩
  | false =>
    have hne : ¬ (x = 0 ∧ y = 0 ∧ z = 0 ∧ v = 0) := by rw [← ht]; simp
    clear ht
    obtain ⟨i0, hi0, hz0, hz1, hz2⟩ := info_parts (show (Try.prog.info? 5).map (fun i => (i.zero, i.size, i.bytes)) = some (some (.int .u8 0), 1, 1) by kernel_rfl)
    go_enter Try.func6, Try.ntmps6
    go_wp2_with (first
      | (go_at_call 10
         refine (alive_calls _).mono ?_
         rintro e w1 ⟨rfl, hb1⟩
         obtain ⟨c0, c1, c2, c3⟩ := box_cells hb1
         have hw1 : Below w.heap.size w w1 := hbel.trans (hb1.mono (by omega))
         have ra := (h.below hw1 (Nat.le_refl _)).toRow
         have hB1 : w1.heap[w.heap.size]? = _ := (hb1.block w.heap.size (by omega)).trans hbox
         have hs1 : w.heap.size + 1 ≤ w1.heap.size := by have := hb1.size; omega)
      | (at_builtin
         refine wpList_append_row _ rfl (.const (.slice none 0 0)) (.tmp 31) _ rfl (w.heap.size + 1) 5 i0 _ 1 1 Try.underlying26 hi0 hz0 hz1 hz2 rfl (by omega) (.slice none 0 0) 0 [] rfl (World.ownsRow_nil _ _ _ _) a n c _ rfl ra (by simp [Value.oneCell']) (by simp only [maxLen]; omega) (by omega) hs1 ?_
         intro v2 w2 own2 hg2 _
         have hb2 := hw1.grown hg2 hw1.size (by simp [Value.ownBlock])
         have hB2 : w2.heap[w.heap.size]? = _ := (hg2.block w.heap.size (by omega) (by simp [Value.ownBlock])).trans hB1
         obtain ⟨g, C, cur, rfl, hg, hcur, hnc, hxs⟩ := own_turns own2 (by omega)
         clear own2 hg2 hb1 ra c0 c1 c2 c3 hB1 hs1 htr hbox hsz hbel))
    clear hw1
    obtain ⟨wl, hwl⟩ : ∃ wl : World, wl = w2 := ⟨_, rfl⟩
    have T0 : TurnRel w g xs [x, y, z, v] p n 0 w2 := ⟨cur, hcur, hnc, fun j hj => by rw [turned_zero]; exact hxs j hj, hB2, hb2⟩
    clear hcur hnc hxs hB2 hb2 hwl
    go_loopw [9] (fun i wr => ∃ k : Nat, k ≤ 4 ∧ i = .int .i64 k ∧ TurnRel w g xs [x, y, z, v] p n k wr) (fun i _ => 4 - (intOf i).toNat)
    case atStart => exact ⟨0, by omega, rfl, T0⟩
    case round =>
      obtain ⟨k, hk4, rfl, hT⟩ := hrel
      by_cases hlt : k < 4
      · obtain ⟨f1, f2, f3, f4⟩ := hT.facts hlt (by omega) hBx hBb h.len
        have hN := hT.next (by omega) hg
        generalize xs.getD (p + k) 0 = q1 at *
        generalize [x, y, z, v].getD k 0 = q2 at *
        generalize xorI q1 q2 = q3 at *
        clear hT
        go_wp2
        go_region
        go_wp2
        go_roundw
        case rel => exact ⟨k + 1, by omega, by go_num, hN.drew⟩
        case measure => simp [intOf]; omega
      · obtain rfl : k = 4 := by omega
        obtain ⟨cur, h1, h2, h3, _, h5⟩ := hT
        have hgl : g < wr.heap.size := by
          rcases Nat.lt_or_ge g wr.heap.size with q | q
          · exact q
          · rw [Array.getElem?_eq_none q] at h1; cases h1
        have hlen := h.len
        have hI : Ints .u8 wr (some ⟨g, 0, none⟩) n ((List.range xs.length).map (turned xs [x, y, z, v] p 4)) := by
          refine ⟨by simp [hlen], hmax, ?_, .inr ⟨g, 0, rfl, hgl, fun i hi => ?_⟩⟩
          · rw [(turned_list (by omega)).2]
            intro j hj
            have b0 := hBx _ (getD_mem (zs := xs) (i := p) (by omega))
            have b1 := hBx _ (getD_mem (zs := xs) (i := p + 1) (by omega))
            have b2 := hBx _ (getD_mem (zs := xs) (i := p + 2) (by omega))
            have b3 := hBx _ (getD_mem (zs := xs) (i := p + 3) (by omega))
            have q0 := hBb.cons; have q1 := q0.2.2.cons; have q2 := q1.2.2.cons; have q3 := q2.2.2.cons
            have x0 := xorI_in b0.1 b0.2 q0.1 q0.2.1
            have x1 := xorI_in b1.1 b1.2 q1.1 q1.2.1
            have x2 := xorI_in b2.1 b2.2 q2.1 q2.2.1
            have x3 := xorI_in b3.1 b3.2 q3.1 q3.2.1
            rcases List.mem_append.1 hj with hj | hj
            · exact h.wf _ (List.mem_of_mem_take hj)
            · rcases List.mem_append.1 hj with hj | hj
              · simp only [List.mem_cons, List.not_mem_nil, or_false] at hj
                rcases hj with rfl | rfl | rfl | rfl <;> exact WalkArith.wf_u8 (by omega)
              · exact h.wf _ (List.mem_of_mem_drop hj)
          · rw [cell_of_row _ _ _ _ _ _ h1, Nat.zero_add, h3 i hi, List.getD_eq_getElem?_getD, List.getElem?_map, List.getElem?_range (by omega)]
            rfl
        have hD := turned_sum (p := p) (by omega) hBx hBb hne
        generalize (List.range xs.length).map (turned xs [x, y, z, v] p 4) = ys at *
        have hD' : (overI 0 ys != overI 0 xs) = true := bne_iff_ne.2 hD
        clear h1 h2 h3 hD hlen
        go_wp2_with fail
        refine (sum_calls _ _ _ _ _ hI).mono ?_
        rintro e w4 ⟨rfl, hb4⟩
        have g4 := h5.trans (hb4.mono h5.size)
        go_wp2_with fail
        refine (sum_calls _ _ _ _ _ (h.below g4 (Nat.le_refl _))).mono ?_
        rintro e w5 ⟨rfl, hb5⟩
        have g5 := g4.trans (hb5.mono g4.size)
        go_wp2_with fail
        go_ret
        exact ⟨rfl, g5⟩

namespace polyTurns
set_option linter.unusedVariables false
set_option maxRecDepth 100000 in
theorem lifted (os : Os) (started : os.Started) (H : Type) (enc : TypeId × Value → H) :
    ReturnsInHanded {} Try.checked os 6 .any (Rows.polyTurnsSpec.pre6 enc Try.prog Try.f6 Rows.polyTurnsRow.domain false) (Rows.polyTurnsSpec.post enc Try.prog Try.f6 false true false false) := by
  refine returnsInHanded_of_change (C := Try.checked) Try.own started (by kernel_rfl) Try.func6
    (ChangeSpec.witness6 (enc := enc) (C := Try.checked) false ⟨#[], #[.slice none 0 0, .int .i64 0, .agg #[.int .u8 0, .int .u8 0, .int .u8 0, .int .u8 0]], []⟩ 8 (by kernel_rfl) (by kernel_rfl) (by kernel_rfl) (by kernel_rfl)) ?_
  intro W base args ds gs before hval0 hW hcnd _
  have hval : ∀ (j : Nat) t v, Try.f6.params[j]? = some t → args[j]? = some v → Value.okWide Try.prog W .any base t v := hval0
  have hW' := hW
  obtain ⟨p, q, hA0, hV, rfl, hfz, hnd⟩ := hW
  have hA : DataW.TrodAll enc Try.prog W 0 (fun _ => true) true Try.f6.params.toList args.toList ds p := hA0
  rw [Try.params6] at hA hval
  obtain ⟨v0, vs0, d0, ds0, p0, q0, hargs, rfl, rfl, h0, r0⟩ := trodAll_cons hA
  obtain ⟨v1, vs1, d1, ds1, p1, q1, rfl, rfl, rfl, h1, r1⟩ := trodAll_cons r0
  obtain ⟨v2, vs2, d2, ds2, p2, q2, rfl, rfl, rfl, h2, r2⟩ := trodAll_cons r1
  obtain ⟨rfl, rfl, rfl⟩ := trodAll_nil r2
  obtain rfl : args = #[v0, v1, v2] := by cases args; simp_all
  obtain ⟨rfl, rfl⟩ := trodVars_none hV
  obtain ⟨a0, len0, cap0, rfl⟩ := okWide_slice Try.underlying26 (hval 0 26 v0 rfl rfl)
  have k0 := h0
  have lt0 : ∀ x ∈ p0, x.block < W.heap.size := by obtain ⟨m, hm⟩ := k0; exact DataW.trod_lt m _ _ _ hm
  obtain ⟨z0, w0, c0⟩ : ∃ zs, Ints .u8 W a0 len0 zs ∧ len0 ≤ cap0 := by
    obtain ⟨fuel, hf⟩ := h0
    rcases open_ints Try.underlying26 Try.underlying5 (by kernel_rfl) hf with ⟨hcs, _⟩ | ⟨x, l, c, zs, hcs, _, hl, hm, hz, _, hcell, hwz⟩
    · simp [Value.cells] at hcs
      obtain ⟨rfl, rfl, rfl⟩ := hcs
      exact ⟨[], ⟨rfl, by omega, by simp, .inl rfl⟩, by omega⟩
    · simp [Value.cells] at hcs
      obtain ⟨rfl, rfl, rfl⟩ := hcs
      exact ⟨_, Ints.of_cells hl hm (by simpa using hz) hcell hwz, hl⟩
  obtain ⟨a1, rfl, rfl, rfl, w1⟩ := open_int Try.underlying3 (hval 1 3 v1 rfl rfl) h1
  have k2 := h2
  have lt2 : ∀ x ∈ p2, x.block < W.heap.size := by obtain ⟨m, hm⟩ := k2; exact DataW.trod_lt m _ _ _ hm
  obtain ⟨z2, l2, rfl, w2⟩ := open_array_ints (n := 4) Try.underlying29 Try.underlying5 (by kernel_rfl) (by kernel_rfl) (hval 2 29 v2 rfl rfl) h2
  clear hA0 hval0
  refine (polyTurns_walk W a0 len0 cap0 z0 w0 c0 a1 w1 z2 l2 w2).mono fun e W' ⟨he, bel⟩ => ?_
  subst he
  exact ⟨_, rfl, _, _, _, [], _, [], hW', trodAll_mk1 (shut_bool Try.underlying4 _), (trodAll_cons_mk (Below.trod Try.laidOut (by kernel_rfl) (of_decide_eq_true (by kernel_rfl)) k0 bel lt0) (trodAll_cons_mk (shut_int Try.underlying3 w1) (trodAll_cons_mk (Below.trod Try.laidOut (by kernel_rfl) (of_decide_eq_true (by kernel_rfl)) k2 bel lt2) trodAll_mk0))), rfl, bel.frame _, fun h => by cases h⟩

theorem holds : Rows.PolyTurnsSaid :=
  OpenClaim.holds_of_wide 6 Try.f6 rfl rfl rfl rfl rfl rfl rfl ⟨rfl, rfl, rfl, rfl, rfl⟩ rfl rfl rfl rfl rfl (by kernel_rfl) Try.func6 (by kernel_rfl)
    (of_decide_eq_true (by kernel_rfl)) (by unfold Func.isWrapper; first | (rw [if_pos (by decide +kernel)]; kernel_rfl) | (rw [if_neg (by decide +kernel)]; exact ⟨rfl, rfl⟩))
    (fun os started H enc _ => lifted os started H enc)
end polyTurns
end Go.Proofs.Ytebjfkfmjmegfaa
