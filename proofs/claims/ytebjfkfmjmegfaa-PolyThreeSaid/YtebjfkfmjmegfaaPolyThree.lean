/- freeboardlaw01.PolyThree: for every input the law answers true, and what is handed in reads as it did. Conditions: none. -/
import Derived.Test.YtebjfkfmjmegfaaPolyAlive
import Derived.Outline
import Derived.RegionTactic
import Derived.WalkLawsBesides
import Derived.Deep.OwnRows
import Derived.Deep.RegionHeld3
import Derived.Deep.QuietTactic
import Derived.BigQuiet
namespace Go.Proofs.Ytebjfkfmjmegfaa
open Go.ChangeShapes Go.WideShapes Go.ChangeAt Go.RowKit PolyM

theorem Ints.take {k : IntKind} {w : World} {a : Option Addr} {n N : Nat} {zs : List Int} (h : Ints k w a n zs) (hN : N ≤ n) : Ints k w a N (zs.take N) := by
  refine ⟨by have := h.len; simp; omega, by have := h.max; omega, fun z hz => h.wf z (List.mem_of_mem_take hz), ?_⟩
  rcases h.row with h0 | ⟨b, off, e, hlt, hc⟩
  · exact .inl (by omega)
  · refine .inr ⟨b, off, e, hlt, fun i hi => ?_⟩
    rw [hc i (by omega)]
    simp [List.getD_eq_getElem?_getD, hi]

/-- What holds when k bytes are made. -/
def ThreeRel (w : World) (g : Nat) (xs ys zs : List Int) (N k : Nat) (wr : World) : Prop :=
  ∃ cur : Array Value, wr.heap[g]? = some (.cells cur 5 (0, 0)) ∧ (∀ j, j < N → cur[j]? = some (.int .u8 (if j < k then xor3 (xs.getD j 0) (ys.getD j 0) (zs.getD j 0) else 0))) ∧ Below w.heap.size w wr
theorem ThreeRel.drew {w : World} {g : Nat} {xs ys zs : List Int} {N k : Nat} {wr : World} (h : ThreeRel w g xs ys zs N k wr) : ThreeRel w g xs ys zs N k wr.drew := by
  obtain ⟨cur, h1, h2, h3⟩ := h
  exact ⟨cur, h1, h2, h3.drew⟩
theorem ThreeRel.next {w : World} {g : Nat} {xs ys zs : List Int} {N k : Nat} {wr : World} (h : ThreeRel w g xs ys zs N k wr) (hk : k < N) (hg : w.heap.size ≤ g) :
    wr.cell? ⟨g, k, none⟩ = some (.int .u8 0) ∧ wr.frozen? ⟨g, k, none⟩ = false ∧ ThreeRel w g xs ys zs N (k + 1) (wr.setCell ⟨g, k, none⟩ (.int .u8 (xor3 (xs.getD k 0) (ys.getD k 0) (zs.getD k 0)))) := by
  obtain ⟨cur, h1, h2, h3⟩ := h
  refine ⟨?_, by simp [World.frozen?, h1], cur.setIfInBounds k (.int .u8 (xor3 (xs.getD k 0) (ys.getD k 0) (zs.getD k 0))), ?_, fun j hj => ?_, h3.setCell (by show w.heap.size ≤ g; omega) _⟩
  · rw [cell_of_row _ _ _ _ _ _ h1, h2 k hk, if_neg (by omega)]
  · simp [World.setCell, Array.getElem?_modify, h1]
  · have hkc : k < cur.size := by
      rcases Nat.lt_or_ge k cur.size with q | q
      · exact q
      · have := h2 k hk; rw [Array.getElem?_eq_none q] at this; cases this
    rw [Array.getElem?_setIfInBounds]
    by_cases e : k = j
    · subst e
      rw [if_pos rfl, if_pos hkc, if_pos (by omega)]
    · rw [if_neg e, h2 j hj]
      by_cases q : j < k
      · rw [if_pos q, if_pos (by omega)]
      · rw [if_neg q, if_neg (by omega)]
theorem getD_zip3 : ∀ (a b c : List Int) (j : Nat), j < a.length → j < b.length → j < c.length → (zip3 a b c)[j]? = some (xor3 (a.getD j 0) (b.getD j 0) (c.getD j 0))
  | x :: a, y :: b, z :: c, 0, _, _, _ => rfl
  | x :: a, y :: b, z :: c, j + 1, h1, h2, h3 => by
    show (zip3 a b c)[j]? = _
    rw [getD_zip3 a b c j (by simpa using h1) (by simpa using h2) (by simpa using h3)]
    rfl
theorem length_zip3 : ∀ (a b c : List Int), a.length = b.length → b.length = c.length → (zip3 a b c).length = a.length
  | [], [], [], _, _ => rfl
  | x :: a, y :: b, z :: c, h1, h2 => by
    show (zip3 a b c).length + 1 = a.length + 1
    rw [length_zip3 a b c (by simpa using h1) (by simpa using h2)]
theorem getD_take {l : List Int} {N j : Nat} (h : j < N) : (l.take N).getD j 0 = l.getD j 0 := by simp [List.getD_eq_getElem?_getD, h]
theorem ThreeRel.ints {w : World} {g : Nat} {xs ys zs : List Int} {N : Nat} {wr : World} (h : ThreeRel w g xs ys zs N N wr) (hx : N ≤ xs.length) (hy : N ≤ ys.length) (hz : N ≤ zs.length)
    (bx : Bytes xs) (by' : Bytes ys) (bz : Bytes zs) (hN : N ≤ 10000) : Ints .u8 wr (some ⟨g, 0, none⟩) N (zip3 (xs.take N) (ys.take N) (zs.take N)) := by
  obtain ⟨cur, h1, h2, h3⟩ := h
  have hl : (zip3 (xs.take N) (ys.take N) (zs.take N)).length = N := by rw [length_zip3 _ _ _ (by simp; omega) (by simp; omega)]; simp; omega
  have hb := zip3_bytes (a := xs.take N) (b := ys.take N) (c := zs.take N) (fun j hj => bx j (List.mem_of_mem_take hj)) (fun j hj => by' j (List.mem_of_mem_take hj)) (fun j hj => bz j (List.mem_of_mem_take hj))
  refine ⟨hl, by omega, fun j hj => WalkArith.wf_u8 (by have := hb j hj; omega), ?_⟩
  by_cases h0 : N = 0
  · exact .inl h0
  · refine .inr ⟨g, 0, rfl, ?_, fun i hi => ?_⟩
    · rcases Nat.lt_or_ge g wr.heap.size with q | q
      · exact q
      · rw [Array.getElem?_eq_none q] at h1; cases h1
    · rw [cell_of_row _ _ _ _ _ _ h1, Nat.zero_add, h2 i hi, if_pos hi, List.getD_eq_getElem?_getD (l := zip3 _ _ _), getD_zip3 _ _ _ _ (by simp; omega) (by simp; omega) (by simp; omega), getD_take hi, getD_take hi, getD_take hi]
      rfl
theorem bits_xor3 {x y z : Int} (x0 : 0 ≤ x) (x1 : x ≤ 255) (y0 : 0 ≤ y) (y1 : y ≤ 255) (z0 : 0 ≤ z) (z1 : z ≤ 255) : bits .xor .u8 (bits .xor .u8 x y) z = xor3 x y z := by
  rw [u8_xor _ _ x0 (by omega) y0 (by omega)]
  have : x.toNat ^^^ y.toNat < 2 ^ 8 := Nat.xor_lt_two_pow (by omega) (by omega)
  rw [u8_xor _ _ (by omega) (by omega) z0 (by omega), Int.toNat_natCast]
  rfl

theorem slice_to (A : Option Addr) (n c N : Nat) (h : N ≤ c) (W : World) : (Instr.slice 26 (.slice A n c) none (some (.int .i64 (N : Int))) none).run Try.prog W = .ok (.slice A N c) W := by
  rw [run_slice_h (P := Try.prog) (w := W) 26 A n c (by kernel_rfl) .i64 (N : Int) (by omega) (by omega)]
  have hs : (sizeOf (Try.prog.elem 26)).run Try.prog W = .ok 1 W := by kernel_rfl
  rw [hs]
  cases A <;> simp [Result.andThen, sliced, Addr.add]
structure Both (w wr W : World) : Prop where
  a : Below w.heap.size w W
  b : Below wr.heap.size wr W
theorem Both.drew {w wr W : World} (h : Both w wr W) : Both w wr W.drew := ⟨h.a.drew, h.b.drew⟩
theorem Both.call {w wr W W' : World} (h : Both w wr W) (hb : Below W.heap.size W W') : Both w wr W' := ⟨h.a.trans (hb.mono h.a.size), h.b.trans (hb.mono h.b.size)⟩
theorem over_lt (s : Nat) (l : List Int) : over s l < 4294967296 := not32_lt _
theorem three_bits (x y z : Nat) (hx : x < 4294967296) (hy : y < 4294967296) (hz : z < 4294967296) : bits .xor .u32 (bits .xor .u32 (x : Int) (y : Int)) (z : Int) = ((x ^^^ y ^^^ z : Nat) : Int) := by
  rw [u32_xor_nat _ _ hx hy, u32_xor_nat _ _ (xor_lt hx hy) hz]

theorem polyThree_walk (w : World) (a : Option Addr) (na ca : Nat) (xs : List Int) (ha : Ints .u8 w a na xs) (hca : na ≤ ca) (b : Option Addr) (nb cb : Nat) (ys : List Int) (hb : Ints .u8 w b nb ys) (hcb : nb ≤ cb)
    (c : Option Addr) (nc cc : Nat) (zs : List Int) (hc : Ints .u8 w c nc zs) (hcc : nc ≤ cc) :
    Calls Try.prog 9 #[.slice a na ca, .slice b nb cb, .slice c nc cc] w fun e w' => e = .returned (.bool true) ∧ Below w.heap.size w w' := by
  have ma := ha.max
  have mb := hb.max
  have mc := hc.max
  obtain ⟨N, hN, hNa, hNb, hNc⟩ : ∃ N : Nat, (if (nc : Int) < if nb < na then (nb : Int) else (na : Int) then (nc : Int) else if nb < na then (nb : Int) else (na : Int)) = (N : Int) ∧ N ≤ na ∧ N ≤ nb ∧ N ≤ nc := by
    by_cases h1 : nb < na
    · simp only [if_pos h1]
      by_cases h2 : (nc : Int) < nb
      · exact ⟨nc, by rw [if_pos h2], by omega, by omega, by omega⟩
      · exact ⟨nb, by rw [if_neg h2], by omega, by omega, by omega⟩
    · simp only [if_neg h1]
      by_cases h2 : (nc : Int) < na
      · exact ⟨nc, by rw [if_pos h2], by omega, by omega, by omega⟩
      · exact ⟨na, by rw [if_neg h2], by omega, by omega, by omega⟩
  have hA : ∀ W, Below w.heap.size w W → Ints .u8 W a N (xs.take N) := fun W hW => (ha.take hNa).below hW (Nat.le_refl _)
  have hB : ∀ W, Below w.heap.size w W → Ints .u8 W b N (ys.take N) := fun W hW => (hb.take hNb).below hW (Nat.le_refl _)
  have hC : ∀ W, Below w.heap.size w W → Ints .u8 W c N (zs.take N) := fun W hW => (hc.take hNc).below hW (Nat.le_refl _)
  by_cases hbig : (10000 : Int) < (N : Int)
  · go_enter Try.func9, Try.ntmps9
    go_wp2_with (go_at_call 10; refine (alive_calls _).mono ?_; rintro e w1 ⟨rfl, hb1⟩)
    go_ret
    exact ⟨rfl, hb1⟩
  have hmk := fun (W : World) => run_make_row' (P := Try.prog) 26 5 (.int .u8 0) 1 Try.underlying26 (by kernel_rfl) rfl .i64 .i64 N (by omega) (by omega) W
  by_cases h0 : N = 0
  · subst h0
    have lx := ha.len
    have ly := hb.len
    have lz := hc.len
    have Bx := bytes_of ha
    have By := bytes_of hb
    have Bz := bytes_of hc
    have sA := fun W => slice_to a na ca 0 (by omega) W
    have sB := fun W => slice_to b nb cb 0 (by omega) W
    have sC := fun W => slice_to c nc cc 0 (by omega) W
    simp only [List.take_zero, Int.natCast_zero] at hA hB hC sA sB sC
    simp only [Int.natCast_zero] at hmk hN
    have hE : (overI 0 [] == bits .xor .u32 (bits .xor .u32 (overI 0 []) (overI 0 [])) (overI 0 [])) = true := by decide +kernel
    have HE := Lib.hid hE
    clear hE
    go_enter Try.func9, Try.ntmps9
    go_wp2_with (go_at_call 10; refine (alive_calls _).mono ?_; rintro e w1 ⟨rfl, hb1⟩)
    have hbw : Below w.heap.size w (w1.alloc (.cells (madeCells #[.int .u8 0] 0) 5)) := hb1.alloc hb1.size _
    generalize w1.heap.size = g at *
    generalize World.alloc _ _ = wr at *
    have HB : Both w wr wr := ⟨hbw, Below.refl _ _⟩
    have hX' : ∀ W, Both w wr W → Ints .u8 W (some ⟨g, 0, none⟩) 0 [] := fun W _ => ⟨rfl, by omega, by simp, .inl rfl⟩
    have hA' : ∀ W, Both w wr W → Ints .u8 W a 0 [] := fun W h => hA W h.a
    have hB' : ∀ W, Both w wr W → Ints .u8 W b 0 [] := fun W h => hB W h.a
    have hC' : ∀ W, Both w wr W → Ints .u8 W c 0 [] := fun W h => hC W h.a
    clear hA hB hC hmk
    refine wp_loop_rounds 1 ?_
    rw [rounds_succ]
    go_wp2
    go_region_held3 (fun W => Both w wr W) (first | exact HB.drew | exact Both.call (by assumption) (by assumption)) (first
      | (go_at_call_of 11 (Value.slice (some ⟨g, 0, none⟩) 0 0); refine (sum_calls _ _ _ [] _ (hX' _ (by assumption))).mono ?_; rintro e w9 ⟨rfl, hb9⟩)
      | (go_at_call_of 11 (Value.slice a 0 ca); refine (sum_calls _ _ _ [] _ (hA' _ (by assumption))).mono ?_; rintro e w9 ⟨rfl, hb9⟩)
      | (go_at_call_of 11 (Value.slice b 0 cb); refine (sum_calls _ _ _ [] _ (hB' _ (by assumption))).mono ?_; rintro e w9 ⟨rfl, hb9⟩)
      | (go_at_call_of 11 (Value.slice c 0 cc); refine (sum_calls _ _ _ [] _ (hC' _ (by assumption))).mono ?_; rintro e w9 ⟨rfl, hb9⟩))
    have hE := HE.out
    go_wp2
    go_ret
    exact ⟨rfl, Both.a (wr := wr) (by assumption)⟩
  · obtain h | ⟨ba, oa, rfl, hal, hac⟩ := ha.row
    · omega
    obtain h | ⟨bb, ob, rfl, hbl, hbc⟩ := hb.row
    · omega
    obtain h | ⟨bc, oc, rfl, hcl, hcc'⟩ := hc.row
    · omega
    have Bx := bytes_of ha
    have By := bytes_of hb
    have Bz := bytes_of hc
    have lx := ha.len
    have ly := hb.len
    have lz := hc.len
    go_enter Try.func9, Try.ntmps9
    go_wp2_with (go_at_call 10; refine (alive_calls _).mono ?_; rintro e w1 ⟨rfl, hb1⟩)
    have hg := hb1.size
    have T0 : ThreeRel w w1.heap.size xs ys zs N 0 (w1.alloc (.cells (madeCells #[.int .u8 0] N) 5)) :=
      ⟨_, heap_alloc_new _ _, fun j hj => by rw [← Array.getElem?_toList, toList_madeCells_one, List.getElem?_replicate, if_pos hj, if_neg (by omega)], hb1.alloc hb1.size _⟩
    generalize w1.heap.size = g at *
    clear hmk
    go_loopw [10] (fun i wr => ∃ k : Nat, k ≤ N ∧ i = .int .i64 k ∧ ThreeRel w g xs ys zs N k wr) (fun i _ => N - (intOf i).toNat)
    case atStart => exact ⟨0, by omega, rfl, T0⟩
    case round =>
      obtain ⟨k, hk, rfl, hT⟩ := hrel
      clear T0
      by_cases hlt : k < N
      · obtain ⟨f1, f2, hN'⟩ := hT.next hlt hg
        obtain ⟨_, _, _, hbw⟩ := hT
        have ca := (hbw.cell (p := ⟨ba, oa + k, none⟩) hal).trans (hac k (by omega))
        have cb := (hbw.cell (p := ⟨bb, ob + k, none⟩) hbl).trans (hbc k (by omega))
        have cc := (hbw.cell (p := ⟨bc, oc + k, none⟩) hcl).trans (hcc' k (by omega))
        have qa := Bx _ (getD_mem (zs := xs) (i := k) (by omega))
        have qb := By _ (getD_mem (zs := ys) (i := k) (by omega))
        have qc := Bz _ (getD_mem (zs := zs) (i := k) (by omega))
        generalize xs.getD k 0 = x at *
        generalize ys.getD k 0 = y at *
        generalize zs.getD k 0 = z at *
        have hx := bits_xor3 qa.1 qa.2 qb.1 qb.2 qc.1 qc.2
        generalize xor3 x y z = q at *
        clear hac hbc hcc' hN hA hB hC Bx By Bz lx ly lz
        go_wp2
        go_region
        go_wp2
        go_roundw
        case rel => exact ⟨k + 1, by omega, by go_num, hN'.drew⟩
        case measure => simp [intOf]; omega
      · obtain rfl : k = N := by omega
        have hX0 := hT.ints (by omega) (by omega) (by omega) Bx By Bz (by omega)
        obtain ⟨_, _, _, hbw⟩ := hT
        have hX : ∀ W, Below wr.heap.size wr W → Ints .u8 W (some ⟨g, 0, none⟩) k (zip3 (xs.take k) (ys.take k) (zs.take k)) := fun W hW => hX0.below hW (Nat.le_refl _)
        have hS : (over 0 (zip3 (xs.take k) (ys.take k) (zs.take k))) = over 0 (xs.take k) ^^^ over 0 (ys.take k) ^^^ over 0 (zs.take k) :=
          over_zip3 (fun j hj => Bx j (List.mem_of_mem_take hj)) (fun j hj => By j (List.mem_of_mem_take hj)) (fun j hj => Bz j (List.mem_of_mem_take hj)) (by simp; omega) (by simp; omega)
        have HB : Both w wr wr := ⟨hbw, Below.refl _ _⟩
        have hX' : ∀ W, Both w wr W → Ints .u8 W (some ⟨g, 0, none⟩) k (zip3 (xs.take k) (ys.take k) (zs.take k)) := fun W h => hX W h.b
        have hA' : ∀ W, Both w wr W → Ints .u8 W (some ⟨ba, oa, none⟩) k (xs.take k) := fun W h => hA W h.a
        have hB' : ∀ W, Both w wr W → Ints .u8 W (some ⟨bb, ob, none⟩) k (ys.take k) := fun W h => hB W h.a
        have hC' : ∀ W, Both w wr W → Ints .u8 W (some ⟨bc, oc, none⟩) k (zs.take k) := fun W h => hC W h.a
        have hE : (overI 0 (zip3 (xs.take k) (ys.take k) (zs.take k)) == bits .xor .u32 (bits .xor .u32 (overI 0 (xs.take k)) (overI 0 (ys.take k))) (overI 0 (zs.take k))) = true := by
          unfold overI
          rw [three_bits _ _ _ (over_lt _ _) (over_lt _ _) (over_lt _ _), show (0 : Int).toNat = 0 by rfl, hS]
          exact beq_self_eq_true _
        have HE := Lib.hid hE
        clear hX hA hB hC hS hE hX0 hbw hN hac hbc hcc'
        generalize zip3 (xs.take k) (ys.take k) (zs.take k) = qx at *
        generalize xs.take k = qa at *
        generalize ys.take k = qb at *
        generalize zs.take k = qc at *
        have sA := fun W => slice_to (some ⟨ba, oa, none⟩) na ca k (by omega) W
        have sB := fun W => slice_to (some ⟨bb, ob, none⟩) nb cb k (by omega) W
        have sC := fun W => slice_to (some ⟨bc, oc, none⟩) nc cc k (by omega) W
        go_wp2
        go_region_held3 (fun W => Both w wr W) (first | exact HB.drew | exact Both.call (by assumption) (by assumption)) (first
          | (go_at_call_of 11 (Value.slice (some ⟨g, 0, none⟩) k k); refine (sum_calls _ _ _ qx _ (hX' _ (by assumption))).mono ?_; rintro e w9 ⟨rfl, hb9⟩)
          | (go_at_call_of 11 (Value.slice (some ⟨ba, oa, none⟩) k ca); refine (sum_calls _ _ _ qa _ (hA' _ (by assumption))).mono ?_; rintro e w9 ⟨rfl, hb9⟩)
          | (go_at_call_of 11 (Value.slice (some ⟨bb, ob, none⟩) k cb); refine (sum_calls _ _ _ qb _ (hB' _ (by assumption))).mono ?_; rintro e w9 ⟨rfl, hb9⟩)
          | (go_at_call_of 11 (Value.slice (some ⟨bc, oc, none⟩) k cc); refine (sum_calls _ _ _ qc _ (hC' _ (by assumption))).mono ?_; rintro e w9 ⟨rfl, hb9⟩))
        go_wp2
        go_ret
        exact ⟨ret_bool HE.out, Both.a (wr := wr) (by assumption)⟩

namespace polyThree
set_option linter.unusedVariables false
set_option maxRecDepth 100000 in
theorem lifted (os : Os) (started : os.Started) (H : Type) (enc : TypeId × Value → H) :
    ReturnsInHanded {} Try.checked os 9 .any (Rows.polyThreeSpec.pre6 enc Try.prog Try.f9 Rows.polyThreeRow.domain false) (Rows.polyThreeSpec.post enc Try.prog Try.f9 false true false false) := by
  refine returnsInHanded_of_change (C := Try.checked) Try.own started (by kernel_rfl) Try.func9
    (ChangeSpec.witness6 (enc := enc) (C := Try.checked) false ⟨#[], #[.slice none 0 0, .slice none 0 0, .slice none 0 0], []⟩ 8 (by kernel_rfl) (by kernel_rfl) (by kernel_rfl) (by kernel_rfl)) ?_
  intro W base args ds gs before hval0 hW hcnd _
  have hval : ∀ (j : Nat) t v, Try.f9.params[j]? = some t → args[j]? = some v → Value.okWide Try.prog W .any base t v := hval0
  have hW' := hW
  obtain ⟨p, q, hA0, hV, rfl, hfz, hnd⟩ := hW
  have hA : DataW.TrodAll enc Try.prog W 0 (fun _ => true) true Try.f9.params.toList args.toList ds p := hA0
  rw [Try.params9] at hA hval
  obtain ⟨v0, vs0, d0, ds0, p0, q0, hargs, rfl, rfl, h0, r0⟩ := trodAll_cons hA
  obtain ⟨v1, vs1, d1, ds1, p1, q1, rfl, rfl, rfl, h1, r1⟩ := trodAll_cons r0
  obtain ⟨v2, vs2, d2, ds2, p2, q2, rfl, rfl, rfl, h2, r2⟩ := trodAll_cons r1
  obtain ⟨rfl, rfl, rfl⟩ := trodAll_nil r2
  obtain rfl : args = #[v0, v1, v2] := by cases args; simp_all
  obtain ⟨rfl, rfl⟩ := trodVars_none hV
  obtain ⟨a0, len0, cap0, rfl⟩ := okWide_slice Try.underlying26 (hval 0 26 v0 rfl rfl)
  have k0 := h0
  have lt0 : ∀ x ∈ p0, x.block < W.heap.size := by obtain ⟨m, hm⟩ := k0; exact DataW.trod_lt m _ _ _ hm
  obtain ⟨z0, w0, c0⟩ : ∃ zs, Ints .u8 W a0 len0 zs ∧ len0 ≤ cap0 := by
    obtain ⟨fuel, hf⟩ := h0
    rcases open_ints Try.underlying26 Try.underlying5 (by kernel_rfl) hf with ⟨hcs, _⟩ | ⟨x, l, c, zs, hcs, _, hl, hm, hz, _, hcell, hwz⟩
    · simp [Value.cells] at hcs
      obtain ⟨rfl, rfl, rfl⟩ := hcs
      exact ⟨[], ⟨rfl, by omega, by simp, .inl rfl⟩, by omega⟩
    · simp [Value.cells] at hcs
      obtain ⟨rfl, rfl, rfl⟩ := hcs
      exact ⟨_, Ints.of_cells hl hm (by simpa using hz) hcell hwz, hl⟩
  obtain ⟨a1, len1, cap1, rfl⟩ := okWide_slice Try.underlying26 (hval 1 26 v1 rfl rfl)
  have k1 := h1
  have lt1 : ∀ x ∈ p1, x.block < W.heap.size := by obtain ⟨m, hm⟩ := k1; exact DataW.trod_lt m _ _ _ hm
  obtain ⟨z1, w1, c1⟩ : ∃ zs, Ints .u8 W a1 len1 zs ∧ len1 ≤ cap1 := by
    obtain ⟨fuel, hf⟩ := h1
    rcases open_ints Try.underlying26 Try.underlying5 (by kernel_rfl) hf with ⟨hcs, _⟩ | ⟨x, l, c, zs, hcs, _, hl, hm, hz, _, hcell, hwz⟩
    · simp [Value.cells] at hcs
      obtain ⟨rfl, rfl, rfl⟩ := hcs
      exact ⟨[], ⟨rfl, by omega, by simp, .inl rfl⟩, by omega⟩
    · simp [Value.cells] at hcs
      obtain ⟨rfl, rfl, rfl⟩ := hcs
      exact ⟨_, Ints.of_cells hl hm (by simpa using hz) hcell hwz, hl⟩
  obtain ⟨a2, len2, cap2, rfl⟩ := okWide_slice Try.underlying26 (hval 2 26 v2 rfl rfl)
  have k2 := h2
  have lt2 : ∀ x ∈ p2, x.block < W.heap.size := by obtain ⟨m, hm⟩ := k2; exact DataW.trod_lt m _ _ _ hm
  obtain ⟨z2, w2, c2⟩ : ∃ zs, Ints .u8 W a2 len2 zs ∧ len2 ≤ cap2 := by
    obtain ⟨fuel, hf⟩ := h2
    rcases open_ints Try.underlying26 Try.underlying5 (by kernel_rfl) hf with ⟨hcs, _⟩ | ⟨x, l, c, zs, hcs, _, hl, hm, hz, _, hcell, hwz⟩
    · simp [Value.cells] at hcs
      obtain ⟨rfl, rfl, rfl⟩ := hcs
      exact ⟨[], ⟨rfl, by omega, by simp, .inl rfl⟩, by omega⟩
    · simp [Value.cells] at hcs
      obtain ⟨rfl, rfl, rfl⟩ := hcs
      exact ⟨_, Ints.of_cells hl hm (by simpa using hz) hcell hwz, hl⟩
  clear hA0 hval0
  refine (polyThree_walk W a0 len0 cap0 z0 w0 c0 a1 len1 cap1 z1 w1 c1 a2 len2 cap2 z2 w2 c2).mono fun e W' ⟨he, bel⟩ => ?_
  subst he
  exact ⟨_, rfl, _, _, _, [], _, [], hW', trodAll_mk1 (shut_bool Try.underlying4 _), (trodAll_cons_mk (Below.trod Try.laidOut (by kernel_rfl) (of_decide_eq_true (by kernel_rfl)) k0 bel lt0) (trodAll_cons_mk (Below.trod Try.laidOut (by kernel_rfl) (of_decide_eq_true (by kernel_rfl)) k1 bel lt1) (trodAll_cons_mk (Below.trod Try.laidOut (by kernel_rfl) (of_decide_eq_true (by kernel_rfl)) k2 bel lt2) trodAll_mk0))), rfl, bel.frame _, fun h => by cases h⟩

theorem holds : Rows.PolyThreeSaid :=
  OpenClaim.holds_of_wide 9 Try.f9 rfl rfl rfl rfl rfl rfl rfl ⟨rfl, rfl, rfl, rfl, rfl⟩ rfl rfl rfl rfl rfl (by kernel_rfl) Try.func9 (by kernel_rfl)
    (of_decide_eq_true (by kernel_rfl)) (by unfold Func.isWrapper; first | (rw [if_pos (by decide +kernel)]; kernel_rfl) | (rw [if_neg (by decide +kernel)]; exact ⟨rfl, rfl⟩))
    (fun os started H enc _ => lifted os started H enc)
end polyThree
end Go.Proofs.Ytebjfkfmjmegfaa
