/- freeboardlaw02.PackDoes: for every input the law answers true, and what is handed in reads as it did. Conditions: none. -/
import Derived.Test.YtmbclhkeidpooaaPackAlive
import Derived.Test.YtmbclhkeidpooaaPackRef
namespace Go.Proofs.Ytmbclhkeidpooaa
open Go.ChangeShapes Go.WideShapes Go.ChangeAt Go.RowKit PolyM PackM
theorem does_bad (w : World) (a : Option Addr) (n c : Nat) (zs : List Int) (p s v : Int) (hi : Ints .u8 w a n zs) (hbig : (n : Int) ≤ 1000) (er er2 tk : Int)
    (c1 : ∀ W A C, Calls Try.prog 9 #[.slice A n C, .int .i64 p, .int .i64 s, .int .i64 v] W fun e w' => e = .returned (.tuple #[.slice none 0 0, .int .i64 er]) ∧ W = w')
    (c2 : ∀ W A C, Calls Try.prog 12 #[.slice A n C, .int .i64 p, .int .i64 s, .int .i64 v] W fun e w' => e = .returned (.tuple #[.slice none 0 0, .int .i64 er]) ∧ W = w')
    (c3 : ∀ W A C, Ints .u8 W A n zs → Calls Try.prog 10 #[.slice A n C, .int .i64 p, .int .i64 s] W fun e w' => e = .returned (.tuple #[.int .i64 tk, .int .i64 er2]) ∧ Below W.heap.size W w')
    (c4 : ∀ W A C, Ints .u8 W A n zs → Calls Try.prog 13 #[.slice A n C, .int .i64 p, .int .i64 s] W fun e w' => e = .returned (.tuple #[.int .i64 tk, .int .i64 er2]) ∧ Below W.heap.size W w') :
    Calls Try.prog 4 #[.slice a n c, .int .i64 p, .int .i64 s, .int .i64 v] w fun e w' => e = .returned (.bool true) ∧ Below w.heap.size w w' := by
  obtain ⟨i0, hi0, hz0, hz1, hz2⟩ := info_parts (show (Try.prog.info? 5).map (fun i => (i.zero, i.size, i.bytes)) = some (some (.int .u8 0), 1, 1) by kernel_rfl)
  have hm := hi.max
  have hr0 := hi.toRow
  go_enter Try.func4, Try.ntmps4
  go_wp2_with (at_builtin; refine wpList_append_row _ rfl (.const (.slice none 0 0)) (.tmp 22) _ rfl w.heap.size 5 i0 _ 1 1 Try.underlying22 hi0 hz0 hz1 hz2 rfl (by omega) (.slice none 0 0) 0 [] rfl (World.ownsRow_nil _ _ _ _) a n c _ rfl hr0 (by simp [Value.oneCell']) (by simp only [maxLen]; omega) (by omega) (Nat.le_refl _) ?_; intro v2 w2 own2 hg2 _; have hb2 := (Below.refl w.heap.size w).grown hg2 (Nat.le_refl _) (by simp [Value.ownBlock]); obtain ⟨A, C, rfl, _, ro, _⟩ := own_form own2)
  rw [Nat.zero_add] at ro
  have io : Ints .u8 w2 A n zs := Ints.ofRow (by simpa using ro) hm hi.wf
  clear ro own2 hg2 hr0
  refine (c1 _ _ _).mono ?_
  rintro e w3 ⟨rfl, rfl⟩
  go_wp2_with fail
  refine (c2 _ _ _).mono ?_
  rintro e w3 ⟨rfl, rfl⟩
  go_wp2_with fail
  refine (c3 _ _ _ io).mono ?_
  rintro e w3 ⟨rfl, hb3⟩
  have hb4 := hb2.trans (hb3.mono hb2.size)
  have io3 := io.below hb3 (Nat.le_refl _)
  go_wp2_with fail
  refine (c4 _ _ _ (hi.below hb4 (Nat.le_refl _))).mono ?_
  rintro e w5 ⟨rfl, hb5⟩
  have hb6 := hb4.trans (hb5.mono hb4.size)
  have io5 := io3.below hb5 (Nat.le_refl _)
  have x0 := (nil_ints .u8 w5).text (P := Try.prog) (c := 0) Try.underlying22 Try.underlying5 Try.underlying9
  have x1 := io5.text (P := Try.prog) (c := C) Try.underlying22 Try.underlying5 Try.underlying9
  have x2 := (hi.below hb6 (Nat.le_refl _)).text (P := Try.prog) (c := c) Try.underlying22 Try.underlying5 Try.underlying9
  clear c1 c2 c3 c4 io io3 io5 hb3 hb4 hb5 hb2 hi
  go_wp2
  refine wp_loop_rounds 1 ?_
  rw [rounds_succ]
  go_wp2
  go_ret
  exact ⟨rfl, hb6⟩
set_option maxRecDepth 100000 in
set_option maxHeartbeats 1000000 in
theorem does_good (w : World) (a : Option Addr) (n c : Nat) (zs : List Int) (P S : Nat) (v : Int) (hi : Ints .u8 w a n zs) (hbig : (n : Int) ≤ 1000) (hn : n = 0 ∨ n = 128) (s1 : 1 ≤ S) (s4 : S ≤ 4) (hp : P + S ≤ 128) (v2 : 0 ≤ v) (v3 : v < 256 ^ S) :
    Calls Try.prog 4 #[.slice a n c, .int .i64 P, .int .i64 S, .int .i64 v] w fun e w' => e = .returned (.bool true) ∧ Below w.heap.size w w' := by
  have hB := bytes_of hi
  obtain ⟨i0, hi0, hz0, hz1, hz2⟩ := info_parts (show (Try.prog.info? 5).map (fun i => (i.zero, i.size, i.bytes)) = some (some (.int .u8 0), 1, 1) by kernel_rfl)
  have hm := hi.max
  have hr0 := hi.toRow
  go_enter Try.func4, Try.ntmps4
  go_wp2_with (at_builtin; refine wpList_append_row _ rfl (.const (.slice none 0 0)) (.tmp 22) _ rfl w.heap.size 5 i0 _ 1 1 Try.underlying22 hi0 hz0 hz1 hz2 rfl (by omega) (.slice none 0 0) 0 [] rfl (World.ownsRow_nil _ _ _ _) a n c _ rfl hr0 (by simp [Value.oneCell']) (by simp only [maxLen]; omega) (by omega) (Nat.le_refl _) ?_; intro v2 w2 own2 hg2 _; have hb2 := (Below.refl w.heap.size w).grown hg2 (Nat.le_refl _) (by simp [Value.ownBlock]); obtain ⟨A, C, rfl, _, ro, _⟩ := own_form own2)
  rw [Nat.zero_add] at ro
  have io : Ints .u8 w2 A n zs := Ints.ofRow (by simpa using ro) hm hi.wf
  clear ro own2 hg2 hr0
  refine (put_ok A n C zs P S v w2 io hn s1 s4 hp v2 v3).mono ?_
  rintro e w3 ⟨g, hg, rfl, hgc, hb3⟩
  have hb4 := hb2.trans (hb3.mono hb2.size)
  have k3 : Below w2.heap.size w2 w3 := hb3
  have io3 := io.below hb3 (Nat.le_refl _)
  have ix3 := Ints.ofCells hgc (putL_len _ _ _ _) (by omega) (putL_bytes hB _ _ _)
  have hgs : g < w3.heap.size := by
    rcases Nat.lt_or_ge g w3.heap.size with q | q
    · exact q
    · rw [Array.getElem?_eq_none q] at hgc; cases hgc
  go_wp2_with fail
  refine (rput_ok a n c zs P S v w3 (hi.below hb4 (Nat.le_refl _)) hn s1 s4 hp v2 v3).mono ?_
  rintro e w4 ⟨g2, hg2, rfl, hgc2, hb5⟩
  have hb6 := hb4.trans (hb5.mono hb4.size)
  have k4 := k3.trans (hb5.mono k3.size)
  have io4 := io3.below hb5 (Nat.le_refl _)
  have ix4 := ix3.below hb5 (Nat.le_refl _)
  have iy4 := Ints.ofCells hgc2 (putL_len _ _ _ _) (by omega) (putL_bytes hB _ _ _)
  have hx4 := (hb5.block g hgs).trans hgc
  have hs4 := Nat.lt_of_lt_of_le hgs hb5.size
  clear hgc hgc2 ix3 hb5
  go_wp2_with fail
  refine (take_ok A n C zs P S w4 io4 hn s1 s4 hp).mono ?_
  rintro e w5 ⟨rfl, hb7⟩
  have hb8 := hb6.trans (hb7.mono hb6.size)
  have k5 := k4.trans (hb7.mono k4.size)
  have io5 := io4.below hb7 (Nat.le_refl _)
  have ix5 := ix4.below hb7 (Nat.le_refl _)
  have iy5 := iy4.below hb7 (Nat.le_refl _)
  have hx5 := (hb7.block g hs4).trans hx4
  have hs5 := Nat.lt_of_lt_of_le hs4 hb7.size
  clear hx4 ix4 iy4 hb7
  go_wp2_with fail
  refine (rtake_ok a n c zs P S w5 (hi.below hb8 (Nat.le_refl _)) hn s1 s4 hp).mono ?_
  rintro e w6 ⟨rfl, hb9⟩
  have hbA := hb8.trans (hb9.mono hb8.size)
  have k6 := k5.trans (hb9.mono k5.size)
  have ix6 := (ix5.below hb9 (Nat.le_refl _)).text (P := Try.prog) (c := 128) Try.underlying22 Try.underlying5 Try.underlying9
  have iy6 := (iy5.below hb9 (Nat.le_refl _)).text (P := Try.prog) (c := 128) Try.underlying22 Try.underlying5 Try.underlying9
  have io6 := io5.below hb9 (Nat.le_refl _)
  have hx6 := (hb9.block g hs5).trans hx5
  have hown : True := trivial
  clear hx5 ix5 iy5 hb9 io3 io4 io5 io6 hgs hs4 hs5 hb8 hb6 hb4 hb3 v3 hn hown
  go_wp2
  go_loopw [18] (fun i wr => ∃ (k : Nat) (cur : List Int), k ≤ 128 ∧ i = .int .i64 k ∧ cur.length = 128 ∧ wr.heap[g]? = some (.cells (cells cur) 39 (0, 0)) ∧ Below w2.heap.size w6 wr) (fun i _ => 128 - (intOf i).toNat)
  case atStart => exact ⟨0, _, by omega, rfl, putL_len _ _ _ _, hx6, Below.refl _ _⟩
  case round =>
    obtain ⟨k, cur, hk, rfl, hcl, hgk, hbk⟩ := hrel
    have HL := Lib.hid hcl
    clear hx6 hcl
    by_cases hks : k < 128
    · have hcell : wr.cell? ⟨g, k, none⟩ = some (.int .u8 (cur.getD k 0)) := by
        rw [cell_of_row _ _ _ _ _ _ hgk, cells_getD (by rw [HL.out]; omega)]
      have hfr : wr.frozen? ⟨g, k, none⟩ = false := frozen_of_row _ _ _ _ _ hgk
      generalize cur.getD k 0 = y at *
      go_wp2
      go_roundw
      case rel =>
        refine ⟨k + 1, cur.set k ((y + 1) % 256), by omega, by go_num, by rw [List.length_set]; exact HL.out, ?_, hbk.setCell hg _⟩
        rw [heap_setCell_same _ _ _ _ _ _ hgk, cells_set]
      case measure => simp [intOf]; omega
    · obtain rfl : k = 128 := by omega
      have hbW : Below w.heap.size w wr := hbA.trans (hbk.mono hb2.size)
      have x1 := (io.below (k6.trans hbk) (Nat.le_refl _)).text (P := Try.prog) (c := C) Try.underlying22 Try.underlying5 Try.underlying9
      have x2 := (hi.below hbW (Nat.le_refl _)).text (P := Try.prog) (c := c) Try.underlying22 Try.underlying5 Try.underlying9
      clear hgk io
      go_wp2
      go_ret
      exact ⟨rfl, hbW⟩

theorem packDoes_walk (w : World) (a : Option Addr) (n c : Nat) (zs : List Int) (hi : Ints .u8 w a n zs) (_ : n ≤ c) (p : Int) (wp : (Lit.int .i64 p).wf = true) (s : Int) (ws : (Lit.int .i64 s).wf = true) (v : Int) (wv : (Lit.int .i64 v).wf = true) :
    Calls Try.prog 4 #[.slice a n c, .int .i64 p, .int .i64 s, .int .i64 v] w fun e w' => e = .returned (.bool true) ∧ Below w.heap.size w w' := by
  obtain ⟨v0, v1⟩ := bounds_i64 wv
  have hm := hi.max
  by_cases hbig : (1000 : Int) < (n : Int)
  · go_enter Try.func4, Try.ntmps4
    go_wp2
    go_ret
    exact ⟨rfl, Below.refl _ _⟩
  have hbig : (n : Int) ≤ 1000 := by omega
  by_cases hn : n = 0 ∨ n = 128
  · by_cases hp : Place p s
    · by_cases hv : 0 ≤ v ∧ v < 256 ^ s.toNat
      · obtain ⟨P, S, rfl, rfl, hn, s1, s4, hp, v2, v3⟩ := Good.nat ⟨hn, hp, hv.1, hv.2⟩
        exact does_good w a n c zs P S v hi hbig hn s1 s4 hp v2 v3
      · have hp' := hp
        obtain ⟨p1, p2, p3, p4⟩ := hp'
        obtain ⟨P, rfl⟩ := Int.eq_ofNat_of_zero_le p3
        obtain ⟨S, rfl⟩ := Int.eq_ofNat_of_zero_le (show 0 ≤ s by omega)
        exact does_bad w a n c zs P S v hi hbig 2 0 (takeN zs P S) (fun W A C => put_number A n C P S v W hn hp v0 v1 hv) (fun W A C => rput_number A n C P S v W hn hp (by rwa [Int.toNat_natCast] at hv))
          (fun W A C hW => take_ok A n C zs P S W hW hn (by omega) (by omega) (by omega)) (fun W A C hW => rtake_ok A n C zs P S W hW hn (by omega) (by omega) (by omega))
    · exact does_bad w a n c zs p s v hi hbig 2 2 0 (fun W A C => put_arg A n C p s v W hn hp) (fun W A C => rput_arg A n C p s v W hn hp)
        (fun W A C _ => (take_arg A n C p s W hn hp).mono fun _ _ ⟨h1, h2⟩ => ⟨h1, h2 ▸ Below.refl _ _⟩) (fun W A C _ => (rtake_arg A n C p s W hn hp).mono fun _ _ ⟨h1, h2⟩ => ⟨h1, h2 ▸ Below.refl _ _⟩)
  · have h0 : n ≠ 0 := fun q => hn (.inl q)
    have h1 : n ≠ 128 := fun q => hn (.inr q)
    exact does_bad w a n c zs p s v hi hbig 3 3 0 (fun W A C => put_text A n C p s v W hm h0 h1) (fun W A C => rput_text A n C p s v W hm h0 h1)
      (fun W A C _ => (take_text A n C p s W hm h0 h1).mono fun _ _ ⟨h1, h2⟩ => ⟨h1, h2 ▸ Below.refl _ _⟩) (fun W A C _ => (rtake_text A n C p s W hm h0 h1).mono fun _ _ ⟨h1, h2⟩ => ⟨h1, h2 ▸ Below.refl _ _⟩)

namespace packDoes
set_option linter.unusedVariables false
set_option maxRecDepth 100000 in
theorem lifted (os : Os) (started : os.Started) (H : Type) (enc : TypeId × Value → H) :
    ReturnsInHanded {} Try.checked os 4 .any (Rows.packDoesSpec.pre6 enc Try.prog Try.f4 Rows.packDoesRow.domain false) (Rows.packDoesSpec.post enc Try.prog Try.f4 false true false false) := by
  refine returnsInHanded_of_change (C := Try.checked) Try.own started (by kernel_rfl) Try.func4
    (ChangeSpec.witness6 (enc := enc) (C := Try.checked) false ⟨#[], #[.slice none 0 0, .int .i64 0, .int .i64 0, .int .i64 0], []⟩ 8 (by kernel_rfl) (by kernel_rfl) (by kernel_rfl) (by kernel_rfl)) ?_
  intro W base args ds gs before hval0 hW hcnd _
  have hval : ∀ (j : Nat) t v, Try.f4.params[j]? = some t → args[j]? = some v → Value.okWide Try.prog W .any base t v := hval0
  have hW' := hW
  obtain ⟨p, q, hA0, hV, rfl, hfz, hnd⟩ := hW
  have hA : DataW.TrodAll enc Try.prog W 0 (fun _ => true) true Try.f4.params.toList args.toList ds p := hA0
  rw [Try.params4] at hA hval
  obtain ⟨v0, vs0, d0, ds0, p0, q0, hargs, rfl, rfl, h0, r0⟩ := trodAll_cons hA
  obtain ⟨v1, vs1, d1, ds1, p1, q1, rfl, rfl, rfl, h1, r1⟩ := trodAll_cons r0
  obtain ⟨v2, vs2, d2, ds2, p2, q2, rfl, rfl, rfl, h2, r2⟩ := trodAll_cons r1
  obtain ⟨v3, vs3, d3, ds3, p3, q3, rfl, rfl, rfl, h3, r3⟩ := trodAll_cons r2
  obtain ⟨rfl, rfl, rfl⟩ := trodAll_nil r3
  obtain rfl : args = #[v0, v1, v2, v3] := by cases args; simp_all
  obtain ⟨rfl, rfl⟩ := trodVars_none hV
  obtain ⟨a0, len0, cap0, rfl⟩ := okWide_slice Try.underlying22 (hval 0 22 v0 rfl rfl)
  have k0 := h0
  have lt0 : ∀ x ∈ p0, x.block < W.heap.size := by obtain ⟨m, hm⟩ := k0; exact DataW.trod_lt m _ _ _ hm
  obtain ⟨z0, w0, c0⟩ : ∃ zs, Ints .u8 W a0 len0 zs ∧ len0 ≤ cap0 := by
    obtain ⟨fuel, hf⟩ := h0
    rcases open_ints Try.underlying22 Try.underlying5 (by kernel_rfl) hf with ⟨hcs, _⟩ | ⟨x, l, c, zs, hcs, _, hl, hm, hz, _, hcell, hwz⟩
    · simp [Value.cells] at hcs
      obtain ⟨rfl, rfl, rfl⟩ := hcs
      exact ⟨[], ⟨rfl, by omega, by simp, .inl rfl⟩, by omega⟩
    · simp [Value.cells] at hcs
      obtain ⟨rfl, rfl, rfl⟩ := hcs
      exact ⟨_, Ints.of_cells hl hm (by simpa using hz) hcell hwz, hl⟩
  obtain ⟨a1, rfl, rfl, rfl, w1⟩ := open_int Try.underlying3 (hval 1 3 v1 rfl rfl) h1
  obtain ⟨a2, rfl, rfl, rfl, w2⟩ := open_int Try.underlying3 (hval 2 3 v2 rfl rfl) h2
  obtain ⟨a3, rfl, rfl, rfl, w3⟩ := open_int Try.underlying3 (hval 3 3 v3 rfl rfl) h3
  clear hA0 hval0
  refine (packDoes_walk W a0 len0 cap0 z0 w0 c0 a1 w1 a2 w2 a3 w3).mono fun e W' ⟨he, bel⟩ => ?_
  subst he
  exact ⟨_, rfl, _, _, _, [], _, [], hW', trodAll_mk1 (shut_bool Try.underlying4 _), (trodAll_cons_mk (Below.trod Try.laidOut (by kernel_rfl) (of_decide_eq_true (by kernel_rfl)) k0 bel lt0) (trodAll_cons_mk (shut_int Try.underlying3 w1) (trodAll_cons_mk (shut_int Try.underlying3 w2) (trodAll_cons_mk (shut_int Try.underlying3 w3) trodAll_mk0)))), rfl, bel.frame _, fun h => by cases h⟩

theorem holds : Rows.PackDoesSaid :=
  OpenClaim.holds_of_wide 4 Try.f4 rfl rfl rfl rfl rfl rfl rfl ⟨rfl, rfl, rfl, rfl, rfl⟩ rfl rfl rfl rfl rfl (by kernel_rfl) Try.func4 (by kernel_rfl)
    (of_decide_eq_true (by kernel_rfl)) (by unfold Func.isWrapper; first | (rw [if_pos (by decide +kernel)]; kernel_rfl) | (rw [if_neg (by decide +kernel)]; exact ⟨rfl, rfl⟩))
    (fun os started H enc _ => lifted os started H enc)
end packDoes
end Go.Proofs.Ytmbclhkeidpooaa
