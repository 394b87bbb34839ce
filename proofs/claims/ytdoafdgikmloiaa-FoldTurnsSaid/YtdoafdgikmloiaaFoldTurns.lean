/- freeboardlaw03.FoldTurns: for every input the law answers true, and what is handed in reads as it did. Conditions: none. -/
import Derived.Test.YtdoafdgikmloiaaFoldLaws
namespace Go.Proofs.Ytdoafdgikmloiaa
open Go.ChangeShapes Go.WideShapes Go.ChangeAt Go.RowKit PolyM PackM FoldM
theorem turns_i (n : Int) (h0 : 0 ≤ n) (h1 : n ≤ 255) : ∃ i : Nat, i < 128 ∧ n.tmod 128 = (i : Int) := by
  obtain ⟨m, rfl⟩ := Int.eq_ofNat_of_zero_le h0
  exact ⟨m % 128, Nat.mod_lt _ (by omega), rfl⟩
theorem turns_out (w : World) (a : Option Addr) (na ca : Nat) (hs : List Value) (ls : List (List Int)) (p n v : Int) (n0 : 0 ≤ n) (n1 : n ≤ 255) (ha : Slab w a na hs ls) (h : Great ls ∨ ¬ Great ls ∧ (p < 0 ∨ 0 ≤ p ∧ na ≤ p)) :
    Calls Try.prog 8 #[.slice a na ca, .int .i64 p, .int .u8 n, .int .u8 v] w fun e w' => e = .returned (.bool true) ∧ Below w.heap.size w w' := by
  have hm := ha.max
  obtain ⟨i, hi, e⟩ := turns_i n n0 n1
  have cg := fun W (hW : Slab W a na hs ls) => great_calls a na ca hs ls W hW
  rcases h with hG | ⟨hG, h1 | ⟨h1, h2⟩⟩
  case' inl => rw [decide_eq_true hG] at cg
  case' inr.inl => rw [decide_eq_false hG] at cg
  case' inr.inr => rw [decide_eq_false hG] at cg
  all_goals
    clear hG
    go_enter Try.func8, Try.ntmps8
    go_wp2_with fail
    refine (alive_calls _).mono ?_
    rintro e w1 ⟨rfl, hb1⟩
    go_wp2_with fail
    refine (cg _ (ha.below hb1 (Nat.le_refl _))).mono ?_
    rintro e w2 ⟨rfl, rfl⟩
    clear cg
    go_wp2
    go_ret
    exact ⟨rfl, hb1⟩
theorem turns_short (w : World) (a : Option Addr) (na ca : Nat) (hs : List Value) (ls : List (List Int)) (P : Nat) (n v : Int) (n0 : 0 ≤ n) (n1 : n ≤ 255) (ha : Slab w a na hs ls) (hG : ¬ Great ls) (hP : P < na) (xs : List Int) (hx : ls[P]? = some xs) (hl : xs.length ≠ 128) :
    Calls Try.prog 8 #[.slice a na ca, .int .i64 P, .int .u8 n, .int .u8 v] w fun e w' => e = .returned (.bool true) ∧ Below w.heap.size w w' := by
  have hm := ha.max
  obtain ⟨i, hi, e⟩ := turns_i n n0 n1
  have cg := fun W (hW : Slab W a na hs ls) => great_calls a na ca hs ls W hW
  rw [decide_eq_false hG] at cg
  have hpn : (P : Int) < (na : Int) := by omega
  have hp0 : (0 : Int) ≤ (P : Int) := by omega
  clear hG
  go_enter Try.func8, Try.ntmps8
  go_wp2_with fail
  refine (alive_calls _).mono ?_
  rintro e w1 ⟨rfl, hb1⟩
  go_wp2_with fail
  refine (cg _ (ha.below hb1 (Nat.le_refl _))).mono ?_
  rintro e w2 ⟨rfl, rfl⟩
  clear cg
  obtain ⟨b, off, A, L, C, zs, rfl, hls, hcell, hiz, _⟩ := ha.at_below hP hb1
  rw [hx] at hls
  injection hls with hls
  subst hls
  have hL := hiz.len
  have hLm := hiz.max
  have d1 : ((L : Int) != 128) = true := by simp; omega
  clear hx hl hiz hL
  go_wp2
  go_ret
  exact ⟨rfl, hb1⟩
theorem turns_code {l : List (List Int)} {p : Nat} {x y : List Int} (h : l[p]? = some x) (hx : x.length = 128) (hy : y.length = 128) : code (l.set p y) = code l := by
  have hb : Blks (l.set p y) ↔ Blks l := by
    refine ⟨fun q z hz => ?_, fun q z hz => ?_⟩
    · obtain ⟨i, hi, e⟩ := List.mem_iff_getElem.1 hz
      by_cases ip : p = i
      · subst ip
        rw [List.getElem?_eq_getElem hi, e] at h
        injection h with h
        rw [h]
        exact .inr hx
      · refine q z (List.mem_iff_getElem?.2 ⟨i, ?_⟩)
        rw [List.getElem?_set, if_neg ip, List.getElem?_eq_getElem hi, e]
    · rcases List.mem_or_eq_of_mem_set hz with r | rfl
      · exact q z r
      · exact .inr hy
  unfold code
  simp only [List.length_set, hb]
/-- The world in which one byte of one block is turned. -/
theorem turns_slab {w1 w2 w3 : World} {a : Option Addr} {g g3 na C2 C3 P i : Nat} {hs : List Value} {ls : List (List Int)} {xs : List Int} (own5 : w3.ownsRow w1.heap.size 22 1 (.slice (some ⟨g, 0, none⟩) na C2) na hs) (own6 : w3.ownsRow w2.heap.size 5 1 (.slice (some ⟨g3, 0, none⟩) 128 C3) 128 (xs.map (Value.int .u8)))
    (hb3 : Below w1.heap.size w1 w3) (hg : w1.heap.size ≤ g) (hgg : g < g3) (h1 : Slab w1 a na hs ls) (hP : P < na) (hi : i < 128) (hl : xs.length = 128) (hB : Bytes xs) :
    (w3.setCell ⟨g, P, none⟩ (.slice (some ⟨g3, 0, none⟩) 128 C3)).cell? ⟨g, P, none⟩ = some (.slice (some ⟨g3, 0, none⟩) 128 C3) ∧
    (w3.setCell ⟨g, P, none⟩ (.slice (some ⟨g3, 0, none⟩) 128 C3)).cell? ⟨g3, i, none⟩ = some (.int .u8 (xs.getD i 0)) ∧
    (w3.setCell ⟨g, P, none⟩ (.slice (some ⟨g3, 0, none⟩) 128 C3)).frozen? ⟨g3, i, none⟩ = false ∧
    ∀ z : Int, 0 ≤ z ∧ z ≤ 255 → Below w1.heap.size w1 ((w3.setCell ⟨g, P, none⟩ (.slice (some ⟨g3, 0, none⟩) 128 C3)).setCell ⟨g3, i, none⟩ (.int .u8 z)).drew ∧
      ∃ hs', Slab ((w3.setCell ⟨g, P, none⟩ (.slice (some ⟨g3, 0, none⟩) 128 C3)).setCell ⟨g3, i, none⟩ (.int .u8 z)).drew (some ⟨g, 0, none⟩) na hs' (ls.set P (xs.set i z)) := by
  have o5 := own_set (k := P) own5 (.slice (some ⟨g3, 0, none⟩) 128 C3)
  have o6 := own_other own6 (p := ⟨g, P, none⟩) (show g3 ≠ g by omega) (.slice (some ⟨g3, 0, none⟩) 128 C3)
  have hlen : hs.length = na := h1.hlen
  obtain ⟨c1, _⟩ := own_cell o5 (k := P) (u := .slice (some ⟨g3, 0, none⟩) 128 C3) (by rw [List.getElem?_set, if_pos rfl, if_pos (by omega)])
  obtain ⟨c2, c3⟩ := own_cell o6 (k := i) (u := .int .u8 (xs.getD i 0)) (by rw [List.getElem?_map, List.getD_eq_getElem?_getD, List.getElem?_eq_getElem (by omega)]; rfl)
  refine ⟨c1, c2, c3, fun z hz => ?_⟩
  have hb : Below w1.heap.size w1 ((w3.setCell ⟨g, P, none⟩ (.slice (some ⟨g3, 0, none⟩) 128 C3)).setCell ⟨g3, i, none⟩ (.int .u8 z)).drew := ((hb3.setCell hg _).setCell (show w1.heap.size ≤ g3 by omega) _).drew
  refine ⟨hb, hs.set P (.slice (some ⟨g3, 0, none⟩) 128 C3), ?_⟩
  have o7 := own_below (own_other o5 (p := ⟨g3, i, none⟩) (show g ≠ g3 by omega) (.int .u8 z)) (Below.refl _ _).drew
  have o8 := own_below (own_set (k := i) o6 (.int .u8 z)) (Below.refl _ _).drew
  obtain ⟨A, c, e1, _, ro, _⟩ := own_form o8
  cases e1
  rw [← List.map_set] at ro
  have hI : Ints .u8 _ (some ⟨g3, 0, none⟩) 128 (xs.set i z) := Ints.ofRow ro (by omega) (fun y hy => by
    rcases List.mem_or_eq_of_mem_set hy with q | rfl
    · exact WalkArith.wf_u8 (hB y q)
    · exact WalkArith.wf_u8 hz)
  obtain ⟨A, c, e2, hS⟩ := own_slab o7 ((h1.each.below hb (Nat.le_refl _)).set P (C := C3) hI) h1.max
  cases e2
  exact hS
set_option maxRecDepth 100000 in
set_option maxHeartbeats 4000000 in
theorem turns_in (w : World) (a : Option Addr) (na ca : Nat) (hs : List Value) (ls : List (List Int)) (P : Nat) (n v : Int) (n0 : 0 ≤ n) (n1 : n ≤ 255) (v0 : 0 ≤ v) (v1 : v ≤ 255) (ha : Slab w a na hs ls) (hG : ¬ Great ls) (hP : P < na) (xs : List Int) (hx : ls[P]? = some xs) (hl : xs.length = 128) :
    Calls Try.prog 8 #[.slice a na ca, .int .i64 P, .int .u8 n, .int .u8 v] w fun e w' => e = .returned (.bool true) ∧ Below w.heap.size w w' := by
  have hm := ha.max
  obtain ⟨hn, _⟩ := not_great ha.len hG
  obtain ⟨i, hi, e⟩ := turns_i n n0 n1
  obtain ⟨i0, hi0, hz0, hz1, hz2⟩ := info_parts byte_info
  obtain ⟨j0, hj0, jz0, jz1, jz2⟩ := info_parts hdr_info
  have cg := fun W (hW : Slab W a na hs ls) => great_calls a na ca hs ls W hW
  rw [decide_eq_false hG] at cg
  have hpn : (P : Int) < (na : Int) := by omega
  have hp0 : (0 : Int) ≤ (P : Int) := by omega
  have hi1 : (i : Int) < 128 := by omega
  have A0 := Lib.hid ha
  clear hG
  go_enter Try.func8, Try.ntmps8
  go_wp2_with fail
  refine (alive_calls _).mono ?_
  rintro e w1 ⟨rfl, hb1⟩
  go_wp2_with fail
  refine (cg _ (ha.below hb1 (Nat.le_refl _))).mono ?_
  rintro e w2 ⟨rfl, rfl⟩
  clear cg
  have h1 := ha.below hb1 (Nat.le_refl _)
  obtain ⟨b, off, A, L, C, zs, rfl, hlt, hhs, hls, hcell, hiz⟩ := h1.at hP
  rw [hx] at hls
  injection hls with hls
  subst hls
  obtain rfl : L = 128 := by rw [← hl]; exact hiz.len.symm
  have hr1 := h1.row
  have hrz := hiz.toRow
  have hgen : ∀ v2 w2, w2.ownsRow w1.heap.size 22 1 v2 (0 + na) ([] ++ hs) → w1.grownBy w2 (Value.slice none 0 0).ownBlock → ∃ g C2, v2 = .slice (some ⟨g, 0, none⟩) na C2 ∧ w1.heap.size ≤ g ∧ g < w2.heap.size ∧ Hid (Below w1.heap.size w1 w2) ∧ Hid (w2.ownsRow w1.heap.size 22 1 (.slice (some ⟨g, 0, none⟩) na C2) na hs) ∧ w2.cell? ⟨b, off + P, none⟩ = some (.slice A 128 C) ∧ Row w2 1 A 128 (xs.map (Value.int .u8)) := by
    intro v2 w2 own2 hg2
    obtain ⟨hb2, own3, hd3⟩ := copied h1 own2 hg2
    obtain ⟨g, C2, cur, rfl, hg, hgl, -, -, -⟩ := own_cells own3 (by omega)
    exact ⟨g, C2, rfl, hg, hgl, hb2, own3, by rw [hb2.cell (p := ⟨b, off + P, none⟩) hlt]; exact hcell, hrz.below hb2 (Nat.le_refl _)⟩
  have hgen2 : ∀ g C2 w2 v3 w3, w1.heap.size ≤ g → g < w2.heap.size → Hid (Below w1.heap.size w1 w2) → Hid (w2.ownsRow w1.heap.size 22 1 (.slice (some ⟨g, 0, none⟩) na C2) na hs) → w3.ownsRow w2.heap.size 5 1 v3 (0 + 128) ([] ++ xs.map (Value.int .u8)) → w2.grownBy w3 (Value.slice none 0 0).ownBlock →
      ∃ g3 C3, v3 = .slice (some ⟨g3, 0, none⟩) 128 C3 ∧ w2.heap.size ≤ g3 ∧ w3.cell? ⟨g, P, none⟩ = some (.slice A 128 C) ∧ w3.frozen? ⟨g, P, none⟩ = false ∧ Hid (w3.ownsRow w1.heap.size 22 1 (.slice (some ⟨g, 0, none⟩) na C2) na hs) ∧ Hid (w3.ownsRow w2.heap.size 5 1 (.slice (some ⟨g3, 0, none⟩) 128 C3) 128 (xs.map (Value.int .u8))) ∧ Hid (Below w1.heap.size w1 w3) := by
    intro g C2 w2 v3 w3 hg hgl hb2 own2 own3 hg3
    have hb3 := (Below.refl w2.heap.size w2).grown hg3 (Nat.le_refl _) (by simp [Value.ownBlock])
    rw [Nat.zero_add, List.nil_append] at own3
    obtain ⟨g3, C3, cur, rfl, hg3', hgl3, -, -, -⟩ := own_cells own3 (by omega)
    have own4 := own_below own2.out hb3
    obtain ⟨c1, c2⟩ := own_cell own4 hhs
    exact ⟨g3, C3, rfl, hg3', c1, c2, own4, own3, hb2.out.trans (hb3.mono hb2.out.size)⟩
  go_wp2_with (first
    | (at_builtin; refine wpList_append_row _ rfl (.const (.slice none 0 0)) (.tmp 42) _ rfl w1.heap.size 22 j0 _ 1 24 Try.underlying27 hj0 jz0 jz1 jz2 rfl (by omega) (.slice none 0 0) 0 [] rfl (World.ownsRow_nil _ _ _ _) _ na ca _ rfl hr1 h1.each.one_cell (by simp only [maxLen]; omega) (by omega) (Nat.le_refl _) ?_; intro v2 w2 own2 hg2 _; obtain ⟨g, C2, rfl, hg, hgl, hb2, own3, hc2, hr2⟩ := hgen v2 w2 own2 hg2; clear own2 hg2)
    | (at_builtin; refine wpList_append_row _ rfl (.const (.slice none 0 0)) (.tmp 49) _ rfl w2.heap.size 5 i0 _ 1 1 Try.underlying22 hi0 hz0 hz1 hz2 rfl (by omega) (.slice none 0 0) 0 [] rfl (World.ownsRow_nil _ _ _ _) A 128 C _ rfl hr2 (by simp [Value.oneCell']) (by simp only [maxLen]; omega) (by omega) (Nat.le_refl _) ?_; intro v3 w3 own4 hg4 _; obtain ⟨g3, C3, rfl, hg3, m1, f1, own5, own6, hb3⟩ := hgen2 g C2 w2 v3 w3 hg hgl hb2 own3 own4 hg4; clear own4 hg4))
  have hBx := bytes_of hiz
  obtain ⟨k1, k2, k3, hfin⟩ := turns_slab own5.out own6.out hb3.out hg (show g < g3 by omega) h1 hP hi hl hBx
  have hxr := xor_xr (getD_in hBx i) ⟨v0, v1⟩
  obtain ⟨hb4, hs', hS⟩ := hfin _ (xr_in (getD_in hBx i) ⟨v0, v1⟩)
  have S := Lib.hid (And.intro hb4 hS)
  have hcode := turns_code hx hl (y := xs.set i (xr (xs.getD i 0) v)) (by rw [List.length_set]; exact hl)
  have FT := Lib.hid (fun j (hj : j < 128) => fold_turn hx hl hBx h1.each.bytes v ⟨v0, v1⟩ hi hj)
  have B1 := foldL_bytes h1.each.bytes
  have BS := hS.each.bytes
  clear hfin hb4 hS own5 own6 hb3 m1 f1 hgen hgen2 h1 hr1 hrz hiz own3 hr2 hc2 hb2 hcell hlt hhs
  generalize World.setCell w3 _ _ = w4 at *
  generalize hxi : xs.getD i 0 = x at *
  generalize xr x v = z at *
  go_region
  generalize World.drew _ = w5 at *
  obtain ⟨hb5, hS⟩ := S.out
  have hl5 := A0.out.below (hb1.trans (hb5.mono hb1.size)) (Nat.le_refl _)
  have hb6 := hb1.trans (hb5.mono hb1.size)
  clear k1 k2 k3 hb5 S
  by_cases hc : code ls = 0
  · go_wp2_with fail
    refine (fold_ok hl5 hc).mono ?_
    rintro e w6 ⟨gx, hgx, rfl, hcx, hb7⟩
    go_wp2_with fail
    refine (fold_ok (hS.below hb7 (Nat.le_refl _)) (by rw [hcode]; exact hc)).mono ?_
    rintro e w7 ⟨gy, hgy, rfl, hcy, hb8⟩
    have ix := Lib.hid ((Ints.ofCells hcx (foldL_len _) (by omega) B1).below hb8 (Nat.le_refl _))
    have iy := Lib.hid (Ints.ofCells hcy (foldL_len _) (by omega) (foldL_bytes BS))
    have hb9 := hb6.trans ((hb7.trans (hb8.mono hb7.size)).mono hb6.size)
    have hxj : ∀ W, Below w7.heap.size w7 W → ∀ j, j < 128 → W.cell? ⟨gx, j, none⟩ = some (.int .u8 ((foldL ls).getD j 0)) := by
      intro W hW j hj
      rcases (ix.out.below hW (Nat.le_refl _)).row with q | ⟨b', off', e, _, hc⟩
      · omega
      · injection e with e; injection e with e1 e2; subst e1; subst e2
        have := hc j hj
        rwa [Nat.zero_add] at this
    have hyj : ∀ W, Below w7.heap.size w7 W → ∀ j, j < 128 → W.cell? ⟨gy, j, none⟩ = some (.int .u8 (if j = i then xr ((foldL ls).getD i 0) v else (foldL ls).getD j 0)) := by
      intro W hW j hj
      rcases (iy.out.below hW (Nat.le_refl _)).row with q | ⟨b', off', e, _, hc⟩
      · omega
      · injection e with e; injection e with e1 e2; subst e1; subst e2
        have := hc j hj
        rwa [Nat.zero_add, FT.out j hj] at this
    have HX := Lib.hid (And.intro hxj hyj)
    have hi0' : (0 : Int) ≤ (i : Int) := by omega
    have hxr2 := xor_xr (getD_in B1 i) ⟨v0, v1⟩
    have HR := Lib.hid hxr2
    clear hxj hyj hS hl5 hcx hcy hb7 hb8 hcode hc B1 BS ix iy FT hxr2 hxr hxi
    go_wp2
    go_loopw [16] (fun s wr => ∃ k : Nat, k ≤ 128 ∧ s = .int .i64 k ∧ Below w7.heap.size w7 wr) (fun s _ => 128 - (intOf s).toNat)
    case atStart => exact ⟨0, by omega, rfl, Below.refl _ _⟩
    case round =>
      obtain ⟨k, hk, rfl, hbk⟩ := hrel
      by_cases hk1 : k < 128
      · have hk0 : (0 : Int) ≤ (k : Int) := by omega
        have hk2 : (k : Int) < 128 := by omega
        by_cases hki : k = i
        · have d0 : ((k : Int) != (i : Int)) = false := by simp; omega
          clear hki
          go_wp2
          go_quiet (fail)
          go_wp2
          go_roundw
          case rel => exact ⟨k + 1, by omega, by go_num, below_drewN hbk _⟩
          case measure => simp [intOf]; omega
        · have d0 : ((k : Int) != (i : Int)) = true := by simp; omega
          have m1 := HX.out.1 wr hbk k hk1
          have m2 := HX.out.2 wr hbk k hk1
          rw [if_neg hki] at m2
          generalize (foldL ls).getD k 0 = y at *
          clear hki
          go_wp2
          go_quiet (fail)
          go_wp2
          go_roundw
          case rel => exact ⟨k + 1, by omega, by go_num, below_drewN hbk _⟩
          case measure => simp [intOf]; omega
      · obtain rfl : k = 128 := by omega
        have m1 := HX.out.1 wr hbk i hi
        have m2 := HX.out.2 wr hbk i hi
        rw [if_pos rfl] at m2
        have hR := HR.out
        generalize (foldL ls).getD i 0 = y at *
        generalize xr y v = y2 at *
        go_wp2
        go_quiet (fail)
        go_wp2
        go_ret
        exact ⟨rfl, hb9.trans ((below_drewN hbk _).mono hb9.size)⟩
  · obtain ⟨-, p1⟩ := code_ne hc
    have hne : (code ls == code ls) = true := by simp
    go_wp2_with fail
    refine (fold_no hl5 hc).mono ?_
    rintro e w6 ⟨rfl, hb7⟩
    go_wp2_with fail
    refine (fold_no (hS.below hb7 (Nat.le_refl _)) (by rw [hcode]; exact hc)).mono ?_
    rintro e w7 ⟨rfl, hb8⟩
    rw [hcode]
    have hb9 := hb6.trans ((hb7.trans (hb8.mono hb7.size)).mono hb6.size)
    clear hS hl5 hc hcode
    go_wp2
    go_ret
    exact ⟨rfl, hb9⟩
theorem foldTurns_walk (w : World) (a : Option Addr) (na ca : Nat) (hs : List Value) (ls : List (List Int)) (ha : Slab w a na hs ls) (hca : na ≤ ca) (p : Int) (wp : (Lit.int .i64 p).wf = true) (n : Int) (wn : (Lit.int .u8 n).wf = true) (v : Int) (wv : (Lit.int .u8 v).wf = true) :
    Calls Try.prog 8 #[.slice a na ca, .int .i64 p, .int .u8 n, .int .u8 v] w fun e w' => e = .returned (.bool true) ∧ Below w.heap.size w w' := by
  obtain ⟨n0, n1⟩ := bounds_u8 wn
  obtain ⟨v0, v1⟩ := bounds_u8 wv
  by_cases h : Great ls ∨ ¬ Great ls ∧ (p < 0 ∨ 0 ≤ p ∧ na ≤ p)
  · exact turns_out w a na ca hs ls p n v n0 n1 ha h
  obtain ⟨hG, hp0, hpn⟩ : ¬ Great ls ∧ 0 ≤ p ∧ p < na := by
    refine ⟨fun g => h (.inl g), ?_⟩
    have h2 : ¬ (p < 0 ∨ 0 ≤ p ∧ na ≤ p) := fun g => h (.inr ⟨fun g => h (.inl g), g⟩)
    omega
  obtain ⟨P, rfl⟩ := Int.eq_ofNat_of_zero_le hp0
  have hP : P < na := by omega
  have hx : ls[P]? = some (ls[P]'(by rw [ha.len]; exact hP)) := List.getElem?_eq_getElem _
  by_cases hl : (ls[P]'(by rw [ha.len]; exact hP)).length = 128
  · exact turns_in w a na ca hs ls P n v n0 n1 v0 v1 ha hG hP _ hx hl
  · exact turns_short w a na ca hs ls P n v n0 n1 ha hG hP _ hx hl

namespace foldTurns
set_option linter.unusedVariables false
set_option maxRecDepth 100000 in
theorem lifted (os : Os) (started : os.Started) (H : Type) (enc : TypeId × Value → H) :
    ReturnsInHanded {} Try.checked os 8 .any (Rows.foldTurnsSpec.pre6 enc Try.prog Try.f8 Rows.foldTurnsRow.domain false) (Rows.foldTurnsSpec.post enc Try.prog Try.f8 false true false false) := by
  refine returnsInHanded_of_change (C := Try.checked) Try.own started (by kernel_rfl) Try.func8
    (ChangeSpec.witness6 (enc := enc) (C := Try.checked) false ⟨#[], #[.slice none 0 0, .int .i64 0, .int .u8 0, .int .u8 0], []⟩ 8 (by kernel_rfl) (by kernel_rfl) (by kernel_rfl) (by kernel_rfl)) ?_
  intro W base args ds gs before hval0 hW hcnd _
  have hval : ∀ (j : Nat) t v, Try.f8.params[j]? = some t → args[j]? = some v → Value.okWide Try.prog W .any base t v := hval0
  have hW' := hW
  obtain ⟨p, q, hA0, hV, rfl, hfz, hnd⟩ := hW
  have hA : DataW.TrodAll enc Try.prog W 0 (fun _ => true) true Try.f8.params.toList args.toList ds p := hA0
  rw [Try.params8] at hA hval
  obtain ⟨v0, vs0, d0, ds0, p0, q0, hargs, rfl, rfl, h0, r0⟩ := trodAll_cons hA
  obtain ⟨v1, vs1, d1, ds1, p1, q1, rfl, rfl, rfl, h1, r1⟩ := trodAll_cons r0
  obtain ⟨v2, vs2, d2, ds2, p2, q2, rfl, rfl, rfl, h2, r2⟩ := trodAll_cons r1
  obtain ⟨v3, vs3, d3, ds3, p3, q3, rfl, rfl, rfl, h3, r3⟩ := trodAll_cons r2
  obtain ⟨rfl, rfl, rfl⟩ := trodAll_nil r3
  obtain rfl : args = #[v0, v1, v2, v3] := by cases args; simp_all
  obtain ⟨rfl, rfl⟩ := trodVars_none hV
  obtain ⟨a0, len0, cap0, rfl⟩ := okWide_slice Try.underlying27 (hval 0 27 v0 rfl rfl)
  have k0 := h0
  have lt0 : ∀ x ∈ p0, x.block < W.heap.size := by obtain ⟨m, hm⟩ := k0; exact DataW.trod_lt m _ _ _ hm
  obtain ⟨s0, z0, w0, c0⟩ : ∃ hs ls, Slab W a0 len0 hs ls ∧ len0 ≤ cap0 := by
    obtain ⟨fuel, hf⟩ := h0
    exact open_slab Try.underlying27 Try.underlying22 Try.underlying5 (by kernel_rfl) (by kernel_rfl) hf
  obtain ⟨a1, rfl, rfl, rfl, w1⟩ := open_int Try.underlying3 (hval 1 3 v1 rfl rfl) h1
  obtain ⟨a2, rfl, rfl, rfl, w2⟩ := open_int Try.underlying5 (hval 2 5 v2 rfl rfl) h2
  obtain ⟨a3, rfl, rfl, rfl, w3⟩ := open_int Try.underlying5 (hval 3 5 v3 rfl rfl) h3
  clear hA0 hval0
  refine (foldTurns_walk W a0 len0 cap0 s0 z0 w0 c0 a1 w1 a2 w2 a3 w3).mono fun e W' ⟨he, bel⟩ => ?_
  subst he
  exact ⟨_, rfl, _, _, _, [], _, [], hW', trodAll_mk1 (shut_bool Try.underlying4 _), (trodAll_cons_mk (Below.trod Try.laidOut (by kernel_rfl) (of_decide_eq_true (by kernel_rfl)) k0 bel lt0) (trodAll_cons_mk (shut_int Try.underlying3 w1) (trodAll_cons_mk (shut_int Try.underlying5 w2) (trodAll_cons_mk (shut_int Try.underlying5 w3) trodAll_mk0)))), rfl, bel.frame _, fun h => by cases h⟩

theorem holds : Rows.FoldTurnsSaid :=
  OpenClaim.holds_of_wide 8 Try.f8 rfl rfl rfl rfl rfl rfl rfl ⟨rfl, rfl, rfl, rfl, rfl⟩ rfl rfl rfl rfl rfl (by kernel_rfl) Try.func8 (by kernel_rfl)
    (of_decide_eq_true (by kernel_rfl)) (by unfold Func.isWrapper; first | (rw [if_pos (by decide +kernel)]; kernel_rfl) | (rw [if_neg (by decide +kernel)]; exact ⟨rfl, rfl⟩))
    (fun os started H enc _ => lifted os started H enc)
end foldTurns
end Go.Proofs.Ytdoafdgikmloiaa
