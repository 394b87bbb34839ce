/- The walks of the reference's SameDisks, Great and Long. -/
import Derived.Test.YtldgpkaecfgagaaActA
import Derived.Test.YtldgpkaecfgagaaRefDD
import Derived.Test.YtldgpkaecfgagaaRefDF
namespace Go.Proofs.Ytldgpkaecfgagaa
open Go.RowKit PolyM PackM FoldM DevM

/-- Two lists of devices read alike. -/
def SameL (xs ys : List Dev) : Prop := xs.length = ys.length ∧ ∀ (i : Nat) (a b : Dev), xs[i]? = some a → ys[i]? = some b → SmallD a ∧ SmallD b ∧ SameD a b
theorem SameL.refl {ds : List Dev} (h : ∀ d ∈ ds, SmallD d) : SameL ds ds := ⟨rfl, fun i a b ha hb => by
  rw [ha] at hb
  obtain rfl := Option.some.inj hb
  have := h a (List.mem_of_getElem? ha)
  exact ⟨this, this, SameD.refl a⟩⟩
theorem may_smallD {d : Dev} (h : MayD d) : SmallD d := by
  obtain ⟨_, _, h1, h2⟩ := may_small h
  exact ⟨fun b hb => Nat.le_trans (h1 b hb) (by omega), fun x hx => Nat.le_trans (h2 x hx) (by omega)⟩
set_option maxRecDepth 100000 in
set_option maxHeartbeats 4000000 in
theorem samedisks_calls (a a' : Option Addr) (n c n' c' : Nat) (hs hs' : List Value) (ds ds' : List Dev) (w : World) (h : DSlab w a n hs ds) (g : DSlab w a' n' hs' ds') (hS : SameL ds ds') :
    Calls Try.prog 47 #[.slice a n c, .slice a' n' c'] w fun e w' => e = .returned (.bool true) ∧ Below w.heap.size w w' := by
  have hl := h.len
  have hl' := g.len
  obtain rfl : n = n' := by rw [← hl, ← hl']; exact hS.1
  have hm := h.max
  have H := Lib.hid h
  have G := Lib.hid g
  have HS := Lib.hid hS
  clear h g hS hl hl'
  go_enter Try.func47, Try.ntmps47
  go_wp2
  go_loopw [5] (fun i wr => ∃ k : Nat, k ≤ n ∧ i = .int .i64 k ∧ Below w.heap.size w wr) (fun i _ => n - (intOf i).toNat)
  case atStart => exact ⟨0, by omega, rfl, Below.refl _ _⟩
  case round =>
    obtain ⟨k, hk, rfl, hB⟩ := hrel
    by_cases hkn : k < n
    · obtain ⟨b, off, A, l, C, B, m, D, d, rfl, hd, hlt, q0, q1, q2, hv⟩ := H.out.at hkn
      obtain ⟨b', off', A', l', C', B', m', D', d', rfl, hd', hlt', q0', q1', q2', hv'⟩ := G.out.at hkn
      obtain ⟨sa, sb, sd⟩ := HS.out.2 k d d' hd hd'
      have hkn1 : (k : Int) < (n : Int) := by omega
      have cc := fun W (hW : Below w.heap.size w W) => refsame_calls _ _ d d' W (hv.below hW (Nat.le_refl _)) (hv'.below hW (Nat.le_refl _)) sa sb
      rw [decide_eq_true sd] at cc
      have HK : Hid (∀ W, Below w.heap.size w W → W.cell? ⟨b, off + k * 3, none⟩ = some (.slice A l C) ∧ W.cell? ⟨b, off + k * 3 + 1, none⟩ = some (.slice B m D) ∧ W.cell? ⟨b, off + k * 3 + 2, none⟩ = some (.bool d.dead) ∧ W.cell? ⟨b', off' + k * 3, none⟩ = some (.slice A' l' C') ∧ W.cell? ⟨b', off' + k * 3 + 1, none⟩ = some (.slice B' m' D') ∧ W.cell? ⟨b', off' + k * 3 + 2, none⟩ = some (.bool d'.dead)) := Lib.hid fun W hW => ⟨(hW.cell (p := ⟨b, off + k * 3, none⟩) hlt).trans q0, (hW.cell (p := ⟨b, off + k * 3 + 1, none⟩) hlt).trans q1, (hW.cell (p := ⟨b, off + k * 3 + 2, none⟩) hlt).trans q2, (hW.cell (p := ⟨b', off' + k * 3, none⟩) hlt').trans q0', (hW.cell (p := ⟨b', off' + k * 3 + 1, none⟩) hlt').trans q1', (hW.cell (p := ⟨b', off' + k * 3 + 2, none⟩) hlt').trans q2'⟩
      clear hd hd' hv hv' sa sb sd q0 q1 q2 q0' q1' q2' H G HS
      generalize d.dead = dd at *
      generalize d'.dead = dd' at *
      go_wp2
      refine wp_region_held_drew (S := (fun W => W.cell? ⟨b, off + k * 3, none⟩ = some (.slice A l C) ∧ W.cell? ⟨b, off + k * 3 + 1, none⟩ = some (.slice B m D) ∧ W.cell? ⟨b, off + k * 3 + 2, none⟩ = some (.bool dd) ∧ W.cell? ⟨b', off' + k * 3, none⟩ = some (.slice A' l' C') ∧ W.cell? ⟨b', off' + k * 3 + 1, none⟩ = some (.slice B' m' D') ∧ W.cell? ⟨b', off' + k * 3 + 2, none⟩ = some (.bool dd'))) (by kernel_rfl) ?_ (fun hHeld => ?_)
      · first | exact hHeld | exact HK.out _ hB9 | exact HK.out _ (hB.trans ((Below.refl _ _).drew.mono hB.size))
      refine wpAnyH_take (i := 0) (v := ?_) rfl (by kernel_rfl) (by kernel_rfl) (by kernel_rfl) (fun _ _ _ h => h) (Or.inl ⟨by rfl, ?_⟩) hHeld ?_
      rotate_left
      · (intro w hSw; (try dsimp only at hSw); go_simp; try with_reducible rfl)
      try simp only [Act.put, List.getElem_toArray, List.getElem_cons_zero, List.setIfInBounds_toArray, List.set_cons_zero, List.set_cons_succ]
      refine wpAnyH_take (i := 1) (v := ?_) rfl (by kernel_rfl) (by kernel_rfl) (by kernel_rfl) (fun _ _ _ h => h) (Or.inl ⟨by rfl, ?_⟩) hHeld ?_
      rotate_left
      · (intro w hSw; (try dsimp only at hSw); go_simp; try with_reducible rfl)
      try simp only [Act.put, List.getElem_toArray, List.getElem_cons_zero, List.getElem_cons_succ, List.setIfInBounds_toArray, List.set_cons_zero, List.set_cons_succ]
      refine wpAnyH_take (i := 2) (v := ?_) rfl (by kernel_rfl) (by kernel_rfl) (by kernel_rfl) (fun _ _ _ h => h) (Or.inl ⟨by rfl, ?_⟩) hHeld ?_
      rotate_left
      · (intro w hSw; (try dsimp only at hSw); go_simp; try with_reducible rfl)
      try simp only [Act.put, List.getElem_toArray, List.getElem_cons_zero, List.getElem_cons_succ, List.setIfInBounds_toArray, List.set_cons_zero, List.set_cons_succ]
      refine wpAnyH_take (i := 3) (v := ?_) rfl (by kernel_rfl) (by kernel_rfl) (by kernel_rfl) (fun _ _ _ h => h) (Or.inl ⟨by rfl, ?_⟩) hHeld ?_
      rotate_left
      · (intro w hSw; (try dsimp only at hSw); go_simp; try with_reducible rfl)
      try simp only [Act.put, List.getElem_toArray, List.getElem_cons_zero, List.getElem_cons_succ, List.setIfInBounds_toArray, List.set_cons_zero, List.set_cons_succ]
      refine wpAnyH_take (i := 4) (v := ?_) rfl (by kernel_rfl) (by kernel_rfl) (by kernel_rfl) (fun _ _ _ h => h) (Or.inl ⟨by rfl, ?_⟩) hHeld ?_
      rotate_left
      · (intro w hSw; (try dsimp only at hSw); go_simp; try with_reducible rfl)
      try simp only [Act.put, List.getElem_toArray, List.getElem_cons_zero, List.getElem_cons_succ, List.setIfInBounds_toArray, List.set_cons_zero, List.set_cons_succ]
      refine wpAnyH_take (i := 5) (v := ?_) rfl (by kernel_rfl) (by kernel_rfl) (by kernel_rfl) (fun _ _ _ h => h) (Or.inl ⟨by rfl, ?_⟩) hHeld ?_
      rotate_left
      · (intro w hSw; (try dsimp only at hSw); go_simp; try with_reducible rfl)
      try simp only [Act.put, List.getElem_toArray, List.getElem_cons_zero, List.getElem_cons_succ, List.setIfInBounds_toArray, List.set_cons_zero, List.set_cons_succ]
      refine wpAnyH_take (i := 6) (v := ?_) rfl (by kernel_rfl) (by kernel_rfl) (by kernel_rfl) (fun _ _ _ h => h) (Or.inl ⟨by rfl, ?_⟩) hHeld ?_
      rotate_left
      · (intro w hSw; (try dsimp only at hSw); go_simp; try with_reducible rfl)
      try simp only [Act.put, List.getElem_toArray, List.getElem_cons_zero, List.getElem_cons_succ, List.setIfInBounds_toArray, List.set_cons_zero, List.set_cons_succ]
      refine wpAnyH_take (i := 7) (v := ?_) rfl (by kernel_rfl) (by kernel_rfl) (by kernel_rfl) (fun _ _ _ h => h) (Or.inl ⟨by rfl, ?_⟩) hHeld ?_
      rotate_left
      · (intro w hSw; (try dsimp only at hSw); go_simp; try with_reducible rfl)
      try simp only [Act.put, List.getElem_toArray, List.getElem_cons_zero, List.getElem_cons_succ, List.setIfInBounds_toArray, List.set_cons_zero, List.set_cons_succ]
      refine wpAnyH_ready (rs := [8]) (by kernel_rfl) (by simp) ?_
      refine AllReadyH.cons rfl (fun K hK => ?_) AllReadyH.nil
      go_simp
      (with_reducible refine (cc _ (hB.trans ((Below.refl _ _).drew.mono hB.size))).mono ?_)
      rintro e w9 ⟨rfl, hb9⟩
      have hB9 := (hB.trans ((Below.refl _ _).drew.mono hB.size)).trans (hb9.mono (hB.trans ((Below.refl _ _).drew.mono hB.size)).size)
      clear hb9
      go_wp2_with fail
      refine hK.out _ _ ?_ (fun hHeld2 => ?_)
      · first | exact hHeld | exact HK.out _ hB9 | exact HK.out _ (hB.trans ((Below.refl _ _).drew.mono hB.size))
      clear hK K hHeld
      have hHeld := hHeld2
      clear hHeld2
      try simp only [Act.put, List.setIfInBounds_toArray, List.set_cons_zero, List.set_cons_succ]
      refine wpAnyH_take (i := 9) (v := ?_) rfl (by kernel_rfl) (by kernel_rfl) (by kernel_rfl) (fun _ _ _ h => h) (Or.inl ⟨by rfl, ?_⟩) hHeld ?_
      rotate_left
      · (intro w hSw; (try dsimp only at hSw); go_simp; try with_reducible rfl)
      try simp only [Act.put, List.getElem_toArray, List.getElem_cons_zero, List.getElem_cons_succ, List.setIfInBounds_toArray, List.set_cons_zero, List.set_cons_succ]
      refine wpAnyH_done (by kernel_rfl) ?_ _
      clear hHeld HK cc
      go_wp2_with fail
      go_roundw
      case rel => exact ⟨k + 1, by omega, by go_num, hB9⟩
      case measure => simp [intOf]; omega
    · obtain rfl : n = k := by omega
      go_wp2
      go_ret
      exact ⟨rfl, hB⟩

/-- Whether devices are more than is gone through: where it tells no, each is small. -/
def GreatR (ds : List Dev) (r : Bool) : Prop := r = false → (∀ d ∈ ds, ¬ GreatD d) ∧ ds.length ≤ 30
set_option maxRecDepth 100000 in
set_option maxHeartbeats 4000000 in
theorem great5_calls (a : Option Addr) (n c : Nat) (hs : List Value) (ds : List Dev) (w : World) (h : DSlab w a n hs ds) :
    Calls Try.prog 49 #[.slice a n c] w fun e w' => (∃ r, e = .returned (.bool r) ∧ GreatR ds r) ∧ Below w.heap.size w w' := by
  have hl := Lib.hid h.len
  have hm := h.max
  have H := Lib.hid h
  clear h
  go_enter Try.func49, Try.ntmps49
  go_wp2
  go_loopw [3, 4] (fun s i wr => ∃ (k : Nat) (z : Int), k ≤ n ∧ k ≤ 30 ∧ i = .int .i64 k ∧ s = .int .i64 z ∧ Hid (∀ d ∈ ds.take k, ¬ GreatD d) ∧ Below w.heap.size w wr) (fun _ i _ => n - (intOf i).toNat)
  case atStart => exact ⟨0, 0, by omega, by omega, rfl, rfl, Lib.hid (by simp), Below.refl _ _⟩
  case round =>
    obtain ⟨k, z, hk, hk30, rfl, rfl, hP, hB⟩ := hrel
    by_cases hkn : k < n
    · have hkn1 : (k : Int) < (n : Int) := by omega
      by_cases h30 : k < 30
      · have d30 : decide ((k : Int) < 30) = true := decide_eq_true (by omega)
        obtain ⟨b, off, A, l, C, B, m, D, d, rfl, hd, hlt, q0, q1, q2, hv⟩ := H.out.at hkn
        have c0 := (hB.cell (p := ⟨b, off + k * 3, none⟩) hlt).trans q0
        have c1 := (hB.cell (p := ⟨b, off + k * 3 + 1, none⟩) hlt).trans q1
        have c2 := (hB.cell (p := ⟨b, off + k * 3 + 2, none⟩) hlt).trans q2
        have cc := great_calls _ d wr (hv.below hB (Nat.le_refl _))
        by_cases hG : GreatD d
        · rw [decide_eq_true hG] at cc
          clear hv hd hG hP
          generalize d.dead = dd at *
          go_wp2_with fail
          (with_reducible refine cc.mono ?_)
          rintro e w2 ⟨rfl, hb2⟩
          have hB2 := hB.trans (hb2.mono hB.size)
          clear cc hb2 c0 c1 c2
          go_wp2
          go_ret
          exact ⟨⟨true, rfl, fun q => by cases q⟩, hB2⟩
        · rw [decide_eq_false hG] at cc
          have hP' := Lib.hid (show ∀ x ∈ ds.take (k + 1), ¬ GreatD x by
            intro x hx
            rw [take_snocL hd] at hx
            rcases List.mem_append.1 hx with p | p
            · exact hP.out x p
            · rw [List.mem_singleton.1 p]; exact hG)
          have HV := Lib.hid hv
          have HQ := Lib.hid (And.intro q0 (And.intro q1 q2))
          obtain ⟨_, _, _, hsB, _, _, _, htB, eV, hSl, hWs⟩ := hv
          simp only [Value.agg.injEq, Array.mk.injEq, List.cons.injEq, Value.slice.injEq, and_true] at eV
          obtain ⟨⟨rfl, rfl, rfl⟩, rfl, rfl, rfl⟩ := eV
          have hSm := hSl.max
          have hWm := hWs.max
          have HSl := Lib.hid hSl
          have HWs := Lib.hid hWs
          clear hd hG hP q0 q1 q2 HV hSl hWs
          generalize d.dead = dd at *
          go_wp2_with fail
          (with_reducible refine cc.mono ?_)
          rintro e w2 ⟨rfl, hb2⟩
          have hB2 := hB.trans (hb2.mono hB.size)
          clear cc hb2 c0 c1 c2
          obtain ⟨wo, rfl⟩ : ∃ x : World, x = wr := ⟨_, rfl⟩
          go_wp2
          go_loopw [3, 5] (fun s i wr => ∃ (j : Nat) (z : Int), j ≤ l ∧ i = .int .i64 j ∧ s = .int .i64 z ∧ Below w.heap.size w wr) (fun _ i _ => l - (intOf i).toNat)
          case atStart => exact ⟨0, z, by omega, rfl, rfl, hB2⟩
          case round =>
            obtain ⟨j, z1, hj, rfl, rfl, hB3⟩ := hrel
            clear hB2
            have c0 := (hB3.cell (p := ⟨b, off + k * 3, none⟩) hlt).trans HQ.out.1
            by_cases hjl : j < l
            · have hjl1 : (j : Int) < (l : Int) := by omega
              obtain ⟨b5, off5, A5, L5, C5, zs5, rfl, hlt5, _, hls5, hc5, hz5⟩ := HSl.out.at hjl
              have c5 := (hB3.cell (p := ⟨b5, off5 + j, none⟩) hlt5).trans hc5
              have hL5 := hz5.max
              clear hls5 hc5 hz5
              go_wp2
              go_roundw
              case rel => exact ⟨j + 1, _, by omega, by go_num, rfl, hB3⟩
              case measure => simp [intOf]; omega
            · obtain rfl : l = j := by omega
              obtain ⟨wo2, rfl⟩ : ∃ x : World, x = wr := ⟨_, rfl⟩
              go_wp2
              clear c0
              go_loopw [3, 6] (fun s i wr => ∃ (j : Nat) (z : Int), j ≤ m ∧ i = .int .i64 j ∧ s = .int .i64 z ∧ Below w.heap.size w wr) (fun _ i _ => m - (intOf i).toNat)
              case atStart => exact ⟨0, z1, by omega, rfl, rfl, hB3⟩
              case round =>
                obtain ⟨j, z2, hj, rfl, rfl, hB4⟩ := hrel
                clear hB3
                have c1 := (hB4.cell (p := ⟨b, off + k * 3 + 1, none⟩) hlt).trans HQ.out.2.1
                by_cases hjl : j < m
                · have hjl1 : (j : Int) < (m : Int) := by omega
                  obtain ⟨b5, off5, A5, L5, C5, x5, rfl, hlt5, hls5, hc0, hc5, hwf, hz5, _⟩ := HWs.out.at hjl
                  have c5 := (hB4.cell (p := ⟨b5, off5 + j * 2 + 1, none⟩) hlt5).trans hc5
                  have hL5 := hz5.max
                  clear hls5 hc5 hz5 hc0 hwf
                  go_wp2
                  go_roundw
                  case rel => exact ⟨j + 1, _, by omega, by go_num, rfl, hB4⟩
                  case measure => simp [intOf]; omega
                · obtain rfl : m = j := by omega
                  by_cases h6 : (60000 : Int) < z2
                  · have d6 : decide ((60000 : Int) < z2) = true := decide_eq_true h6
                    go_wp2
                    go_ret
                    exact ⟨⟨true, rfl, fun q => by cases q⟩, hB4⟩
                  · have d6 : decide ((60000 : Int) < z2) = false := decide_eq_false h6
                    go_wp2
                    go_roundw
                    case rel => exact ⟨k + 1, z2, by omega, by omega, by go_num, rfl, hP', hB4⟩
                    case measure => simp [intOf]; omega
      · obtain rfl : k = 30 := by omega
        have d31 : decide ((30 : Int) < (n : Int)) = true := decide_eq_true (by omega)
        clear hP
        go_wp2
        go_ret
        exact ⟨⟨true, rfl, fun q => by cases q⟩, hB⟩
    · obtain rfl : n = k := by omega
      have d31 : decide ((30 : Int) < (n : Int)) = false := decide_eq_false (by omega)
      have hR := Lib.hid (show GreatR ds false from fun _ => ⟨fun d hd => hP.out d (by rw [List.take_of_length_le (by have := hl.out; omega)]; exact hd), by have := hl.out; omega⟩)
      clear hP
      go_wp2
      go_ret
      exact ⟨⟨false, rfl, hR.out⟩, hB⟩

set_option maxRecDepth 100000 in
set_option maxHeartbeats 4000000 in
theorem long5_calls (a : Option Addr) (n c : Nat) (hs : List Value) (ls : List Act5) (w : World) (h : ASlab w a n hs ls) :
    Calls Try.prog 50 #[.slice a n c] w fun e w' => (∃ r, e = .returned (.bool r) ∧ (r = false → n ≤ 1100)) ∧ Below w.heap.size w w' := by
  have hm := h.max
  have H := Lib.hid h
  clear h
  go_enter Try.func50, Try.ntmps50
  go_wp2
  go_loopw [3, 4] (fun s i wr => ∃ (k : Nat) (z : Int), k ≤ n ∧ k ≤ 1200 ∧ i = .int .i64 k ∧ s = .int .i64 z ∧ Below w.heap.size w wr) (fun _ i _ => n - (intOf i).toNat)
  case atStart => exact ⟨0, 0, by omega, by omega, rfl, rfl, Below.refl _ _⟩
  case round =>
    obtain ⟨k, z, hk, hk2, rfl, rfl, hB⟩ := hrel
    have fin : (n ≤ k ∨ k = 1200) → k < n → k = 1200 := by omega
    by_cases hkn : k < n
    · have hkn1 : (k : Int) < (n : Int) := by omega
      by_cases h12 : k < 1200
      · have d12 : decide ((k : Int) < 1200) = true := decide_eq_true (by omega)
        obtain ⟨b, off, A, L, C, x, rfl, hx, hlt, q0, q1, q2, q3, hok⟩ := H.out.at hkn
        have c3 := (hB.cell (p := ⟨b, off + k * 4 + 3, none⟩) hlt).trans q3
        have hL := hok.bytes.max
        clear hok hx q0 q1 q2 q3 fin
        go_wp2
        go_roundw
        case rel => exact ⟨k + 1, _, by omega, by omega, by go_num, rfl, hB⟩
        case measure => simp [intOf]; omega
      · obtain rfl : k = 1200 := by omega
        have d11 : decide ((1100 : Int) < (n : Int)) = true := decide_eq_true (by omega)
        clear fin
        go_wp2
        go_ret
        exact ⟨⟨true, rfl, fun q => by cases q⟩, hB⟩
    · obtain rfl : n = k := by omega
      clear fin
      by_cases h11 : 1100 < n
      · have d11 : decide ((1100 : Int) < (n : Int)) = true := decide_eq_true (by omega)
        go_wp2
        go_ret
        exact ⟨⟨true, rfl, fun q => by cases q⟩, hB⟩
      · have d11 : decide ((1100 : Int) < (n : Int)) = false := decide_eq_false (by omega)
        go_wp2
        go_ret
        exact ⟨⟨_, rfl, fun _ => by omega⟩, hB⟩
end Go.Proofs.Ytldgpkaecfgagaa
