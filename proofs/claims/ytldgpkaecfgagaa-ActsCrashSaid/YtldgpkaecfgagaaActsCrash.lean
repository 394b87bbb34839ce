/- freeboardlaw05.ActsCrash: for every input the law answers true, and what is handed in reads as it did. Conditions: none. -/
import Derived.Test.YtldgpkaecfgagaaActOpen
import Derived.Test.YtldgpkaecfgagaaRefEE
namespace Go.Proofs.Ytldgpkaecfgagaa
open Go.ChangeShapes Go.WideShapes Go.ChangeAt Go.RowKit PolyM PackM FoldM DevM
theorem DevsN.after {K : Nat} {w w' : World} {v : Value} {ds : List Dev} (h : DevsN K w v ds) (hb : Below w.heap.size w w') : DevsN K w' v ds := by
  rcases h with ⟨rfl, rfl⟩ | ⟨g, n, C, hs, rfl, hO, hl, hn⟩
  · exact .inl ⟨rfl, rfl⟩
  · exact .inr ⟨g, n, C, hs, rfl, hO.below hb, hl, hn⟩

set_option maxHeartbeats 16000000 in
set_option maxRecDepth 100000 in
theorem actsCrash_walk (w : World) (a : Option Addr) (n c : Nat) (hs : List Value) (ds : List Dev) (hv : DSlab w a n hs ds) (_hc : n ≤ c) (aK : Option Addr) (nK cK : Nat) (bs : List Bool) (hk : Row w 1 aK nK (bs.map Value.bool)) (hcK : nK ≤ cK) (hmK : nK ≤ 9223372036854775807) :
    Calls Try.prog 11 #[.slice a n c, .slice aK nK cK] w fun e w' => e = .returned (.bool true) ∧ Below w.heap.size w w' := by
  have hl0 := Lib.hid hv.len
  have hm0 := hv.max
  go_enter Try.func11, Try.ntmps11
  have hB := Below.refl w.heap.size w
  go_wp2_with fail
  (with_reducible refine (great5_calls _ _ _ _ _ _ hv).mono ?_)
  rintro e w2 ⟨⟨r, rfl, hR⟩, hb⟩
  replace hv := hv.below hb (Nat.le_refl _)
  replace hk := hk.below hb (Nat.le_refl _)
  replace hB := hB.trans (hb.mono hB.size)
  clear hb
  rcases r with _ | _
  case true =>
    clear hR
    go_wp2
    go_ret
    exact ⟨rfl, hB⟩
  have HR := Lib.hid (hR rfl)
  clear hR
  by_cases h3 : 30000 < nK
  · have d1 : decide ((30000 : Int) < (nK : Int)) = true := decide_eq_true (by omega)
    go_wp2
    go_ret
    exact ⟨rfl, hB⟩
  have d1 : decide ((30000 : Int) < (nK : Int)) = false := decide_eq_false (by omega)
  have cT := fun W (h : DSlab W a n hs ds) => reftwins_calls a n c hs ds W h (by have := HR.out.2; have := hl0.out; omega) HR.out.1
  have cC := fun W a1 c1 hs1 (h : DSlab W a1 n hs1 ds) (hk : Row W 1 aK nK (bs.map Value.bool)) => crash_calls a1 n c1 hs1 ds aK nK cK bs W h hk hcK hmK
  have cX := fun W (h : DSlab W a n hs ds) (hk : Row W 1 aK nK (bs.map Value.bool)) => refcrash_calls a n c hs ds aK nK cK bs W h hk (by omega)
  have cW := fun W a1 c1 hs1 (h : DSlab W a1 n hs1 ds) => actwaits_calls a1 n c1 hs1 ds W h
  have cV := fun W (h : DSlab W a n hs ds) => refwaits_calls a n c hs ds W h
  have hSS := same_crashR ds bs
  generalize crashR ds bs = rl at *
  generalize cutR ds bs = xl at *
  generalize crashE ds bs = er at *
  generalize (if MayL ds then manyL ds else 0 : Nat) = mm at *
  generalize chkL ds = er2 at *
  have SD := Lib.hid (fun d hd => small_of (HR.out.1 d hd))
  have SO := Lib.hid (SameL.refl (ds := ds) fun d hd => small_of (HR.out.1 d hd))
  have SS := Lib.hid hSS
  clear hSS HR
  go_wp2_with fail
  (with_reducible refine (cT _ hv).mono ?_)
  rintro e w3 ⟨a1, C1, hs1, rfl, hO, hb⟩
  replace hv := hv.below hb (Nat.le_refl _)
  replace hk := hk.below hb (Nat.le_refl _)
  replace hB := hB.trans (hb.mono hB.size)
  clear hb cT
  have HV := Lib.hid hv
  have HO := Lib.hid hO
  have HKM := Lib.hid hk
  clear hv hO hk
  go_wp2_with fail
  (with_reducible refine (cC _ _ _ _ HO.out HKM.out).mono ?_)
  rintro e w4 ⟨va, rfl, hD, hK⟩
  clear cC
  obtain ⟨a3, n3, C3, hs3, rfl, -⟩ := hD.slab
  go_wp2_with fail
  (with_reducible refine (cX _ (HV.out.below hK (Nat.le_refl _)) (HKM.out.below hK (Nat.le_refl _))).mono ?_)
  rintro e w5 ⟨a2, n2, C2, hs2, rfl, hX, hb⟩
  replace hD := hD.after hb
  replace hK := hK.trans (hb.mono hK.size)
  clear hb cX
  go_wp2_with fail
  (with_reducible refine (cW _ _ _ _ (HO.out.below hK (Nat.le_refl _))).mono ?_)
  rintro e w6 ⟨rfl, hb⟩
  replace hD := hD.after hb
  replace hX := hX.below hb (Nat.le_refl _)
  replace hK := hK.trans (hb.mono hK.size)
  clear hb cW
  go_wp2_with fail
  (with_reducible refine (cV _ (HV.out.below hK (Nat.le_refl _))).mono ?_)
  rintro e w7 ⟨rfl, hb⟩
  replace hD := hD.after hb
  replace hX := hX.below hb (Nat.le_refl _)
  replace hK := hK.trans (hb.mono hK.size)
  clear hb cV
  obtain ⟨a3', n3', C3', hs3', e3, hS3⟩ := hD.slab
  cases e3
  have hm3 := hS3.max
  go_wp2_with fail
  (with_reducible refine (samedisks_calls _ _ _ _ _ _ _ _ _ _ _ hS3 hX SS.out).mono ?_)
  rintro e w8 ⟨rfl, hb⟩
  replace hD := hD.after hb
  replace hK := hK.trans (hb.mono hK.size)
  clear hb hS3 hX SS
  go_wp2_with fail
  (with_reducible refine (spoils_calls _ _ _ _ hD hK.size).mono ?_)
  rintro e w9 ⟨rfl, hb⟩
  replace hK := hK.trans hb
  have HB := Lib.hid hB
  have HKK := Lib.hid hK
  clear hb hD hK hB
  go_wp2_with fail
  go_loopw [14, 15] (fun ov iv wr => ∃ i : Nat, i ≤ n3 ∧ iv = .int .i64 i ∧ ov = .bool true ∧ Below w3.heap.size w3 wr) (fun _ iv _ => n3 - (intOf iv).toNat)
  case atStart => exact ⟨0, by omega, rfl, rfl, HKK.out⟩
  case round =>
    obtain ⟨i, hi, rfl, rfl, hK⟩ := hrel
    clear HKK
    by_cases hin : i < n3 ∧ i < n
    · obtain ⟨hi3, hin⟩ := hin
      obtain ⟨b1, o1, A, l, C, B, m, D, d, rfl, hd, hlt1, q0, q1, q2, hvd⟩ := HO.out.at hin
      obtain ⟨b2, o2, A', l', C', B', m', D', d', rfl, hd', hlt2, p0, p1, p2, hvd'⟩ := HV.out.at hin
      rw [hd] at hd'
      obtain rfl := Option.some.inj hd'
      have hi31 : (i : Int) < (n3 : Int) := by omega
      have hin1 : (i : Int) < (n : Int) := by omega
      have sd := SD.out d (List.mem_of_getElem? hd)
      have cs := fun W (hW : Below wr.heap.size wr W) => refsame_calls _ _ d d W (hvd.below (hK.trans (hW.mono hK.size)) (Nat.le_refl _)) (hvd'.below (hK.trans (hW.mono hK.size)) (Nat.le_refl _)) sd sd
      rw [decide_eq_true (SameD.refl d)] at cs
      have HK0 := Lib.hid hK
      clear hvd hvd' sd hd hd'
      generalize d.dead = dd at *
      have HK : Hid (∀ W, Below wr.heap.size wr W → W.cell? ⟨b1, o1 + i * 3, none⟩ = some (.slice A l C) ∧ W.cell? ⟨b1, o1 + i * 3 + 1, none⟩ = some (.slice B m D) ∧ W.cell? ⟨b1, o1 + i * 3 + 2, none⟩ = some (.bool dd) ∧ W.cell? ⟨b2, o2 + i * 3, none⟩ = some (.slice A' l' C') ∧ W.cell? ⟨b2, o2 + i * 3 + 1, none⟩ = some (.slice B' m' D') ∧ W.cell? ⟨b2, o2 + i * 3 + 2, none⟩ = some (.bool dd)) := Lib.hid fun W hW => by
        have t := hK.trans (hW.mono hK.size)
        exact ⟨(t.cell (p := ⟨b1, o1 + i * 3, none⟩) hlt1).trans q0, (t.cell (p := ⟨b1, o1 + i * 3 + 1, none⟩) hlt1).trans q1, (t.cell (p := ⟨b1, o1 + i * 3 + 2, none⟩) hlt1).trans q2, (t.cell (p := ⟨b2, o2 + i * 3, none⟩) hlt2).trans p0, (t.cell (p := ⟨b2, o2 + i * 3 + 1, none⟩) hlt2).trans p1, (t.cell (p := ⟨b2, o2 + i * 3 + 2, none⟩) hlt2).trans p2⟩
      clear hK q0 q1 q2 p0 p1 p2 hlt1 hlt2
      go_upto_region 13 with fail
      refine wp_region_held_drew (S := (fun W => W.cell? ⟨b1, o1 + i * 3, none⟩ = some (.slice A l C) ∧ W.cell? ⟨b1, o1 + i * 3 + 1, none⟩ = some (.slice B m D) ∧ W.cell? ⟨b1, o1 + i * 3 + 2, none⟩ = some (.bool dd) ∧ W.cell? ⟨b2, o2 + i * 3, none⟩ = some (.slice A' l' C') ∧ W.cell? ⟨b2, o2 + i * 3 + 1, none⟩ = some (.slice B' m' D') ∧ W.cell? ⟨b2, o2 + i * 3 + 2, none⟩ = some (.bool dd))) (by kernel_rfl) ?_ (fun hHeld => ?_)
      · exact HK.out _ ((Below.refl _ _).drew)
      refine wpAnyH_take (i := 0) (v := ?_) rfl (by kernel_rfl) (by kernel_rfl) (by kernel_rfl) (fun _ _ _ h => h) (Or.inl ⟨by rfl, ?_⟩) hHeld ?_
      rotate_left
      · (intro w hSw; (try dsimp only at hSw); go_simp; try with_reducible rfl)
      try simp only [Act.put, List.getElem_toArray, List.getElem_cons_zero, List.getElem_cons_succ, List.setIfInBounds_toArray, List.set_cons_zero, List.set_cons_succ]
      refine wpAnyH_take (i := 1) (v := ?_) rfl (by kernel_rfl) (by kernel_rfl) (by kernel_rfl) (fun _ _ _ h => h) (Or.inl ⟨by rfl, ?_⟩) hHeld ?_
      rotate_left
      · (intro w hSw; (try dsimp only at hSw); go_simp; try with_reducible rfl)
      try simp only [Act.put, List.getElem_toArray, List.getElem_cons_zero, List.getElem_cons_succ, List.setIfInBounds_toArray, List.set_cons_zero, List.set_cons_succ]
      refine wpAnyH_take (i := 2) (v := ?_) rfl (by kernel_rfl) (by kernel_rfl) (by kernel_rfl) (fun _ _ _ h => h) (Or.inl ⟨by rfl, ?_⟩) hHeld ?_
      rotate_left
      · (intro w hSw; (try dsimp only at hSw); go_simp; try with_reducible rfl)
      try simp only [Act.put, List.getElem_toArray, List.getElem_cons_zero, List.getElem_cons_succ, List.setIfInBounds_toArray, List.set_cons_zero, List.set_cons_succ]
      refine wpAnyH_take (i := 3) (v := ?_) rfl (by kernel_rfl) (by kernel_rfl) (by kernel_rfl) (fun _ _ _ h => h) (Or.inl ⟨by rfl, ?_⟩) hHeld ?_
      rotate_left
      · (intro w hSw; (try dsimp only at hSw); go_simp; try with_reducible rfl)
      try simp only [Act.put, List.getElem_toArray, List.getElem_cons_zero, List.getElem_cons_succ, List.setIfInBounds_toArray, List.set_cons_zero, List.set_cons_succ]
      refine wpAnyH_take (i := 4) (v := ?_) rfl (by kernel_rfl) (by kernel_rfl) (by kernel_rfl) (fun _ _ _ h => h) (Or.inl ⟨by rfl, ?_⟩) hHeld ?_
      rotate_left
      · (intro w hSw; (try dsimp only at hSw); go_simp; try with_reducible rfl)
      try simp only [Act.put, List.getElem_toArray, List.getElem_cons_zero, List.getElem_cons_succ, List.setIfInBounds_toArray, List.set_cons_zero, List.set_cons_succ]
      refine wpAnyH_take (i := 5) (v := ?_) rfl (by kernel_rfl) (by kernel_rfl) (by kernel_rfl) (fun _ _ _ h => h) (Or.inl ⟨by rfl, ?_⟩) hHeld ?_
      rotate_left
      · (intro w hSw; (try dsimp only at hSw); go_simp; try with_reducible rfl)
      try simp only [Act.put, List.getElem_toArray, List.getElem_cons_zero, List.getElem_cons_succ, List.setIfInBounds_toArray, List.set_cons_zero, List.set_cons_succ]
      refine wpAnyH_take (i := 6) (v := ?_) rfl (by kernel_rfl) (by kernel_rfl) (by kernel_rfl) (fun _ _ _ h => h) (Or.inl ⟨by rfl, ?_⟩) hHeld ?_
      rotate_left
      · (intro w hSw; (try dsimp only at hSw); go_simp; try with_reducible rfl)
      try simp only [Act.put, List.getElem_toArray, List.getElem_cons_zero, List.getElem_cons_succ, List.setIfInBounds_toArray, List.set_cons_zero, List.set_cons_succ]
      refine wpAnyH_take (i := 7) (v := ?_) rfl (by kernel_rfl) (by kernel_rfl) (by kernel_rfl) (fun _ _ _ h => h) (Or.inl ⟨by rfl, ?_⟩) hHeld ?_
      rotate_left
      · (intro w hSw; (try dsimp only at hSw); go_simp; try with_reducible rfl)
      try simp only [Act.put, List.getElem_toArray, List.getElem_cons_zero, List.getElem_cons_succ, List.setIfInBounds_toArray, List.set_cons_zero, List.set_cons_succ]
      refine wpAnyH_take (i := 8) (v := ?_) rfl (by kernel_rfl) (by kernel_rfl) (by kernel_rfl) (fun _ _ _ h => h) (Or.inl ⟨by rfl, ?_⟩) hHeld ?_
      rotate_left
      · (intro w hSw; (try dsimp only at hSw); go_simp; try with_reducible rfl)
      try simp only [Act.put, List.getElem_toArray, List.getElem_cons_zero, List.getElem_cons_succ, List.setIfInBounds_toArray, List.set_cons_zero, List.set_cons_succ]
      refine wpAnyH_take (i := 9) (v := ?_) rfl (by kernel_rfl) (by kernel_rfl) (by kernel_rfl) (fun _ _ _ h => h) (Or.inl ⟨by rfl, ?_⟩) hHeld ?_
      rotate_left
      · (intro w hSw; (try dsimp only at hSw); go_simp; try with_reducible rfl)
      try simp only [Act.put, List.getElem_toArray, List.getElem_cons_zero, List.getElem_cons_succ, List.setIfInBounds_toArray, List.set_cons_zero, List.set_cons_succ]
      refine wpAnyH_ready (rs := [10]) (by kernel_rfl) (by simp) ?_
      refine AllReadyH.cons rfl (fun K hK => ?_) AllReadyH.nil
      go_simp
      (with_reducible refine (cs _ ((Below.refl _ _).drew)).mono ?_)
      rintro e w12 ⟨rfl, hb120⟩
      have hb12 : Below wr.heap.size wr w12 := (Below.refl _ _).drew.trans (hb120.mono (Nat.le_refl _))
      clear hb120
      go_wp2_with fail
      refine hK.out _ _ ?_ (fun hHeld2 => ?_)
      · exact HK.out _ hb12
      clear hK K hHeld
      have hHeld := hHeld2
      clear hHeld2
      try simp only [Act.put, List.setIfInBounds_toArray, List.set_cons_zero, List.set_cons_succ]
      refine wpAnyH_take (i := 11) (v := ?_) rfl (by kernel_rfl) (by kernel_rfl) (by kernel_rfl) (fun _ _ _ h => h) (Or.inl ⟨by rfl, ?_⟩) hHeld ?_
      rotate_left
      · (intro w hSw; (try dsimp only at hSw); go_simp; try with_reducible rfl)
      try simp only [Act.put, List.getElem_toArray, List.getElem_cons_zero, List.getElem_cons_succ, List.setIfInBounds_toArray, List.set_cons_zero, List.set_cons_succ]
      refine wpAnyH_ready (rs := [12]) (by kernel_rfl) (by simp) ?_
      refine AllReadyH.cons rfl (fun K hK => ?_) AllReadyH.nil
      go_simp
      refine hK.out _ _ ?_ (fun hHeld2 => ?_)
      · exact HK.out _ hb12
      clear hK K hHeld
      have hHeld := hHeld2
      clear hHeld2
      try simp only [Act.put, List.setIfInBounds_toArray, List.set_cons_zero, List.set_cons_succ]
      refine wpAnyH_done (by kernel_rfl) ?_ _
      clear hHeld
      go_wp2_with fail
      go_roundw
      case rel => exact ⟨i + 1, by omega, by go_num, rfl, HK0.out.trans (hb12.mono HK0.out.size)⟩
      case measure => simp [intOf]; omega
    · have hv9 := HV.out.below hK (Nat.le_refl _)
      have hO9 := HO.out.below hK (Nat.le_refl _)
      have cE := fun W (hW : Below wr.heap.size wr W) => samedisks_calls _ _ _ C1 _ c _ _ _ _ W (hO9.below hW (Nat.le_refl _)) (hv9.below hW (Nat.le_refl _)) SO.out
      have HB9 := Lib.hid (HB.out.trans (hK.mono HB.out.size))
      clear hv9 hO9 hK
      by_cases hi3 : i < n3
      · have hni : ¬ i < n := fun q => hin ⟨hi3, q⟩
        have hi31 : (i : Int) < (n3 : Int) := by omega
        have d2 : decide ((i : Int) < (n : Int)) = false := decide_eq_false (by omega)
        have d3 : decide (i < n) = false := decide_eq_false hni
        go_wp2_with fail
        (with_reducible refine (cE _ ((Below.refl _ _))).mono ?_)
        rintro e w11 ⟨rfl, hb⟩
        have hBf := HB9.out.trans (hb.mono HB9.out.size)
        clear hb cE
        go_wp2
        go_ret
        exact ⟨rfl, hBf⟩
      · have d2 : decide ((i : Int) < (n3 : Int)) = false := decide_eq_false (by omega)
        have d3 : decide (i < n3) = false := decide_eq_false hi3
        go_wp2_with fail
        (with_reducible refine (cE _ ((Below.refl _ _))).mono ?_)
        rintro e w11 ⟨rfl, hb⟩
        have hBf := HB9.out.trans (hb.mono HB9.out.size)
        clear hb cE
        go_wp2
        go_ret
        exact ⟨rfl, hBf⟩

namespace actsCrash
set_option linter.unusedVariables false
set_option maxRecDepth 100000 in
theorem lifted (os : Os) (started : os.Started) (H : Type) (enc : TypeId × Value → H) :
    ReturnsInHanded {} Try.checked os 11 .any (Rows.actsCrashSpec.pre6 enc Try.prog Try.f11 Rows.actsCrashRow.domain false) (Rows.actsCrashSpec.post enc Try.prog Try.f11 false true false false) := by
  refine returnsInHanded_of_change (C := Try.checked) Try.own started (by kernel_rfl) Try.func11
    (ChangeSpec.witness6 (enc := enc) (C := Try.checked) false ⟨#[], #[.slice none 0 0, .slice none 0 0], []⟩ 8 (by kernel_rfl) (by kernel_rfl) (by kernel_rfl) (by kernel_rfl)) ?_
  intro W base args ds gs before hval0 hW hcnd _
  have hval : ∀ (j : Nat) t v, Try.f11.params[j]? = some t → args[j]? = some v → Value.okWide Try.prog W .any base t v := hval0
  have hW' := hW
  obtain ⟨p, q, hA0, hV, rfl, hfz, hnd⟩ := hW
  have hA : DataW.TrodAll enc Try.prog W 0 (fun _ => true) true Try.f11.params.toList args.toList ds p := hA0
  rw [Try.params11] at hA hval
  obtain ⟨v0, vs0, d0, ds0, p0, q0, hargs, rfl, rfl, h0, r0⟩ := trodAll_cons hA
  obtain ⟨v1, vs1, d1, ds1, p1, q1, rfl, rfl, rfl, h1, r1⟩ := trodAll_cons r0
  obtain ⟨rfl, rfl, rfl⟩ := trodAll_nil r1
  obtain rfl : args = #[v0, v1] := by cases args; simp_all
  obtain ⟨rfl, rfl⟩ := trodVars_none hV
  obtain ⟨a0, len0, cap0, rfl⟩ := okWide_slice Try.underlying58 (hval 0 58 v0 rfl rfl)
  have k0 := h0
  have lt0 : ∀ x ∈ p0, x.block < W.heap.size := by obtain ⟨m, hm⟩ := k0; exact DataW.trod_lt m _ _ _ hm
  obtain ⟨s0, z0, w0, c0⟩ := dslab_in h0
  obtain ⟨a1, len1, cap1, rfl⟩ := okWide_slice Try.underlying65 (hval 1 65 v1 rfl rfl)
  have k1 := h1
  have lt1 : ∀ x ∈ p1, x.block < W.heap.size := by obtain ⟨m, hm⟩ := k1; exact DataW.trod_lt m _ _ _ hm
  obtain ⟨z1, w1, c1, m1⟩ := bools_in h1
  clear hA0 hval0
  refine (actsCrash_walk W a0 len0 cap0 s0 z0 w0 c0 a1 len1 cap1 z1 w1 c1 m1).mono fun e W' ⟨he, bel⟩ => ?_
  subst he
  exact ⟨_, rfl, _, _, _, [], _, [], hW', trodAll_mk1 (shut_bool Try.underlying4 _), (trodAll_cons_mk (Below.trod Try.laidOut (by kernel_rfl) (of_decide_eq_true (by kernel_rfl)) k0 bel lt0) (trodAll_cons_mk (Below.trod Try.laidOut (by kernel_rfl) (of_decide_eq_true (by kernel_rfl)) k1 bel lt1) trodAll_mk0)), rfl, bel.frame _, fun h => by cases h⟩

theorem holds : Rows.ActsCrashSaid :=
  OpenClaim.holds_of_wide 11 Try.f11 rfl rfl rfl rfl rfl rfl rfl ⟨rfl, rfl, rfl, rfl, rfl⟩ rfl rfl rfl rfl rfl (by kernel_rfl) Try.func11 (by kernel_rfl)
    (of_decide_eq_true (by kernel_rfl)) (by unfold Func.isWrapper; first | (rw [if_pos (by decide +kernel)]; kernel_rfl) | (rw [if_neg (by decide +kernel)]; exact ⟨rfl, rfl⟩))
    (fun os started H enc _ => lifted os started H enc)
end actsCrash
end Go.Proofs.Ytldgpkaecfgagaa
