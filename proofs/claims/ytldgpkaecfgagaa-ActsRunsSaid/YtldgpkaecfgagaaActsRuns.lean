/- freeboardlaw05.ActsRuns: for every input the law answers true, and what is handed in reads as it did. Conditions: none. -/
import Derived.Test.YtldgpkaecfgagaaActOpen
import Derived.Test.YtldgpkaecfgagaaRefFD
namespace Go.Proofs.Ytldgpkaecfgagaa
open Go.ChangeShapes Go.WideShapes Go.ChangeAt Go.RowKit PolyM PackM FoldM DevM
theorem DevsN.after {K : Nat} {w w' : World} {v : Value} {ds : List Dev} (h : DevsN K w v ds) (hb : Below w.heap.size w w') : DevsN K w' v ds := by
  rcases h with ⟨rfl, rfl⟩ | ⟨g, n, C, hs, rfl, hO, hl, hn⟩
  · exact .inl ⟨rfl, rfl⟩
  · exact .inr ⟨g, n, C, hs, rfl, hO.below hb, hl, hn⟩

set_option maxHeartbeats 16000000 in
set_option maxRecDepth 100000 in
theorem actsRuns_walk (w : World) (a : Option Addr) (n c : Nat) (hs : List Value) (ds : List Dev) (hv : DSlab w a n hs ds) (_hc : n ≤ c) (a0 : Option Addr) (n0 c0 : Nat) (hs0 : List Value) (ls : List Act5) (hu : ASlab w a0 n0 hs0 ls) (hc0 : n0 ≤ c0) (a9 : Option Addr) (n9 c9 : Nat) (hs9 : List Value) (lo : List Act5) (ho : ASlab w a9 n9 hs9 lo) (_hc9 : n9 ≤ c9) (k : Int) (_wk : (Lit.int .i64 k).wf = true) :
    Calls Try.prog 10 #[.slice a n c, .slice a0 n0 c0, .slice a9 n9 c9, .int .i64 k] w fun e w' => e = .returned (.bool true) ∧ Below w.heap.size w w' := by
  have hl0 := Lib.hid hv.len
  have hl1 := Lib.hid hu.len
  go_enter Try.func10, Try.ntmps10
  have hB := Below.refl w.heap.size w
  go_wp2_with fail
  (with_reducible refine (great5_calls _ _ _ _ _ _ hv).mono ?_)
  rintro e w2 ⟨⟨r, rfl, hR⟩, hb⟩
  replace hv := hv.below hb (Nat.le_refl _)
  replace hu := hu.below hb (Nat.le_refl _)
  replace ho := ho.below hb (Nat.le_refl _)
  replace hB := hB.trans (hb.mono hB.size)
  clear hb
  rcases r with _ | _
  case true =>
    clear hR
    go_wp2
    go_ret
    exact ⟨rfl, hB⟩
  have HR := Lib.hid (hR rfl)
  clear hR
  go_wp2_with fail
  (with_reducible refine (long6_calls _ _ _ _ _ _ hu).mono ?_)
  rintro e w3 ⟨⟨r2, rfl, hR2⟩, hb⟩
  replace hv := hv.below hb (Nat.le_refl _)
  replace hu := hu.below hb (Nat.le_refl _)
  replace ho := ho.below hb (Nat.le_refl _)
  replace hB := hB.trans (hb.mono hB.size)
  clear hb
  rcases r2 with _ | _
  case true =>
    clear hR2
    go_wp2
    go_ret
    exact ⟨rfl, hB⟩
  have HR2 := Lib.hid (hR2 rfl)
  clear hR2
  go_wp2_with fail
  (with_reducible refine (long5_calls _ _ _ _ _ _ ho).mono ?_)
  rintro e w4 ⟨⟨r3, rfl, hR3⟩, hb⟩
  replace hv := hv.below hb (Nat.le_refl _)
  replace hu := hu.below hb (Nat.le_refl _)
  replace ho := ho.below hb (Nat.le_refl _)
  replace hB := hB.trans (hb.mono hB.size)
  clear hb
  rcases r3 with _ | _
  case true =>
    clear hR3
    go_wp2
    go_ret
    exact ⟨rfl, hB⟩
  have HR3 := Lib.hid (hR3 rfl)
  clear hR3
  have cT := fun W (h : DSlab W a n hs ds) => reftwins_calls a n c hs ds W h (by have := HR.out.2; have := hl0.out; omega) HR.out.1
  have cU := fun W (h : ASlab W a0 n0 hs0 ls) => reftwinacts_calls a0 n0 c0 hs0 ls W h (HR2.out.1) HR2.out.2
  have SO := Lib.hid (SameL.refl (ds := ds) fun d hd => small_of (HR.out.1 d hd))
  go_wp2_with fail
  (with_reducible refine (cT _ hv).mono ?_)
  rintro e w5 ⟨a1, C1, hs1, rfl, hO, hb⟩
  replace hv := hv.below hb (Nat.le_refl _)
  replace hu := hu.below hb (Nat.le_refl _)
  replace ho := ho.below hb (Nat.le_refl _)
  replace hB := hB.trans (hb.mono hB.size)
  clear hb cT
  go_wp2_with fail
  (with_reducible refine (cU _ hu).mono ?_)
  rintro e w6 ⟨a2, C2, hs2, rfl, hC2, hN, hb⟩
  replace hv := hv.below hb (Nat.le_refl _)
  replace hu := hu.below hb (Nat.le_refl _)
  replace ho := ho.below hb (Nat.le_refl _)
  replace hO := hO.below hb (Nat.le_refl _)
  replace hB := hB.trans (hb.mono hB.size)
  clear hb cU
  have HV := Lib.hid hv
  have HU := Lib.hid hu
  have HW := Lib.hid ho
  have HO := Lib.hid hO
  have HN := Lib.hid hN
  have HB := Lib.hid hB
  have cA := run_calls a1 n C1 hs1 ds a2 n0 C2 hs2 ls k w6 hO hN hC2
  have cX := fun W (hW : Below w6.heap.size w6 W) => refrun_calls a n c hs ds a0 n0 c0 hs0 ls k W (HV.out.below hW (Nat.le_refl _)) (HU.out.below hW (Nat.le_refl _)) hc0
  unfold RunIs at cX
  have cE := fun W (hW : Below w6.heap.size w6 W) => actcheck_calls a2 n0 C2 hs2 ls a1 n C1 hs1 ds W (HN.out.below hW (Nat.le_refl _)) (HO.out.below hW (Nat.le_refl _))
  have cF := fun W (hW : Below w6.heap.size w6 W) => refcheck5_calls a0 n0 c0 hs0 ls a n c hs ds W (HU.out.below hW (Nat.le_refl _)) (HV.out.below hW (Nat.le_refl _))
  have cG := fun W (hW : Below w6.heap.size w6 W) => actssame_calls a0 a9 n0 c0 n9 c9 hs0 hs9 ls lo W (HU.out.below hW (Nat.le_refl _)) (HW.out.below hW (Nat.le_refl _))
  have cH := fun W (hW : Below w6.heap.size w6 W) => refactssame_calls a0 a9 n0 c0 n9 c9 hs0 hs9 ls lo W (HU.out.below hW (Nat.le_refl _)) (HW.out.below hW (Nat.le_refl _))
  have cI := fun W (hW : Below w6.heap.size w6 W) => actssame_calls a2 a0 n0 C2 n0 c0 hs2 hs0 ls ls W (HN.out.below hW (Nat.le_refl _)) (HU.out.below hW (Nat.le_refl _))
  have cJ := fun W (hW : Below w6.heap.size w6 W) => refactssame_calls a2 a0 n0 C2 n0 c0 hs2 hs0 ls ls W (HN.out.below hW (Nat.le_refl _)) (HU.out.below hW (Nat.le_refl _))
  rw [show decide (ls = ls) = true from decide_eq_true rfl] at cI cJ
  have cK := fun W (hW : Below w6.heap.size w6 W) => samedisks_calls _ _ _ C1 _ c _ _ _ _ W (HO.out.below hW (Nat.le_refl _)) (HV.out.below hW (Nat.le_refl _)) SO.out
  generalize decide (ls = lo) = rs at *
  generalize chkA ls ds = er2 at *
  generalize runE ds ls k = er at *
  generalize runL ds ls k = rl at *
  clear hv hu ho hO hN hB HR HR2
  go_wp2_with fail
  (with_reducible refine cA.mono ?_)
  rintro e w7 ⟨va, rfl, hD, hK⟩
  clear cA
  obtain ⟨a3, n3, C3, hs3, rfl, -⟩ := hD.slab
  go_wp2_with fail
  (with_reducible refine (cX _ hK).mono ?_)
  rintro e w8 ⟨a4, n4, C4, hs4, rr, rfl, hX, hSS, hb⟩
  replace hD := hD.after hb
  replace hK := hK.trans (hb.mono hK.size)
  have SS := Lib.hid hSS
  clear hb cX hSS
  obtain ⟨a3', n3', C3', hs3', e3, hS3⟩ := hD.slab
  cases e3
  go_wp2_with fail
  (with_reducible refine (samedisks_calls _ _ _ _ _ _ _ _ _ _ _ hS3 hX SS.out).mono ?_)
  rintro e w9 ⟨rfl, hb⟩
  replace hD := hD.after hb
  replace hK := hK.trans (hb.mono hK.size)
  clear hb hS3 hX SS
  go_wp2_with fail
  (with_reducible refine (cE _ hK).mono ?_)
  rintro e w10 ⟨rfl, hb⟩
  replace hD := hD.after hb
  replace hK := hK.trans (hb.mono hK.size)
  clear hb cE
  go_wp2_with fail
  (with_reducible refine (cF _ hK).mono ?_)
  rintro e w11 ⟨rfl, hb⟩
  replace hD := hD.after hb
  replace hK := hK.trans (hb.mono hK.size)
  clear hb cF
  go_wp2_with fail
  (with_reducible refine (cG _ hK).mono ?_)
  rintro e w12 ⟨rfl, hb⟩
  replace hD := hD.after hb
  replace hK := hK.trans (hb.mono hK.size)
  clear hb cG
  go_wp2_with fail
  (with_reducible refine (cH _ hK).mono ?_)
  rintro e w13 ⟨rfl, hb⟩
  replace hD := hD.after hb
  replace hK := hK.trans (hb.mono hK.size)
  clear hb cH
  go_wp2_with fail
  (with_reducible refine (cI _ hK).mono ?_)
  rintro e w14 ⟨rfl, hb⟩
  replace hD := hD.after hb
  replace hK := hK.trans (hb.mono hK.size)
  clear hb cI
  go_wp2_with fail
  (with_reducible refine (spoils_calls _ _ _ _ hD hK.size).mono ?_)
  rintro e w20 ⟨rfl, hb⟩
  replace hK := hK.trans hb
  clear hb hD
  go_wp2_with fail
  (with_reducible refine (cK _ hK).mono ?_)
  rintro e w21 ⟨rfl, hb⟩
  replace hK := hK.trans (hb.mono hK.size)
  clear hb cK
  go_wp2_with fail
  (with_reducible refine (cJ _ hK).mono ?_)
  rintro e w22 ⟨rfl, hb⟩
  replace hK := hK.trans (hb.mono hK.size)
  clear hb cJ
  have hBf := HB.out.trans (hK.mono HB.out.size)
  go_wp2
  go_ret
  exact ⟨rfl, hBf⟩

namespace actsRuns
set_option linter.unusedVariables false
set_option maxRecDepth 100000 in
theorem lifted (os : Os) (started : os.Started) (H : Type) (enc : TypeId × Value → H) :
    ReturnsInHanded {} Try.checked os 10 .any (Rows.actsRunsSpec.pre6 enc Try.prog Try.f10 Rows.actsRunsRow.domain false) (Rows.actsRunsSpec.post enc Try.prog Try.f10 false true false false) := by
  refine returnsInHanded_of_change (C := Try.checked) Try.own started (by kernel_rfl) Try.func10
    (ChangeSpec.witness6 (enc := enc) (C := Try.checked) false ⟨#[], #[.slice none 0 0, .slice none 0 0, .slice none 0 0, .int .i64 0], []⟩ 8 (by kernel_rfl) (by kernel_rfl) (by kernel_rfl) (by kernel_rfl)) ?_
  intro W base args ds gs before hval0 hW hcnd _
  have hval : ∀ (j : Nat) t v, Try.f10.params[j]? = some t → args[j]? = some v → Value.okWide Try.prog W .any base t v := hval0
  have hW' := hW
  obtain ⟨p, q, hA0, hV, rfl, hfz, hnd⟩ := hW
  have hA : DataW.TrodAll enc Try.prog W 0 (fun _ => true) true Try.f10.params.toList args.toList ds p := hA0
  rw [Try.params10] at hA hval
  obtain ⟨v0, vs0, d0, ds0, p0, q0, hargs, rfl, rfl, h0, r0⟩ := trodAll_cons hA
  obtain ⟨v1, vs1, d1, ds1, p1, q1, rfl, rfl, rfl, h1, r1⟩ := trodAll_cons r0
  obtain ⟨v2, vs2, d2, ds2, p2, q2, rfl, rfl, rfl, h2, r2⟩ := trodAll_cons r1
  obtain ⟨v3, vs3, d3, ds3, p3, q3, rfl, rfl, rfl, h3, r3⟩ := trodAll_cons r2
  obtain ⟨rfl, rfl, rfl⟩ := trodAll_nil r3
  obtain rfl : args = #[v0, v1, v2, v3] := by cases args; simp_all
  obtain ⟨rfl, rfl⟩ := trodVars_none hV
  obtain ⟨a0, len0, cap0, rfl⟩ := okWide_slice Try.underlying58 (hval 0 58 v0 rfl rfl)
  have k0 := h0
  have lt0 : ∀ x ∈ p0, x.block < W.heap.size := by obtain ⟨m, hm⟩ := k0; exact DataW.trod_lt m _ _ _ hm
  obtain ⟨s0, z0, w0, c0⟩ := dslab_in h0
  obtain ⟨a1, len1, cap1, rfl⟩ := okWide_slice Try.underlying62 (hval 1 62 v1 rfl rfl)
  have k1 := h1
  have lt1 : ∀ x ∈ p1, x.block < W.heap.size := by obtain ⟨m, hm⟩ := k1; exact DataW.trod_lt m _ _ _ hm
  obtain ⟨s1, z1, w1, c1⟩ := aslab_in h1
  obtain ⟨a2, len2, cap2, rfl⟩ := okWide_slice Try.underlying62 (hval 2 62 v2 rfl rfl)
  have k2 := h2
  have lt2 : ∀ x ∈ p2, x.block < W.heap.size := by obtain ⟨m, hm⟩ := k2; exact DataW.trod_lt m _ _ _ hm
  obtain ⟨s2, z2, w2, c2⟩ := aslab_in h2
  obtain ⟨a3, rfl, rfl, rfl, w3⟩ := open_int Try.underlying3 (hval 3 3 v3 rfl rfl) h3
  clear hA0 hval0
  refine (actsRuns_walk W a0 len0 cap0 s0 z0 w0 c0 a1 len1 cap1 s1 z1 w1 c1 a2 len2 cap2 s2 z2 w2 c2 a3 w3).mono fun e W' ⟨he, bel⟩ => ?_
  subst he
  exact ⟨_, rfl, _, _, _, [], _, [], hW', trodAll_mk1 (shut_bool Try.underlying4 _), (trodAll_cons_mk (Below.trod Try.laidOut (by kernel_rfl) (of_decide_eq_true (by kernel_rfl)) k0 bel lt0) (trodAll_cons_mk (Below.trod Try.laidOut (by kernel_rfl) (of_decide_eq_true (by kernel_rfl)) k1 bel lt1) (trodAll_cons_mk (Below.trod Try.laidOut (by kernel_rfl) (of_decide_eq_true (by kernel_rfl)) k2 bel lt2) (trodAll_cons_mk (shut_int Try.underlying3 w3) trodAll_mk0)))), rfl, bel.frame _, fun h => by cases h⟩

theorem holds : Rows.ActsRunsSaid :=
  OpenClaim.holds_of_wide 10 Try.f10 rfl rfl rfl rfl rfl rfl rfl ⟨rfl, rfl, rfl, rfl, rfl⟩ rfl rfl rfl rfl rfl (by kernel_rfl) Try.func10 (by kernel_rfl)
    (of_decide_eq_true (by kernel_rfl)) (by unfold Func.isWrapper; first | (rw [if_pos (by decide +kernel)]; kernel_rfl) | (rw [if_neg (by decide +kernel)]; exact ⟨rfl, rfl⟩))
    (fun os started H enc _ => lifted os started H enc)
end actsRuns
end Go.Proofs.Ytldgpkaecfgagaa
