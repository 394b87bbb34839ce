/- freeboardlaw02.PackBack: for every input the law answers true, and what is handed in reads as it did. Conditions: none. -/
import Derived.Test.YtmbclhkeidpooaaPackAlive
import Derived.Deep.QuietTactic
import Derived.BigQuiet
import Derived.IntWalk
namespace Go.Proofs.Ytmbclhkeidpooaa
open Go.ChangeShapes Go.WideShapes Go.ChangeAt Go.RowKit PolyM PackM
theorem below_drewN {B : Nat} {a w : World} (h : Below B a w) (q : Nat) : Below B a (w.drewN q) := ⟨h.os, h.tape, h.output, h.size, h.block⟩
theorem lat_calls (a : Option Addr) (n c : Nat) (zs : List Int) (k : Nat) (w : World) (hi : Ints .u8 w a n zs) (hk : k < 128) :
    Calls Try.prog 14 #[.slice a n c, .int .i64 k] w fun e w' => e = .returned (.int .u8 (zs.getD k 0)) ∧ w' = w := by
  have hm := hi.max
  have hlen := hi.len
  by_cases h : k < n
  · obtain ⟨b, off, rfl, hc⟩ : ∃ b off, a = some ⟨b, off, none⟩ ∧ w.cell? ⟨b, off + k, none⟩ = some (.int .u8 (zs.getD k 0)) := by
      rcases hi.row with q | ⟨b, off, e, _, hc⟩
      · omega
      · exact ⟨b, off, e, hc k h⟩
    generalize zs.getD k 0 = z at *
    clear hlen
    go_enter Try.func14, Try.ntmps14
    go_wp2
    go_ret
    exact ⟨rfl, rfl⟩
  · have F : Hid (zs.getD k 0 = 0) := by refine Lib.hid ?_; rw [List.getD_eq_getElem?_getD, List.getElem?_eq_none (by omega)]; rfl
    have hd : decide ((n : Int) ≤ k) = true := by simp; omega
    clear hlen
    go_enter Try.func14, Try.ntmps14
    go_wp2
    go_ret
    exact ⟨ret_int F.out.symm, rfl⟩

set_option maxRecDepth 100000 in
set_option maxHeartbeats 2000000 in
theorem back_good (w : World) (a : Option Addr) (n c : Nat) (zs : List Int) (P S : Nat) (v : Int) (hi : Ints .u8 w a n zs) (hbig : (n : Int) ≤ 1000) (hn : n = 0 ∨ n = 128) (s1 : 1 ≤ S) (s4 : S ≤ 4) (hp : P + S ≤ 128) (v2 : 0 ≤ v) (v3 : v < 256 ^ S) :
    Calls Try.prog 5 #[.slice a n c, .int .i64 P, .int .i64 S, .int .i64 v] w fun e w' => e = .returned (.bool true) ∧ Below w.heap.size w w' := by
  have hm := hi.max
  have hB := bytes_of hi
  have F1 : Hid (takeN (putL zs P S v) P S = v) := by refine Lib.hid ?_; exact takeN_putL s4 hp v2 v3
  have F2 : Hid (putL (putL zs P S v) P S (takeN zs P S) = pad zs) := by refine Lib.hid ?_; exact putL_back hB (by rw [hi.len]; omega) s4 hp
  have hT := takeN_in hB P S
  have hl := Lib.hid hi.len
  have hn' := Lib.hid hn
  have c1 := fun W (hW : Ints .u8 W a n zs) => put_ok a n c zs P S v W hW hn s1 s4 hp v2 v3
  have c3 := fun W (hW : Ints .u8 W a n zs) => take_ok a n c zs P S W hW hn s1 s4 hp
  clear hn
  go_enter Try.func5, Try.ntmps5
  go_wp2_with fail
  refine (alive_calls _).mono ?_
  rintro e w1 ⟨rfl, hb1⟩
  go_wp2_with fail
  refine (c1 _ (hi.below hb1 (Nat.le_refl _))).mono ?_
  rintro e w2 ⟨g, hg, rfl, hgc, hb2⟩
  have hb3 := hb1.trans (hb2.mono hb1.size)
  have i2 := Ints.ofCells hgc (putL_len _ _ _ _) (by omega) (putL_bytes hB _ _ _)
  clear hgc hb2 hb1
  go_wp2_with fail
  refine (take_ok _ 128 128 _ P S w2 i2 (.inr rfl) s1 s4 hp).mono ?_
  rintro e w3 ⟨rfl, hb4⟩
  have hb5 := hb3.trans (hb4.mono hb3.size)
  have i3 := i2.below hb4 (Nat.le_refl _)
  rw [F1.out]
  clear hb3 hb4 i2
  go_wp2
  go_loopw [14] (fun i wr => ∃ k : Nat, k ≤ 128 ∧ i = .int .i64 k ∧ Below w3.heap.size w3 wr) (fun i _ => 128 - (intOf i).toNat)
  case atStart => exact ⟨0, by omega, rfl, Below.refl _ _⟩
  case round =>
    obtain ⟨k, hk, rfl, hbk⟩ := hrel
    by_cases hks : k < 128
    · have hat : ∀ m, Calls Try.prog 14 #[.slice a n c, .int .i64 k] (wr.drewN m) fun e w' => e = .returned (.int .u8 (zs.getD k 0)) ∧ w' = wr.drewN m :=
        fun m => lat_calls a n c zs k _ (hi.below (below_drewN (hb5.trans (hbk.mono hb5.size)) m) (Nat.le_refl _)) hks
      have ik := i3.below hbk (Nat.le_refl _)
      have hsum : IntKind.i64.wrap ((P : Int) + S) = (P : Int) + S := IntWalk.i64_in _ (by omega)
      by_cases hin : P ≤ k ∧ k < P + S
      · have d1 : decide (k < P) = false := by simp; omega
        have d2 : decide ((P : Int) + S ≤ k) = false := by simp; omega
        clear hat ik hin
        go_wp2
        go_quiet (fail)
        go_wp2
        go_roundw
        case rel => exact ⟨k + 1, by omega, by go_num, below_drewN hbk _⟩
        case measure => simp [intOf]; omega
      · have hcell : wr.cell? ⟨g, k, none⟩ = some (.int .u8 (zs.getD k 0)) := by
          rcases ik.row with q | ⟨b, off, e, _, hc⟩
          · omega
          · injection e with e; injection e with e1 e2; subst e1; subst e2
            have := hc k hks
            rwa [Nat.zero_add, putL_getD hks, if_neg (by omega)] at this
        generalize zs.getD k 0 = z at *
        have hk0 : (0 : Int) ≤ (k : Int) := by omega
        have hk1 : (k : Int) < 128 := by omega
        by_cases hlt : k < P
        · have d1 : decide (k < P) = true := by simp; omega
          clear ik hin
          go_wp2
          go_quiet ((go_at_call 14; exact Calls.quiet_of_same (hat _)))
          go_wp2
          go_roundw
          case rel => exact ⟨k + 1, by omega, by go_num, below_drewN hbk _⟩
          case measure => simp [intOf]; omega
        · have d1 : decide (k < P) = false := by simp; omega
          have d2 : decide ((P : Int) + S ≤ k) = true := by simp; omega
          clear ik hin
          go_wp2
          go_quiet ((go_at_call 14; exact Calls.quiet_of_same (hat _)))
          go_wp2
          go_roundw
          case rel => exact ⟨k + 1, by omega, by go_num, below_drewN hbk _⟩
          case measure => simp [intOf]; omega
    · obtain rfl : k = 128 := by omega
      have hb6 := hb5.trans (hbk.mono hb5.size)
      have i4 := i3.below hbk (Nat.le_refl _)
      go_wp2_with fail
      refine (c3 _ (hi.below hb6 (Nat.le_refl _))).mono ?_
      rintro e w5 ⟨rfl, hb7⟩
      have hb8 := hb6.trans (hb7.mono hb6.size)
      have i5 := i4.below hb7 (Nat.le_refl _)
      clear hb5 hbk hb6 hb7 i3 i4 c1 c3
      go_wp2_with fail
      refine (put_ok _ 128 128 _ P S (takeN zs P S) w5 i5 (.inr rfl) s1 s4 hp hT.1 hT.2).mono ?_
      rintro e w6 ⟨g2, hg2, rfl, hgc2, hb9⟩
      have hbA := hb8.trans (hb9.mono hb8.size)
      rw [F2.out] at hgc2
      have hpl : Hid ((pad zs).length = 128) := by refine Lib.hid ?_; refine pad_len ?_; rw [hl.out]; rcases hn'.out with q | q <;> omega
      have i6 := Ints.ofCells hgc2 hpl.out (by omega) (pad_bytes hB)
      clear hb8 hb9 hgc2 i5
      go_wp2
      go_loopw [19] (fun i wr => ∃ k : Nat, k ≤ 128 ∧ i = .int .i64 k ∧ Below w6.heap.size w6 wr) (fun i _ => 128 - (intOf i).toNat)
      case atStart => exact ⟨0, by omega, rfl, Below.refl _ _⟩
      case round =>
        obtain ⟨k, hk, rfl, hbk⟩ := hrel
        have hbR := hbA.trans (hbk.mono hbA.size)
        by_cases hks : k < 128
        · have hat : ∀ m, Calls Try.prog 14 #[.slice a n c, .int .i64 k] (wr.drewN m) fun e w' => e = .returned (.int .u8 (zs.getD k 0)) ∧ w' = wr.drewN m :=
            fun m => lat_calls a n c zs k _ (hi.below (below_drewN hbR m) (Nat.le_refl _)) hks
          have hcell : wr.cell? ⟨g2, k, none⟩ = some (.int .u8 (zs.getD k 0)) := by
            rcases (i6.below hbk (Nat.le_refl _)).row with q | ⟨b, off, e, _, hc⟩
            · omega
            · injection e with e; injection e with e1 e2; subst e1; subst e2
              have := hc k hks
              rwa [Nat.zero_add, pad_getD] at this
          generalize zs.getD k 0 = z at *
          have hk0 : (0 : Int) ≤ (k : Int) := by omega
          have hk1 : (k : Int) < 128 := by omega
          clear hbR
          go_wp2
          go_quiet ((go_at_call 14; exact Calls.quiet_of_same (hat _)))
          go_wp2
          go_roundw
          case rel => exact ⟨k + 1, by omega, by go_num, below_drewN hbk _⟩
          case measure => simp [intOf]; omega
        · obtain rfl : k = 128 := by omega
          go_wp2
          go_ret
          exact ⟨rfl, hbR⟩
theorem packBack_walk (w : World) (a : Option Addr) (n c : Nat) (zs : List Int) (hi : Ints .u8 w a n zs) (_ : n ≤ c) (p : Int) (wp : (Lit.int .i64 p).wf = true) (s : Int) (ws : (Lit.int .i64 s).wf = true) (v : Int) (wv : (Lit.int .i64 v).wf = true) :
    Calls Try.prog 5 #[.slice a n c, .int .i64 p, .int .i64 s, .int .i64 v] w fun e w' => e = .returned (.bool true) ∧ Below w.heap.size w w' := by
  obtain ⟨v0, v1⟩ := bounds_i64 wv
  have hm := hi.max
  by_cases hbig : (1000 : Int) < (n : Int)
  · go_enter Try.func5, Try.ntmps5
    go_wp2_with (go_at_call 11; refine (alive_calls _).mono ?_; rintro e w1 ⟨rfl, hb1⟩)
    go_ret
    exact ⟨rfl, hb1⟩
  have hbig : (n : Int) ≤ 1000 := by omega
  by_cases hgood : Good n p s v
  · obtain ⟨P, S, rfl, rfl, hn, s1, s4, hp, v2, v3⟩ := hgood.nat
    exact back_good w a n c zs P S v hi hbig hn s1 s4 hp v2 v3
  · have c1 := fun W => put_bad a n c p s v W hm v0 v1 hgood
    obtain ⟨he, he'⟩ := putErr_ne n
    clear hgood
    go_enter Try.func5, Try.ntmps5
    go_wp2_with (first
      | (go_at_call 11; refine (alive_calls _).mono ?_; rintro e w1 ⟨rfl, hb1⟩)
      | (go_at_call 9; refine (c1 _).mono ?_; rintro e w2 ⟨rfl, rfl⟩))
    go_ret
    exact ⟨rfl, hb1⟩

namespace packBack
set_option linter.unusedVariables false
set_option maxRecDepth 100000 in
theorem lifted (os : Os) (started : os.Started) (H : Type) (enc : TypeId × Value → H) :
    ReturnsInHanded {} Try.checked os 5 .any (Rows.packBackSpec.pre6 enc Try.prog Try.f5 Rows.packBackRow.domain false) (Rows.packBackSpec.post enc Try.prog Try.f5 false true false false) := by
  refine returnsInHanded_of_change (C := Try.checked) Try.own started (by kernel_rfl) Try.func5
    (ChangeSpec.witness6 (enc := enc) (C := Try.checked) false ⟨#[], #[.slice none 0 0, .int .i64 0, .int .i64 0, .int .i64 0], []⟩ 8 (by kernel_rfl) (by kernel_rfl) (by kernel_rfl) (by kernel_rfl)) ?_
  intro W base args ds gs before hval0 hW hcnd _
  have hval : ∀ (j : Nat) t v, Try.f5.params[j]? = some t → args[j]? = some v → Value.okWide Try.prog W .any base t v := hval0
  have hW' := hW
  obtain ⟨p, q, hA0, hV, rfl, hfz, hnd⟩ := hW
  have hA : DataW.TrodAll enc Try.prog W 0 (fun _ => true) true Try.f5.params.toList args.toList ds p := hA0
  rw [Try.params5] at hA hval
  obtain ⟨v0, vs0, d0, ds0, p0, q0, hargs, rfl, rfl, h0, r0⟩ := trodAll_cons hA
  obtain ⟨v1, vs1, d1, ds1, p1, q1, rfl, rfl, rfl, h1, r1⟩ := trodAll_cons r0
  obtain ⟨v2, vs2, d2, ds2, p2, q2, rfl, rfl, rfl, h2, r2⟩ := trodAll_cons r1
  obtain ⟨v3, vs3, d3, ds3, p3, q3, rfl, rfl, rfl, h3, r3⟩ := trodAll_cons r2
  obtain ⟨rfl, rfl, rfl⟩ := trodAll_nil r3
  obtain rfl : args = #[v0, v1, v2, v3] := by cases args; simp_all
  obtain ⟨rfl, rfl⟩ := trodVars_none hV
  obtain ⟨a0, len0, cap0, rfl⟩ := okWide_slice Try.underlying22 (hval 0 22 v0 rfl rfl)
  have k0 := h0
  have lt0 : ∀ x ∈ p0, x.block < W.heap.size := by obtain ⟨m, hm⟩ := k0; exact DataW.trod_lt m _ _ _ hm
  obtain ⟨z0, w0, c0⟩ : ∃ zs, Ints .u8 W a0 len0 zs ∧ len0 ≤ cap0 := by
    obtain ⟨fuel, hf⟩ := h0
    rcases open_ints Try.underlying22 Try.underlying5 (by kernel_rfl) hf with ⟨hcs, _⟩ | ⟨x, l, c, zs, hcs, _, hl, hm, hz, _, hcell, hwz⟩
    · simp [Value.cells] at hcs
      obtain ⟨rfl, rfl, rfl⟩ := hcs
      exact ⟨[], ⟨rfl, by omega, by simp, .inl rfl⟩, by omega⟩
    · simp [Value.cells] at hcs
      obtain ⟨rfl, rfl, rfl⟩ := hcs
      exact ⟨_, Ints.of_cells hl hm (by simpa using hz) hcell hwz, hl⟩
  obtain ⟨a1, rfl, rfl, rfl, w1⟩ := open_int Try.underlying3 (hval 1 3 v1 rfl rfl) h1
  obtain ⟨a2, rfl, rfl, rfl, w2⟩ := open_int Try.underlying3 (hval 2 3 v2 rfl rfl) h2
  obtain ⟨a3, rfl, rfl, rfl, w3⟩ := open_int Try.underlying3 (hval 3 3 v3 rfl rfl) h3
  clear hA0 hval0
  refine (packBack_walk W a0 len0 cap0 z0 w0 c0 a1 w1 a2 w2 a3 w3).mono fun e W' ⟨he, bel⟩ => ?_
  subst he
  exact ⟨_, rfl, _, _, _, [], _, [], hW', trodAll_mk1 (shut_bool Try.underlying4 _), (trodAll_cons_mk (Below.trod Try.laidOut (by kernel_rfl) (of_decide_eq_true (by kernel_rfl)) k0 bel lt0) (trodAll_cons_mk (shut_int Try.underlying3 w1) (trodAll_cons_mk (shut_int Try.underlying3 w2) (trodAll_cons_mk (shut_int Try.underlying3 w3) trodAll_mk0)))), rfl, bel.frame _, fun h => by cases h⟩

theorem holds : Rows.PackBackSaid :=
  OpenClaim.holds_of_wide 5 Try.f5 rfl rfl rfl rfl rfl rfl rfl ⟨rfl, rfl, rfl, rfl, rfl⟩ rfl rfl rfl rfl rfl (by kernel_rfl) Try.func5 (by kernel_rfl)
    (of_decide_eq_true (by kernel_rfl)) (by unfold Func.isWrapper; first | (rw [if_pos (by decide +kernel)]; kernel_rfl) | (rw [if_neg (by decide +kernel)]; exact ⟨rfl, rfl⟩))
    (fun os started H enc _ => lifted os started H enc)
end packBack
end Go.Proofs.Ytmbclhkeidpooaa
