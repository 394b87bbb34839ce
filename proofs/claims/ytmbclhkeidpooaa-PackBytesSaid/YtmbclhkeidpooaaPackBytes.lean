/- freeboardlaw02.PackBytes: for every input the law answers true, and what is handed in reads as it did. Conditions: none. -/
import Derived.Test.YtmbclhkeidpooaaPackAlive
import Derived.Test.YtmbclhkeidpooaaPackRef
namespace Go.Proofs.Ytmbclhkeidpooaa
open Go.ChangeShapes Go.WideShapes Go.ChangeAt Go.RowKit PolyM PackM
theorem packBytes_walk (w : World) (a : Option Addr) (n c : Nat) (zs : List Int) (hi : Ints .u8 w a n zs) (_ : n ≤ c) (p : Int) (wp : (Lit.int .i64 p).wf = true) (s : Int) (ws : (Lit.int .i64 s).wf = true) (v : Int) (wv : (Lit.int .i64 v).wf = true) :
    Calls Try.prog 7 #[.slice a n c, .int .i64 p, .int .i64 s, .int .i64 v] w fun e w' => e = .returned (.bool true) ∧ Below w.heap.size w w' := by
  obtain ⟨v0, v1⟩ := bounds_i64 wv
  have hm := hi.max
  by_cases hbig : (1000 : Int) < (n : Int)
  · go_enter Try.func7, Try.ntmps7
    go_wp2_with (go_at_call 11; refine (alive_calls _).mono ?_; rintro e w1 ⟨rfl, hb1⟩)
    go_ret
    exact ⟨rfl, hb1⟩
  by_cases hgood : Good n p s v
  · obtain ⟨P, S, rfl, rfl, hn, s1, s4, hp, v2, v3⟩ := hgood.nat
    have hv := num_max s4 v3
    have hB := bytes_of hi
    have hput := fun W (hW : Ints .u8 W a n zs) => put_ok a n c zs P S v W hW hn s1 s4 hp v2 v3
    have hd0 : Hid (v = v / 256 ^ 0) := by refine Lib.hid ?_; rw [pow_256.1]; omega
    have hend : Hid (v / 256 ^ S = 0) := by refine Lib.hid ?_; exact Int.ediv_eq_zero_of_lt v2 v3
    clear hgood wp ws wv hn v3
    go_enter Try.func7, Try.ntmps7
    go_wp2_with (first
      | (go_at_call 11; refine (alive_calls _).mono ?_; rintro e w1 ⟨rfl, hb1⟩)
      | (go_at_call 9; refine (hput _ (hi.below hb1 (Nat.le_refl _))).mono ?_; rintro e w2 ⟨g, hg, rfl, hgc, hb2⟩; have hb3 := hb1.trans (hb2.mono hb1.size)))
    have hblk := Ints.ofCells hgc (putL_len _ _ _ _) (by omega) (putL_bytes hB _ _ _)
    clear hgc hput hb1 hb2 hi
    go_loopw [3, 12] (fun t i wr => ∃ (k : Nat) (m : Int), k ≤ S ∧ i = .int .i64 k ∧ t = .int .i64 m ∧ m = v / 256 ^ k ∧ Below w2.heap.size w2 wr) (fun _ i _ => S - (intOf i).toNat)
    case atStart => exact ⟨0, v, by omega, rfl, rfl, hd0.out, Below.refl _ _⟩
    case round =>
      obtain ⟨k, m, hk, rfl, rfl, hm2, hbk⟩ := hrel
      clear hd0
      by_cases hks : k < S
      · have hmi := div_in v k v2 hv
        rw [← hm2] at hmi
        obtain ⟨m0, m1⟩ := hmi
        have F1 : Hid (takeN (putL zs P S v) (P + k) 1 = m % 256) := by refine Lib.hid ?_; rw [takeN_putL_one hks hp, hm2]; rfl
        have F2 : Hid (m / 256 = v / 256 ^ (k + 1)) := by refine Lib.hid ?_; rw [hm2]; exact div_byt v k (by omega)
        have ht := take_ok _ 128 128 _ (P + k) 1 wr (hblk.below hbk (Nat.le_refl _)) (.inr rfl) (by omega) (by omega) (by omega)
        rw [F1.out] at ht
        clear hm2 hend
        go_wp2_with fail
        refine ht.mono ?_
        rintro e w4 ⟨rfl, hb4⟩
        have hb5 := hbk.trans (hb4.mono hbk.size)
        clear ht hb4
        go_wp2
        go_roundw
        case rel => exact ⟨k + 1, m / 256, by omega, by go_num, rfl, F2.out, hb5⟩
        case measure => simp [intOf]; omega
      · obtain rfl : k = S := by omega
        obtain rfl : m = 0 := by rw [hm2]; exact hend.out
        clear hm2 hend
        go_wp2
        go_ret
        exact ⟨rfl, hb3.trans (hbk.mono hb3.size)⟩
  · have c1 := fun W => put_bad a n c p s v W hm v0 v1 hgood
    obtain ⟨he, he'⟩ := putErr_ne n
    clear hgood
    go_enter Try.func7, Try.ntmps7
    go_wp2_with (first
      | (go_at_call 11; refine (alive_calls _).mono ?_; rintro e w1 ⟨rfl, hb1⟩)
      | (go_at_call 9; refine (c1 _).mono ?_; rintro e w2 ⟨rfl, rfl⟩))
    go_ret
    exact ⟨rfl, hb1⟩

namespace packBytes
set_option linter.unusedVariables false
set_option maxRecDepth 100000 in
theorem lifted (os : Os) (started : os.Started) (H : Type) (enc : TypeId × Value → H) :
    ReturnsInHanded {} Try.checked os 7 .any (Rows.packBytesSpec.pre6 enc Try.prog Try.f7 Rows.packBytesRow.domain false) (Rows.packBytesSpec.post enc Try.prog Try.f7 false true false false) := by
  refine returnsInHanded_of_change (C := Try.checked) Try.own started (by kernel_rfl) Try.func7
    (ChangeSpec.witness6 (enc := enc) (C := Try.checked) false ⟨#[], #[.slice none 0 0, .int .i64 0, .int .i64 0, .int .i64 0], []⟩ 8 (by kernel_rfl) (by kernel_rfl) (by kernel_rfl) (by kernel_rfl)) ?_
  intro W base args ds gs before hval0 hW hcnd _
  have hval : ∀ (j : Nat) t v, Try.f7.params[j]? = some t → args[j]? = some v → Value.okWide Try.prog W .any base t v := hval0
  have hW' := hW
  obtain ⟨p, q, hA0, hV, rfl, hfz, hnd⟩ := hW
  have hA : DataW.TrodAll enc Try.prog W 0 (fun _ => true) true Try.f7.params.toList args.toList ds p := hA0
  rw [Try.params7] at hA hval
  obtain ⟨v0, vs0, d0, ds0, p0, q0, hargs, rfl, rfl, h0, r0⟩ := trodAll_cons hA
  obtain ⟨v1, vs1, d1, ds1, p1, q1, rfl, rfl, rfl, h1, r1⟩ := trodAll_cons r0
  obtain ⟨v2, vs2, d2, ds2, p2, q2, rfl, rfl, rfl, h2, r2⟩ := trodAll_cons r1
  obtain ⟨v3, vs3, d3, ds3, p3, q3, rfl, rfl, rfl, h3, r3⟩ := trodAll_cons r2
  obtain ⟨rfl, rfl, rfl⟩ := trodAll_nil r3
  obtain rfl : args = #[v0, v1, v2, v3] := by cases args; simp_all
  obtain ⟨rfl, rfl⟩ := trodVars_none hV
  obtain ⟨a0, len0, cap0, rfl⟩ := okWide_slice Try.underlying22 (hval 0 22 v0 rfl rfl)
  have k0 := h0
  have lt0 : ∀ x ∈ p0, x.block < W.heap.size := by obtain ⟨m, hm⟩ := k0; exact DataW.trod_lt m _ _ _ hm
  obtain ⟨z0, w0, c0⟩ : ∃ zs, Ints .u8 W a0 len0 zs ∧ len0 ≤ cap0 := by
    obtain ⟨fuel, hf⟩ := h0
    rcases open_ints Try.underlying22 Try.underlying5 (by kernel_rfl) hf with ⟨hcs, _⟩ | ⟨x, l, c, zs, hcs, _, hl, hm, hz, _, hcell, hwz⟩
    · simp [Value.cells] at hcs
      obtain ⟨rfl, rfl, rfl⟩ := hcs
      exact ⟨[], ⟨rfl, by omega, by simp, .inl rfl⟩, by omega⟩
    · simp [Value.cells] at hcs
      obtain ⟨rfl, rfl, rfl⟩ := hcs
      exact ⟨_, Ints.of_cells hl hm (by simpa using hz) hcell hwz, hl⟩
  obtain ⟨a1, rfl, rfl, rfl, w1⟩ := open_int Try.underlying3 (hval 1 3 v1 rfl rfl) h1
  obtain ⟨a2, rfl, rfl, rfl, w2⟩ := open_int Try.underlying3 (hval 2 3 v2 rfl rfl) h2
  obtain ⟨a3, rfl, rfl, rfl, w3⟩ := open_int Try.underlying3 (hval 3 3 v3 rfl rfl) h3
  clear hA0 hval0
  refine (packBytes_walk W a0 len0 cap0 z0 w0 c0 a1 w1 a2 w2 a3 w3).mono fun e W' ⟨he, bel⟩ => ?_
  subst he
  exact ⟨_, rfl, _, _, _, [], _, [], hW', trodAll_mk1 (shut_bool Try.underlying4 _), (trodAll_cons_mk (Below.trod Try.laidOut (by kernel_rfl) (of_decide_eq_true (by kernel_rfl)) k0 bel lt0) (trodAll_cons_mk (shut_int Try.underlying3 w1) (trodAll_cons_mk (shut_int Try.underlying3 w2) (trodAll_cons_mk (shut_int Try.underlying3 w3) trodAll_mk0)))), rfl, bel.frame _, fun h => by cases h⟩

theorem holds : Rows.PackBytesSaid :=
  OpenClaim.holds_of_wide 7 Try.f7 rfl rfl rfl rfl rfl rfl rfl ⟨rfl, rfl, rfl, rfl, rfl⟩ rfl rfl rfl rfl rfl (by kernel_rfl) Try.func7 (by kernel_rfl)
    (of_decide_eq_true (by kernel_rfl)) (by unfold Func.isWrapper; first | (rw [if_pos (by decide +kernel)]; kernel_rfl) | (rw [if_neg (by decide +kernel)]; exact ⟨rfl, rfl⟩))
    (fun os started H enc _ => lifted os started H enc)
end packBytes
end Go.Proofs.Ytmbclhkeidpooaa
