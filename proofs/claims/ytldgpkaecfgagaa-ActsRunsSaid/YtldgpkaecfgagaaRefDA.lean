/- The walks of the reference's small functions: Full, Sized, New, Lies. -/
import Derived.Test.YtldgpkaecfgagaaDiskL
import Derived.Test.YtldgpkaecfgagaaDiskM
import Derived.Maps.AppendAt
namespace Go.Proofs.Ytldgpkaecfgagaa
open Go.RowKit PolyM PackM FoldM DevM

theorem refsized_calls (a : Option Addr) (n c : Nat) (zs : List Int) (w : World) (h : Ints .u8 w a n zs) :
    Calls Try.prog 99 #[.slice a n c] w fun e w' => e = .returned (.bool (decide (Blk zs))) ∧ w' = w := by
  have hm := h.max
  have hl := h.len
  have hx : (((n : Int) == 0) = true ∧ Hid (decide (Blk zs) = true)) ∨ (((n : Int) == 0) = false ∧ ((n : Int) == 128) = true ∧ Hid (decide (Blk zs) = true)) ∨ (((n : Int) == 0) = false ∧ ((n : Int) == 128) = false ∧ Hid (decide (Blk zs) = false)) := by
    by_cases h0 : n = 0
    · exact .inl ⟨by simp [h0], Lib.hid (decide_eq_true (.inl (by omega)))⟩
    · by_cases h1 : n = 128
      · exact .inr (.inl ⟨by simp; omega, by simp; omega, Lib.hid (decide_eq_true (.inr (by omega)))⟩)
      · exact .inr (.inr ⟨by simp; omega, by simp; omega, Lib.hid (decide_eq_false (by rintro (q | q) <;> omega))⟩)
  clear hl
  rcases hx with ⟨d0, E⟩ | ⟨d0, d1, E⟩ | ⟨d0, d1, E⟩
  all_goals
    rw [E.out]
    go_enter Try.func99, Try.ntmps99
    go_wp2
    go_ret
    exact ⟨rfl, rfl⟩

/-- An answer of bytes, in memory of the call's own. -/
def NewB (w : World) (l : List Int) (e : Ending) (w' : World) : Prop :=
  ∃ A L C, e = .returned (.slice A L C) ∧ Fresh w.heap.size w' (.slice A L C) l ∧ Below w.heap.size w w'
theorem reffull_calls (a : Option Addr) (n c : Nat) (zs : List Int) (w : World) (h : Ints .u8 w a n zs) (hn : n ≤ 1000000) :
    Calls Try.prog 73 #[.slice a n c] w (NewB w (fullD zs)) := by
  have hmk := make_128
  have hm := h.max
  by_cases h0 : n = 0
  · subst h0
    obtain rfl : zs = [] := List.eq_nil_of_length_eq_zero h.len
    clear h
    go_enter Try.func73, Try.ntmps73
    go_wp2
    go_ret
    exact ⟨_, _, _, rfl, Fresh.ofCells (heap_alloc_new _ _) (by rfl) (by omega) (fun z hz => by rw [List.eq_of_mem_replicate hz]; omega) (Nat.le_refl _), (Below.refl _ _).alloc (Nat.le_refl _) _⟩
  · obtain ⟨i0, hi0, hz0, hz1, hz2⟩ := info_parts byte_info
    have E : fullD zs = zs := if_neg (by rw [h.len]; exact h0)
    rw [E]
    have d0 : ((n : Int) == 0) = false := by simp; omega
    have hI := Lib.hid h
    obtain ⟨x, rfl⟩ : ∃ x, a = some x := by
      rcases h.row with q | ⟨x, _, q, _⟩
      · exact absurd q h0
      · exact ⟨_, q⟩
    have hr := h.toRow
    clear h E hmk
    go_enter Try.func73, Try.ntmps73
    go_wp2_with (at_builtin; refine wpList_append_row _ rfl (.tmp 8) (.tmp 9) 29 rfl w.heap.size 5 i0 (.int .u8 0) 1 1 Try.underlying29 hi0 hz0 hz1 hz2 rfl (by omega) (.slice none 0 0) 0 [] rfl (World.ownsRow_nil _ _ _ _) (some x) n c (zs.map (Value.int .u8)) rfl hr (by simp [Value.oneCell']) (by simp only [maxLen]; omega) (by omega) (by simp) ?_)
    intro v' w1 hown hgrow hv
    have hb : Below w.heap.size w w1 := (Below.refl _ w).grown hgrow (by simp) (by intro k hk; simp [Value.ownBlock] at hk)
    have hF := Lib.hid (Fresh.ofOwn hown (by have := hI.out.max; omega) hI.out.wf)
    obtain ⟨A, C, rfl, _⟩ := own_form hown
    clear hown hgrow hv hr
    go_wp2
    go_ret
    exact ⟨_, _, _, rfl, by simpa using hF.out, hb⟩

set_option maxRecDepth 100000 in
set_option maxHeartbeats 2000000 in
theorem refnew_no (n : Int) (w : World) (h : n < 1 ∨ (1 ≤ n ∧ 256 < n)) :
    Calls Try.prog 27 #[.int .i64 n] w (DevIs w 2 ⟨[], [], false⟩) := by
  rcases h with h | ⟨h, h'⟩
  all_goals
    go_enter Try.func27, Try.ntmps27
    go_wp2
    exact bodyPost_ret (v := .tuple #[noDev, .int .i64 2]) (by simp [results, Try.results27, go_sem, noDev]) rfl ⟨_, rfl, noDev_is _ _, (Below.refl _ _).alloc (Nat.le_refl _) _⟩
set_option maxRecDepth 100000 in
set_option maxHeartbeats 2000000 in
theorem refnew_yes (n : Nat) (w : World) (h : (1 : Int) ≤ n) (h' : (n : Int) ≤ 256) :
    Calls Try.prog 27 #[.int .i64 n] w (DevIs w 0 ⟨List.replicate n [], [], false⟩) := by
  have hmk := make_hdrs n (by omega)
  go_enter Try.func27, Try.ntmps27
  go_wp2
  refine bodyPost_ret (v := .tuple #[.agg #[.slice (some ⟨w.heap.size + 1, 0, none⟩) n n, .slice none 0 0, .bool false], .int .i64 0]) (by simp [results, Try.results27, go_sem]) rfl ⟨_, rfl, (by simpa using none_dev w.heap.size (w.alloc _) n false (by simp) rfl (by omega)), ?_⟩
  exact ((Below.refl _ _).alloc (Nat.le_refl _) _).alloc (by simp) _

set_option maxRecDepth 100000 in
set_option maxHeartbeats 2000000 in
theorem reflies_calls (v : Value) (d : Dev) (k : Int) (w : World) (h : DevV w v d) (hM : MayD d) (p2 : 0 ≤ k) (p3 : k < d.blocks.length) :
    Calls Try.prog 70 #[v, .int .i64 k] w (NewB w (lies d k)) := by
  obtain ⟨A, n, C, hs, B, m, D, ht, rfl, h1, h2⟩ := h
  obtain ⟨c0, c1, c2, hb⟩ := boxed_dev (w := w) (x := .slice A n C) (y := .slice B m D) (z := .bool d.dead) (t := 25)
  have hl1 := h1.len
  have hm1 := h1.max
  have hkn : k < (n : Int) := by omega
  obtain ⟨b, off, A1, L, C1, zs, rfl, hlt, _, hls, hcell, hz⟩ := h1.at (i := k.toNat) (by omega)
  have hzb : Blk zs := blk_mem hM (List.mem_of_getElem? hls)
  have hL : L ≤ 1000000 := by have := hz.len; rcases hzb with q | q <;> omega
  have F : Hid (fullD zs = lies d k) := by
    refine Lib.hid ?_
    unfold lies
    rw [List.getD_eq_getElem?_getD, hls]; rfl
  have e5 := (hb.cell (p := ⟨b, off + k.toNat, none⟩) hlt).trans hcell
  have cw := fun W (hW : Below w.heap.size w W) => reffull_calls A1 L C1 zs W (hz.below hW (Nat.le_refl _)) hL
  rw [F.out] at cw
  clear hls hl1 h1 h2 hzb hM hcell
  go_enter Try.func70, Try.ntmps70
  go_wp2_with fail
  (with_reducible refine (cw _ hb).mono ?_)
  rintro e w3 ⟨A3, L3, C3, rfl, hF, hb4⟩
  have hF' := Lib.hid (hF.mono hb.size)
  clear cw hF hz
  go_wp2
  go_ret
  exact ⟨_, _, _, rfl, hF'.out, hb.trans (hb4.mono hb.size)⟩
end Go.Proofs.Ytldgpkaecfgagaa
