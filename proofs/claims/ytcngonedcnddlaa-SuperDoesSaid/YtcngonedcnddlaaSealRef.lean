/- The document's own four bytes, number, and sealed block (layer 9's, for later layers too). -/
import Derived.Test.YtcngonedcnddlaaLabelBox
import Derived.Test.YtcngonedcnddlaaDiskStr
import Derived.Laws.OwnMore
import Derived.Test.YtcngonedcnddlaaPackRef
import Derived.Test.YtcngonedcnddlaaPolyRef
import Derived.WalkMore
import Derived.Deep.RegionHeld3
import Derived.Deep.Cut
namespace Go.Proofs.Ytcngonedcnddlaa
open Go.RowKit PolyM PackM SealM LabelM
set_option linter.unusedVariables false

/-- A new block that reads as these bytes: what Four leaves. -/
theorem four_calls (n : Int) (h0 : 0 ≤ n) (h1 : n ≤ 4294967295) (w : World) : Calls Try.prog 37 #[.int .u32 n] w fun e w' => ∃ g, w.heap.size ≤ g ∧ e = .returned (.slice (some ⟨g, 0, none⟩) 4 4) ∧ w'.heap[g]? = some (.cells (cells (fourL n)) 5 (0, 0)) ∧ Below w.heap.size w w' := by
  have e1 : IntKind.u8.wrap (n % 256) = n % 256 := IntWalk.u8_in _ (by omega)
  have e2 : IntKind.u8.wrap (n / 256 % 256) = n / 256 % 256 := IntWalk.u8_in _ (by omega)
  have e3 : IntKind.u8.wrap (n / 65536 % 256) = n / 65536 % 256 := IntWalk.u8_in _ (by omega)
  have e4 : IntKind.u8.wrap (n / 16777216) = n / 16777216 := IntWalk.u8_in _ (by omega)
  go_enter Try.func37, Try.ntmps37
  go_wp2
  go_ret
  exact ⟨_, Nat.le_refl _, rfl, heap_alloc_new _ _, (Below.refl _ _).alloc (Nat.le_refl _) _⟩
theorem number_calls (a : Option Addr) (n c : Nat) (zs : List Int) (p : Nat) (w : World) (hi : Ints .u8 w a n zs) (hn : n ≤ 128) (hp : p + 4 ≤ 128) :
    Calls Try.prog 28 #[.slice a n c, .int .i64 p] w fun e w' => e = .returned (.int .u32 (takeN zs p 4)) ∧ Below w.heap.size w w' := by
  have hB := bytes_of hi
  have hT := takeN_in hB p 4
  rw [pow_256.2.2.2.2] at hT
  have ka := fun W h => at_calls a n c zs p 4 W h hn (by omega) (by omega) hp
  generalize takeN zs p 4 = v at *
  have e1 : IntKind.u32.wrap v = v := IntWalk.u32_in _ (by omega)
  go_enter Try.func28, Try.ntmps28
  go_wp2_with (go_at_call 39; refine (ka _ hi).mono ?_; rintro e w2 ⟨rfl, hb2⟩)
  go_ret
  exact ⟨rfl, hb2⟩
set_option maxRecDepth 100000 in
set_option maxHeartbeats 4000000 in
theorem sealed_calls (a : Option Addr) (n c : Nat) (zs : List Int) (w : World) (hi : Ints .u8 w a n zs) (hn : n ≤ 128) :
    Calls Try.prog 38 #[.slice a n c] w (NewBlk w (sealL (pad zs))) := by
  have hl := hi.len
  have hB := pad_bytes (bytes_of hi)
  have hpl : (pad zs).length = 128 := pad_len (by omega)
  have hsum := overI_in 0 ((pad zs).take 124)
  have hsl := fun g W => slice_to (some ⟨g, 0, none⟩) 128 128 124 (by omega) W
  have kw : ∀ (g : Nat) (W : World), Ints .u8 W (some ⟨g, 0, none⟩) 128 (pad zs) → Calls Try.prog 56 #[.slice (some ⟨g, 0, none⟩) 128 128, .int .i64 124, .int .i64 4, .int .i64 (overI 0 ((pad zs).take 124))] W (NewBlk W (putL (pad zs) 124 4 (overI 0 ((pad zs).take 124)))) := fun g (W : World) h => with_calls (some ⟨g, 0, none⟩) 128 128 (pad zs) 124 4 (overI 0 ((pad zs).take 124)) W h (by omega) (by omega) (by omega) hsum.1 hsum.2
  have ks := fun g (W : World) h => rsum_calls (some ⟨g, 0, none⟩) 124 128 ((pad zs).take 124) W h
  have F : Hid (sealL (pad zs) = putL (pad zs) 124 4 (overI 0 ((pad zs).take 124))) := rfl
  generalize overI 0 ((pad zs).take 124) = S at *
  go_enter Try.func38, Try.ntmps38
  go_upto_region 2 with (go_at_call 27; refine (rwhole_calls _ _ _ _ _ hi hn).mono ?_; rintro e w2 ⟨g, hg, rfl, hc, hb⟩)
  have hI := Ints.ofCells hc hpl (by omega) hB
  have hT := hI.take (N := 124) (by omega)
  go_wp2_with (first
    | (go_at_call 57; (with_reducible refine (ks g _ hT).mono ?_); rintro e w3 ⟨rfl, rfl⟩)
    | (go_at_call 56; (with_reducible refine (kw g _ hI).mono ?_); rintro e w4 ⟨g4, hg4, rfl, hc4, hb4⟩))
  go_ret
  have hg5 : w.heap.size ≤ g4 := Nat.le_trans hb.size hg4
  have hb5 := hb.trans (hb4.mono hb.size)
  exact ⟨g4, hg5, rfl, by rw [F.out]; exact hc4, hb5⟩
theorem own_keep {B : Nat} {e : TypeId} {k : Nat} {v : Value} {n : Nat} {xs : List Value} {w w' : World} (h : w.ownsRow B e k v n xs) (hb : Below w.heap.size w w') : w'.ownsRow B e k v n xs :=
  h.kept (row := none) ⟨hb.os, hb.tape, hb.output, hb.size, fun j hj _ => hb.block j hj⟩ (by cases hv : v.ownBlock <;> simp)
theorem BlkAt.grown {w w' : World} {g : Nat} {cs : Array Value} {t : TypeId} {row : Option Nat} (h : BlkAt w g cs t) (hg : w.grownBy w' row) (hne : some g ≠ row) : BlkAt w' g cs t := by
  have := h.lt
  unfold BlkAt at *
  rw [hg.block g this hne]
  exact h
theorem four_bytes {n : Int} (h0 : 0 ≤ n) (h1 : n ≤ 4294967295) : Bytes (fourL n) := by
  intro z hz
  simp only [fourL, List.mem_cons, List.not_mem_nil, or_false] at hz
  rcases hz with rfl | rfl | rfl | rfl <;> omega
theorem u8_inf : ∃ i, Try.prog.info? 5 = some i ∧ i.zero = some (.int .u8 0) ∧ i.size = 1 ∧ i.bytes = 1 :=
  info_parts (show (Try.prog.info? 5).map (fun i => (i.zero, i.size, i.bytes)) = some (some (.int .u8 0), 1, 1) by kernel_rfl)

theorem text_ints {w : World} {A : Option Addr} {n : Nat} {xs : List Value} {zs : List Int} (h : Row w 1 A n xs) (hn : n = zs.length ∧ xs = zs.map (Value.int .u8) ∧ n ≤ 1000) (hB : Bytes zs) : Ints .u8 w A n zs := by
  obtain ⟨h1, h2, h3⟩ := hn
  exact Ints.ofRow (by rw [← h2]; exact h) (by omega) fun z hz => WalkArith.wf_u8 (hB z hz)
end Go.Proofs.Ytcngonedcnddlaa
