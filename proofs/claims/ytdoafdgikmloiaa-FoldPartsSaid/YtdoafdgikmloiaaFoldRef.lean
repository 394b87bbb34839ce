/- The walks of the document's own answer for layer 3: Blocks, Two, All, Fold. -/
import Derived.Test.YtdoafdgikmloiaaFoldWalk
import Derived.Test.YtdoafdgikmloiaaRef02
namespace Go.Proofs.Ytdoafdgikmloiaa
open Go.RowKit PolyM PackM FoldM

theorem rtwo_calls (a b : Option Addr) (n c m d : Nat) (xs ys : List Int) (w : World) (hi : Ints .u8 w a n xs) (hj : Ints .u8 w b m ys) (hn : n ≤ 128) (hm : m ≤ 128) :
    Calls Try.prog 21 #[.slice a n c, .slice b m d] w (NewBlk w (mid (pad xs) ys m)) := by
  have hlen := Lib.hid hj.len
  have hbx := Lib.hid (pad_bytes (bytes_of hi))
  have hby := Lib.hid (bytes_of hj)
  have hpl := Lib.hid (pad_len (zs := xs) (by rw [hi.len]; exact hn))
  go_enter Try.func21, Try.ntmps21
  go_wp2_with fail
  refine (rwhole_calls _ _ _ xs _ hi hn).mono ?_
  rintro e w1 ⟨g, hgw, rfl, hg0, hb0⟩
  rw [← mid_zero hpl.out ys] at hg0
  have hj1 := hj.below hb0 (Nat.le_refl _)
  have hJ := Lib.hid hj
  clear hi hj
  go_wp2
  go_loopw [6] (fun i wr => ∃ k : Nat, k ≤ m ∧ i = .int .i64 k ∧ wr.heap[g]? = some (.cells (cells (mid (pad xs) ys k)) 5 (0, 0)) ∧ Below w.heap.size w wr) (fun i _ => m - (intOf i).toNat)
  case atStart => exact ⟨0, by omega, rfl, hg0, hb0⟩
  case round =>
    obtain ⟨k, hk, rfl, hgk, hbk⟩ := hrel
    clear hg0 hb0 hj1
    by_cases hkn : k < m
    · have hk128 : k < 128 := by omega
      have hcell : wr.cell? ⟨g, k, none⟩ = some (.int .u8 ((pad xs).getD k 0)) := by
        rw [cell_of_row _ _ _ _ _ _ hgk, cells_getD (by rw [mid_len]; omega), mid_at hk128]
      have hfr : wr.frozen? ⟨g, k, none⟩ = false := frozen_of_row _ _ _ _ _ hgk
      obtain ⟨b, off, rfl, hsrc⟩ : ∃ b2 off, b = some ⟨b2, off, none⟩ ∧ wr.cell? ⟨b2, off + k, none⟩ = some (.int .u8 (ys.getD k 0)) := by
        rcases (hJ.out.below hbk (Nat.le_refl _)).row with q | ⟨b, off, e, _, hc⟩
        · omega
        · exact ⟨b, off, e, hc k hkn⟩
      have F : Hid (mid (pad xs) ys (k + 1) = (mid (pad xs) ys k).set k (xr ((pad xs).getD k 0) (ys.getD k 0))) := mid_succ hk128
      have hx := xor_xr (getD_in hbx.out k) (getD_in hby.out k)
      generalize (pad xs).getD k 0 = x at *
      generalize ys.getD k 0 = y at *
      generalize xr x y = z at *
      go_wp2
      go_region
      go_wp2
      go_roundw
      case rel =>
        refine ⟨k + 1, by omega, by go_num, ?_, (hbk.setCell hgw _).drew⟩
        show (wr.setCell ⟨g, k, none⟩ (.int .u8 z)).heap[g]? = _
        rw [heap_setCell_same _ _ _ _ _ _ hgk, cells_set, F.out]
      case measure => simp [intOf]; omega
    · obtain rfl : k = m := by omega
      go_wp2
      go_ret
      exact ⟨g, hgw, rfl, hgk, hbk⟩

theorem rblk_calls (a : Option Addr) (n c : Nat) (zs : List Int) (w : World) (h : Ints .u8 w a n zs) :
    Calls Try.prog 20 #[.slice a n c] w fun e w' => e = .returned (.bool (decide (Blk zs))) ∧ w = w' := by
  by_cases hb : Blk zs
  · rw [decide_eq_true hb]
    exact rblock_yes _ _ _ _ (by unfold Blk at hb; rwa [h.len] at hb)
  · rw [decide_eq_false hb]
    exact rblock_no _ _ _ _ h.max (fun q => hb (.inl (by rw [h.len]; exact q))) (fun q => hb (.inr (by rw [h.len]; exact q)))
theorem rblocks_calls (a : Option Addr) (n c : Nat) (hs : List Value) (ls : List (List Int)) (w : World) (h : Slab w a n hs ls) :
    Calls Try.prog 18 #[.slice a n c] w fun e w' => e = .returned (.bool (decide (Blks ls))) ∧ w = w' := by
  have hm := h.max
  have hlen := Lib.hid h.len
  go_enter Try.func18, Try.ntmps18
  go_wp2
  go_loop [3] (fun i => ∃ k : Nat, k ≤ n ∧ i = .int .i64 k ∧ Hid (Blks (ls.take k))) (fun i => n - (intOf i).toNat)
  case atStart => exact ⟨0, by omega, rfl, fun b hb => by simp at hb⟩
  case round =>
    obtain ⟨k, hk, rfl, hsm⟩ := hrel
    by_cases hkn : k < n
    · obtain ⟨b, off, A, L, C, zs, rfl, hlt, hhs, hls, hcell, hi⟩ := h.at hkn
      have hc := rblk_calls A L C zs w hi
      have hls' := Lib.hid hls
      clear hls hhs hi
      by_cases hb : Blk zs
      · rw [decide_eq_true hb] at hc
        have F : Hid (Blks (ls.take (k + 1))) := by
          refine Lib.hid ?_
          rw [take_snocL hls'.out, blks_append]
          exact ⟨hsm.out, fun x hx => by rw [List.mem_singleton.1 hx]; exact hb⟩
        clear hb
        go_wp2_with fail
        refine hc.mono ?_
        rintro e w1 ⟨rfl, rfl⟩
        clear hc
        go_wp2
        go_round
        case rel => exact ⟨k + 1, by omega, by go_num, F⟩
        case measure => simp [intOf]; omega
      · rw [decide_eq_false hb] at hc
        have F : Hid (decide (Blks ls) = false) := by refine Lib.hid ?_; exact decide_eq_false fun q => hb (q zs (List.mem_of_getElem? hls'.out))
        clear hb
        go_wp2_with fail
        refine hc.mono ?_
        rintro e w1 ⟨rfl, rfl⟩
        clear hc
        go_wp2
        go_ret
        exact ⟨ret_bool F.out.symm, rfl⟩
    · obtain rfl : k = n := by omega
      have F : Hid (decide (Blks ls) = true) := by
        refine Lib.hid ?_
        refine decide_eq_true ?_
        have := hsm.out
        rwa [List.take_of_length_le (by rw [hlen.out]; omega)] at this
      go_wp2
      go_ret
      exact ⟨ret_bool F.out.symm, rfl⟩

theorem rall_calls (a : Option Addr) (n c : Nat) (hs : List Value) (ls : List (List Int)) (w : World) (h : Slab w a n hs ls) (hb : Blks ls) :
    Calls Try.prog 19 #[.slice a n c] w (NewBlk w (foldL ls)) := by
  have hm := h.max
  have hlen := Lib.hid h.len
  have hmk := make_128
  have hB := Lib.hid h.each.bytes
  have hBl := Lib.hid hb
  have hg0 : (w.alloc (.cells (cells noughts) 5)).heap[w.heap.size]? = some (.cells (cells (foldL (ls.take 0))) 5 (0, 0)) := by rw [List.take_zero, foldL_nil]; exact heap_alloc_new _ _
  have hb0 : Below w.heap.size w (w.alloc (.cells (cells noughts) 5)) := (Below.refl _ _).alloc (Nat.le_refl _) _
  clear hb
  go_enter Try.func19, Try.ntmps19
  go_wp2
  generalize World.alloc _ _ = w1 at *
  clear hmk
  go_loopw [3, 4] (fun s i wr => ∃ k g : Nat, k ≤ n ∧ i = .int .i64 k ∧ s = .slice (some ⟨g, 0, none⟩) 128 128 ∧ w.heap.size ≤ g ∧ wr.heap[g]? = some (.cells (cells (foldL (ls.take k))) 5 (0, 0)) ∧ Below w.heap.size w wr) (fun _ i _ => n - (intOf i).toNat)
  case atStart => exact ⟨0, _, by omega, rfl, rfl, Nat.le_refl _, hg0, hb0⟩
  case round =>
    obtain ⟨k, g, hk, rfl, rfl, hgw, hgk, hbk⟩ := hrel
    clear hg0 hb0
    by_cases hkn : k < n
    · obtain ⟨b, off, A, L, C, zs, rfl, hls, hcell, hi, _⟩ := h.at_below hkn hbk
      have hL := hi.len
      have hblk := hBl.out zs (List.mem_of_getElem? hls)
      have hBk : ∀ x ∈ ls.take k, Bytes x := fun x hx => hB.out x (List.mem_of_mem_take hx)
      have hacc := Ints.ofCells hgk (foldL_len _) (by omega) (foldL_bytes hBk)
      have F : mid (pad (foldL (ls.take k))) zs L = foldL (ls.take (k + 1)) := by
        rw [pad_whole (foldL_len _), take_snocL hls, ← hL]
        exact fold_step hBk hblk
      have hc := rtwo_calls _ _ 128 128 L C _ zs wr hacc hi (by omega) (by unfold Blk at hblk; omega)
      rw [F] at hc
      clear hls hL hblk hBk hacc hi F
      go_wp2_with fail
      refine hc.mono ?_
      rintro e w2 ⟨g2, hg2, rfl, hgc, hb2⟩
      have hb3 := hbk.trans (hb2.mono hbk.size)
      have hg3 := Nat.le_trans hbk.size hg2
      clear hc hcell hgk hbk hb2 hg2
      go_wp2
      go_roundw
      case rel => exact ⟨k + 1, g2, by omega, by go_num, rfl, hg3, hgc, hb3⟩
      case measure => simp [intOf]; omega
    · obtain rfl : k = n := by omega
      have F : Hid (ls.take k = ls) := by refine Lib.hid ?_; rw [List.take_of_length_le (by rw [hlen.out]; omega)]
      go_wp2
      go_ret
      exact ⟨g, hgw, rfl, by rw [hgk, F.out], hbk⟩

/-- What the document's own Fold leaves. -/
def RFoldIs (w : World) (ls : List (List Int)) (e : Ending) (w' : World) : Prop :=
  (code ls = 0 ∧ ∃ g, w.heap.size ≤ g ∧ e = .returned (.tuple #[.slice (some ⟨g, 0, none⟩) 128 128, .int .i64 0]) ∧ w'.heap[g]? = some (.cells (cells (foldL ls)) 5 (0, 0)) ∧ Below w.heap.size w w') ∨ (code ls ≠ 0 ∧ e = .returned (.tuple #[.slice none 0 0, .int .i64 (code ls)]) ∧ w = w')
theorem rfold_calls (a : Option Addr) (n c : Nat) (hs : List Value) (ls : List (List Int)) (w : World) (h : Slab w a n hs ls) :
    Calls Try.prog 15 #[.slice a n c] w (RFoldIs w ls) := by
  have hm := h.max
  have hlen := h.len
  rcases code_or ls with ⟨hc, h1, h2⟩ | ⟨hc, h1, h2⟩ | ⟨hc, h1⟩
  · have hn : (n : Int) ≤ 16 := by omega
    have c1 := rblocks_calls a n c hs ls w h
    have c2 := rall_calls a n c hs ls w h h2
    rw [decide_eq_true h2] at c1
    have hc' := Lib.hid hc
    clear hlen h1 h2 hc
    go_enter Try.func15, Try.ntmps15
    go_wp2_with fail
    refine c1.mono ?_
    rintro e w1 ⟨rfl, rfl⟩
    go_wp2_with fail
    refine c2.mono ?_
    rintro e w2 ⟨g, hg, rfl, hgc, hb⟩
    go_wp2
    go_ret2
    exact .inl ⟨hc'.out, g, hg, rfl, hgc, hb⟩
  · have hn : (n : Int) ≤ 16 := by omega
    have c1 := rblocks_calls a n c hs ls w h
    rw [decide_eq_false h2] at c1
    have hc' := Lib.hid hc
    clear hlen h1 h2 hc
    go_enter Try.func15, Try.ntmps15
    go_wp2_with fail
    refine c1.mono ?_
    rintro e w1 ⟨rfl, rfl⟩
    go_wp2
    go_ret2
    exact .inr ⟨by rw [hc'.out]; decide, by rw [hc'.out]; rfl, rfl⟩
  · have hn : (16 : Int) < (n : Int) := by omega
    have hc' := Lib.hid hc
    clear hlen h1 hc
    go_enter Try.func15, Try.ntmps15
    go_wp2
    go_ret2
    exact .inr ⟨by rw [hc'.out]; decide, by rw [hc'.out]; rfl, rfl⟩
end Go.Proofs.Ytdoafdgikmloiaa
