/- The walk of package fold: what Fold answers. -/
import Derived.Test.YtdoafdgikmloiaaBlk
import Derived.Test.YtdoafdgikmloiaaSlab
import Derived.Test.YtdoafdgikmloiaaFoldMath
import Derived.Laws.BitsAllLaws
import Derived.Laws.Rows
import Derived.Outline
import Derived.IntWalk
import Derived.WalkMore
import Derived.Deep.LoopGhost
namespace Go.Proofs.Ytdoafdgikmloiaa
open Go.RowKit PolyM PackM FoldM

theorem xor_xr {a b : Int} (ha : 0 ≤ a ∧ a ≤ 255) (hb : 0 ≤ b ∧ b ≤ 255) : bits .xor .u8 a b = xr a b := by
  obtain ⟨x, rfl⟩ := Int.eq_ofNat_of_zero_le ha.1
  obtain ⟨y, rfl⟩ := Int.eq_ofNat_of_zero_le hb.1
  rw [u8_xor_nat _ _ (by omega) (by omega)]
  rfl
/-- What Fold leaves. -/
def FoldIs (w : World) (ls : List (List Int)) (e : Ending) (w' : World) : Prop :=
  (code ls = 0 ∧ PutIs w (foldL ls) e w') ∨ (code ls ≠ 0 ∧ e = .returned (.tuple #[.slice none 0 0, .int .i64 (code ls)]) ∧ Below w.heap.size w w')

theorem fold_calls (a : Option Addr) (n c : Nat) (hs : List Value) (ls : List (List Int)) (w : World) (h : Slab w a n hs ls) :
    Calls Try.prog 10 #[.slice a n c] w (FoldIs w ls) := by
  have hm := h.max
  have hlen := Lib.hid h.len
  by_cases hn : (16 : Int) < (n : Int)
  · have hcode : Hid (code ls = 4) := by refine Lib.hid ?_; unfold code; rw [if_pos (by have := hlen.out; omega)]
    go_enter Try.func10, Try.ntmps10
    go_wp2
    go_step3
    go_wp2
    try rw [Exit.noGoto_ret]
    go_ret2
    refine .inr ⟨by rw [hcode.out]; decide, ?_, Below.refl _ _⟩
    rw [hcode.out]
    rfl
  · have hn' : (n : Int) ≤ 16 := by omega
    obtain ⟨hz, hsz⟩ := zero_of_info zero_block
    have hB := Lib.hid h.each.bytes
    have hg0 : (w.alloc (.cells (cells noughts) 39)).heap[w.heap.size]? = some (.cells (cells (foldL (ls.take 0))) 39 (0, 0)) := by
      rw [List.take_zero, foldL_nil]; exact heap_alloc_new _ _
    have hb0 : Below w.heap.size w (w.alloc (.cells (cells noughts) 39)) := (Below.refl _ _).alloc (Nat.le_refl _) _
    go_enter Try.func10, Try.ntmps10
    go_wp2
    go_step3
    go_wp2
    go_step3
    go_wp2
    generalize World.alloc _ _ = w1 at *
    obtain ⟨g, hg, hgw⟩ : ∃ g, g = w.heap.size ∧ w.heap.size ≤ g := ⟨_, rfl, Nat.le_refl _⟩
    have hgH : Hid (w.heap.size = g) := hg.symm
    rw [← hg] at hg0 ⊢
    clear hg hn
    go_loopg [5, 15] n (fun r s5 s15 wr => ∃ k : Nat, k + r = n ∧ s5 = .int .i64 0 ∧ s15 = .int .i64 k ∧ wr.heap[g]? = some (.cells (cells (foldL (ls.take k))) 39 (0, 0)) ∧ Below w.heap.size w wr ∧ Hid (Blks (ls.take k)))
    case atStart => exact ⟨0, by omega, rfl, rfl, hg0, hb0, fun b hb => by simp at hb⟩
    case round =>
      obtain ⟨k, hk, rfl, rfl, hgk, hbk, hblk⟩ := hrel
      clear hg0 hb0
      by_cases hkn : k < n
      · obtain ⟨b, off, A, L, C, zs, rfl, hls, hcell, hi, hi0⟩ := h.at_below hkn hbk
        have hL := Lib.hid hi.len
        have hLm := hi.max
        have hsn := Lib.hid (take_snocL hls)
        by_cases hb : L = 0 ∨ L = 128
        · have F : Hid (mid (foldL (ls.take k)) zs L = foldL (ls.take (k + 1))) := by
            refine Lib.hid ?_
            rw [hsn.out, ← hL.out]
            exact fold_step (fun x hx => hB.out x (List.mem_of_mem_take hx)) (by unfold Blk; rw [hL.out]; exact hb)
          have F2 : Hid (Blks (ls.take (k + 1))) := by
            refine Lib.hid ?_
            rw [hsn.out, blks_append]
            refine ⟨hblk.out, fun x hx => ?_⟩
            rw [List.mem_singleton.1 hx]
            unfold Blk; rw [hL.out]; exact hb
          have hd : ((L : Int) == 0) = true ∨ ((L : Int) == 0) = false ∧ ((L : Int) == 128) = true := by
            rcases hb with rfl | rfl
            · exact .inl rfl
            · exact .inr ⟨rfl, rfl⟩
          have hbz := Lib.hid (bytes_of hi)
          have hacc := Lib.hid (foldL_bytes (l := ls.take k) fun x hx => hB.out x (List.mem_of_mem_take hx))
          have h00 := Lib.hid (mid_zero (foldL_len (ls.take k)) zs)
          have hL128 : L ≤ 128 := by omega
          have hls' := Lib.hid hls
          clear hb hls hblk
          generalize hacc' : foldL (ls.take k) = acc at *
          have hgk0 : wr.heap[g]? = some (.cells (cells (mid acc zs 0)) 39 (0, 0)) := by rw [h00.out]; exact hgk
          clear hgk hacc'
          rcases hd with hd | ⟨hd, hd2⟩
          all_goals
            go_wp2
            go_loopg [26] L (fun r s26 wq => ∃ m : Nat, m + r = L ∧ s26 = .int .i64 m ∧ wq.heap[g]? = some (.cells (cells (mid acc zs m)) 39 (0, 0)) ∧ Below w.heap.size w wq ∧ Ints .u8 wq A L zs)
            case atStart => exact ⟨0, by omega, rfl, hgk0, hbk, hi⟩
            case round =>
              obtain ⟨m, hm', rfl, hgm, hbm, him⟩ := hrel
              clear hgk0 hbk hi hcell
              by_cases hml : m < L
              · obtain ⟨b2, o2, rfl, hsrc⟩ : ∃ b2 o2, A = some ⟨b2, o2, none⟩ ∧ wr.cell? ⟨b2, o2 + m, none⟩ = some (.int .u8 (zs.getD m 0)) := by
                  rcases him.row with q | ⟨b2, o2, e, _, hc⟩
                  · omega
                  · exact ⟨b2, o2, e, hc m hml⟩
                have hm128 : m < 128 := by omega
                have hsum : wr.cell? ⟨g, m, none⟩ = some (.int .u8 (acc.getD m 0)) := by
                  rw [cell_of_row _ _ _ _ _ _ hgm, cells_getD (by rw [mid_len]; exact hm128), mid_at hm128]
                have hfr : wr.frozen? ⟨g, m, none⟩ = false := frozen_of_row _ _ _ _ _ hgm
                have hx := xor_xr (getD_in hacc.out m) (getD_in hbz.out m)
                have F3 : Hid (mid acc zs (m + 1) = (mid acc zs m).set m (xr (acc.getD m 0) (zs.getD m 0))) := mid_succ hm128
                generalize acc.getD m 0 = x at *
                generalize zs.getD m 0 = y at *
                generalize xr x y = z at *
                have hI := Lib.hid him
                clear him
                go_wp2
                go_roundg (L - (m + 1))
                case measure => omega
                case rel =>
                  refine ⟨m + 1, by omega, by go_num, ?_, hbm.setCell hgw _, (hi0.out.below (hbm.setCell hgw _) (Nat.le_refl _))⟩
                  rw [heap_setCell_same _ _ _ _ _ _ hgm, cells_set, F3.out]
              · obtain rfl : m = L := by omega
                clear him hd hi0
                try clear hd2
                go_wp2
                go_roundg (n - (k + 1))
                case measure => omega
                case rel => exact ⟨k + 1, by omega, rfl, by go_num, by rw [hgm, F.out], hbm, F2⟩
        · have d0 : ((L : Int) == 0) = false := by simp; omega
          have d1 : ((L : Int) == 128) = false := by simp; omega
          have hcode : Hid (code ls = 3) := by
            refine Lib.hid ?_
            unfold code
            rw [if_neg (by rw [hlen.out]; omega), if_neg]
            intro q
            have := q zs (List.mem_of_getElem? hls)
            unfold Blk at this
            rw [hL.out] at this
            exact hb this
          clear hb hls
          go_wp2
          try rw [Exit.noGoto_ret]
          go_ret2
          refine .inr ⟨by rw [hcode.out]; decide, ?_, hbk⟩
          rw [hcode.out]
          rfl
      · obtain rfl : k = n := by omega
        have F : Hid (ls.take k = ls) := by refine Lib.hid ?_; rw [List.take_of_length_le (by rw [hlen.out]; omega)]
        go_wp2
        try rw [Exit.noGoto_ret]
        go_ret2
        refine .inl ⟨code_zero.2 ⟨by have := hlen.out; omega, by have := hblk.out; rwa [F.out] at this⟩, g, hgw, rfl, ?_, hbk⟩
        rw [hgk, F.out]
end Go.Proofs.Ytdoafdgikmloiaa
