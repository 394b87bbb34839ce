/- The walks: which blocks are great; a block's byte. -/
import Derived.Test.YtdoafdgikmloiaaFoldAlive
namespace Go.Proofs.Ytdoafdgikmloiaa
open Go.RowKit PolyM PackM FoldM

/-- Blocks are more than statements go through. -/
def Great (ls : List (List Int)) : Prop := 300 < ls.length ∨ ∃ b ∈ ls, 1000 < b.length
instance (ls : List (List Int)) : Decidable (Great ls) := inferInstanceAs (Decidable (_ ∨ _))
theorem great_calls (a : Option Addr) (n c : Nat) (hs : List Value) (ls : List (List Int)) (w : World) (h : Slab w a n hs ls) :
    Calls Try.prog 13 #[.slice a n c] w fun e w' => e = .returned (.bool (decide (Great ls))) ∧ w = w' := by
  have hm := h.max
  have hlen := Lib.hid h.len
  by_cases hn : (300 : Int) < (n : Int)
  · have F : Hid (decide (Great ls) = true) := by refine Lib.hid ?_; exact decide_eq_true (.inl (by have := hlen.out; omega))
    rw [F.out]
    go_enter Try.func13, Try.ntmps13
    go_wp2
    go_ret
    exact ⟨rfl, rfl⟩
  · have hn' : (n : Int) ≤ 300 := by omega
    clear hn
    go_enter Try.func13, Try.ntmps13
    go_wp2
    go_loop [3] (fun i => ∃ k : Nat, k ≤ n ∧ i = .int .i64 k ∧ Hid (∀ b ∈ ls.take k, b.length ≤ 1000)) (fun i => n - (intOf i).toNat)
    case atStart => exact ⟨0, by omega, rfl, fun b hb => by simp at hb⟩
    case round =>
      obtain ⟨k, hk, rfl, hsm⟩ := hrel
      by_cases hkn : k < n
      · obtain ⟨b, off, A, L, C, zs, rfl, hlt, hhs, hls, hcell, hi⟩ := h.at hkn
        have hL := Lib.hid hi.len
        have hLm := hi.max
        have hls' := Lib.hid hls
        clear hls hhs hi
        by_cases hbig : (1000 : Int) < (L : Int)
        · have F : Hid (decide (Great ls) = true) := by
            refine Lib.hid ?_
            exact decide_eq_true (.inr ⟨zs, List.mem_of_getElem? hls'.out, by have := hL.out; omega⟩)
          go_wp2
          go_ret
          exact ⟨ret_bool F.out.symm, rfl⟩
        · have hbig' : (L : Int) ≤ 1000 := by omega
          clear hbig
          have F : Hid (∀ b ∈ ls.take (k + 1), b.length ≤ 1000) := by
            refine Lib.hid ?_
            rw [take_snocL hls'.out]
            intro x hx
            rcases List.mem_append.1 hx with q | q
            · exact hsm.out x q
            · rw [List.mem_singleton.1 q, hL.out]; omega
          go_wp2
          go_round
          case rel => exact ⟨k + 1, by omega, by go_num, F⟩
          case measure => simp [intOf]; omega
      · obtain rfl : k = n := by omega
        have F : Hid (decide (Great ls) = false) := by
          refine Lib.hid ?_
          refine decide_eq_false ?_
          rintro (q | ⟨b, hb, q⟩)
          · rw [hlen.out] at q; omega
          · have := hsm.out b (by rw [List.take_of_length_le (by rw [hlen.out]; omega)]; exact hb)
            omega
        go_wp2
        go_ret
        exact ⟨ret_bool F.out.symm, rfl⟩

theorem at_calls (a : Option Addr) (n c : Nat) (zs : List Int) (k : Nat) (w : World) (h : Ints .u8 w a n zs) (hk : k < 128) :
    Calls Try.prog 17 #[.slice a n c, .int .i64 k] w fun e w' => e = .returned (.int .u8 (zs.getD k 0)) ∧ w = w' := by
  have hm := h.max
  have hl := Lib.hid h.len
  by_cases hkn : n ≤ k
  · have F : Hid (zs.getD k 0 = 0) := by refine Lib.hid ?_; rw [List.getD_eq_getElem?_getD, List.getElem?_eq_none (by rw [hl.out]; exact hkn)]; rfl
    rw [F.out]
    have hg : decide ((n : Int) ≤ (k : Int)) = true := by simp; exact hkn
    go_enter Try.func17, Try.ntmps17
    go_wp2
    go_ret
    exact ⟨rfl, rfl⟩
  · have hkn' : k < n := by omega
    obtain ⟨b, off, rfl, hc⟩ : ∃ b off, a = some ⟨b, off, none⟩ ∧ w.cell? ⟨b, off + k, none⟩ = some (.int .u8 (zs.getD k 0)) := by
      rcases h.row with q | ⟨b, off, e, _, hc⟩
      · omega
      · exact ⟨b, off, e, hc k hkn'⟩
    generalize zs.getD k 0 = z at *
    clear hkn
    go_enter Try.func17, Try.ntmps17
    go_wp2
    go_ret
    exact ⟨rfl, rfl⟩
end Go.Proofs.Ytdoafdgikmloiaa
