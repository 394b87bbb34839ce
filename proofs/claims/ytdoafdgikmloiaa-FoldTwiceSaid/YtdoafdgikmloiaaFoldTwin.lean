/- The walks of Twin and Same: blocks in new memory, and two lists of blocks byte by byte. -/
import Derived.Test.YtdoafdgikmloiaaFoldRef
import Derived.RegionTactic
import Derived.WalkLawsBesides
import Derived.Deep.QuietTactic
import Derived.BigQuiet
namespace Go.Proofs.Ytdoafdgikmloiaa
open Go.RowKit PolyM PackM FoldM

/-- None of these headers' bytes stand in block x. -/
def Off (x : Option Nat) (hs : List Value) : Prop := ∀ v ∈ hs, ∀ ad L C, v = Value.slice (some ad) L C → 0 < L → some ad.block ≠ x
theorem Hdrs.grown {w w' : World} {hs : List Value} {ls : List (List Int)} {x : Option Nat} (h : Hdrs w hs ls) (hg : w.grownBy w' x) (hx : Off x hs) : Hdrs w' hs ls := by
  refine ⟨h.1, fun i v hv => ?_⟩
  obtain ⟨A, L, C, zs, e1, e2, e3⟩ := h.2 i v hv
  exact ⟨A, L, C, zs, e1, e2, e3.grown hg fun ad e h0 => hx v (List.mem_of_getElem? hv) ad L C (by rw [e2, e]) h0⟩
theorem Hdrs.lt {w : World} {hs : List Value} {ls : List (List Int)} (h : Hdrs w hs ls) {v : Value} (hv : v ∈ hs) {ad : Addr} {L C : Nat} (e : v = .slice (some ad) L C) (h0 : 0 < L) : ad.block < w.heap.size := by
  obtain ⟨i, hi, q⟩ := List.mem_iff_getElem.1 hv
  obtain ⟨A, L', C', zs, _, e2, e3⟩ := h.2 i v (by rw [List.getElem?_eq_getElem hi, q])
  rw [e] at e2
  injection e2 with e4 e5 e6
  subst e4; subst e5
  rcases e3.row with q | ⟨b, off, e7, hlt, _⟩
  · omega
  · injection e7 with e7; rw [e7]; exact hlt
theorem own_lt {w : World} {base : Nat} {e : TypeId} {size : Nat} {v : Value} {n : Nat} {xs : List Value} (h : w.ownsRow base e size v n xs) {k : Nat} (hk : v.ownBlock = some k) : k < w.heap.size ∧ base ≤ k := by
  obtain ⟨_, ⟨rfl, rfl⟩ | ⟨g, cap, cur, rfl, hb, hh, _⟩⟩ := h
  · simp [Value.ownBlock] at hk
  · simp only [Value.ownBlock, Option.some.injEq] at hk
    subst hk
    refine ⟨?_, hb⟩
    rcases Nat.lt_or_ge g w.heap.size with q | q
    · exact q
    · rw [Array.getElem?_eq_none q] at hh; cases hh
theorem own_below {w w' : World} {base : Nat} {e : TypeId} {size : Nat} {v : Value} {n : Nat} {xs : List Value} (h : w.ownsRow base e size v n xs) (hb : Below w.heap.size w w') : w'.ownsRow base e size v n xs := by
  have hk := fun k => own_lt (k := k) h
  obtain ⟨h1, h2 | ⟨g, cap, cur, rfl, q1, q2, q3⟩⟩ := h
  · exact ⟨h1, .inl h2⟩
  · exact ⟨h1, .inr ⟨g, cap, cur, rfl, q1, by rw [hb.block _ (hk g rfl).1]; exact q2, q3⟩⟩

/-- What holds when k blocks are copied. -/
def TwinRel (w : World) (ls : List (List Int)) (k : Nat) (v : Value) (wr : World) : Prop :=
  ∃ hs, wr.ownsRow w.heap.size 22 1 v k hs ∧ Hdrs wr hs (ls.take k) ∧ Off v.ownBlock hs ∧ Below w.heap.size w wr
/-- One block more: its copy in new memory (w2), boxed (w3), appended (w4). -/
theorem TwinRel.next {w : World} {ls : List (List Int)} {k : Nat} {v : Value} {wr w2 w4 : World} {hs : List Value} {zs : List Int} {A : Option Addr} {L C : Nat} {v4 : Value}
    (own : wr.ownsRow w.heap.size 22 1 v k hs) (hh : Hdrs wr hs (ls.take k)) (hx : Off v.ownBlock hs) (hb : Below w.heap.size w wr)
    (hls : ls[k]? = some zs) (hb2 : Below wr.heap.size wr w2) (hi : Ints .u8 w2 A L zs) (hA : ∀ x, A = some x → wr.heap.size ≤ x.block)
    (own4 : w4.ownsRow w.heap.size 22 1 v4 (k + 1) (hs ++ [.slice A L C])) (hg : (w2.alloc (.cells #[.slice A L C] 22)).grownBy w4 v.ownBlock)
    (hv : v4.ownBlock = v.ownBlock ∨ v4.ownBlock = some (w2.alloc (.cells #[.slice A L C] 22)).heap.size) : TwinRel w ls (k + 1) v4 w4 := by
  have hb3 : Below w2.heap.size w2 (w2.alloc (.cells #[.slice A L C] 22)) := (Below.refl _ _).alloc (Nat.le_refl _) _
  have hw3 : Below wr.heap.size wr (w2.alloc (.cells #[.slice A L C] 22)) := hb2.trans (hb3.mono hb2.size)
  have hall : Hdrs (w2.alloc (.cells #[.slice A L C] 22)) (hs ++ [.slice A L C]) (ls.take (k + 1)) := by
    rw [take_snocL hls]
    exact (hh.below hw3 (Nat.le_refl _)).append (Hdrs.one (hi.below hb3 (Nat.le_refl _)))
  have hoff : Off v.ownBlock (hs ++ [.slice A L C]) := by
    intro u hu ad L' C' e h0
    rcases List.mem_append.1 hu with q | q
    · exact hx u q ad L' C' e h0
    · rw [List.mem_singleton.1 q] at e
      injection e with e1 e2 e3
      intro e4
      have := own_lt own e4.symm
      have := hA ad e1
      omega
  refine ⟨_, own4, hall.grown hg hoff, ?_, ?_⟩
  · rcases hv with q | q
    · rw [q]; exact hoff
    · rw [q]
      intro u hu ad L' C' e h0 e4
      have := hall.lt hu e h0
      injection e4 with e4
      omega
  · refine below_own (hb.trans (hw3.mono hb.size)) hg rfl (fun q hq => (own_lt own hq).2) ?_
    exact Nat.le_trans hb.size hw3.size

theorem twin_calls (a : Option Addr) (n c : Nat) (hs : List Value) (ls : List (List Int)) (w : World) (h : Slab w a n hs ls) (hn : n ≤ 300) (hr : ∀ b ∈ ls, b.length ≤ 1000) :
    Calls Try.prog 14 #[.slice a n c] w fun e w' => ∃ A C hs', e = .returned (.slice A n C) ∧ Slab w' A n hs' ls ∧ Below w.heap.size w w' := by
  obtain ⟨i0, hi0, hz0, hz1, hz2⟩ := info_parts (show (Try.prog.info? 5).map (fun i => (i.zero, i.size, i.bytes)) = some (some (.int .u8 0), 1, 1) by kernel_rfl)
  obtain ⟨j0, hj0, jz0, jz1, jz2⟩ := info_parts (show (Try.prog.info? 22).map (fun i => (i.zero, i.size, i.bytes)) = some (some (.slice none 0 0), 1, 24) by kernel_rfl)
  have hm := h.max
  have hlen := Lib.hid h.len
  have hR := Lib.hid hr
  clear hr
  have T0 : TwinRel w ls 0 (.slice none 0 0) w := ⟨[], World.ownsRow_nil _ _ _ _, Hdrs.nil _, (fun v hv => absurd hv List.not_mem_nil), Below.refl _ _⟩
  go_enter Try.func14, Try.ntmps14
  go_wp2
  go_loopw [3, 4] (fun s i wr => ∃ k : Nat, k ≤ n ∧ i = .int .i64 k ∧ TwinRel w ls k s wr) (fun _ i _ => n - (intOf i).toNat)
  case atStart => exact ⟨0, by omega, rfl, T0⟩
  case round =>
    obtain ⟨k, hk, rfl, hs', own, hh, hx, hbk⟩ := hrel
    clear T0
    by_cases hkn : k < n
    · obtain ⟨b, off, A, L, C, zs, rfl, hls, hcell, hi, _⟩ := h.at_below hkn hbk
      have hL : L ≤ 1000 := by have := hR.out zs (List.mem_of_getElem? hls); have := hi.len; omega
      have hr0 := hi.toRow
      have hls' := Lib.hid hls
      have hX : Hid (Off _ hs') := hx
      have hH : Hid (Hdrs wr hs' (ls.take k)) := hh
      clear hls hx hh
      have hgen : ∀ v2 w2, w2.ownsRow wr.heap.size 5 1 v2 (0 + L) ([] ++ zs.map (Value.int .u8)) → wr.grownBy w2 (Value.slice none 0 0).ownBlock → ∃ A2 C2, v2 = .slice A2 L C2 ∧ Below wr.heap.size wr w2 ∧ Hid (Ints .u8 w2 A2 L zs) ∧ Hid (∀ x, A2 = some x → wr.heap.size ≤ x.block) ∧
          (w2.alloc (.cells #[.slice A2 L C2] 22)).ownsRow w.heap.size 22 1 u3 k hs' ∧ Row (w2.alloc (.cells #[.slice A2 L C2] 22)) 1 (some ⟨w2.heap.size, 0, none⟩) 1 [.slice A2 L C2] ∧ w.heap.size ≤ (w2.alloc (.cells #[.slice A2 L C2] 22)).heap.size := by
        intro v2 w2 own2 hg2
        have hb2 := (Below.refl wr.heap.size wr).grown hg2 (Nat.le_refl _) (by simp [Value.ownBlock])
        obtain ⟨A2, C2, rfl, _, ro, hA2⟩ := own_form own2
        rw [Nat.zero_add] at ro
        refine ⟨A2, C2, by rw [Nat.zero_add], hb2, Ints.ofRow (by simpa using ro) (by omega) hi.wf, hA2, own_below own (hb2.trans (((Below.refl _ _).alloc (Nat.le_refl _) _).mono hb2.size)), ?_, Nat.le_trans hbk.size (Nat.le_trans hb2.size (by simp))⟩
        have hg : (w2.alloc (.cells #[.slice A2 L C2] 22)).heap[w2.heap.size]? = some (.cells #[.slice A2 L C2] 22 (0, 0)) := heap_alloc_new _ _
        refine ⟨rfl, .inr ⟨w2.heap.size, 0, rfl, by simp, fun i v hv => ?_⟩⟩
        rw [cell_of_row _ _ _ _ _ _ hg, Nat.zero_add, ← hv, ← Array.getElem?_toList]
      go_wp2_with (first
        | (at_builtin; refine wpList_append_row _ rfl (.const (.slice none 0 0)) (.tmp 15) _ rfl wr.heap.size 5 i0 _ 1 1 Try.underlying22 hi0 hz0 hz1 hz2 rfl (by omega) (.slice none 0 0) 0 [] rfl (World.ownsRow_nil _ _ _ _) A L C _ rfl hr0 (by simp [Value.oneCell']) (by simp only [maxLen]; omega) (by omega) (Nat.le_refl _) ?_; intro v2 w2 own2 hg2 _; obtain ⟨A2, C2, rfl, hb2, hI2, hA2, own3, hr3, hB3⟩ := hgen v2 w2 own2 hg2)
        | (at_builtin; refine wpList_append_row _ rfl (.tmp 11) (.tmp 17) _ rfl w.heap.size 22 j0 _ 1 24 Try.underlying27 hj0 jz0 jz1 jz2 rfl (by omega) _ k hs' rfl own3 (some ⟨w2.heap.size, 0, none⟩) 1 1 [.slice A2 L C2] rfl hr3 (by simp [Value.oneCell']) (by simp only [maxLen]; omega) (by omega) hB3 ?_; intro v4 w4 own4 hg4 hv4))
      have T1 := TwinRel.next own hH.out hX.out hbk hls'.out hb2 hI2.out hA2.out own4 hg4 hv4
      clear own hH hX hgen own3 hr3 hr0 own4 hg4 hv4 hI2 hA2 hcell
      go_wp2
      go_roundw
      case rel => exact ⟨k + 1, by omega, by go_num, T1⟩
      case measure => simp [intOf]; omega
    · obtain rfl : k = n := by omega
      have F : Hid (ls.take k = ls) := by refine Lib.hid ?_; rw [List.take_of_length_le (by rw [hlen.out]; omega)]
      rw [F.out] at hh
      obtain ⟨A, C, rfl, _, ro, _⟩ := own_form own
      have hS := Lib.hid (Slab.ofRow ro hh hm)
      clear own hh hx ro
      go_wp2
      go_ret
      exact ⟨A, C, hs', rfl, hS.out, hbk⟩

/-- Two lists that read as the same blocks. -/
theorem rsame_yes (a b : Option Addr) (n c d : Nat) (hs ht : List Value) (ls : List (List Int)) (w : World) (h : Slab w a n hs ls) (g : Slab w b n ht ls) :
    Calls Try.prog 16 #[.slice a n c, .slice b n d] w fun e w' => e = .returned (.bool true) ∧ Below w.heap.size w w' := by
  have hm := h.max
  have hne : ((n : Int) != n) = false := by simp
  go_enter Try.func16, Try.ntmps16
  go_wp2
  go_loopw [5] (fun i wr => ∃ k : Nat, k ≤ n ∧ i = .int .i64 k ∧ Below w.heap.size w wr) (fun i _ => n - (intOf i).toNat)
  case atStart => exact ⟨0, by omega, rfl, Below.refl _ _⟩
  case round =>
    obtain ⟨k, hk, rfl, hbk⟩ := hrel
    by_cases hkn : k < n
    · obtain ⟨b1, o1, A, L, C, zs, rfl, hls, hcell, hi, _⟩ := h.at_below hkn hbk
      obtain ⟨b2, o2, A2, L2, C2, zs2, rfl, hls2, hcell2, hi2, _⟩ := g.at_below hkn hbk
      rw [hls] at hls2
      injection hls2 with e
      subst e
      have t1 := fun m => (hi.below (below_drewN (Below.refl wr.heap.size wr) m) (Nat.le_refl _)).text (P := Try.prog) (c := C) Try.underlying22 Try.underlying5 Try.underlying9
      have t2 := fun m => (hi2.below (below_drewN (Below.refl wr.heap.size wr) m) (Nat.le_refl _)).text (P := Try.prog) (c := C2) Try.underlying22 Try.underlying5 Try.underlying9
      clear hls hi hi2
      have hk0 : (0 : Int) ≤ (k : Int) := by omega
      have hk1 : (k : Int) < (n : Int) := by omega
      go_wp2
      go_quiet (fail)
      go_wp2
      go_roundw
      case rel => exact ⟨k + 1, by omega, by go_num, below_drewN hbk _⟩
      case measure => simp [intOf]; omega
    · obtain rfl : k = n := by omega
      go_wp2
      go_ret
      exact ⟨rfl, hbk⟩
end Go.Proofs.Ytdoafdgikmloiaa
