/- The walk of the law's own test that package pack is there. -/
import Derived.Test.YtmbclhkeidpooaaPackWalk
namespace Go.Proofs.Ytmbclhkeidpooaa
open Go.RowKit PolyM PackM

theorem nil_ints (k : IntKind) (w : World) : Ints k w none 0 [] := ⟨rfl, by omega, by simp, .inl rfl⟩
theorem alive_calls (w : World) : Calls Try.prog 11 #[] w fun e w' => e = .returned (.bool true) ∧ Below w.heap.size w w' := by
  have F4 : Hid (strOfNums ((putL [] 1 2 258).take 4) = ⟨#[0, 2, 1, 0]⟩) := by refine Lib.hid ?_; decide +kernel
  have F5 : Hid (takeN (putL [] 1 2 258) 1 2 = 258) := by refine Lib.hid ?_; exact takeN_putL (by omega) (by omega) (by omega) (by decide)
  have hsl := fun g W => slice_to (some ⟨g, 0, none⟩) 128 128 4 (by omega) W
  go_enter Try.func11, Try.ntmps11
  go_wp2_with fail
  refine (put_ok none 0 0 [] 1 2 258 w (nil_ints _ _) (.inl rfl) (by omega) (by omega) (by omega) (by omega) (by decide)).mono ?_
  rintro e w1 ⟨g, hg, rfl, hgc, hb1⟩
  have hi1 := Ints.ofCells hgc (putL_len _ _ _ _) (by omega) (putL_bytes (by intro z hz; cases hz) _ _ _)
  clear hgc
  go_wp2_with fail
  refine (take_ok _ _ _ _ 1 2 w1 hi1 (.inr rfl) (by omega) (by omega) (by omega)).mono ?_
  rintro e w2 ⟨rfl, hb2⟩
  have ht := ((hi1.below hb2 (Nat.le_refl _)).take (N := 4) (by omega)).text (P := Try.prog) (c := 128) Try.underlying22 Try.underlying5 Try.underlying9
  rw [F4.out] at ht
  rw [F5.out]
  have hb3 := hb1.trans (hb2.mono hb1.size)
  clear hb1 hb2 hi1
  go_wp2
  go_ret
  exact ⟨rfl, hb3⟩

/-- Put answers a block. -/
def Good (n : Nat) (p s v : Int) : Prop := (n = 0 ∨ n = 128) ∧ Place p s ∧ 0 ≤ v ∧ v < 256 ^ s.toNat
/-- The error where it doesn't. -/
def putErr (n : Nat) : Int := if n = 0 ∨ n = 128 then 2 else 3
theorem putErr_ne (n : Nat) : (putErr n != 0) = true ∧ (putErr n == 0) = false := by unfold putErr; split <;> decide
theorem put_bad (a : Option Addr) (n c : Nat) (p s v : Int) (w : World) (hm : n ≤ 9223372036854775807) (v0 : -9223372036854775808 ≤ v) (v1 : v ≤ 9223372036854775807) (h : ¬ Good n p s v) :
    Calls Try.prog 9 #[.slice a n c, .int .i64 p, .int .i64 s, .int .i64 v] w fun e w' => e = .returned (.tuple #[.slice none 0 0, .int .i64 (putErr n)]) ∧ w = w' := by
  by_cases hn : n = 0 ∨ n = 128
  · rw [show putErr n = 2 by unfold putErr; rw [if_pos hn]]
    by_cases hp : Place p s
    · exact put_number a n c p s v w hn hp v0 v1 fun q => h ⟨hn, hp, q.1, q.2⟩
    · exact put_arg a n c p s v w hn hp
  · rw [show putErr n = 3 by unfold putErr; rw [if_neg hn]]
    exact put_text a n c p s v w hm (fun q => hn (.inl q)) (fun q => hn (.inr q))
theorem Good.nat {n : Nat} {p s v : Int} (h : Good n p s v) : ∃ P S : Nat, p = P ∧ s = S ∧ (n = 0 ∨ n = 128) ∧ 1 ≤ S ∧ S ≤ 4 ∧ P + S ≤ 128 ∧ 0 ≤ v ∧ v < 256 ^ S := by
  obtain ⟨h1, ⟨p1, p2, p3, p4⟩, h3, h4⟩ := h
  obtain ⟨P, rfl⟩ := Int.eq_ofNat_of_zero_le p3
  obtain ⟨S, rfl⟩ := Int.eq_ofNat_of_zero_le (show 0 ≤ s by omega)
  exact ⟨P, S, rfl, rfl, h1, by omega, by omega, by omega, h3, by rwa [Int.toNat_natCast] at h4⟩
theorem num_max {v : Int} {s : Nat} (s4 : s ≤ 4) (h : v < 256 ^ s) : v ≤ 4294967295 := by
  have hs : s = 0 ∨ s = 1 ∨ s = 2 ∨ s = 3 ∨ s = 4 := by omega
  obtain ⟨e0, e1, e2, e3, e4⟩ := pow_256
  rcases hs with rfl | rfl | rfl | rfl | rfl <;> omega
theorem num_max2 {v : Int} {s : Nat} (s1 : 1 ≤ s) (s4 : s ≤ 4) (h : ¬ v < 256 ^ s) : 256 ≤ v := by
  have hs : s = 1 ∨ s = 2 ∨ s = 3 ∨ s = 4 := by omega
  obtain ⟨e0, e1, e2, e3, e4⟩ := pow_256
  rcases hs with rfl | rfl | rfl | rfl <;> omega
end Go.Proofs.Ytmbclhkeidpooaa
