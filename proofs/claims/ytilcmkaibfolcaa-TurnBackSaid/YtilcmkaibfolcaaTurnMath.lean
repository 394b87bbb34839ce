/- Where blocks stand (layer 7), as numbers. No program in it. -/
import Derived.Test.YtilcmkaibfolcaaShapeMath
namespace Go.Proofs.Ytilcmkaibfolcaa.TurnM
open Go.Proofs.Ytilcmkaibfolcaa Go.Proofs.Ytilcmkaibfolcaa.ShapeM
set_option linter.unusedVariables false

def par (N K s : Nat) : Nat := N - 1 - s / K % N
def mem (N K s k : Nat) : Nat := (par N K s + 1 + k) % N
def slot (N K s m : Nat) : Nat := (m + N - par N K s - 1) % N
def blk (N K s k : Nat) : Nat := (s / K * (N - 1) + k) * K + s % K
def spS (N K b : Nat) : Nat := b / K / (N - 1) * K + b % K
def spK (N K b : Nat) : Nat := b / K % (N - 1)
/-- The sum of the members of the first j slots of row r. -/
def sumOn (N r : Nat) : Nat → Nat
  | 0 => 0
  | j + 1 => sumOn N r j + (r * (N - 1) + j) % N

theorem fin1 : ∀ N < 17, 3 ≤ N → ∀ r < 8, ∀ k < 16, k < N - 1 → (N - 1 - r % N + 1 + k) % N = (r * (N - 1) + k) % N := by decide +kernel
theorem fin1p : ∀ N < 17, 3 ≤ N → ∀ r < 8, (N - 1 - r % N + 1 + (N - 1)) % N = N - 1 - r % N := by decide +kernel
theorem fin2 : ∀ N < 17, 3 ≤ N → ∀ r < 8, ∀ k < 16, k < N → ((N - 1 - r % N + 1 + k) % N + N - (N - 1 - r % N) - 1) % N = k := by decide +kernel
theorem fin3 : ∀ N < 17, 3 ≤ N → ∀ r < 8, ∀ m < 16, m < N → (N - 1 - r % N + 1 + (m + N - (N - 1 - r % N) - 1) % N) % N = m := by decide +kernel
theorem fin4 : ∀ N < 17, 3 ≤ N → ∀ r < 8, ∀ m < 16, m < N → decide ((m + N - (N - 1 - r % N) - 1) % N = N - 1) = decide (N - 1 - r % N = m) := by decide +kernel
theorem fin5 : ∀ N < 17, 3 ≤ N → ∀ r < 8, sumOn N r (N - 1) + (N - 1 - r % N) = N * (N - 1) / 2 := by decide +kernel
theorem fin6 : ∀ N < 17, 3 ≤ N → ∀ r < 8, ∀ i < 16, (N - 1 - (r + i) % N = N - 1 - r % N ↔ i % N = 0) := by decide +kernel

/-- The numbers of an array that may be. -/
structure May3 (N K R : Nat) : Prop where
  n0 : 3 ≤ N
  n1 : N < 17
  k0 : 1 ≤ K
  k1 : K < 9
  r0 : 1 ≤ R
  r1 : R < 9

section
variable {N K R : Nat} (h : May3 N K R)
include h
theorem row_lt {s : Nat} (hs : s < K * R) : s / K < R := by
  rw [Nat.div_lt_iff_lt_mul (by have := h.k0; omega), Nat.mul_comm]
  exact hs
theorem row8 {s : Nat} (hs : s < K * R) : s / K < 8 := by have := row_lt h hs; have := h.r1; omega
theorem par_lt (s : Nat) : par N K s < N := by have := h.n0; unfold par; omega
theorem mem_lt (s k : Nat) : mem N K s k < N := Nat.mod_lt _ (by have := h.n0; omega)
theorem slot_lt (s m : Nat) : slot N K s m < N := Nat.mod_lt _ (by have := h.n0; omega)
theorem mem_on {s k : Nat} (hs : s < K * R) (hk : k < N - 1) : mem N K s k = (s / K * (N - 1) + k) % N := by have := h.n1; exact fin1 N h.n1 h.n0 _ (row8 h hs) k (by omega) hk
theorem mem_par {s : Nat} (hs : s < K * R) : mem N K s (N - 1) = par N K s := fin1p N h.n1 h.n0 _ (row8 h hs)
theorem slot_mem {s k : Nat} (hs : s < K * R) (hk : k < N) : slot N K s (mem N K s k) = k := by have := h.n1; exact fin2 N h.n1 h.n0 _ (row8 h hs) k (by omega) hk
theorem mem_slot {s m : Nat} (hs : s < K * R) (hm : m < N) : mem N K s (slot N K s m) = m := by have := h.n1; exact fin3 N h.n1 h.n0 _ (row8 h hs) m (by omega) hm
theorem slot_par {s m : Nat} (hs : s < K * R) (hm : m < N) : slot N K s m = N - 1 ↔ par N K s = m := by have := h.n1; exact decide_eq_decide.1 (fin4 N h.n1 h.n0 _ (row8 h hs) m (by omega) hm)
theorem sum_par {s : Nat} (hs : s < K * R) : sumOn N (s / K) (N - 1) + par N K s = N * (N - 1) / 2 := fin5 N h.n1 h.n0 _ (row8 h hs)

theorem blk_div {s k : Nat} : blk N K s k / K = s / K * (N - 1) + k := by
  have hk := h.k0
  unfold blk
  rw [Nat.mul_comm _ K, Nat.mul_add_div (by omega), Nat.div_eq_of_lt (Nat.mod_lt _ (by omega)), Nat.add_zero]
omit h in
theorem blk_mod {s k : Nat} : blk N K s k % K = s % K := by
  unfold blk
  rw [Nat.mul_comm _ K, Nat.mul_add_mod, Nat.mod_mod]
theorem spS_blk {s k : Nat} (hk : k < N - 1) : spS N K (blk N K s k) = s := by
  unfold spS
  rw [blk_div h, blk_mod, Nat.mul_comm _ (N - 1), Nat.mul_add_div (by omega), Nat.div_eq_of_lt hk, Nat.add_zero]
  have := Nat.div_add_mod s K
  rw [Nat.mul_comm K] at this
  exact this
theorem spK_blk {s k : Nat} (hk : k < N - 1) : spK N K (blk N K s k) = k := by
  unfold spK
  rw [blk_div h, Nat.mul_comm _ (N - 1), Nat.mul_add_mod, Nat.mod_eq_of_lt hk]
theorem spS_div {b : Nat} : spS N K b / K = b / K / (N - 1) := by
  have hk := h.k0
  unfold spS
  rw [Nat.mul_comm _ K, Nat.mul_add_div (by omega), Nat.div_eq_of_lt (Nat.mod_lt _ (by omega)), Nat.add_zero]
omit h in
theorem spS_mod {b : Nat} : spS N K b % K = b % K := by
  unfold spS
  rw [Nat.mul_comm _ K, Nat.mul_add_mod, Nat.mod_mod]
theorem blk_sp {b : Nat} : blk N K (spS N K b) (spK N K b) = b := by
  unfold blk
  rw [spS_div h, spS_mod]
  unfold spK
  rw [Nat.mul_comm (b / K / (N - 1)), Nat.div_add_mod, Nat.mul_comm, Nat.div_add_mod]
theorem spK_lt (b : Nat) : spK N K b < N - 1 := Nat.mod_lt _ (by have := h.n0; omega)
theorem spS_lt {b : Nat} (hb : b < (N - 1) * (K * R)) : spS N K b < K * R := by
  have h0 := h.n0
  have hk := h.k0
  have h1 : b / K < (N - 1) * R := by
    rw [Nat.div_lt_iff_lt_mul (by omega)]
    rw [Nat.mul_comm K R, ← Nat.mul_assoc] at hb
    exact hb
  have h2 : b / K / (N - 1) < R := by
    rw [Nat.div_lt_iff_lt_mul (by omega), Nat.mul_comm]
    exact h1
  have h3 : b % K < K := Nat.mod_lt _ (by omega)
  unfold spS
  have h4 : (b / K / (N - 1) + 1) * K ≤ R * K := Nat.mul_le_mul_right _ h2
  rw [Nat.mul_comm K R]
  rw [Nat.add_mul, Nat.one_mul] at h4
  omega
theorem blk_lt {s k : Nat} (hs : s < K * R) (hk : k < N - 1) : blk N K s k < (N - 1) * (K * R) := by
  have hk0 := h.k0
  have h1 := row_lt h hs
  have h2 : (s / K + 1) * (N - 1) ≤ R * (N - 1) := Nat.mul_le_mul_right _ h1
  rw [Nat.add_mul, Nat.one_mul] at h2
  have h3 : (s / K * (N - 1) + k + 1) * K ≤ R * (N - 1) * K := Nat.mul_le_mul_right _ (by omega)
  rw [Nat.add_mul, Nat.one_mul] at h3
  have h4 : s % K < K := Nat.mod_lt _ (by omega)
  have h5 : (N - 1) * (K * R) = R * (N - 1) * K := by rw [Nat.mul_comm K R, ← Nat.mul_assoc, Nat.mul_comm (N - 1) R]
  unfold blk
  omega
/-- The chunk's member. -/
theorem mem_sp {b : Nat} (hb : b < (N - 1) * (K * R)) : mem N K (spS N K b) (spK N K b) = b / K % N := by
  rw [mem_on h (spS_lt h hb) (spK_lt h b), spS_div h]
  unfold spK
  rw [Nat.mul_comm, Nat.div_add_mod]
theorem next_chunk {b : Nat} (hb : b + 1 < (N - 1) * (K * R)) (hd : (b + 1) % K = 0) : mem N K (spS N K (b + 1)) (spK N K (b + 1)) = (mem N K (spS N K b) (spK N K b) + 1) % N := by
  have hk := h.k0
  rw [mem_sp h hb, mem_sp h (by omega), Nat.succ_div, if_pos (Nat.dvd_of_mod_eq_zero hd), Nat.mod_add_mod]
omit h in
theorem same_div {b : Nat} (hd : (b + 1) % K ≠ 0) : (b + 1) / K = b / K := by
  rw [Nat.succ_div, if_neg (fun q => hd (Nat.mod_eq_zero_of_dvd q)), Nat.add_zero]
omit h in
theorem next_in {b : Nat} (hd : (b + 1) % K ≠ 0) : spS N K (b + 1) = spS N K b + 1 ∧ spK N K (b + 1) = spK N K b := by
  have e := same_div hd
  have e1 := Nat.div_add_mod (b + 1) K
  have e2 := Nat.div_add_mod b K
  unfold spS spK
  rw [e]
  rw [e] at e1
  exact ⟨by omega, rfl⟩
theorem next_mem {b : Nat} (hb : b + 1 < (N - 1) * (K * R)) (hd : (b + 1) % K ≠ 0) : mem N K (spS N K (b + 1)) (spK N K (b + 1)) = mem N K (spS N K b) (spK N K b) := by
  rw [mem_sp h hb, mem_sp h (by omega), same_div hd]
theorem par_round {s i : Nat} (hs : s < K * R) (hi : i < 16) : par N K (s + i * K) = par N K s ↔ i % N = 0 := by
  have hk := h.k0
  unfold par
  rw [Nat.add_mul_div_right _ _ (by omega)]
  exact fin6 N h.n1 h.n0 _ (row8 h hs) i hi
theorem par_first (s : Nat) : par N K (s / K * K) = par N K s := by
  unfold par
  rw [Nat.mul_div_cancel _ (by have := h.k0; omega)]
omit h in
theorem first_le (s : Nat) : s / K * K ≤ s := Nat.div_mul_le_self s K
end

/-- A config's numbers. -/
def nN (c : Cfg) : Nat := c.mem.toNat
def nK (c : Cfg) : Nat := c.chunk.toNat
def nR (c : Cfg) : Nat := c.rows.toNat
theorem may3 {c : Cfg} (h : MayC c) : May3 (nN c) (nK c) (nR c) := by
  obtain ⟨h1, h2, h3, h4, h5, h6, _⟩ := h
  unfold nN nK nR
  exact ⟨by omega, by omega, by omega, by omega, by omega, by omega⟩
theorem mem_nN {c : Cfg} (h : MayC c) : c.mem = (nN c : Int) := by have := h.1; unfold nN; omega
theorem chunk_nK {c : Cfg} (h : MayC c) : c.chunk = (nK c : Int) := by have := h.2.2.1; unfold nK; omega
theorem rows_nR {c : Cfg} (h : MayC c) : c.rows = (nR c : Int) := by have := h.2.2.2.2.1; unfold nR; omega
theorem strC_n {c : Cfg} (h : MayC c) : strC c = ((nK c * nR c : Nat) : Int) := by unfold strC; rw [chunk_nK h, rows_nR h]; simp [nK, nR]
theorem blkC_n {c : Cfg} (h : MayC c) : blkC c = (((nN c - 1) * (nK c * nR c) : Nat) : Int) := by
  unfold blkC
  rw [strC_n h, mem_nN h]
  have := (may3 h).n0
  have e : ((nN c : Int) - 1) = ((nN c - 1 : Nat) : Int) := by omega
  have e2 : (((nN c : Nat) : Int).toNat : Int) = nN c := by omega
  rw [e]
  push_cast
  rfl
end Go.Proofs.Ytilcmkaibfolcaa.TurnM
