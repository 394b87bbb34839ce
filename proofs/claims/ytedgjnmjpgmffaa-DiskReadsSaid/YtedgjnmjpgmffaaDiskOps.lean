/- Steps that come in as a slice of structs of three bytes; what steps do to what is read and what lasts. -/
import Derived.Test.YtedgjnmjpgmffaaDiskP
import Derived.Test.YtedgjnmjpgmffaaDiskL
import Derived.Deep.SlicePairs
namespace Go.Proofs.Ytedgjnmjpgmffaa
open Go.RowKit Go.WideShapes Go.ChangeShapes PolyM PackM FoldM DevM

/-- The slice that begins at 'a' has these steps: three bytes each. -/
def OpsV (w : World) (a : Option Addr) (n : Nat) (l : List (Int × Int × Int)) : Prop :=
  l.length = n ∧ n ≤ 9223372036854775807 ∧ (∀ x ∈ l, (0 ≤ x.1 ∧ x.1 ≤ 255) ∧ (0 ≤ x.2.1 ∧ x.2.1 ≤ 255) ∧ (0 ≤ x.2.2 ∧ x.2.2 ≤ 255)) ∧
    (n = 0 ∨ ∃ b off, a = some ⟨b, off, none⟩ ∧ b < w.heap.size ∧ ∀ i x, l[i]? = some x → w.cell? ⟨b, off + i * 3, none⟩ = some (.int .u8 x.1) ∧ w.cell? ⟨b, off + i * 3 + 1, none⟩ = some (.int .u8 x.2.1) ∧ w.cell? ⟨b, off + i * 3 + 2, none⟩ = some (.int .u8 x.2.2))
theorem OpsV.at_below {w w' : World} {a : Option Addr} {n : Nat} {l : List (Int × Int × Int)} (h : OpsV w a n l) {i : Nat} (hi : i < n) (hb : Below w.heap.size w w') :
    ∃ b off x, a = some ⟨b, off, none⟩ ∧ b < w.heap.size ∧ l[i]? = some x ∧ (0 ≤ x.1 ∧ x.1 ≤ 255) ∧ (0 ≤ x.2.1 ∧ x.2.1 ≤ 255) ∧ (0 ≤ x.2.2 ∧ x.2.2 ≤ 255) ∧ w'.cell? ⟨b, off + i * 3, none⟩ = some (.int .u8 x.1) ∧ w'.cell? ⟨b, off + i * 3 + 1, none⟩ = some (.int .u8 x.2.1) ∧ w'.cell? ⟨b, off + i * 3 + 2, none⟩ = some (.int .u8 x.2.2) := by
  obtain ⟨h1, h2, h3, h4 | ⟨b, off, e, hlt, hc⟩⟩ := h
  · omega
  · have hx : l[i]? = some (l[i]'(by omega)) := List.getElem?_eq_getElem _
    obtain ⟨c0, c1, c2⟩ := hc i _ hx
    obtain ⟨b0, b1, b2⟩ := h3 _ (List.mem_of_getElem? hx)
    exact ⟨b, off, _, e, hlt, hx, b0, b1, b2, (hb.cell (p := ⟨b, off + i * 3, none⟩) hlt).trans c0, (hb.cell (p := ⟨b, off + i * 3 + 1, none⟩) hlt).trans c1, (hb.cell (p := ⟨b, off + i * 3 + 2, none⟩) hlt).trans c2⟩
theorem open_ops {H : Type} {enc : TypeId × Value → H} {P : Program} {w : World} {base : Nat} {held : Bool} {t e : TypeId} {f0 f1 f2 : Field} {fuel : Nat} {a : Option Addr} {len cap : Nat} {x : DataW H × List MemPlace} (ht : P.underlying t = some (.slice e)) (he : P.underlying e = some (.struct #[f0, f1, f2])) (ce : P.cellsOf e = 3)
    (o0 : f0.offset = 0) (o1 : f1.offset = 1) (o2 : f2.offset = 2) (c0 : P.cellsOf f0.type = 1) (c1 : P.cellsOf f1.type = 1) (c2 : P.cellsOf f2.type = 1) (k0 : P.underlying f0.type = some (.int .u8)) (k1 : P.underlying f1.type = some (.int .u8)) (k2 : P.underlying f2.type = some (.int .u8))
    (h : DataW.trod enc P w base (fun _ => true) held fuel t [.slice a len cap] = some x) : ∃ l, OpsV w a len l ∧ len ≤ cap := by
  rcases Go.Deep.open_slice ht h with ⟨hcs, _⟩ | ⟨ad, l, c, m, n, D, Pl, hcs, _, hl, hm, hmm, _, hx⟩
  · simp at hcs
    obtain ⟨rfl, rfl, rfl⟩ := hcs
    exact ⟨[], ⟨rfl, by omega, by simp, .inl rfl⟩, by omega⟩
  · simp at hcs
    obtain ⟨rfl, rfl, rfl⟩ := hcs
    simp only [if_true] at hmm
    subst hmm
    have each : ∀ i, i < m → ∃ q : Int × Int × Int, ((0 ≤ q.1 ∧ q.1 ≤ 255) ∧ (0 ≤ q.2.1 ∧ q.2.1 ≤ 255) ∧ (0 ≤ q.2.2 ∧ q.2.2 ≤ 255)) ∧ w.cell? (ad.add (i * 3)) = some (.int .u8 q.1) ∧ w.cell? (ad.add (i * 3 + 1)) = some (.int .u8 q.2.1) ∧ w.cell? (ad.add (i * 3 + 2)) = some (.int .u8 q.2.2) := by
      intro i hi
      obtain ⟨cs', h1, h2⟩ := hx i hi
      rw [ce] at h1
      obtain ⟨_, hlen, hcell⟩ := World.cells?_some h1
      obtain ⟨xs, k, hk, hxy, _, hxl, hf⟩ := DataW.trod_struct he h2
      match xs, hxl, cs', hlen with
      | [y0, y1, y2], _, [v0, v1, v2], _ =>
        have g0 := hf 0 f0 rfl
        have g1 := hf 1 f1 rfl
        have g2 := hf 2 f2 rfl
        simp [o0, o1, o2, c0, c1, c2] at g0 g1 g2
        obtain ⟨z0, e0, _, w0⟩ := DataW.trod_int k0 g0
        obtain ⟨z1, e1, _, w1⟩ := DataW.trod_int k1 g1
        obtain ⟨z2, e2, _, w2⟩ := DataW.trod_int k2 g2
        have q0 := hcell 0 (by omega)
        have q1 := hcell 1 (by omega)
        have q2 := hcell 2 (by omega)
        rw [Go.Deep.add_add] at q0 q1 q2
        simp at e0 e1 e2
        refine ⟨(z0, z1, z2), ⟨bounds_u8 w0, bounds_u8 w1, bounds_u8 w2⟩, ?_, ?_, ?_⟩
        · rw [← e0]; simpa using q0
        · rw [← e1]; simpa using q1
        · rw [← e2]; simpa using q2
    obtain ⟨q, hq⟩ := Go.Deep.choose_lt each
    refine ⟨(List.range len).map q, ⟨by simp, by unfold maxLen at hm; omega, fun x hx => ?_, ?_⟩, hl⟩
    · obtain ⟨i, hi, rfl⟩ := List.mem_map.1 hx
      exact (hq i (by have := List.mem_range.1 hi; omega)).1
    · by_cases h0 : len = 0
      · exact .inl h0
      · obtain ⟨b, off, spot⟩ := ad
        have hspot : spot = none := by simpa [Addr.add] using World.cell?_spot (hq 0 (by omega)).2.1
        subst hspot
        refine .inr ⟨b, off, rfl, cell_lt (hq 0 (by omega)).2.1, fun i x hx => ?_⟩
        rw [List.getElem?_map] at hx
        rcases Nat.lt_or_ge i len with g | g
        · rw [List.getElem?_range g] at hx
          injection hx with hx
          subst hx
          obtain ⟨_, p0, p1, p2⟩ := hq i (by omega)
          rw [add_plain'] at p0 p1 p2
          exact ⟨p0, by rw [Nat.add_assoc]; exact p1, by rw [Nat.add_assoc]; exact p2⟩
        · rw [List.getElem?_eq_none (by simpa using g)] at hx
          cases hx
theorem ops_in {H : Type} {enc : TypeId × Value → H} {w : World} {base : Nat} {held : Bool} {a : Option Addr} {len cap : Nat} {d : DataW H} {p : List MemPlace} (h : DataW.Trod enc Try.prog w base (fun _ => true) held 50 (.slice a len cap) d p) : ∃ l, OpsV w a len l ∧ len ≤ cap := by
  obtain ⟨fuel, hf⟩ := h
  exact open_ops Try.underlying50 Try.underlying53 (by kernel_rfl) (by kernel_rfl) (by kernel_rfl) (by kernel_rfl) (by kernel_rfl) (by kernel_rfl) (by kernel_rfl) Try.underlying5 Try.underlying5 Try.underlying5 hf

theorem put_seen_self {d : Dev} {k : Int} {zs : List Int} : seen (putD d k zs) k = fullD zs := by
  unfold seen putD
  rw [List.foldl_append]
  show fullD (if k = k then zs else _) = _
  rw [if_pos rfl]
theorem fua_lies_self {d : Dev} {k : Int} {zs : List Int} (h : useE d k zs = 0) : lies (fuaD d k zs) k = fullD zs := by
  obtain ⟨_, p2, p3, _⟩ := useE_zero h
  unfold lies fuaD
  rw [getD_set' (by omega), if_pos rfl]
theorem fua_seen_self {d : Dev} {k : Int} {zs : List Int} (h : useE d k zs = 0) : seen (fuaD d k zs) k = fullD zs := by
  obtain ⟨_, p2, p3, _⟩ := useE_zero h
  unfold seen fuaD
  rw [foldl_none (fun x => x.1) k, getD_set' (by omega), if_pos rfl]
  intro x hx
  have := (List.mem_filter.1 hx).2
  simpa [keepB] using this
theorem fua_seen_other {d : Dev} {k o : Int} {zs : List Int} (h : useE d k zs = 0) (hk : ¬ k = o) (ho : 0 ≤ o) : seen (fuaD d k zs) o = seen d o := by
  obtain ⟨_, p2, _⟩ := useE_zero h
  unfold seen fuaD
  rw [getD_other (by omega), foldl_filter hk]
theorem fua_lies_other {d : Dev} {k o : Int} {zs : List Int} (h : useE d k zs = 0) (hk : ¬ k = o) (ho : 0 ≤ o) : lies (fuaD d k zs) o = lies d o := by
  obtain ⟨_, p2, _⟩ := useE_zero h
  unfold lies fuaD
  rw [getD_other (by omega)]
theorem flush_seen {d : Dev} (k : Int) : seen (flushD d) k = lies (flushD d) k := rfl

/-- What steps hold: what is read, and what lasts, is told by these bytes. -/
def Told (d : Dev) (now sure : List Int) (i : Nat) : Prop :=
  MayD d ∧ d.dead = false ∧ d.blocks.length = 4 ∧ d.wait.length ≤ i ∧ now.length = 4 ∧ sure.length = 4 ∧ (∀ z ∈ now, 0 ≤ z ∧ z ≤ 255) ∧ (∀ z ∈ sure, 0 ≤ z ∧ z ≤ 255) ∧ ∀ k : Nat, k < 4 → seen d k = fullL (now.getD k 0) ∧ lies d k = fullL (sure.getD k 0)
end Go.Proofs.Ytedgjnmjpgmffaa
