/- Plain mathematics of sums of bytes (layer 1): no program in it. What four of the eight steps make of a number, that a step is linear for exclusive or and takes unlike numbers to unlike ones. -/
import Derived.Test.YtcngonedcnddlaaBytesDef
namespace Go.Proofs.Ytcngonedcnddlaa.PolyM

def poly : Nat := 2197175160
def T (n : Nat) : Nat := n / 2 ^^^ (if n % 2 = 1 then poly else 0)
def T4 (n : Nat) : Nat := T (T (T (T n)))
def T8 (n : Nat) : Nat := T4 (T4 n)
def tab (i : Nat) : Nat := [0x00000000, 0x105ec76f, 0x20bd8ede, 0x30e349b1, 0x417b1dbc, 0x5125dad3, 0x61c69362, 0x7198540d, 0x82f63b78, 0x92a8fc17, 0xa24bb5a6, 0xb21572c9, 0xc38d26c4, 0xd3d3e1ab, 0xe330a81a, 0xf36e6f75].getD i 0
def half (n : Nat) : Nat := n / 16 ^^^ tab (n % 16)

theorem xor_lt {a b : Nat} (ha : a < 4294967296) (hb : b < 4294967296) : a ^^^ b < 4294967296 := Nat.xor_lt_two_pow (n := 32) ha hb
theorem tab_lt (i : Nat) : tab i < 4294967296 := by
  by_cases h : i < 16
  · have : ∀ i, i < 16 → tab i < 4294967296 := by decide
    exact this i h
  · unfold tab
    rw [List.getD_eq_getElem?_getD, List.getElem?_eq_none (by simp; omega)]
    decide
theorem half_lt {n : Nat} (h : n < 4294967296) : half n < 4294967296 := xor_lt (by omega) (tab_lt _)

theorem T_lt {n : Nat} (h : n < 4294967296) : T n < 4294967296 := by
  unfold T
  refine xor_lt (by omega) ?_
  split <;> decide
theorem T4_lt {n : Nat} (h : n < 4294967296) : T4 n < 4294967296 := T_lt (T_lt (T_lt (T_lt h)))
theorem T8_lt {n : Nat} (h : n < 4294967296) : T8 n < 4294967296 := T4_lt (T4_lt h)

theorem T_xor (a b : Nat) : T (a ^^^ b) = T a ^^^ T b := by
  unfold T
  rw [Nat.xor_div_two]
  have h : (a ^^^ b) % 2 = (a + b) % 2 := by
    have := Nat.xor_mod_two_eq_one (a := a) (b := b)
    omega
  rw [h]
  by_cases ha : a % 2 = 1 <;> by_cases hb : b % 2 = 1
  · rw [if_neg (by omega), if_pos ha, if_pos hb]
    rw [show a / 2 ^^^ poly ^^^ (b / 2 ^^^ poly) = (a / 2 ^^^ b / 2) ^^^ (poly ^^^ poly) by ac_rfl, Nat.xor_self]
  · rw [if_pos (by omega), if_pos ha, if_neg hb]
    simp only [Nat.xor_zero]; ac_rfl
  · rw [if_pos (by omega), if_neg ha, if_pos hb]
    simp only [Nat.xor_zero]; ac_rfl
  · rw [if_neg (by omega), if_neg ha, if_neg hb]
    simp only [Nat.xor_zero]
theorem T4_xor (a b : Nat) : T4 (a ^^^ b) = T4 a ^^^ T4 b := by simp only [T4, T_xor]
theorem T8_xor (a b : Nat) : T8 (a ^^^ b) = T8 a ^^^ T8 b := by simp only [T8, T4_xor]
theorem T_zero {n : Nat} (h : n < 4294967296) (e : T n = 0) : n = 0 := by
  unfold T at e
  by_cases ho : n % 2 = 1
  · rw [if_pos ho] at e
    have : n / 2 = poly := by
      have := congrArg (· ^^^ poly) e
      simpa [Nat.xor_assoc] using this
    unfold poly at this
    omega
  · rw [if_neg ho, Nat.xor_zero] at e
    omega
theorem xor_eq_zero {a b : Nat} (h : a ^^^ b = 0) : a = b := by
  have := congrArg (· ^^^ b) h
  simpa [Nat.xor_assoc] using this
theorem T_inj {a b : Nat} (ha : a < 4294967296) (hb : b < 4294967296) (e : T a = T b) : a = b :=
  xor_eq_zero (T_zero (xor_lt ha hb) (by rw [T_xor, e, Nat.xor_self]))
theorem T4_inj {a b : Nat} (ha : a < 4294967296) (hb : b < 4294967296) (e : T4 a = T4 b) : a = b :=
  T_inj ha hb (T_inj (T_lt ha) (T_lt hb) (T_inj (T_lt (T_lt ha)) (T_lt (T_lt hb)) (T_inj (T_lt (T_lt (T_lt ha))) (T_lt (T_lt (T_lt hb))) e)))
theorem T8_inj {a b : Nat} (ha : a < 4294967296) (hb : b < 4294967296) (e : T8 a = T8 b) : a = b := T4_inj ha hb (T4_inj (T4_lt ha) (T4_lt hb) e)

theorem join (i q r : Nat) (h : r < 2 ^ i) : 2 ^ i * q + r = 2 ^ i * q ^^^ r := by
  apply Nat.eq_of_testBit_eq
  intro j
  rw [Nat.testBit_xor, Nat.testBit_two_pow_mul_add _ h, Nat.testBit_two_pow_mul]
  by_cases hj : j < i
  · simp [hj, show ¬ i ≤ j by omega]
  · have : r.testBit j = false := Nat.testBit_lt_two_pow (Nat.lt_of_lt_of_le h (Nat.pow_le_pow_right (by omega) (by omega)))
    simp [hj, show i ≤ j by omega, this]
theorem join16 (n : Nat) : n = 16 * (n / 16) ^^^ n % 16 := by
  have := join 4 (n / 16) (n % 16) (by omega)
  rw [show (2 : Nat) ^ 4 = 16 from rfl] at this
  omega
theorem join256 (n : Nat) : n = 256 * (n / 256) ^^^ n % 256 := by
  have := join 8 (n / 256) (n % 256) (by omega)
  rw [show (2 : Nat) ^ 8 = 256 from rfl] at this
  omega
theorem T_two (m : Nat) : T (2 * m) = m := by
  unfold T
  rw [if_neg (by omega), Nat.xor_zero]
  omega
theorem T4_16 (m : Nat) : T4 (16 * m) = m := by
  unfold T4
  rw [show 16 * m = 2 * (2 * (2 * (2 * m))) by omega, T_two, T_two, T_two, T_two]
theorem T8_256 (m : Nat) : T8 (256 * m) = m := by
  unfold T8
  rw [show 256 * m = 16 * (16 * m) by omega, T4_16, T4_16]
theorem T4_tab : ∀ k, k < 16 → T4 k = tab k := by decide
theorem half_T4 (n : Nat) : half n = T4 n := by
  conv => rhs; rw [join16 n]
  rw [T4_xor, T4_16, T4_tab _ (by omega)]
  rfl

/-- The turned bits between two sums. -/
def fz (st : Nat) (l : List Int) : Nat := l.foldl (fun st z => T8 (st ^^^ z.toNat)) st
theorem fz_nil (st : Nat) : fz st [] = st := rfl
theorem fz_cons (st : Nat) (z : Int) (l : List Int) : fz st (z :: l) = fz (T8 (st ^^^ z.toNat)) l := rfl
theorem fz_append (st : Nat) (a b : List Int) : fz st (a ++ b) = fz (fz st a) b := List.foldl_append
theorem fz_snoc (st : Nat) (a : List Int) (z : Int) : fz st (a ++ [z]) = T8 (fz st a ^^^ z.toNat) := by rw [fz_append]; rfl
/-- Bytes. -/
theorem Bytes.cons {z : Int} {l : List Int} (h : Bytes (z :: l)) : 0 ≤ z ∧ z ≤ 255 ∧ Bytes l :=
  ⟨(h z (by simp)).1, (h z (by simp)).2, fun y hy => h y (by simp [hy])⟩
theorem fz_lt {l : List Int} (hl : Bytes l) : ∀ {st : Nat}, st < 4294967296 → fz st l < 4294967296 := by
  induction l with
  | nil => intro st h; exact h
  | cons z l ih =>
    intro st h
    have hz := hl.cons
    rw [fz_cons]
    exact ih hz.2.2 (T8_lt (xor_lt h (by omega)))
theorem fz_inj {l : List Int} (hl : Bytes l) : ∀ {a b : Nat}, a < 4294967296 → b < 4294967296 → fz a l = fz b l → a = b := by
  induction l with
  | nil => intro a b _ _ h; exact h
  | cons z l ih =>
    intro a b ha hb h
    have hz := hl.cons
    rw [fz_cons, fz_cons] at h
    have hz' : z.toNat < 4294967296 := by omega
    have e := T8_inj (xor_lt ha hz') (xor_lt hb hz') (ih hz.2.2 (T8_lt (xor_lt ha hz')) (T8_lt (xor_lt hb hz')) h)
    have := congrArg (· ^^^ z.toNat) e
    simpa [Nat.xor_assoc] using this

def not32 (s : Nat) : Nat := 4294967295 - s
theorem not32_xor {s : Nat} (h : s < 4294967296) : not32 s = 4294967295 ^^^ s := by
  unfold not32
  apply Nat.eq_of_testBit_eq
  intro i
  rw [show 4294967295 - s = 2 ^ 32 - (s + 1) by omega, Nat.testBit_two_pow_sub_succ (n := 32) h, Nat.testBit_xor, show (4294967295 : Nat) = 2 ^ 32 - 1 by rfl, Nat.testBit_two_pow_sub_one]
  by_cases hi : i < 32
  · simp [hi]
  · have : s.testBit i = false := Nat.testBit_lt_two_pow (Nat.lt_of_lt_of_le h (show 2 ^ 32 ≤ 2 ^ i from Nat.pow_le_pow_right (by omega) (by omega)))
    simp [hi, this]
def over (s : Nat) (l : List Int) : Nat := not32 (fz (not32 s) l)
/-- The sum as a Go number. -/
def overI (s : Int) (l : List Int) : Int := (over s.toNat l : Nat)
theorem not32_lt (s : Nat) : not32 s < 4294967296 := by unfold not32; omega
theorem not32_not32 {s : Nat} (h : s < 4294967296) : not32 (not32 s) = s := by unfold not32; omega
theorem overI_in (s : Int) (l : List Int) : 0 ≤ overI s l ∧ overI s l ≤ 4294967295 := by
  unfold overI over not32; omega
theorem overI_nil {s : Int} (h0 : 0 ≤ s) (h1 : s ≤ 4294967295) : overI s [] = s := by
  unfold overI over
  rw [fz_nil, not32_not32 (by omega)]
  omega
theorem over_append {s : Nat} {a b : List Int} (ha : Bytes a) : over s (a ++ b) = over (over s a) b := by
  unfold over
  rw [not32_not32 (fz_lt ha (not32_lt _)), fz_append]
theorem overI_append {s : Int} {a b : List Int} (ha : Bytes a) : overI s (a ++ b) = overI (overI s a) b := by
  unfold overI
  rw [over_append ha]
  rfl
theorem overI_apart {s t : Int} {l : List Int} (hl : Bytes l) (hs : 0 ≤ s) (hs' : s ≤ 4294967295) (ht : 0 ≤ t) (ht' : t ≤ 4294967295) (h : overI s l = overI t l) : s = t := by
  unfold overI over at h
  have f1 := fz_lt hl (not32_lt s.toNat)
  have f2 := fz_lt hl (not32_lt t.toNat)
  have e : fz (not32 s.toNat) l = fz (not32 t.toNat) l := by
    unfold not32 at h ⊢
    unfold not32 at f1 f2
    omega
  have := fz_inj hl (not32_lt _) (not32_lt _) e
  unfold not32 at this
  omega

/-! ### Four bytes, and a sum's own -/
theorem T8_join (x y : Nat) : T8 x ^^^ y = T8 (x ^^^ 256 * y) := by rw [T8_xor, T8_256]
def T32 (n : Nat) : Nat := T8 (T8 (T8 (T8 n)))
theorem T32_lt {n : Nat} (h : n < 4294967296) : T32 n < 4294967296 := T8_lt (T8_lt (T8_lt (T8_lt h)))
theorem T32_inj {a b : Nat} (ha : a < 4294967296) (hb : b < 4294967296) (e : T32 a = T32 b) : a = b :=
  T8_inj ha hb (T8_inj (T8_lt ha) (T8_lt hb) (T8_inj (T8_lt (T8_lt ha)) (T8_lt (T8_lt hb)) (T8_inj (T8_lt (T8_lt (T8_lt ha))) (T8_lt (T8_lt (T8_lt hb))) e)))
def four (a b c d : Nat) : Nat := a ^^^ 256 * (b ^^^ 256 * (c ^^^ 256 * d))
theorem four_eq {a b c d : Nat} (ha : a < 256) (hb : b < 256) (hc : c < 256) : four a b c d = a + 256 * (b + 256 * (c + 256 * d)) := by
  unfold four
  have h1 := join256 (c + 256 * d)
  have h2 := join256 (b + 256 * (c + 256 * d))
  have h3 := join256 (a + 256 * (b + 256 * (c + 256 * d)))
  rw [show (c + 256 * d) / 256 = d by omega, show (c + 256 * d) % 256 = c by omega, Nat.xor_comm] at h1
  rw [show (b + 256 * (c + 256 * d)) / 256 = c + 256 * d by omega, show (b + 256 * (c + 256 * d)) % 256 = b by omega, Nat.xor_comm] at h2
  rw [show (a + 256 * (b + 256 * (c + 256 * d))) / 256 = b + 256 * (c + 256 * d) by omega, show (a + 256 * (b + 256 * (c + 256 * d))) % 256 = a by omega, Nat.xor_comm] at h3
  rw [← h1, ← h2, ← h3]
theorem mul_xor (x y : Nat) : 256 * (x ^^^ y) = 256 * x ^^^ 256 * y := by
  have := Nat.shiftLeft_xor_distrib (a := x) (b := y) (i := 8)
  simpa [Nat.shiftLeft_eq, Nat.mul_comm] using this
theorem fz_four (st : Nat) (a b c d : Int) : fz st [a, b, c, d] = T32 (st ^^^ four a.toNat b.toNat c.toNat d.toNat) := by
  simp only [fz_cons, fz_nil]
  unfold T32
  have h : st ^^^ a.toNat ^^^ 256 * (b.toNat ^^^ 256 * (c.toNat ^^^ 256 * d.toNat)) = st ^^^ four a.toNat b.toNat c.toNat d.toNat := by unfold four; ac_rfl
  rw [← h]
  have h2 : T8 (st ^^^ a.toNat) ^^^ b.toNat ^^^ 256 * (c.toNat ^^^ 256 * d.toNat) = T8 (st ^^^ a.toNat ^^^ 256 * (b.toNat ^^^ 256 * (c.toNat ^^^ 256 * d.toNat))) := by
    rw [Nat.xor_assoc, T8_join]
  have h3 : T8 (T8 (st ^^^ a.toNat) ^^^ b.toNat) ^^^ c.toNat ^^^ 256 * d.toNat = T8 (T8 (st ^^^ a.toNat) ^^^ b.toNat ^^^ 256 * (c.toNat ^^^ 256 * d.toNat)) := by
    rw [Nat.xor_assoc, T8_join]
  rw [← h2, ← h3, T8_join]

/-- THE SUM OF A TEXT AND ITS OWN FOUR BYTES IS ONE NUMBER. -/
theorem overI_self (s : Int) (h0 : 0 ≤ s) (h1 : s ≤ 4294967295) :
    overI s [s % 256, s / 256 % 256, s / 65536 % 256, s / 16777216] = ((not32 (T32 4294967295) : Nat) : Int) := by
  unfold overI over
  obtain ⟨n, rfl⟩ := Int.eq_ofNat_of_zero_le h0
  rw [fz_four, four_eq (by omega) (by omega) (by omega), Int.toNat_natCast, not32_xor (s := n) (by omega),
    show (((n : Int) % 256).toNat + 256 * (((n : Int) / 256 % 256).toNat + 256 * (((n : Int) / 65536 % 256).toNat + 256 * ((n : Int) / 16777216).toNat))) = n by omega,
    Nat.xor_assoc, Nat.xor_self, Nat.xor_zero]

/-- WHERE UP TO FOUR BYTES ARE TURNED THE SUM IS ANOTHER ONE. -/
theorem overI_turned (p r : List Int) (a b c d x y z v : Int) (hp : Bytes p) (hr : Bytes r) (h : Bytes [a, b, c, d]) (k : Bytes [x, y, z, v]) (hne : [a, b, c, d] ≠ [x, y, z, v]) :
    overI 0 (p ++ ([a, b, c, d] ++ r)) ≠ overI 0 (p ++ ([x, y, z, v] ++ r)) := by
  intro e
  rw [overI_append hp, overI_append hp, overI_append h, overI_append k] at e
  have e2 := overI_apart hr (overI_in _ _).1 (overI_in _ _).2 (overI_in _ _).1 (overI_in _ _).2 e
  generalize overI 0 p = s at e2
  unfold overI over at e2
  have f0 := not32_lt s.toNat
  have f1 := fz_lt h f0
  have f2 := fz_lt k f0
  rw [fz_four] at e2 f1
  rw [fz_four] at e2 f2
  have ba := h.cons; have bb := ba.2.2.cons; have bc := bb.2.2.cons; have bd := bc.2.2.cons
  have bx := k.cons; have by' := bx.2.2.cons; have bz := by'.2.2.cons; have bv := bz.2.2.cons
  have l1 : four a.toNat b.toNat c.toNat d.toNat < 4294967296 := by rw [four_eq (by omega) (by omega) (by omega)]; omega
  have l2 : four x.toNat y.toNat z.toNat v.toNat < 4294967296 := by rw [four_eq (by omega) (by omega) (by omega)]; omega
  have e3 : T32 (not32 s.toNat ^^^ four a.toNat b.toNat c.toNat d.toNat) = T32 (not32 s.toNat ^^^ four x.toNat y.toNat z.toNat v.toNat) := by
    have : ∀ m n : Nat, m < 4294967296 → n < 4294967296 → ((not32 m : Nat) : Int) = (not32 n : Nat) → m = n := by intro m n hm hn q; unfold not32 at q; omega
    exact this _ _ f1 f2 e2
  have e4 := T32_inj (xor_lt f0 l1) (xor_lt f0 l2) e3
  have e5 : four a.toNat b.toNat c.toNat d.toNat = four x.toNat y.toNat z.toNat v.toNat := by
    have := congrArg (not32 s.toNat ^^^ ·) e4
    simpa [← Nat.xor_assoc] using this
  rw [four_eq (by omega) (by omega) (by omega), four_eq (by omega) (by omega) (by omega)] at e5
  apply hne
  have q1 : a = x := by omega
  have q2 : b = y := by omega
  have q3 : c = z := by omega
  have q4 : d = v := by omega
  rw [q1, q2, q3, q4]

/-! ### Three texts -/
/-- What the law makes of three bytes. -/
def xor3 (x y z : Int) : Int := ((x.toNat ^^^ y.toNat ^^^ z.toNat : Nat) : Int)
def zip3 : List Int → List Int → List Int → List Int
  | x :: a, y :: b, z :: c => xor3 x y z :: zip3 a b c
  | _, _, _ => []
theorem fz_zip3 : ∀ (a b c : List Int) (p q r : Nat), a.length = b.length → b.length = c.length → fz (p ^^^ q ^^^ r) (zip3 a b c) = fz p a ^^^ fz q b ^^^ fz r c
  | [], [], [], p, q, r, _, _ => rfl
  | x :: a, y :: b, z :: c, p, q, r, h1, h2 => by
    show fz (T8 (p ^^^ q ^^^ r ^^^ (xor3 x y z).toNat)) (zip3 a b c) = _
    rw [show p ^^^ q ^^^ r ^^^ (xor3 x y z).toNat = (p ^^^ x.toNat) ^^^ (q ^^^ y.toNat) ^^^ (r ^^^ z.toNat) by simp only [xor3, Int.toNat_natCast]; ac_rfl, T8_xor, T8_xor,
      fz_zip3 a b c _ _ _ (by simpa using h1) (by simpa using h2)]
    rfl
theorem zip3_bytes : ∀ {a b c : List Int}, Bytes a → Bytes b → Bytes c → Bytes (zip3 a b c)
  | [], _, _, _, _, _ => by intro z hz; simp [zip3] at hz
  | _ :: _, [], _, _, _, _ => by intro z hz; simp [zip3] at hz
  | _ :: _, _ :: _, [], _, _, _ => by intro z hz; simp [zip3] at hz
  | x :: a, y :: b, z :: c, ha, hb, hc => by
    intro w hw
    rcases List.mem_cons.1 (show w ∈ xor3 x y z :: zip3 a b c from hw) with rfl | h
    · have h1 := ha.cons; have h2 := hb.cons; have h3 := hc.cons
      have : x.toNat ^^^ y.toNat ^^^ z.toNat < 2 ^ 8 := Nat.xor_lt_two_pow (Nat.xor_lt_two_pow (by omega) (by omega)) (by omega)
      unfold xor3
      omega
    · exact zip3_bytes ha.cons.2.2 hb.cons.2.2 hc.cons.2.2 w h
theorem over_zip3 {a b c : List Int} (ha : Bytes a) (hb : Bytes b) (hc : Bytes c) (h1 : a.length = b.length) (h2 : b.length = c.length) :
    over 0 (zip3 a b c) = over 0 a ^^^ over 0 b ^^^ over 0 c := by
  have l0 : (4294967295 : Nat) < 4294967296 := by omega
  have h := fz_zip3 a b c 4294967295 4294967295 4294967295 h1 h2
  rw [show (4294967295 : Nat) ^^^ 4294967295 ^^^ 4294967295 = 4294967295 by decide] at h
  unfold over
  rw [show not32 0 = 4294967295 by rfl, not32_xor (fz_lt (zip3_bytes ha hb hc) l0), not32_xor (fz_lt ha l0), not32_xor (fz_lt hb l0), not32_xor (fz_lt hc l0), h]
  generalize fz 4294967295 a = p
  generalize fz 4294967295 b = q
  generalize fz 4294967295 c = r
  rw [show 4294967295 ^^^ p ^^^ (4294967295 ^^^ q) ^^^ (4294967295 ^^^ r) = (4294967295 ^^^ 4294967295) ^^^ (4294967295 ^^^ (p ^^^ q ^^^ r)) by ac_rfl, Nat.xor_self, Nat.zero_xor]
end Go.Proofs.Ytcngonedcnddlaa.PolyM
