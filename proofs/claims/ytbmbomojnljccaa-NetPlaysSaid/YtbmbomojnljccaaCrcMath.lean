/- Sums of 32 bits: taking in a bit, and taking it back. Plain facts. -/
import Derived.WalkKit
import Derived.Laws.BitsAllLaws
namespace Go.Proofs.Ytbmbomojnljccaa.Crc
def Poly : BitVec 32 := 0x04c11db7#32
/-- Twice a remainder. -/
def twice (r : BitVec 32) : BitVec 32 := (r <<< 1) ^^^ (if r.msb then Poly else 0#32)
/-- Twice, undone. -/
def half (r : BitVec 32) : BitVec 32 := if r.getLsbD 0 then ((r ^^^ Poly) >>> 1) ||| 0x80000000#32 else r >>> 1
def bv (b : Bool) : BitVec 32 := if b then 1#32 else 0#32
/-- One bit more. -/
def step (r : BitVec 32) (b : Bool) : BitVec 32 := twice r ^^^ bv b
/-- The remainder of n bits. -/
def R (f : Nat → Bool) : Nat → BitVec 32
  | 0 => 0#32
  | n + 1 => step (R f n) (f n)
/-- Bit i of a text. -/
def bitOf (s : List UInt8) (i : Nat) : Bool := (s[i / 8]?.getD 0).toNat.testBit (7 - i % 8)
theorem bitOf_append_left (s t : List UInt8) (i : Nat) (h : i < 8 * s.length) : bitOf (s ++ t) i = bitOf s i := by
  unfold bitOf
  rw [List.getElem?_append_left (by omega)]
theorem bitOf_append_right (s t : List UInt8) (i : Nat) : bitOf (s ++ t) (8 * s.length + i) = bitOf t i := by
  unfold bitOf
  rw [List.getElem?_append_right (by omega), show (8 * s.length + i) / 8 - s.length = i / 8 from by omega, show (8 * s.length + i) % 8 = i % 8 from by omega]
/-- Texts of one length are alike if their bits are. -/
theorem bits_ext (s t : List UInt8) (hl : s.length = t.length) (h : ∀ i, i < 8 * s.length → bitOf s i = bitOf t i) : s = t := by
  apply List.ext_getElem hl
  intro i h1 h2
  rw [← UInt8.toNat_inj]
  apply Nat.eq_of_testBit_eq
  intro j
  by_cases hj : j < 8
  · have := h (8 * i + (7 - j)) (by omega)
    unfold bitOf at this
    rw [show (8 * i + (7 - j)) / 8 = i from by omega, show 7 - (8 * i + (7 - j)) % 8 = j from by omega] at this
    simpa [h1, h2] using this
  · have a1 := UInt8.toNat_lt s[i]
    have a2 := UInt8.toNat_lt t[i]
    have p : 2 ^ 8 ≤ 2 ^ j := Nat.pow_le_pow_right (by decide) (by omega)
    rw [Nat.testBit_lt_two_pow (by omega), Nat.testBit_lt_two_pow (by omega)]
theorem twice_xor (a b : BitVec 32) : twice (a ^^^ b) = twice a ^^^ twice b := by
  unfold twice
  rw [BitVec.shiftLeft_xor_distrib, BitVec.msb_xor]
  cases a.msb <;> cases b.msb <;> simp
  · rw [BitVec.xor_assoc]
  · rw [BitVec.xor_assoc, BitVec.xor_assoc, BitVec.xor_comm Poly]
  · have h : Poly ^^^ Poly = 0#32 := BitVec.xor_self
    rw [BitVec.xor_assoc, BitVec.xor_comm Poly, BitVec.xor_assoc, h, BitVec.xor_zero]
theorem top_low : ∀ i, i < 31 → (2147483648#32).getLsbD i = false := by decide
theorem poly0 : Poly.getLsbD 0 = true := by decide
theorem half_twice (r : BitVec 32) : half (twice r) = r := by
  have h0 : (twice r).getLsbD 0 = r.msb := by
    unfold twice
    cases h : r.msb <;> simp [poly0]
  unfold half
  rw [h0]
  apply BitVec.eq_of_getLsbD_eq
  intro i hi
  cases hm : r.msb
  · simp [twice, hm]
    by_cases h31 : i = 31
    · subst h31
      rw [BitVec.msb_eq_getLsbD_last] at hm
      simpa using hm
    · have : 1 + i < 32 := by omega
      simp [this]
  · simp [twice, hm]
    by_cases h31 : i = 31
    · subst h31
      rw [BitVec.msb_eq_getLsbD_last] at hm
      simp at hm
      simp [hm]
    · have : 1 + i < 32 := by omega
      have h2 := top_low i (by omega)
      rw [h2]
      simp [this]
theorem twice_half (r : BitVec 32) : twice (half r) = r := by
  apply BitVec.eq_of_getLsbD_eq
  intro i hi
  have hmsb : (half r).msb = r.getLsbD 0 := by
    unfold half
    rw [BitVec.msb_eq_getLsbD_last]
    cases h : r.getLsbD 0 <;> simp
  unfold twice
  rw [hmsb]
  match i, hi with
  | 0, hi =>
    cases h : r.getLsbD 0
    · simp
    · simp [poly0]
  | j + 1, hi =>
    have e : 1 + j = j + 1 := by omega
    cases h : r.getLsbD 0
    · have hh : half r = r >>> 1 := by unfold half; rw [h]; rfl
      rw [hh]
      have hj : j < 32 := by omega
      rw [if_neg (by decide), BitVec.xor_zero, BitVec.getLsbD_shiftLeft, BitVec.getLsbD_ushiftRight]
      simp [hi, e]
    · have hh : half r = ((r ^^^ Poly) >>> 1) ||| 0x80000000#32 := by unfold half; rw [h]; rfl
      have h2 := top_low j (by omega)
      rw [hh, if_pos rfl, BitVec.getLsbD_xor, BitVec.getLsbD_shiftLeft]
      simp only [BitVec.getLsbD_or, BitVec.getLsbD_ushiftRight, BitVec.getLsbD_xor, Nat.add_sub_cancel, h2]
      simp [hi, e]
theorem twice_inj {a b : BitVec 32} (h : twice a = twice b) : a = b := by rw [← half_twice a, h, half_twice]
/-- The numbers that the code comes to. -/
theorem twice_nat (r : BitVec 32) : (twice r).toNat = (r.toNat * 2 % 4294967296) ^^^ (r.toNat / 2147483648 * 79764919) := by
  have hlt := r.isLt
  unfold twice
  rw [BitVec.toNat_xor, BitVec.toNat_shiftLeft, Nat.shiftLeft_eq]
  have hm : r.msb = decide (2147483648 ≤ r.toNat) := by rw [BitVec.msb_eq_decide]
  by_cases h : 2147483648 ≤ r.toNat
  · have h1 : r.toNat / 2147483648 = 1 := by omega
    simp [hm, h, h1, Poly]
  · have h1 : r.toNat / 2147483648 = 0 := by omega
    simp [hm, h, h1]
theorem bv_nat (b : Bool) : (bv b).toNat = if b then 1 else 0 := by cases b <;> rfl
/-- The document's step: twice, and the bit; if it is beyond 32 bits, the rest xored. -/
theorem step_nat (r : BitVec 32) (b : Bool) : (step r b).toNat = if 4294967296 ≤ 2 * r.toNat + (bv b).toNat then (2 * r.toNat + (bv b).toNat - 4294967296) ^^^ 79764919 else 2 * r.toNat + (bv b).toNat := by
  have hlt := r.isLt
  have hb : (bv b).toNat = 0 ∨ (bv b).toNat = 1 := by rw [bv_nat]; cases b <;> simp
  have hx : ∀ n : Nat, n % 2 = 0 → n ^^^ (bv b).toNat = n + (bv b).toNat := by
    intro n hn
    rcases hb with hb | hb <;> rw [hb]
    · simp
    · have h1 := Nat.xor_div_two (a := n) (b := 1)
      have h2 := Nat.xor_mod_two_eq_one (a := n) (b := 1)
      simp at h1
      omega
  unfold step
  rw [BitVec.toNat_xor, twice_nat]
  by_cases h : 2147483648 ≤ r.toNat
  · have h1 : r.toNat / 2147483648 = 1 := by omega
    have h3 : r.toNat * 2 % 4294967296 + (bv b).toNat = 2 * r.toNat + (bv b).toNat - 4294967296 := by omega
    rw [h1, if_pos (by omega), Nat.one_mul, Nat.xor_assoc, Nat.xor_comm 79764919, ← Nat.xor_assoc, hx _ (by omega), h3]
  · have h1 : r.toNat / 2147483648 = 0 := by omega
    rw [h1, if_neg (by omega), Nat.zero_mul, Nat.xor_zero, hx _ (by omega)]
    omega
theorem R_congr {f g : Nat → Bool} : ∀ n : Nat, (∀ i, i < n → f i = g i) → R f n = R g n
  | 0, _ => rfl
  | n + 1, h => by unfold R; rw [R_congr n (fun i hi => h i (by omega)), h n (by omega)]
theorem twice_zero : twice 0#32 = 0#32 := by decide
theorem twice_ne {r : BitVec 32} (h : r ≠ 0#32) : twice r ≠ 0#32 := fun e => h (twice_inj (by rw [e, twice_zero]))
theorem bv_xor (a b : Bool) : bv (a ^^ b) = bv a ^^^ bv b := by cases a <;> cases b <;> decide
/-- LINEAR. -/
theorem R_xor (f g : Nat → Bool) : ∀ n : Nat, R (fun i => f i ^^ g i) n = R f n ^^^ R g n
  | 0 => by show (0#32) = 0#32 ^^^ 0#32; decide
  | n + 1 => by
    unfold R step
    rw [R_xor f g n, twice_xor, bv_xor]
    rw [BitVec.xor_assoc, BitVec.xor_assoc, ← BitVec.xor_assoc (twice (R g n)), BitVec.xor_comm (twice (R g n)), BitVec.xor_assoc (bv (f n))]
theorem R_zeros (f : Nat → Bool) : ∀ n : Nat, (∀ i, i < n → f i = false) → R f n = 0#32
  | 0, _ => rfl
  | n + 1, h => by unfold R; rw [R_zeros f n (fun i hi => h i (by omega)), h n (by omega)]; decide
/-- From the first one on, up to 32 bits: a number that isn't 0. -/
theorem R_first (f : Nat → Bool) (F : Nat) (h0 : ∀ i, i < F → f i = false) (h1 : f F = true) : ∀ k : Nat, k < 32 → 1 ≤ (R f (F + 1 + k)).toNat ∧ (R f (F + 1 + k)).toNat < 2 ^ (k + 1)
  | 0, _ => by
    show 1 ≤ (step (R f F) (f F)).toNat ∧ _
    have e : R f (F + 1 + 0) = step (R f F) (f F) := rfl
    rw [e, R_zeros f F h0, h1]
    decide
  | k + 1, hk => by
    obtain ⟨i1, i2⟩ := R_first f F h0 h1 k (by omega)
    have e : R f (F + 1 + (k + 1)) = step (R f (F + 1 + k)) (f (F + 1 + k)) := rfl
    have hb : (bv (f (F + 1 + k))).toNat ≤ 1 := by rw [bv_nat]; split <;> omega
    have p : 2 ^ (k + 1) ≤ 2 ^ 31 := Nat.pow_le_pow_right (by decide) (by omega)
    have p2 : 2 ^ (k + 1 + 1) = 2 * 2 ^ (k + 1) := by rw [Nat.pow_succ]; omega
    rw [e, step_nat, if_neg (by omega)]
    omega
theorem R_tail (f : Nat → Bool) (n : Nat) : ∀ c : Nat, (∀ i, n ≤ i → i < n + c → f i = false) → R f n ≠ 0#32 → R f (n + c) ≠ 0#32
  | 0, _, h => h
  | c + 1, hz, h => by
    have e : R f (n + (c + 1)) = step (R f (n + c)) (f (n + c)) := rfl
    rw [e, hz (n + c) (by omega) (by omega)]
    have := R_tail f n c (fun i h1 h2 => hz i h1 (by omega)) h
    unfold step
    rw [show bv false = 0#32 from rfl, BitVec.xor_zero]
    exact twice_ne this
/-- BURST: bits that part within 32 of each other have other remainders. -/
theorem R_burst (f g : Nat → Bool) (n F L : Nat) (hF : F ≤ L) (hL : L < n) (h32 : L - F < 32) (h0 : ∀ i, i < F → f i = g i) (h1 : f F ≠ g F) (h2 : ∀ i, L < i → i < n → f i = g i) : R f n ≠ R g n := by
  intro e
  have hx := R_xor f g n
  rw [e, BitVec.xor_self] at hx
  have hd : ∀ i, f i = g i → (f i ^^ g i) = false := fun i h => by rw [h, Bool.xor_self]
  have k1 := R_first (fun i => f i ^^ g i) F (fun i hi => hd i (h0 i hi)) (by revert h1; cases f F <;> cases g F <;> simp) (L - F) h32
  have k2 : R (fun i => f i ^^ g i) (F + 1 + (L - F)) ≠ 0#32 := by
    intro e0
    rw [e0] at k1
    simp at k1
  have k3 := R_tail (fun i => f i ^^ g i) (F + 1 + (L - F)) (n - (F + 1 + (L - F))) (fun i a b => hd i (h2 i (by omega) (by omega))) k2
  rw [show F + 1 + (L - F) + (n - (F + 1 + (L - F))) = n from by omega] at k3
  exact k3 hx
end Go.Proofs.Ytbmbomojnljccaa.Crc
