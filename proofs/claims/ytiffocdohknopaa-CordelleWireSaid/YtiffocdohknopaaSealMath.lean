/- Four bytes with which a remainder is 0. Plain facts. -/
import Derived.Test.YtiffocdohknopaaCrcMath
namespace Go.Proofs.Ytiffocdohknopaa.Crc
set_option linter.unusedVariables false
def halfs : Nat → BitVec 32 → BitVec 32
  | 0, r => r
  | k + 1, r => half (halfs k r)
def twices : Nat → BitVec 32 → BitVec 32
  | 0, r => r
  | k + 1, r => twice (twices k r)
theorem twices_in (k : Nat) (r : BitVec 32) : twices k (twice r) = twice (twices k r) := by
  induction k with
  | zero => rfl
  | succ k ih => show twice (twices k (twice r)) = twice (twice (twices k r)); rw [ih]
theorem twices_halfs (k : Nat) (r : BitVec 32) : twices k (halfs k r) = r := by
  induction k with
  | zero => rfl
  | succ k ih =>
    show twice (twices k (half (halfs k r))) = r
    rw [← twices_in, twice_half, ih]
theorem R_after (f : Nat → Bool) (n : Nat) : ∀ c : Nat, (∀ i, n ≤ i → i < n + c → f i = false) → R f (n + c) = twices c (R f n)
  | 0, _ => rfl
  | c + 1, h => by
    have e : R f (n + (c + 1)) = step (R f (n + c)) (f (n + c)) := rfl
    rw [e, h (n + c) (by omega) (by omega), R_after f n c (fun i a b => h i a (by omega))]
    unfold step
    rw [show bv false = 0#32 from rfl, BitVec.xor_zero]
    rfl
/-- 32 bits behind none: the number that they are. -/
theorem R_word (f : Nat → Bool) (F : Nat) (x : BitVec 32) (h0 : ∀ i, i < F → f i = false) (h1 : ∀ i, i < 32 → f (F + i) = x.toNat.testBit (31 - i)) : ∀ k : Nat, k ≤ 32 → (R f (F + k)).toNat = x.toNat / 2 ^ (32 - k)
  | 0, _ => by
    have hx := x.isLt
    rw [Nat.add_zero, R_zeros f F h0]
    show 0 = _
    rw [Nat.div_eq_of_lt (by simpa using hx)]
  | k + 1, hk => by
    have ih := R_word f F x h0 h1 k (by omega)
    have e : R f (F + (k + 1)) = step (R f (F + k)) (f (F + k)) := rfl
    have hx := x.isLt
    have hlt : (R f (F + k)).toNat < 2 ^ 31 := by
      rw [ih]
      have p : 2 ^ 1 ≤ 2 ^ (32 - k) := Nat.pow_le_pow_right (by decide) (by omega)
      exact Nat.div_lt_of_lt_mul (by calc x.toNat < 2 ^ 1 * 2 ^ 31 := by omega
                                       _ ≤ 2 ^ (32 - k) * 2 ^ 31 := Nat.mul_le_mul_right _ p)
    have hb : (bv (f (F + k))).toNat = x.toNat / 2 ^ (31 - k) % 2 := by
      rw [h1 k (by omega), bv_nat, Nat.testBit_eq_decide_div_mod_eq]
      split <;> simp_all <;> omega
    have hd : x.toNat / 2 ^ (32 - k) = x.toNat / 2 ^ (31 - k) / 2 := by
      rw [Nat.div_div_eq_div_mul, ← Nat.pow_succ, show (31 - k).succ = 32 - k from by omega]
    have hm : (bv (f (F + k))).toNat ≤ 1 := by rw [bv_nat]; split <;> omega
    rw [e, step_nat, if_neg (by omega), ih, hb, hd, show 32 - (k + 1) = 31 - k from by omega]
    omega
/-- A number as four bytes. -/
def four (x : BitVec 32) : List UInt8 := [UInt8.ofNat (x.toNat / 16777216 % 256), UInt8.ofNat (x.toNat / 65536 % 256), UInt8.ofNat (x.toNat / 256 % 256), UInt8.ofNat (x.toNat % 256)]
theorem byte_bit (n e j : Nat) (hj : j < 8) : (UInt8.ofNat (n / 2 ^ e % 256)).toNat.testBit j = n.testBit (e + j) := by
  rw [UInt8.toNat_ofNat_of_lt' (by have := Nat.mod_lt (n / 2 ^ e) (show 256 > 0 by decide); exact this), show 256 = 2 ^ 8 from rfl, Nat.testBit_mod_two_pow, decide_eq_true hj, Bool.true_and, Nat.testBit_div_two_pow, Nat.add_comm]
theorem four_bit (x : BitVec 32) (i : Nat) (h : i < 32) : bitOf (four x) i = x.toNat.testBit (31 - i) := by
  unfold bitOf four
  rcases (show i / 8 = 0 ∨ i / 8 = 1 ∨ i / 8 = 2 ∨ i / 8 = 3 from by omega) with e | e | e | e <;> rw [e]
  · rw [show ([UInt8.ofNat (x.toNat / 16777216 % 256), UInt8.ofNat (x.toNat / 65536 % 256), UInt8.ofNat (x.toNat / 256 % 256), UInt8.ofNat (x.toNat % 256)][0]?.getD 0) = UInt8.ofNat (x.toNat / 2 ^ 24 % 256) from rfl, byte_bit _ _ _ (by omega)]
    congr 1; omega
  · rw [show ([UInt8.ofNat (x.toNat / 16777216 % 256), UInt8.ofNat (x.toNat / 65536 % 256), UInt8.ofNat (x.toNat / 256 % 256), UInt8.ofNat (x.toNat % 256)][1]?.getD 0) = UInt8.ofNat (x.toNat / 2 ^ 16 % 256) from rfl, byte_bit _ _ _ (by omega)]
    congr 1; omega
  · rw [show ([UInt8.ofNat (x.toNat / 16777216 % 256), UInt8.ofNat (x.toNat / 65536 % 256), UInt8.ofNat (x.toNat / 256 % 256), UInt8.ofNat (x.toNat % 256)][2]?.getD 0) = UInt8.ofNat (x.toNat / 2 ^ 8 % 256) from rfl, byte_bit _ _ _ (by omega)]
    congr 1; omega
  · have h0 := byte_bit x.toNat 0 (7 - i % 8) (by omega)
    rw [Nat.pow_zero, Nat.div_one] at h0
    rw [show ([UInt8.ofNat (x.toNat / 16777216 % 256), UInt8.ofNat (x.toNat / 65536 % 256), UInt8.ofNat (x.toNat / 256 % 256), UInt8.ofNat (x.toNat % 256)][3]?.getD 0) = UInt8.ofNat (x.toNat % 256) from rfl, h0]
    congr 1; omega
theorem zeros_bit (i : Nat) : bitOf [0, 0, 0, 0] i = false := by
  unfold bitOf
  have h : ([0, 0, 0, 0] : List UInt8)[i / 8]?.getD 0 = 0 := by
    rcases (show i / 8 = 0 ∨ i / 8 = 1 ∨ i / 8 = 2 ∨ i / 8 = 3 ∨ 4 ≤ i / 8 from by omega) with e | e | e | e | e
    · rw [e]; rfl
    · rw [e]; rfl
    · rw [e]; rfl
    · rw [e]; rfl
    · rw [List.getElem?_eq_none (by simpa using e)]; rfl
  rw [h]; simp
/-- The four bytes make the remainder 0. -/
theorem seal_zero (u v : List UInt8) : R (bitOf (u ++ four (halfs (8 * v.length) (R (bitOf (u ++ [0, 0, 0, 0] ++ v)) (8 * (u ++ [0, 0, 0, 0] ++ v).length))) ++ v)) (8 * (u ++ [0, 0, 0, 0] ++ v).length) = 0#32 := by
  generalize hx : halfs (8 * v.length) (R (bitOf (u ++ [0, 0, 0, 0] ++ v)) (8 * (u ++ [0, 0, 0, 0] ++ v).length)) = x
  have hn : 8 * (u ++ [0, 0, 0, 0] ++ v).length = 8 * u.length + 32 + 8 * v.length := by simp; omega
  let h : Nat → Bool := fun i => if 8 * u.length ≤ i ∧ i < 8 * u.length + 32 then x.toNat.testBit (31 - (i - 8 * u.length)) else false
  have hbits : ∀ i, i < 8 * (u ++ [0, 0, 0, 0] ++ v).length → bitOf (u ++ four x ++ v) i = (bitOf (u ++ [0, 0, 0, 0] ++ v) i ^^ h i) := by
    intro i hi
    have lf : (four x).length = 4 := rfl
    by_cases c1 : i < 8 * u.length
    · have hh : h i = false := if_neg (by omega)
      rw [hh, Bool.xor_false, List.append_assoc, List.append_assoc, bitOf_append_left _ _ _ c1, bitOf_append_left _ _ _ c1]
    · by_cases c2 : i < 8 * u.length + 32
      · have hh : h i = x.toNat.testBit (31 - (i - 8 * u.length)) := if_pos ⟨by omega, c2⟩
        obtain ⟨j, rfl⟩ : ∃ j, i = 8 * u.length + j := ⟨i - 8 * u.length, by omega⟩
        rw [hh, List.append_assoc, List.append_assoc, bitOf_append_right, bitOf_append_right, bitOf_append_left _ _ _ (by rw [lf]; omega), bitOf_append_left _ _ _ (by simp; omega), zeros_bit, Bool.false_xor, four_bit x j (by omega)]
        congr 1; omega
      · have hh : h i = false := if_neg (by omega)
        obtain ⟨j, rfl⟩ : ∃ j, i = 8 * (u.length + 4) + j := ⟨i - 8 * (u.length + 4), by omega⟩
        rw [hh, Bool.xor_false]
        have a := bitOf_append_right (u ++ four x) v j
        have b := bitOf_append_right (u ++ [0, 0, 0, 0]) v j
        have la : (u ++ four x).length = u.length + 4 := by simp [lf]
        have lb : (u ++ ([0, 0, 0, 0] : List UInt8)).length = u.length + 4 := by simp
        rw [la] at a
        rw [lb] at b
        rw [a, b]
  rw [R_congr _ hbits, R_xor]
  have hR : R h (8 * (u ++ [0, 0, 0, 0] ++ v).length) = R (bitOf (u ++ [0, 0, 0, 0] ++ v)) (8 * (u ++ [0, 0, 0, 0] ++ v).length) := by
    rw [hn, R_after h (8 * u.length + 32) (8 * v.length) (fun i a b => if_neg (by omega))]
    have hw : R h (8 * u.length + 32) = x := by
      apply BitVec.eq_of_toNat_eq
      rw [R_word h (8 * u.length) x (fun i hi => if_neg (by omega)) (fun i hi => by
        show (if _ then _ else _) = _
        rw [if_pos ⟨by omega, by omega⟩]; congr 1; omega) 32 (by omega)]
      simp
    rw [hw, ← hx, twices_halfs, hn]
  rw [hR, BitVec.xor_self]
end Go.Proofs.Ytiffocdohknopaa.Crc
