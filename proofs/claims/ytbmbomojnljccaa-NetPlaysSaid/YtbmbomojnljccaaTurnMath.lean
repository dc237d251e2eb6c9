/- Bits of a text turned. Plain facts. -/
import Derived.Test.YtbmbomojnljccaaCrcMath
namespace Go.Proofs.Ytbmbomojnljccaa.Crc
set_option linter.unusedVariables false
def b1 (b : Bool) : Nat := if b then 1 else 0
/-- Bit i, turned if b. -/
def flip (l : List UInt8) (i : Nat) (b : Bool) : List UInt8 := l.set (i / 8) (UInt8.ofNat ((l[i / 8]?.getD 0).toNat ^^^ (b1 b * 2 ^ (7 - i % 8))))
theorem flip_len (l : List UInt8) (i : Nat) (b : Bool) : (flip l i b).length = l.length := by simp [flip]
theorem b1_lt (b : Bool) (e : Nat) (he : e < 8) : b1 b * 2 ^ e < 2 ^ 8 := by
  have h : b1 b ≤ 1 := by cases b <;> decide
  have p : 2 ^ e ≤ 2 ^ 7 := Nat.pow_le_pow_right (by decide) (by omega)
  calc b1 b * 2 ^ e ≤ 1 * 2 ^ e := Nat.mul_le_mul_right _ h
    _ < 2 ^ 8 := by omega
theorem b1_testBit (b : Bool) (e j : Nat) : (b1 b * 2 ^ e).testBit j = (b && decide (j = e)) := by
  cases b
  · simp [b1]
  · simp [b1, Nat.testBit_two_pow]
    rw [eq_comm]
theorem flip_bit (l : List UInt8) (i j : Nat) (b : Bool) (hi : i < 8 * l.length) (hj : j < 8 * l.length) : bitOf (flip l i b) j = (bitOf l j ^^ (b && decide (j = i))) := by
  unfold bitOf flip
  have hx : (l[i / 8]?.getD 0).toNat ^^^ (b1 b * 2 ^ (7 - i % 8)) < 2 ^ 8 := Nat.xor_lt_two_pow (by have := UInt8.toNat_lt (l[i / 8]?.getD 0); omega) (b1_lt b _ (by omega))
  by_cases e : j / 8 = i / 8
  · rw [e, List.getElem?_set_self (by omega), Option.getD_some, UInt8.toNat_ofNat_of_lt' hx, Nat.testBit_xor, b1_testBit]
    congr 2
    rw [decide_eq_decide]
    omega
  · rw [List.getElem?_set_ne (by omega)]
    have : decide (j = i) = false := by rw [decide_eq_false_iff_not]; intro h; subst h; exact e rfl
    rw [this, Bool.and_false, Bool.xor_false]
/-- The first k of the bits from p on turned where m has ones, from its bit 31 down. -/
def turnTo (l : List UInt8) (p m : Nat) : Nat → List UInt8
  | 0 => l
  | k + 1 => flip (turnTo l p m k) (p + k) (m.testBit (31 - k))
theorem turnTo_len (l : List UInt8) (p m : Nat) : ∀ k, (turnTo l p m k).length = l.length
  | 0 => rfl
  | k + 1 => by unfold turnTo; rw [flip_len, turnTo_len l p m k]
theorem turn_bit (l : List UInt8) (p m : Nat) : ∀ k, p + k ≤ 8 * l.length → ∀ j, j < 8 * l.length → bitOf (turnTo l p m k) j = (bitOf l j ^^ (decide (p ≤ j ∧ j < p + k) && m.testBit (31 - (j - p))))
  | 0, _, j, _ => by
    have : decide (p ≤ j ∧ j < p + 0) = false := by rw [decide_eq_false_iff_not]; omega
    rw [this]; simp [turnTo]
  | k + 1, hk, j, hj => by
    unfold turnTo
    rw [flip_bit _ _ _ _ (by rw [turnTo_len]; omega) (by rw [turnTo_len]; exact hj), turn_bit l p m k (by omega) j hj]
    by_cases e : j = p + k
    · subst e
      have a : decide (p ≤ p + k ∧ p + k < p + k) = false := by rw [decide_eq_false_iff_not]; omega
      have b : decide (p ≤ p + k ∧ p + k < p + (k + 1)) = true := by rw [decide_eq_true_eq]; omega
      rw [a, b, show p + k - p = k from by omega]
      simp
    · have a : decide (p ≤ j ∧ j < p + (k + 1)) = decide (p ≤ j ∧ j < p + k) := by rw [decide_eq_decide]; omega
      rw [a]
      simp [e]
end Go.Proofs.Ytbmbomojnljccaa.Crc
