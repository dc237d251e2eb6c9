/- nack: plain facts: the numbers that a pair names. -/
import Derived.Test.YtagimjaojpdfiaaPenI
namespace Go.Proofs.Ytagimjaojpdfiaa
open Go.RowKit
set_option linter.unusedVariables false
/-- The number so many behind the one behind. -/
def nx (pid : Int) (i : Nat) : Int := (pid + 1 + i) % 65536
theorem nx_bd (pid : Int) (i : Nat) : 0 ≤ nx pid i ∧ nx pid i < 65536 := by unfold nx; omega
/-- The numbers that a pair names, as far as so many bits. -/
def nums (pid : Int) (b : Nat) : Nat → List Int
  | 0 => [pid]
  | k + 1 => nums pid b k ++ (if b / 2 ^ k % 2 = 1 then [nx pid k] else [])
theorem nums_len (pid : Int) (b : Nat) : ∀ k, (nums pid b k).length ≤ k + 1
  | 0 => Nat.le_refl _
  | k + 1 => by
    have := nums_len pid b k
    unfold nums
    split <;> simp <;> omega
theorem nums_hit (pid : Int) (b k : Nat) (h : b / 2 ^ k % 2 = 1) : nums pid b (k + 1) = nums pid b k ++ [nx pid k] := by rw [nums, if_pos h]
theorem nums_miss (pid : Int) (b k : Nat) (h : b / 2 ^ k % 2 = 0) : nums pid b (k + 1) = nums pid b k := by rw [nums, if_neg (by omega), List.append_nil]
theorem u16_nat (a : Nat) (h : a < 65536) : (BitVec.ofInt 16 (a : Int)).toNat = a := by
  rw [BitVec.ofInt_natCast, BitVec.toNat_ofNat]
  exact Nat.mod_eq_of_lt (by omega)
theorem u16_fit (x : Nat) (h : x < 65536) : IntKind.u16.wrap (x : Int) = x := by
  simp [IntKind.wrap, IntKind.bits, IntKind.signed]
  omega
theorem and_u16 (a b : Nat) (ha : a < 65536) (hb : b < 65536) : bits .and .u16 (a : Int) (b : Int) = ((a &&& b : Nat) : Int) := by
  have hx : a &&& b < 2 ^ 16 := Nat.and_lt_two_pow _ (by omega)
  show IntKind.u16.wrap ((BitVec.ofInt 16 (a : Int) &&& BitVec.ofInt 16 (b : Int)).toNat : Int) = _
  rw [BitVec.toNat_and, u16_nat a ha, u16_nat b hb]
  exact u16_fit _ (by omega)
theorem or_u16 (a b : Nat) (ha : a < 65536) (hb : b < 65536) : bits .or .u16 (a : Int) (b : Int) = ((a ||| b : Nat) : Int) := by
  have hx : a ||| b < 2 ^ 16 := Nat.or_lt_two_pow (by omega) (by omega)
  show IntKind.u16.wrap ((BitVec.ofInt 16 (a : Int) ||| BitVec.ofInt 16 (b : Int)).toNat : Int) = _
  rw [BitVec.toNat_or, u16_nat a ha, u16_nat b hb]
  exact u16_fit _ (by omega)
theorem and_bit (b k : Nat) (hb : b < 65536) : bits .and .u16 ((b : Int) / 2 ^ k) 1 = ((b / 2 ^ k % 2 : Nat) : Int) := by
  have h1 : ((b : Int) / 2 ^ k) = ((b / 2 ^ k : Nat) : Int) := by simp
  have h2 : b / 2 ^ k < 65536 := Nat.lt_of_le_of_lt (Nat.div_le_self _ _) hb
  rw [h1]
  have h3 := and_u16 (b / 2 ^ k) 1 h2 (by omega)
  rw [Nat.and_one_is_mod] at h3
  exact h3
theorem pow_lt (k : Nat) (h : k < 16) : 2 ^ k < 65536 := Nat.pow_lt_pow_of_lt (a := 2) (by omega) h
theorem or_bit (x k : Nat) (hk : k < 16) (hx : x < 2 ^ k) : bits .or .u16 (x : Int) ((2 ^ k : Nat) : Int) = ((x + 2 ^ k : Nat) : Int) := by
  have hp := pow_lt k hk
  rw [or_u16 x (2 ^ k) (by omega) hp]
  have h := Nat.two_pow_add_eq_or_of_lt hx 1
  rw [Nat.mul_one] at h
  rw [Nat.or_comm, ← h, Nat.add_comm]
/-- The bits of those behind a number, of which so many are looked at, that S has. -/
def blp (S : Int → Bool) (pid : Int) : Nat → Nat
  | 0 => 0
  | k + 1 => if S (nx pid k) then blp S pid k + 2 ^ k else blp S pid k
theorem blp_lt (S : Int → Bool) (pid : Int) : ∀ k, blp S pid k < 2 ^ k
  | 0 => by simp [blp]
  | k + 1 => by
    have h := blp_lt S pid k
    rw [blp, Nat.pow_succ]
    split <;> omega
theorem blp_hit (S : Int → Bool) (pid : Int) (k : Nat) (h : S (nx pid k) = true) : blp S pid (k + 1) = blp S pid k + 2 ^ k := by rw [blp, if_pos h]
theorem blp_miss (S : Int → Bool) (pid : Int) (k : Nat) (h : S (nx pid k) = false) : blp S pid (k + 1) = blp S pid k := by rw [blp, if_neg (by simp [h])]
end Go.Proofs.Ytagimjaojpdfiaa
