/- Plain facts on numbers of 16 bits that go round. -/
import Derived.WalkKit
import Derived.Handy
import Derived.Laws.BitsLemmas
namespace Go.Proofs.Ytilobmebfeenfaa
open Go.RowKit
/-- How far b is behind a. -/
def d16 (a b : Int) : Int := (b - a + 32768) % 65536 - 32768
theorem d16_wrap (a b : Int) : wrap64 (IntKind.i16.wrap (IntKind.u16.wrap (b - a))) = d16 a b := by
  simp only [wrap64, IntKind.wrap, IntKind.bits, IntKind.signed, d16]
  simp
  omega
theorem d16_bd (a b : Int) : -32768 ≤ d16 a b ∧ d16 a b ≤ 32767 := by unfold d16; omega
theorem tmod_low (a : Int) : (if a.tmod 65536 < 0 then wrap64 (a.tmod 65536 + 65536) else a.tmod 65536) = a % 65536 := by
  have h := Int.tmod_eq_emod (a := a) (b := 65536)
  unfold wrap64
  split <;> split at h <;> simp at h <;> omega
/-- What a number of an int counts as, where one of at most 2^62 is asked. -/
def near62 (n : Int) : Int := max (-4611686018427387904) (min n 4611686018427387904)
/-- The lowest bits of a whole number. -/
theorem i64_mask (n : Int) (m : Nat) (hm : m ≤ 62) : bits .and .i64 n ((2 ^ m - 1 : Nat) : Int) = n % ((2 ^ m : Nat) : Int) := by
  have hlt : 2 ^ m ≤ 2 ^ 62 := Nat.pow_le_pow_right (by decide) hm
  have hpos : 0 < 2 ^ m := Nat.pow_pos (by decide)
  have hmask : (BitVec.ofInt 64 ((2 ^ m - 1 : Nat) : Int)).toNat = 2 ^ m - 1 := by
    rw [BitVec.ofInt_natCast, BitVec.toNat_ofNat]; exact Nat.mod_eq_of_lt (by omega)
  have key : (BitVec.ofInt 64 n &&& BitVec.ofInt 64 ((2 ^ m - 1 : Nat) : Int)).toNat = (n % ((2 ^ 64 : Nat) : Int)).toNat % 2 ^ m := by
    rw [BitVec.toNat_and, BitVec.toNat_ofInt, hmask, Nat.and_two_pow_sub_one_eq_mod]
  show IntKind.i64.wrap ((BitVec.ofInt 64 n &&& BitVec.ofInt 64 ((2 ^ m - 1 : Nat) : Int)).toNat : Nat) = n % ((2 ^ m : Nat) : Int)
  have hd : ((2 ^ m : Nat) : Int) ∣ ((2 ^ 64 : Nat) : Int) := Int.natCast_dvd_natCast.2 (Nat.pow_dvd_pow 2 (by omega))
  have h64 : 0 ≤ n % ((2 ^ 64 : Nat) : Int) := Int.emod_nonneg _ (by decide)
  rw [key, Int.natCast_emod, Int.toNat_of_nonneg h64, Int.emod_emod_of_dvd _ hd]
  have h0 : 0 ≤ n % ((2 ^ m : Nat) : Int) := Int.emod_nonneg _ (by omega)
  have h1 : n % ((2 ^ m : Nat) : Int) < ((2 ^ m : Nat) : Int) := Int.emod_lt_of_pos _ (by omega)
  exact IntWalk.i64_in _ ⟨by omega, by omega⟩
theorem i64_and65535 (n : Int) : bits .and .i64 n 65535 = n % 65536 := i64_mask n 16 (by decide)
theorem i64_and4095 (n : Int) : bits .and .i64 n 4095 = n % 4096 := i64_mask n 12 (by decide)
theorem i64_and255 (n : Int) : bits .and .i64 n 255 = n % 256 := i64_mask n 8 (by decide)
end Go.Proofs.Ytilobmebfeenfaa
