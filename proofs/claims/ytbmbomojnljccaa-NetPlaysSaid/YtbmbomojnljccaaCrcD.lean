/- The document's remainder; texts cut; the statements' helpers. -/
import Derived.Test.YtbmbomojnljccaaCut
import Derived.Test.YtbmbomojnljccaaCrcC
namespace Go.Proofs.Ytbmbomojnljccaa
open Go.RowKit
set_option linter.unusedVariables false
theorem ofInt_i64 (a : Nat) (h : a < 18446744073709551616) : (BitVec.ofInt 64 (a : Int)).toNat = a := by
  rw [BitVec.ofInt_natCast, BitVec.toNat_ofNat]; exact Nat.mod_eq_of_lt (by omega)
theorem i64_xor_nat (a b : Nat) (ha : a < 4611686018427387904) (hb : b < 4611686018427387904) : bits .xor .i64 (a : Int) (b : Int) = ((a ^^^ b : Nat) : Int) := by
  have hx : a ^^^ b < 2 ^ 62 := Nat.xor_lt_two_pow (by omega) (by omega)
  show IntKind.i64.wrap ((BitVec.ofInt 64 (a : Int) ^^^ BitVec.ofInt 64 (b : Int)).toNat : Int) = _
  rw [BitVec.toNat_xor, ofInt_i64 a (by omega), ofInt_i64 b (by omega)]
  exact IntWalk.i64_in _ ⟨by omega, by omega⟩
/-- The remainder of the first n bits. -/
def remN (l : List UInt8) (n : Nat) : Nat := (Crc.R (Crc.bitOf l) n).toNat
theorem remN_lt (l : List UInt8) (n : Nat) : remN l n < 4294967296 := (Crc.R (Crc.bitOf l) n).isLt
theorem remN_succ (l : List UInt8) (n : Nat) : remN l (n + 1) = if 4294967296 ≤ 2 * remN l n + bn (Crc.bitOf l n) then (2 * remN l n + bn (Crc.bitOf l n) - 4294967296) ^^^ 79764919 else 2 * remN l n + bn (Crc.bitOf l n) := by
  have e : remN l (n + 1) = (Crc.step (Crc.R (Crc.bitOf l) n) (Crc.bitOf l n)).toNat := rfl
  rw [e, Crc.step_nat, bn_bv]; rfl
theorem infoS : (Try.prog.info? 9).map (fun i => (i.zero, i.size, i.bytes)) = some (some (.string ByteArray.empty), 1, 16) := by kernel_rfl
end Go.Proofs.Ytbmbomojnljccaa
