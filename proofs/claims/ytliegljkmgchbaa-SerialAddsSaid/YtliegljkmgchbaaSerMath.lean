/- Plain facts on numbers of 16 bits that go round. -/
import Derived.WalkKit
import Derived.Handy
namespace Go.Proofs.Ytliegljkmgchbaa
open Go.RowKit
/-- How far b is behind a. -/
def d16 (a b : Int) : Int := (b - a + 32768) % 65536 - 32768
theorem d16_wrap (a b : Int) : wrap64 (IntKind.i16.wrap (IntKind.u16.wrap (b - a))) = d16 a b := by
  simp only [wrap64, IntKind.wrap, IntKind.bits, IntKind.signed, d16]
  simp
  omega
theorem d16_bd (a b : Int) : -32768 ≤ d16 a b ∧ d16 a b ≤ 32767 := by unfold d16; omega
theorem tmod_low (a : Int) : (if a.tmod 65536 < 0 then wrap64 (a.tmod 65536 + 65536) else a.tmod 65536) = a % 65536 := by
  have h := Int.tmod_eq_emod (a := a) (b := 65536)
  unfold wrap64
  split <;> split at h <;> simp at h <;> omega
/-- What a number of an int counts as, where one of at most 2^62 is asked. -/
def near62 (n : Int) : Int := max (-4611686018427387904) (min n 4611686018427387904)
end Go.Proofs.Ytliegljkmgchbaa
