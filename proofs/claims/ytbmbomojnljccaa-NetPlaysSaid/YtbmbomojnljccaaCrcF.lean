/- The statements' fixed facts; CrcRems, CrcLinear, CrcSpans: the walks. -/
import Derived.Test.YtbmbomojnljccaaCrcE
namespace Go.Proofs.Ytbmbomojnljccaa
open Go.RowKit
namespace crcRems
end crcRems
/-- How many bits lie between: the document's. -/
def bst (a b : ByteArray) : Int := if b.size = a.size then span (dif (by_ a) (by_ b)) (8 * a.size) else -1
theorem dif_sym (a b : List UInt8) : dif a b = dif b a := by
  funext i
  unfold dif
  cases Crc.bitOf a i <;> cases Crc.bitOf b i <;> rfl
theorem bst_sym (a b : ByteArray) : bst b a = bst a b := by
  unfold bst
  by_cases h : b.size = a.size
  · rw [if_pos h, if_pos h.symm, dif_sym, h]
  · rw [if_neg h, if_neg (fun e => h e.symm)]
theorem span_none (d : Nat → Bool) (n : Nat) (h : ∀ i, i < n → d i = false) : span d n = 0 := by
  unfold span
  rcases fl_spec d n with ⟨h1, _, _⟩ | ⟨F, L, h1, h2, h3, h4, h5, _⟩
  · rw [if_pos (by omega)]
  · rw [h F (by omega)] at h5; cases h5
theorem bst_self (a : ByteArray) : bst a a = 0 := by
  unfold bst
  rw [if_pos rfl]
  exact span_none _ _ (fun i _ => by unfold dif; cases Crc.bitOf (by_ a) i <;> rfl)
namespace crcSpans
end crcSpans
end Go.Proofs.Ytbmbomojnljccaa
