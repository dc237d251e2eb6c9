/- The statements' fixed facts; CrcRems, CrcLinear, CrcSpans: the walks. -/
import Derived.Test.YtiffocdohknopaaCrcE
namespace Go.Proofs.Ytiffocdohknopaa
open Go.RowKit
theorem rem_two (s t : ByteArray) (w : World) (hs : s.size ≤ 1099511627776) (ht : t.size ≤ 1099511627776) :
    Calls Try.prog 25 #[.slice (some ⟨w.heap.size, 0, none⟩) 2 2] (w.alloc (.cells #[.string s, .string t] 9)) fun e w' => e = .returned (.int .u32 ((remOf (cat [s, t])).toNat : Int)) ∧ w.alloc (.cells #[.string s, .string t] 9) = w' :=
  rem_any [s, t] _ _ 2 _ rfl (reads_two w s t _) (by simp) (by simpa using ⟨hs, ht⟩)
theorem rem_c1 (w : World) :
    Calls Try.prog 25 #[.slice (some ⟨w.heap.size, 0, none⟩) 1 1] (w.alloc (.cells #[.string { data := #[1] }] 9)) fun e w' => e = .returned (.int .u32 1) ∧ w.alloc (.cells #[.string { data := #[1] }] 9) = w' := by
  have e : ((remOf (by_ { data := #[1] })).toNat : Int) = 1 := by decide +kernel
  rw [← e]
  exact rem_one _ w (by decide)
theorem rem_c2 (b : Nat) (w : World) (hb : b = w.heap.size) :
    Calls Try.prog 25 #[.slice (some ⟨b, 0, none⟩) 2 2] (w.alloc (.cells #[.string { data := #[1, 0] }, .string { data := #[0, 0, 0] }] 9)) fun e w' => e = .returned (.int .u32 79764919) ∧ w.alloc (.cells #[.string { data := #[1, 0] }, .string { data := #[0, 0, 0] }] 9) = w' := by
  subst hb
  have e : ((remOf (cat [{ data := #[1, 0] }, { data := #[0, 0, 0] }])).toNat : Int) = 79764919 := by decide +kernel
  rw [← e]
  exact rem_two _ _ w (by decide) (by decide)
theorem right_empty (w : World) : Calls Try.prog 27 #[.string { data := #[] }] w fun e w' => e = .returned (.bool true) ∧ Below w.heap.size w w' := by
  have e : (((remOf (by_ { data := #[] })).toNat : Int) == 0) = true := by decide +kernel
  rw [← e]
  exact right_any _ w (by decide)
theorem right_a (w : World) : Calls Try.prog 27 #[.string { data := #[97] }] w fun e w' => e = .returned (.bool false) ∧ Below w.heap.size w w' := by
  have e : (((remOf (by_ { data := #[97] })).toNat : Int) == 0) = false := by decide +kernel
  rw [← e]
  exact right_any _ w (by decide)
theorem right_is (s : ByteArray) (R : Nat) (w : World) (hs : s.size ≤ 1099511627776) (hR : Hid ((remOf (by_ s)).toNat = R)) :
    Calls Try.prog 27 #[.string s] w fun e w' => e = .returned (.bool ((R : Int) == 0)) ∧ Below w.heap.size w w' := by
  rw [← hR.out]; exact right_any s w hs
namespace crcRems
end crcRems
/-- How many bits lie between: the document's. -/
def bst (a b : ByteArray) : Int := if b.size = a.size then span (dif (by_ a) (by_ b)) (8 * a.size) else -1
theorem dif_sym (a b : List UInt8) : dif a b = dif b a := by
  funext i
  unfold dif
  cases Crc.bitOf a i <;> cases Crc.bitOf b i <;> rfl
theorem bst_sym (a b : ByteArray) : bst b a = bst a b := by
  unfold bst
  by_cases h : b.size = a.size
  · rw [if_pos h, if_pos h.symm, dif_sym, h]
  · rw [if_neg h, if_neg (fun e => h e.symm)]
theorem span_none (d : Nat → Bool) (n : Nat) (h : ∀ i, i < n → d i = false) : span d n = 0 := by
  unfold span
  rcases fl_spec d n with ⟨h1, _, _⟩ | ⟨F, L, h1, h2, h3, h4, h5, _⟩
  · rw [if_pos (by omega)]
  · rw [h F (by omega)] at h5; cases h5
theorem bst_self (a : ByteArray) : bst a a = 0 := by
  unfold bst
  rw [if_pos rfl]
  exact span_none _ _ (fun i _ => by unfold dif; cases Crc.bitOf (by_ a) i <;> rfl)
namespace crcSpans
end crcSpans
end Go.Proofs.Ytiffocdohknopaa
