/- What was written is read again: plain facts. -/
import Derived.Test.YtilobmebfeenfaaPenO
import Derived.Test.YtilobmebfeenfaaPenI
namespace Go.Proofs.Ytilobmebfeenfaa
open Go.RowKit
set_option linter.unusedVariables false
set_option linter.unusedSimpArgs false
theorem byte_toNat (x : Int) (h0 : 0 ≤ x) (h1 : x < 256) : ((UInt8.ofNat x.toNat).toNat : Int) = x := by
  rw [UInt8.toNat_ofNat', Nat.mod_eq_of_lt (by omega)]; omega
theorem getN_be1 (n : Int) : ((getN (be n 1) : Nat) : Int) = n % 256 := by
  have h := byte_toNat (n % 256) (by omega) (by omega)
  simp only [be, beP, List.range_succ, List.range_zero, List.nil_append, List.map_cons, List.map_nil, getN, List.foldl_cons, List.foldl_nil, List.cons_append]
  simp at *
  omega
theorem getN_be2 (n : Int) : ((getN (be n 2) : Nat) : Int) = n % 65536 := by
  have h := byte_toNat (n % 256) (by omega) (by omega)
  have h2 := byte_toNat (n / 256 % 256) (by omega) (by omega)
  simp only [be, beP, List.range_succ, List.range_zero, List.nil_append, List.map_cons, List.map_nil, getN, List.foldl_cons, List.foldl_nil, List.cons_append]
  simp at *
  omega
theorem getN_be3 (n : Int) : ((getN (be n 3) : Nat) : Int) = n % 16777216 := by
  have h := byte_toNat (n % 256) (by omega) (by omega)
  have h2 := byte_toNat (n / 256 % 256) (by omega) (by omega)
  have h3 := byte_toNat (n / 65536 % 256) (by omega) (by omega)
  simp only [be, beP, List.range_succ, List.range_zero, List.nil_append, List.map_cons, List.map_nil, getN, List.foldl_cons, List.foldl_nil, List.cons_append]
  simp at *
  omega
theorem getN_be4 (n : Int) : ((getN (be n 4) : Nat) : Int) = n % 4294967296 := by
  have h := byte_toNat (n % 256) (by omega) (by omega)
  have h2 := byte_toNat (n / 256 % 256) (by omega) (by omega)
  have h3 := byte_toNat (n / 65536 % 256) (by omega) (by omega)
  have h4 := byte_toNat (n / 16777216 % 256) (by omega) (by omega)
  simp only [be, beP, List.range_succ, List.range_zero, List.nil_append, List.map_cons, List.map_nil, getN, List.foldl_cons, List.foldl_nil, List.cons_append]
  simp at *
  omega
theorem ofL_append (a b : List UInt8) : ofL (a ++ b) = ofL a ++ ofL b := by apply by_inj; rw [by_append]; simp [by_ofL]
theorem ofL_nil : ofL [] = { data := #[] } := rfl
theorem ofL_extract (l : List UInt8) (a b : Nat) (hb : b ≤ l.length) : (ofL l).extract a b = ofL ((l.take b).drop a) := by
  apply by_inj
  rw [by_extract _ _ _ (by rw [ofL_size]; exact hb), by_ofL, by_ofL]
/-- Just so many bytes are taken as there are ahead. -/
theorem raw_ahead (l r : List UInt8) (er : Int) (n : Int) (hn : n = l.length) : rawT (ofL (l ++ r)) n = ofL l ∧ rawS (ofL (l ++ r)) er n = ofL r ∧ rawE (ofL (l ++ r)) er n = er := by
  have hN : rawN n = l.length := by unfold rawN; omega
  have hz : ¬ (ofL (l ++ r)).size < l.length := by rw [ofL_size, List.length_append]; omega
  unfold rawT rawS rawE
  rw [hN, if_neg hz, if_neg hz, if_neg hz]
  refine ⟨?_, ?_, rfl⟩
  · rw [ofL_extract _ _ _ (by simp)]; simp
  · rw [ofL_size, ofL_extract _ _ _ (Nat.le_refl _), List.take_length, List.drop_left]
theorem bes_one (n : Int) (k : Nat) : bes [n] k = be n k := by simp [bes]
theorem bes_two (n m : Int) (k : Nat) : bes [n, m] k = be n k ++ be m k := by simp [bes]
theorem be_low4 (m : Int) : be (m % 4294967296) 4 = be m 4 := by
  unfold be beP
  apply List.map_congr_left
  intro j hj
  rw [List.mem_range] at hj
  have hj4 : j = 0 ∨ j = 1 ∨ j = 2 ∨ j = 3 := by omega
  have h0 : m % 4294967296 / 1 % 256 = m / 1 % 256 := by omega
  have h1 : m % 4294967296 / 256 % 256 = m / 256 % 256 := by omega
  have h2 : m % 4294967296 / 65536 % 256 = m / 65536 % 256 := by omega
  have h3 : m % 4294967296 / 16777216 % 256 = m / 16777216 % 256 := by omega
  rcases hj4 with rfl | rfl | rfl | rfl
  · exact congrArg (fun x : Int => UInt8.ofNat x.toNat) h3
  · exact congrArg (fun x : Int => UInt8.ofNat x.toNat) h2
  · exact congrArg (fun x : Int => UInt8.ofNat x.toNat) h1
  · exact congrArg (fun x : Int => UInt8.ofNat x.toNat) h0
end Go.Proofs.Ytilobmebfeenfaa
