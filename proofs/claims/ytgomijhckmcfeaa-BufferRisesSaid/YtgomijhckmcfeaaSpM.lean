/- split: a frame's parts (plain facts). -/
import Derived.Test.YtgomijhckmcfeaaApB
import Derived.Test.YtgomijhckmcfeaaCut
namespace Go.Proofs.Ytgomijhckmcfeaa
open Go.RowKit
set_option linter.unusedVariables false
set_option linter.unusedSimpArgs false
/-- How many bytes a part has, as it counts. -/
def spC (n : Int) : Nat := (min (max n 1) 1472).toNat
theorem spC_bd (n : Int) : 1 ≤ spC n ∧ spC n ≤ 1472 := by unfold spC; omega
theorem spC_int (n : Int) : min (max n 1) 1472 = (spC n : Int) := by unfold spC; omega
theorem spC_alt (n : Int) : max 1 (min n 1472) = (spC n : Int) := by unfold spC; omega
/-- The part of an Index; how many there are; all of them. -/
def spP (s : ByteArray) (n i : Nat) : ByteArray := s.extract (i * n) (min s.size (i * n + n))
def spN (z n : Nat) : Nat := max 1 ((z + n - 1) / n)
def spL (s : ByteArray) (n k : Nat) : List ByteArray := (List.range k).map (spP s n)
theorem spL_len (s : ByteArray) (n k : Nat) : (spL s n k).length = k := by simp [spL]
theorem spL_succ (s : ByteArray) (n k : Nat) : spL s n (k + 1) = spL s n k ++ [spP s n k] := by simp [spL, List.range_succ]
theorem spL_at (s : ByteArray) (n k i : Nat) (hi : i < k) : (spL s n k)[i]? = some (spP s n i) := by
  unfold spL
  rw [List.getElem?_map, List.getElem?_range hi]
  rfl
theorem spN_last (z n k : Nat) (hn : 1 ≤ n) (h1 : k = 0 ∨ k * n < z) (h2 : z ≤ k * n + n) : spN z n = k + 1 := by
  unfold spN
  rcases h1 with rfl | h1
  · have : (z + n - 1) / n ≤ 1 := by
      rw [Nat.div_le_iff_le_mul (by omega)]
      omega
    omega
  · have : (z + n - 1) / n = k + 1 := by
      rw [Nat.div_eq_iff (by omega), Nat.succ_mul]
      omega
    omega
theorem spN_more (z n : Nat) (hn : 1 ≤ n) : 255 < spN z n ↔ n * 255 < z := by
  unfold spN
  constructor
  · intro h
    have h1 : 256 ≤ (z + n - 1) / n := by omega
    rw [Nat.le_div_iff_mul_le (by omega)] at h1
    omega
  · intro h
    have h1 : 256 ≤ (z + n - 1) / n := by
      rw [Nat.le_div_iff_mul_le (by omega)]
      omega
    omega
theorem spN_pos (z n : Nat) : 1 ≤ spN z n := by unfold spN; omega
/-- All parts but the last one end ahead of the end. -/
theorem spN_in (z n i : Nat) (hn : 1 ≤ n) (hi : i + 1 < spN z n) : i * n + n < z := by
  unfold spN at hi
  have h1 : i + 2 ≤ (z + n - 1) / n := by omega
  rw [Nat.le_div_iff_mul_le (by omega), Nat.succ_mul, Nat.succ_mul] at h1
  omega
theorem spN_end (z n : Nat) (hn : 1 ≤ n) : z ≤ (spN z n - 1) * n + n := by
  unfold spN
  rcases Nat.eq_zero_or_pos ((z + n - 1) / n) with h | h
  · have : z + n - 1 < n := by
      rcases Nat.lt_or_ge (z + n - 1) n with h1 | h1
      · exact h1
      · have := Nat.div_pos h1 (by omega)
        omega
    omega
  · have h1 := Nat.lt_mul_div_succ (z + n - 1) (show 0 < n by omega)
    have h2 : max 1 ((z + n - 1) / n) = (z + n - 1) / n := by omega
    rw [h2]
    obtain ⟨q, hq⟩ : ∃ q, (z + n - 1) / n = q + 1 := ⟨(z + n - 1) / n - 1, by omega⟩
    rw [hq] at h1 ⊢
    rw [Nat.mul_comm, Nat.succ_mul, Nat.succ_mul] at h1
    simp only [Nat.add_sub_cancel]
    omega
theorem spP_size (s : ByteArray) (n i : Nat) : (spP s n i).size = min s.size (i * n + n) - i * n := by
  unfold spP
  rw [ByteArray.size_extract]
  omega
theorem spP_le (s : ByteArray) (n i : Nat) : (spP s n i).size ≤ n := by rw [spP_size]; omega
/-- Parts, one behind the other. -/
def spCat (l : List ByteArray) : ByteArray := l.foldl (· ++ ·) ByteArray.empty
theorem spCat_snoc (l : List ByteArray) (x : ByteArray) : spCat (l ++ [x]) = spCat l ++ x := by simp [spCat]
theorem spCat_take (s : ByteArray) (n k : Nat) (hk : k * n ≤ s.size ∨ k = 0) : spCat (spL s n k) = s.extract 0 (min s.size (k * n)) := by
  induction k with
  | zero => simp [spL, spCat]
  | succ k ih =>
    have hk' : k * n + n ≤ s.size := by rw [Nat.succ_mul] at hk; omega
    rw [spL_succ, spCat_snoc, ih (.inl (by omega))]
    unfold spP
    rw [show min s.size (k * n) = k * n by omega, Nat.succ_mul, show min s.size (k * n + n) = k * n + n by omega]
    rw [ByteArray.extract_append_extract]
    simp
theorem spCat_all (s : ByteArray) (n : Nat) (hn : 1 ≤ n) : spCat (spL s n (spN s.size n)) = s := by
  obtain ⟨k, hk⟩ : ∃ k, spN s.size n = k + 1 := ⟨spN s.size n - 1, by have := spN_pos s.size n; omega⟩
  have h1 := spN_end s.size n hn
  rw [hk] at h1 ⊢
  simp only [Nat.add_sub_cancel] at h1
  have h2 : k * n ≤ s.size := by
    rcases Nat.eq_zero_or_pos k with rfl | h
    · omega
    · have := spN_in s.size n (k - 1) hn (by omega)
      have e : (k - 1) * n + n = k * n := by
        obtain ⟨j, rfl⟩ : ∃ j, k = j + 1 := ⟨k - 1, by omega⟩
        rw [Nat.succ_mul]
        simp
      omega
  rw [spL_succ, spCat_snoc, spCat_take s n k (.inl h2)]
  unfold spP
  rw [show min s.size (k * n) = k * n by omega, show min s.size (k * n + n) = s.size by omega, ByteArray.extract_append_extract]
  simp [show max (k * n) s.size = s.size by omega]
end Go.Proofs.Ytgomijhckmcfeaa
