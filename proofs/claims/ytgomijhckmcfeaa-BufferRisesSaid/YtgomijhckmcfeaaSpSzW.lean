/- SplitSizes: the walk. -/
import Derived.Test.YtgomijhckmcfeaaSpAw
namespace Go.Proofs.Ytgomijhckmcfeaa
open Go.RowKit
set_option linter.unusedVariables false
set_option linter.unusedSimpArgs false
theorem sp_cut_le (s : ByteArray) (m : Nat) : (cutB s m).size ≤ m := by
  unfold cutB
  split
  · rw [ByteArray.size_extract]; omega
  · omega
theorem spP_full (s : ByteArray) (n i : Nat) (hn : 1 ≤ n) (hi : i + 1 < spN s.size n) : (spP s n i).size = n := by
  have := spN_in s.size n i hn hi
  rw [spP_size]
  omega
theorem spP_none (s : ByteArray) (n i : Nat) (hn : 1 ≤ n) (hi : i < spN s.size n) (h : (spP s n i).size = 0) : s.size = 0 := by
  rw [spP_size] at h
  rcases Nat.eq_zero_or_pos i with rfl | h0
  · omega
  · have h1 := spN_in s.size n (i - 1) hn (by omega)
    have e : (i - 1) * n + n = i * n := by
      obtain ⟨j, rfl⟩ : ∃ j, i = j + 1 := ⟨i - 1, by omega⟩
      rw [Nat.succ_mul]
      simp
    omega
theorem spN_few (z n : Nat) (hn : 1 ≤ n) (h : ¬ n * 255 < z) : spN z n ≤ 255 := by
  have := spN_more z n hn
  omega
namespace splitSizes
end splitSizes
end Go.Proofs.Ytgomijhckmcfeaa
