/- nack: plain facts: pairs name just the numbers that they were made of, each once. -/
import Derived.Test.YtagimjaojpdfiaaNkP
import Derived.Test.YtagimjaojpdfiaaDistMath
namespace Go.Proofs.Ytagimjaojpdfiaa
open Go.RowKit
set_option linter.unusedVariables false
theorem blp_bit (S : Int → Bool) (n : Int) : ∀ k i, i < k → (blp S n k / 2 ^ i % 2 = 1 ↔ S (nx n i) = true)
  | 0, i, h => by omega
  | k + 1, i, h => by
    have hlt := blp_lt S n k
    by_cases hik : i = k
    · subst hik
      rw [blp]
      split
      · next hs =>
        rw [Nat.add_div_right _ (Nat.two_pow_pos i), Nat.div_eq_of_lt hlt]
        simp [hs]
      · next hs =>
        rw [Nat.div_eq_of_lt hlt]
        simp [hs]
    · have ih := blp_bit S n k i (by omega)
      rw [blp]
      split
      · have h2 : 2 ^ k = 2 ^ i * (2 * 2 ^ (k - i - 1)) := by
          rw [← Nat.mul_assoc, ← Nat.pow_succ, ← Nat.pow_add]
          congr 1
          omega
        rw [h2, Nat.add_mul_div_left _ _ (Nat.two_pow_pos i), Nat.add_mul_mod_self_left]
        exact ih
      · exact ih
theorem nums_mem (n : Int) (b : Nat) (y : Int) : ∀ k, y ∈ nums n b k ↔ y = n ∨ ∃ i, i < k ∧ b / 2 ^ i % 2 = 1 ∧ y = nx n i
  | 0 => by simp [nums]
  | k + 1 => by
    rw [nums, List.mem_append, nums_mem n b y k]
    constructor
    · rintro ((h | ⟨i, h1, h2, h3⟩) | h)
      · exact .inl h
      · exact .inr ⟨i, by omega, h2, h3⟩
      · split at h
        · next hb => exact .inr ⟨k, by omega, hb, by simpa using h⟩
        · cases h
    · rintro (h | ⟨i, h1, h2, h3⟩)
      · exact .inl (.inl h)
      · by_cases hik : i = k
        · subst hik
          right
          rw [if_pos h2]
          simpa using h3
        · exact .inl (.inr ⟨i, by omega, h2, h3⟩)
theorem nums_nodup (n : Int) (b : Nat) (h0 : 0 ≤ n) (h1 : n < 65536) : ∀ k, k ≤ 16 → (nums n b k).Nodup
  | 0, _ => by simp [nums]
  | k + 1, hk => by
    rw [nums]
    split
    · rw [List.nodup_append]
      refine ⟨nums_nodup n b h0 h1 k (by omega), by simp, fun y hy z hz => ?_⟩
      have hz' : z = nx n k := by simpa using hz
      subst hz'
      rcases (nums_mem n b y k).1 hy with rfl | ⟨i, h2, _, rfl⟩
      · unfold nx; omega
      · unfold nx; omega
    · rw [List.append_nil]
      exact nums_nodup n b h0 h1 k (by omega)
theorem one_less (a : Int) : ∀ M : List Int, M.Nodup → a ∈ M → (M.filter (fun x => x != a)).length + 1 = M.length
  | [], _, h => by cases h
  | m :: M, hn, h => by
    rw [List.nodup_cons] at hn
    by_cases hma : m = a
    · subst hma
      have : M.filter (fun x => x != m) = M := List.filter_eq_self.2 (fun x hx => by simp; rintro rfl; exact hn.1 hx)
      simp [this]
    · have ha : a ∈ M := by
        rcases List.mem_cons.1 h with e | e
        · exact absurd e.symm hma
        · exact e
      have := one_less a M hn.2 ha
      simp [hma]
      exact this
theorem rem_len : ∀ (N M : List Int), N.Nodup → M.Nodup → (∀ y ∈ N, y ∈ M) → (M.filter (fun x => !N.contains x)).length + N.length = M.length
  | [], M, _, _, _ => by simp
  | a :: N, M, hN, hM, hs => by
    rw [List.nodup_cons] at hN
    have h1 := one_less a M hM (hs a (by simp))
    have h2 := rem_len N (M.filter (fun x => x != a)) hN.2 (hM.filter _) (fun y hy => by
      rw [List.mem_filter]
      refine ⟨hs y (by simp [hy]), ?_⟩
      simp
      rintro rfl
      exact hN.1 hy)
    rw [List.filter_filter] at h2
    have h3 : M.filter (fun x => !(a :: N).contains x) = M.filter (fun x => !N.contains x && x != a) := by
      apply List.filter_congr
      intro x _
      rw [List.contains_cons]
      cases h : x == a <;> simp [bne, h]
    rw [h3]
    simp only [List.length_cons]
    omega
/-- How many numbers pairs name, all together. -/
def numSum (l : List (Int × Nat)) : Nat := (l.map fun p => (nums p.1 p.2 16).length).sum
theorem numSum_snoc (l : List (Int × Nat)) (p : Int × Nat) : numSum (l ++ [p]) = numSum l + (nums p.1 p.2 16).length := by simp [numSum]
theorem nums_pos (n : Int) (b : Nat) : ∀ k, 1 ≤ (nums n b k).length
  | 0 => by simp [nums]
  | k + 1 => by have := nums_pos n b k; rw [nums]; simp; omega
theorem numSum_ge : ∀ l : List (Int × Nat), l.length ≤ numSum l
  | [] => by simp [numSum]
  | p :: l => by
    have := numSum_ge l
    have h := nums_pos p.1 p.2 16
    simp [numSum] at this ⊢
    omega
/-- What holds while pairs are made. -/
structure PrInv (zs : List Int) (k : Nat) : Prop where
  sub : ∀ x, (prAt zs k).2 x = true → x ∈ zs
  sum : ((dist zs).filter (prAt zs k).2).length + numSum (prAt zs k).1 = (dist zs).length
  pid : ∀ p ∈ (prAt zs k).1, p.1 ∈ zs ∧ p.2 < 65536
  gone : ∀ x ∈ zs.take k, (prAt zs k).2 x = false
theorem prInv (zs : List Int) (hz : ∀ n ∈ zs, 0 ≤ n ∧ n < 65536) : ∀ k, k ≤ zs.length → PrInv zs k
  | 0, _ => by
    have h0 : prAt zs 0 = ([], fun x => zs.contains x) := rfl
    refine ⟨fun x h => ?_, ?_, fun p hp => ?_, fun x hx => ?_⟩
    · rw [h0] at h; simpa using h
    · rw [h0]
      have : (dist zs).filter (fun x => zs.contains x) = dist zs := List.filter_eq_self.2 (fun x hx => by simpa using (mem_dist zs x).1 hx)
      simp only [this]
      simp [numSum]
    · rw [h0] at hp; cases hp
    · simp at hx
  | k + 1, hk => by
    have ih := prInv zs hz k (by omega)
    have hs := prAt_succ zs k (by omega)
    have hmem : zs[k]?.getD 0 ∈ zs := by rw [List.getElem?_eq_getElem (by omega)]; exact List.getElem_mem (by omega)
    have htk : ∀ x, x ∈ zs.take (k + 1) ↔ x ∈ zs.take k ∨ x = zs[k]?.getD 0 := fun x => by
      simp only [List.take_succ_eq_append_getElem (show k < zs.length by omega), List.mem_append, List.mem_singleton, List.getElem?_eq_getElem (show k < zs.length by omega), Option.getD_some]
    generalize zs[k]?.getD 0 = n at hs hmem htk
    obtain ⟨n0, n1⟩ := hz n hmem
    obtain ⟨i1, i2, i3, i4⟩ := ih
    generalize prAt zs k = PA at hs i1 i2 i3 i4
    obtain ⟨out, S⟩ := PA
    simp only at i1 i2 i3 i4
    unfold stp at hs
    try simp only at hs
    by_cases hS : S n = true
    · rw [if_pos hS] at hs
      have hbl := blp_lt S n 16
      have hN1 : ∀ y ∈ nums n (blp S n 16) 16, S y = true := fun y hy => by
        rcases (nums_mem n _ y 16).1 hy with rfl | ⟨i, h1, h2, rfl⟩
        · exact hS
        · exact (blp_bit S n 16 i h1).1 h2
      have hnn : n ∈ nums n (blp S n 16) 16 := (nums_mem n _ n 16).2 (.inl rfl)
      have hnd := nums_nodup n (blp S n 16) n0 n1 16 (by omega)
      refine ⟨fun x h => ?_, ?_, fun p hp => ?_, fun x hx => ?_⟩
      · rw [hs] at h
        simp only [Bool.and_eq_true] at h
        exact i1 x h.1
      · rw [hs]
        simp only
        have hnum : numSum (out ++ [(n, blp S n 16)]) = numSum out + (nums n (blp S n 16) 16).length := numSum_snoc out _
        rw [hnum]
        have hr := rem_len (nums n (blp S n 16) 16) ((dist zs).filter S) hnd ((dist_nodup zs).filter _) (fun y hy => by
          rw [List.mem_filter]
          exact ⟨(mem_dist zs y).2 (i1 y (hN1 y hy)), hN1 y hy⟩)
        rw [List.filter_filter] at hr
        have he : (dist zs).filter (fun x => S x && !(nums n (blp S n 16) 16).contains x) = (dist zs).filter (fun x => (!(nums n (blp S n 16) 16).contains x) && S x) := by
          apply List.filter_congr
          intro x _
          rw [Bool.and_comm]
        rw [he]
        omega
      · rw [hs] at hp
        simp only [List.mem_append, List.mem_singleton] at hp
        rcases hp with hp | rfl
        · exact i3 p hp
        · exact ⟨hmem, by simpa using hbl⟩
      · rw [hs]
        simp only
        rcases (htk x).1 hx with h | rfl
        · rw [i4 x h]; rfl
        · simp [hnn]
    · rw [if_neg hS] at hs
      refine ⟨fun x h => i1 x (by rw [hs] at h; exact h), by rw [hs]; exact i2, fun p hp => i3 p (by rw [hs] at hp; exact hp), fun x hx => ?_⟩
      rw [hs]
      simp only
      rcases (htk x).1 hx with h | rfl
      · exact i4 x h
      · simpa using hS
/-- So it is with all of them. -/
theorem prs_ok (zs : List Int) (hz : ∀ n ∈ zs, 0 ≤ n ∧ n < 65536) : (∀ p ∈ prs zs, p.1 ∈ zs ∧ p.2 < 65536) ∧ numSum (prs zs) = (dist zs).length ∧ (prs zs).length ≤ (dist zs).length := by
  obtain ⟨i1, i2, i3, i4⟩ := prInv zs hz zs.length (Nat.le_refl _)
  have h0 : (dist zs).filter (prAt zs zs.length).2 = [] := by
    rw [List.filter_eq_nil_iff]
    intro x hx
    have := i4 x (by rw [List.take_length]; exact (mem_dist zs x).1 hx)
    rw [this]
    simp
  rw [h0] at i2
  have h1 : numSum (prs zs) = (dist zs).length := by unfold prs; simpa using i2
  exact ⟨i3, h1, by rw [← h1]; exact numSum_ge _⟩
end Go.Proofs.Ytagimjaojpdfiaa
