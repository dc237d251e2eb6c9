/- nack: plain facts: the document's pairs are these. -/
import Derived.Test.YtagimjaojpdfiaaNkD
namespace Go.Proofs.Ytagimjaojpdfiaa
open Go.RowKit
set_option linter.unusedVariables false
/-- Which are added to those that are done, out of a list. -/
def adA (n : Int) (base : List Int) (l : List Int) : List Int := l.foldl (fun ad m => if 1 ≤ d16 n m ∧ d16 n m ≤ 16 ∧ (base ++ ad).contains m = false then ad ++ [m] else ad) []
theorem adA_snoc (n : Int) (base l : List Int) (m : Int) : adA n base (l ++ [m]) = if 1 ≤ d16 n m ∧ d16 n m ≤ 16 ∧ (base ++ adA n base l).contains m = false then adA n base l ++ [m] else adA n base l := by
  unfold adA
  rw [List.foldl_append]
  rfl
theorem adA_len (n : Int) (base : List Int) : ∀ l : List Int, (adA n base l.reverse).length ≤ l.length
  | [] => by simp [adA]
  | m :: l => by
    have := adA_len n base l
    rw [List.reverse_cons, adA_snoc]
    split
    · simp; omega
    · simp; omega
theorem adA_mem (n : Int) (base : List Int) (y : Int) : ∀ l : List Int, y ∈ adA n base l.reverse ↔ y ∈ l ∧ 1 ≤ d16 n y ∧ d16 n y ≤ 16 ∧ y ∉ base
  | [] => by simp [adA]
  | m :: l => by
    have ih := adA_mem n base y l
    rw [List.reverse_cons, adA_snoc]
    split
    · next h =>
      obtain ⟨h1, h2, h3⟩ := h
      rw [← Bool.not_eq_true, List.contains_iff_mem, List.mem_append, not_or] at h3
      rw [List.mem_append, ih, List.mem_singleton, List.mem_cons]
      constructor
      · rintro (⟨a1, a2⟩ | rfl)
        · exact ⟨.inr a1, a2⟩
        · exact ⟨.inl rfl, h1, h2, h3.1⟩
      · rintro ⟨rfl | a1, a2⟩
        · exact .inr rfl
        · exact .inl ⟨a1, a2⟩
    · next h =>
      rw [ih, List.mem_cons]
      constructor
      · rintro ⟨a1, a2⟩
        exact ⟨.inr a1, a2⟩
      · rintro ⟨rfl | a1, a2, a3, a4⟩
        · by_cases hm : y ∈ adA n base l.reverse
          · exact ih.1 hm
          · exfalso
            refine h ⟨a2, a3, ?_⟩
            rw [← Bool.not_eq_true, List.contains_iff_mem, List.mem_append, not_or]
            exact ⟨a4, hm⟩
        · exact ⟨a1, a2, a3, a4⟩
theorem blp_congr (S T : Int → Bool) (n : Int) : ∀ k, (∀ i, i < k → S (nx n i) = T (nx n i)) → blp S n k = blp T n k
  | 0, _ => rfl
  | k + 1, h => by
    have ih := blp_congr S T n k (fun i hi => h i (by omega))
    rw [blp, blp, ih, h k (by omega)]
theorem blp_add (T : Int → Bool) (n : Int) (i : Nat) (hi : i < 16) (hT : T (nx n i) = false) : ∀ k, k ≤ 16 → blp (fun x => T x || x == nx n i) n k = blp T n k + (if i < k then 2 ^ i else 0)
  | 0, _ => by simp [blp]
  | k + 1, hk => by
    have ih := blp_add T n i hi hT k (by omega)
    rw [blp, blp, ih]
    by_cases hik : k = i
    · subst hik
      simp [hT]
    · have hne : nx n k ≠ nx n i := by unfold nx; omega
      have hb : (nx n k == nx n i) = false := by simpa using hne
      simp only [hb, Bool.or_false]
      by_cases hlt : i < k
      · have e1 : (if i < k then 2 ^ i else 0) = 2 ^ i := if_pos hlt
        have e2 : (if i < k + 1 then 2 ^ i else 0) = 2 ^ i := if_pos (by omega)
        rw [e1, e2]
        split <;> omega
      · have e1 : (if i < k then 2 ^ i else 0) = 0 := if_neg hlt
        have e2 : (if i < k + 1 then 2 ^ i else 0) = 0 := if_neg (by omega)
        rw [e1, e2]
        split <;> omega
theorem d16_nx (n m : Int) (n0 : 0 ≤ n) (n1 : n < 65536) (m0 : 0 ≤ m) (m1 : m < 65536) (d : Int) (hd : d16 n m = d) (h1 : 1 ≤ d) (h2 : d ≤ 16) : m = nx n (d.toNat - 1) ∧ d.toNat - 1 < 16 := by
  unfold d16 at hd
  unfold nx
  omega
theorem nx_d16 (n : Int) (i : Nat) (n0 : 0 ≤ n) (n1 : n < 65536) (hi : i < 16) : d16 n (nx n i) = i + 1 ∧ nx n i ≠ n := by
  unfold d16 nx
  omega
/-- The bits of those that were added grow by the bit of one more. -/
theorem blp_more (ad : List Int) (n m : Int) (n0 : 0 ≤ n) (n1 : n < 65536) (m0 : 0 ≤ m) (m1 : m < 65536) (d : Int) (hd : d16 n m = d) (h1 : 1 ≤ d) (h2 : d ≤ 16) (hm : ad.contains m = false) :
    blp (fun x => (ad ++ [m]).contains x) n 16 = blp (fun x => ad.contains x) n 16 + 2 ^ (d.toNat - 1) := by
  obtain ⟨e, hlt⟩ := d16_nx n m n0 n1 m0 m1 d hd h1 h2
  have h := blp_add (fun x => ad.contains x) n (d.toNat - 1) hlt (by rw [← e]; exact hm) 16 (Nat.le_refl _)
  rw [if_pos hlt] at h
  rw [← h]
  apply blp_congr
  intro i _
  rw [← e, Bool.eq_iff_iff]
  simp
/-- Those that are done are just those that are left no more. -/
def DoneR (zs : List Int) (S : Int → Bool) (dn : List Int) : Prop := ∀ x ∈ zs, S x = !dn.contains x
theorem drop_of (zs : List Int) (k : Nat) (x : Int) (h : x ∈ zs) (hk : x ∉ zs.take k) : x ∈ zs.drop k := by
  rw [← List.take_append_drop k zs, List.mem_append] at h
  exact h.resolve_left hk
theorem adA_mem' (n : Int) (base l : List Int) (y : Int) : y ∈ adA n base l ↔ y ∈ l ∧ 1 ≤ d16 n y ∧ d16 n y ≤ 16 ∧ y ∉ base := by
  have := adA_mem n base y l.reverse
  rw [List.reverse_reverse, List.mem_reverse] at this
  exact this
/-- One number more: what the document adds is what is taken. -/
theorem pair_step (zs : List Int) (hz : ∀ n ∈ zs, 0 ≤ n ∧ n < 65536) (k : Nat) (hk : k < zs.length) (dn : List Int) (hD : DoneR zs (prAt zs k).2 dn) (n : Int) (hn : zs[k]?.getD 0 = n) (hc : dn.contains n = false) :
    prAt zs (k + 1) = ((prAt zs k).1 ++ [(n, blp (fun x => (adA n (dn ++ [n]) (zs.drop k)).contains x) n 16)], (prAt zs (k + 1)).2) ∧ DoneR zs (prAt zs (k + 1)).2 (dn ++ [n] ++ adA n (dn ++ [n]) (zs.drop k)) := by
  have hI := prInv zs hz k (by omega)
  have hmem : n ∈ zs := by rw [← hn, List.getElem?_eq_getElem hk]; exact List.getElem_mem hk
  obtain ⟨n0, n1⟩ := hz n hmem
  have hs := prAt_succ zs k hk
  rw [hn] at hs
  have i1 := hI.sub
  have i4 := hI.gone
  clear hI
  generalize prAt zs k = PA at hs hD i1 i4
  obtain ⟨out, S⟩ := PA
  simp only at hD i1 i4 ⊢
  have hS : S n = true := by rw [hD n hmem, hc]; rfl
  unfold stp at hs
  simp only [hS, if_true] at hs
  have hleft : ∀ x, S x = true → x ∈ zs.drop k := fun x hx => drop_of zs k x (i1 x hx) (fun ht => by rw [i4 x ht] at hx; cases hx)
  have hdn : ∀ x, x ∈ zs → (S x = true ↔ x ∉ dn) := fun x hx => by
    rw [hD x hx]
    simp
  have hbl : blp S n 16 = blp (fun x => (adA n (dn ++ [n]) (zs.drop k)).contains x) n 16 := by
    apply blp_congr
    intro i hi
    obtain ⟨e1, e2⟩ := nx_d16 n i n0 n1 hi
    rw [Bool.eq_iff_iff, List.contains_iff_mem, adA_mem']
    constructor
    · intro hx
      refine ⟨hleft _ hx, by omega, by omega, ?_⟩
      rw [List.mem_append, List.mem_singleton, not_or]
      exact ⟨(hdn _ (i1 _ hx)).1 hx, e2⟩
    · rintro ⟨a1, _, _, a4⟩
      rw [List.mem_append, not_or] at a4
      exact (hdn _ (List.mem_of_mem_drop a1)).2 a4.1
  refine ⟨?_, ?_⟩
  · rw [hs, hbl]
  · intro x hx
    rw [hs]
    simp only
    rw [Bool.eq_iff_iff]
    simp only [Bool.and_eq_true, Bool.not_eq_true', ← Bool.not_eq_true, List.contains_iff_mem, List.mem_append, List.mem_singleton, not_or, adA_mem']
    constructor
    · rintro ⟨a1, a2⟩
      rw [nums_mem] at a2
      rw [not_or] at a2
      refine ⟨⟨(hdn x hx).1 a1, a2.1⟩, ?_⟩
      rintro ⟨b1, b2, b3, b4⟩
      obtain ⟨c1, c2⟩ := hz x hx
      obtain ⟨e, hlt⟩ := d16_nx n x n0 n1 c1 c2 _ rfl b2 b3
      exact a2.2 ⟨_, hlt, (blp_bit S n 16 _ hlt).2 (by rw [← e]; exact a1), e⟩
    · rintro ⟨⟨a1, a2⟩, a3⟩
      have hSx := (hdn x hx).2 a1
      refine ⟨hSx, ?_⟩
      rw [nums_mem, not_or]
      refine ⟨a2, ?_⟩
      rintro ⟨i, b1, b2, rfl⟩
      obtain ⟨e1, e2⟩ := nx_d16 n i n0 n1 b1
      exact a3 ⟨hleft _ hSx, by omega, by omega, ⟨a1, a2⟩⟩
theorem pair_skip (zs : List Int) (k : Nat) (hk : k < zs.length) (dn : List Int) (hD : DoneR zs (prAt zs k).2 dn) (n : Int) (hn : zs[k]?.getD 0 = n) (hc : dn.contains n = true) : prAt zs (k + 1) = prAt zs k := by
  have hmem : n ∈ zs := by rw [← hn, List.getElem?_eq_getElem hk]; exact List.getElem_mem hk
  rw [prAt_succ zs k hk, hn]
  unfold stp
  rw [hD n hmem, hc]
  rfl
end Go.Proofs.Ytagimjaojpdfiaa
