/- SplitBack: plain facts; what keeps what. -/
import Derived.Test.YtgomijhckmcfeaaSpX
import Derived.Test.YtgomijhckmcfeaaSpH
import Derived.Test.YtgomijhckmcfeaaSpSzW
namespace Go.Proofs.Ytgomijhckmcfeaa
open Go.RowKit
set_option linter.unusedVariables false
set_option linter.unusedSimpArgs false
theorem FIn.onlyRow {W W' : World} {base gf g : Nat} {t cnt first : Int} {mp : Option Nat} {P : List (Option ByteArray)} {cs : Array Value} {T : TypeId} (h : FIn W base gf t cnt first mp P) (hg : W.heap[g]? = some (.cells cs T (0, 0))) (hT : T ≠ 95) (ho : Only g W W') : FIn W' base gf t cnt first mp P := by
  refine h.same (ho.block gf (fun e => ?_)) (fun b hb => ho.block b (fun e => ?_))
  · subst e
    have h5 := h.at5
    unfold AtS at h5
    rw [h5] at hg
    simp only [Option.some.injEq, Obj.cells.injEq] at hg
    exact hT hg.2.1.symm
  · subst e
    rcases h.mem with ⟨h1, _⟩ | ⟨b', h1, h2, hm, _⟩
    · rw [h1] at hb; cases hb
    · rw [h1] at hb
      cases hb
      obtain ⟨es, cl, hm⟩ := hm.isMap
      rw [hm] at hg
      cases hg
theorem OwnE.onlyRow {W W' : World} {b g : Nat} {e T : TypeId} {size : Nat} {v : Value} {n : Nat} {xs : List Value} {cs : Array Value} (h : OwnE W b e size v n xs) (hg : W.heap[g]? = some (.cells cs T (0, 0))) (hT : T ≠ e) (ho : Only g W W') : OwnE W' b e size v n xs :=
  h.keep (by rw [ho.size]; exact Nat.le_refl _) fun k cs' _ hc => ho.block k (fun e1 => by
    subst e1
    rw [hg] at hc
    simp only [Option.some.injEq, Obj.cells.injEq] at hc
    exact hT hc.2.1)
namespace splitBack
/-- Each part that is there is the one of its Index. -/
def Of (t : ByteArray) (n : Nat) (P : List (Option ByteArray)) : Prop := ∀ i d, P[i]? = some (some d) → d = spP t n i
theorem of_no (t : ByteArray) (n N : Nat) : Of t n (spNo N) := fun i d h => by
  unfold spNo at h
  rw [List.getElem?_replicate] at h
  split at h <;> cases h
theorem of_set {t : ByteArray} {n : Nat} {P : List (Option ByteArray)} (h : Of t n P) (i : Nat) : Of t n (P.set i (some (spP t n i))) := fun j d hj => by
  rw [List.getElem?_set] at hj
  split at hj
  · rename_i e
    subst e
    split at hj
    · cases hj; rfl
    · cases hj
  · exact h j d hj
theorem of_size {t : ByteArray} {n : Nat} {P : List (Option ByteArray)} (h : Of t n P) (hn : n ≤ 1472) : spB P ≤ P.length * 1472 := by
  have hall : ∀ o ∈ P, (o.getD ByteArray.empty).size ≤ 1472 := fun o ho => by
    obtain ⟨i, hi⟩ := List.getElem?_of_mem ho
    cases o with
    | none => exact Nat.zero_le _
    | some d =>
      have := h i d hi
      subst this
      exact Nat.le_trans (spP_le t n i) hn
  clear h
  unfold spB
  induction P with
  | nil => simp
  | cons a P ih =>
    have h1 := hall a (by simp)
    have h2 := ih (fun o ho => hall o (by simp [ho]))
    simp only [List.map_cons, List.sum_cons, List.length_cons, Nat.succ_mul]
    omega
theorem of_all {t : ByteArray} {n N : Nat} {P : List (Option ByteArray)} (h : Of t n P) (hl : P.length = N) (ha : ∀ i, i < N → ∃ d, P[i]? = some (some d)) : spH P = N ∧ (⟨(spBy P N).toArray⟩ : ByteArray) = spCat (spL t n N) := by
  constructor
  · unfold spH
    rw [← hl, List.countP_eq_length]
    intro o ho
    obtain ⟨i, hi⟩ := List.getElem?_of_mem ho
    obtain ⟨d, hd⟩ := ha i (by have := (List.getElem?_eq_some_iff.1 hi).1; omega)
    rw [hd] at hi
    cases hi
    rfl
  · rw [spBy_cat]
    congr 1
    apply List.ext_getElem?
    intro i
    rw [List.take_of_length_le (by omega), List.getElem?_map]
    rcases Nat.lt_or_ge i N with hi | hi
    · obtain ⟨d, hd⟩ := ha i hi
      rw [hd, spL_at t n N i hi, h i d hd]
      rfl
    · rw [List.getElem?_eq_none (by omega), List.getElem?_eq_none (by rw [spL_len]; omega)]
      rfl
/-- Which are there, as bools. -/
def hadV (P : List (Option ByteArray)) : List Value := P.map (fun o => .bool o.isSome)
theorem hadV_no (N : Nat) : hadV (spNo N) = List.replicate N (.bool false) := by simp [hadV, spNo]
theorem hadV_len (P : List (Option ByteArray)) : (hadV P).length = P.length := by simp [hadV]
theorem hadV_set (P : List (Option ByteArray)) (i : Nat) (d : ByteArray) : hadV (P.set i (some d)) = (hadV P).set i (.bool true) := by simp [hadV, List.map_set]
theorem hadV_same (P : List (Option ByteArray)) (i : Nat) (d : ByteArray) (h : P[i]? = some (some d)) : (hadV P).set i (.bool true) = hadV P := by
  apply List.ext_getElem?
  intro j
  rw [List.getElem?_set]
  split
  · rename_i e
    subst e
    have hlt := (List.getElem?_eq_some_iff.1 h).1
    rw [if_pos (by rw [hadV_len]; exact hlt)]
    unfold hadV
    rw [List.getElem?_map, h]
    rfl
  · rfl
theorem hadV_at (P : List (Option ByteArray)) (i : Nat) (o : Option ByteArray) (h : P[i]? = some o) : (hadV P)[i]? = some (.bool o.isSome) := by
  unfold hadV
  rw [List.getElem?_map, h]
  rfl
/-- What lacks. -/
theorem lk_at (P : List (Option ByteArray)) (j : Nat) (x : Int) (h : (spLk P P.length)[j]? = some x) : ∃ i : Nat, x = i ∧ P[i]? = some none := by
  have hm := List.mem_of_getElem? h
  unfold spLk at hm
  obtain ⟨i, hi, rfl⟩ := List.mem_map.1 hm
  rw [List.mem_filter, List.mem_range] at hi
  refine ⟨i, rfl, ?_⟩
  obtain ⟨o, ho⟩ : ∃ o, P[i]? = some o := ⟨_, List.getElem?_eq_getElem hi.1⟩
  have h2 := hi.2
  rw [ho] at h2 ⊢
  cases o with
  | none => rfl
  | some d => simp at h2
theorem lk_mem (P : List (Option ByteArray)) (i : Nat) (h : P[i]? = some none) : ∃ j : Nat, (spLk P P.length)[j]? = some (i : Int) := by
  have hm : (i : Int) ∈ spLk P P.length := by
    unfold spLk
    refine List.mem_map.2 ⟨i, ?_, rfl⟩
    rw [List.mem_filter, List.mem_range]
    exact ⟨(List.getElem?_eq_some_iff.1 h).1, by rw [h]; rfl⟩
  exact List.getElem?_of_mem hm
/-- Of those that lacked, the first j are there now. -/
structure Fill (P P' : List (Option ByteArray)) (j : Nat) : Prop where
  len : P'.length = P.length
  had : ∀ (i : Nat) (d : ByteArray), P[i]? = some (some d) → ∃ d' : ByteArray, P'[i]? = some (some d')
  now : ∀ (i : Nat) (x : Int), i < j → (spLk P P.length)[i]? = some x → ∃ d' : ByteArray, P'[x.toNat]? = some (some d')
theorem fill_start (P : List (Option ByteArray)) : Fill P P 0 := ⟨rfl, fun i d h => ⟨d, h⟩, fun i x h => by omega⟩
theorem fill_put {P P' : List (Option ByteArray)} {j i : Nat} (h : Fill P P' j) (hj : (spLk P P.length)[j]? = some (i : Int)) (d : ByteArray) (hi : i < P'.length) : Fill P (P'.set i (some d)) (j + 1) := by
  refine ⟨by rw [List.length_set]; exact h.len, fun i' d' h' => ?_, fun i' x hx hy => ?_⟩
  · rw [List.getElem?_set]
    split
    · exact ⟨d, rfl⟩
    · exact h.had i' d' h'
  · rw [List.getElem?_set]
    split
    · exact ⟨d, rfl⟩
    · rename_i e
      rcases Nat.lt_or_ge i' j with h1 | h1
      · exact h.now i' x h1 hy
      · have : i' = j := by omega
        subst this
        rw [hj] at hy
        cases hy
        exact absurd (by omega) e
theorem fill_keep {P P' : List (Option ByteArray)} {j i : Nat} (h : Fill P P' j) (hj : (spLk P P.length)[j]? = some (i : Int)) (d : ByteArray) (hi : P'[i]? = some (some d)) : Fill P P' (j + 1) :=
  ⟨h.len, h.had, fun i' x hx hy => by
    rcases Nat.lt_or_ge i' j with h1 | h1
    · exact h.now i' x h1 hy
    · have : i' = j := by omega
      subst this
      rw [hj] at hy
      cases hy
      exact ⟨d, by rw [show ((i : Int)).toNat = i by omega]; exact hi⟩⟩
theorem fill_all {P P' : List (Option ByteArray)} {N : Nat} (h : Fill P P' (spLk P P.length).length) (hN : P.length = N) : ∀ i, i < N → ∃ d, P'[i]? = some (some d) := fun i hi => by
  obtain ⟨o, ho⟩ : ∃ o, P[i]? = some o := ⟨_, List.getElem?_eq_getElem (by omega)⟩
  cases o with
  | some d => exact h.had i d ho
  | none =>
    obtain ⟨j, hj⟩ := lk_mem P i ho
    have := h.now j _ (List.getElem?_eq_some_iff.1 hj).1 hj
    rw [show ((i : Int)).toNat = i by omega] at this
    exact this
end splitBack
end Go.Proofs.Ytgomijhckmcfeaa
