/- history: records; what each call leaves (plain facts). -/
import Derived.Test.YtaekefedmobfoaaReA
namespace Go.Proofs.Ytaekefedmobfoaa
open Go.RowKit
set_option linter.unusedVariables false
set_option linter.unusedSimpArgs false
structure HR where
  s : Int
  t : Int
  p : Int
  d : ByteArray
def HR.cs (r : HR) : List Value := [.int .i64 r.s, .int .i64 r.t, .int .i64 r.p, .string r.d]
def HR.val (r : HR) : Value := .agg #[.int .i64 r.s, .int .i64 r.t, .int .i64 r.p, .string r.d]
theorem HR.cs_len (r : HR) : r.cs.length = 4 := rfl
theorem HR.cs_one (r : HR) : ∀ u ∈ r.cs, u.oneCell' = true := by
  intro u hu
  simp only [HR.cs, List.mem_cons, List.not_mem_nil, or_false] at hu
  rcases hu with rfl | rfl | rfl | rfl <;> rfl
def hiV (l : List HR) : List Value := rowsV HR.cs l
theorem hiV_len (l : List HR) : (hiV l).length = l.length * 4 := rowsV_len HR.cs_len l
theorem hiV_snoc (l : List HR) (r : HR) : hiV (l ++ [r]) = hiV l ++ r.cs := rowsV_snoc l r
theorem hiV_one (l : List HR) : ∀ u ∈ hiV l, u.oneCell' = true := rowsV_one HR.cs_one l
theorem hiV_drop (l : List HR) (k : Nat) : (hiV l).drop (k * 4) = hiV (l.drop k) := rowsV_drop HR.cs_len l k
/-- Bounds as they count. -/
def hiC (n : Int) : Int := min (max n 1) 65535
def hiT (n : Int) : Int := min (max n 0) 100
theorem hiC_bd (n : Int) : 1 ≤ hiC n ∧ hiC n ≤ 65535 := by unfold hiC; omega
theorem hiT_bd (n : Int) : 0 ≤ hiT n ∧ hiT n ≤ 100 := by unfold hiT; omega
/-- Records that rise by their numbers. -/
def HiUp (l : List HR) : Prop := l.Pairwise (fun a b => a.s < b.s)
/-- Where the first of at least a number is; the first of a greater one. -/
def hiPos (s : Int) (l : List HR) : Nat := l.findIdx (fun r => decide (s ≤ r.s))
def hiPas (s : Int) (l : List HR) : Nat := l.findIdx (fun r => decide (s < r.s))
theorem findIdx_lt {α : Type} (q : α → Bool) (l : List α) (i : Nat) (x : α) (h : l[i]? = some x) (hi : i < l.findIdx q) : q x = false := by
  obtain ⟨hl, rfl⟩ := List.getElem?_eq_some_iff.1 h
  have := List.not_of_lt_findIdx hi
  simpa using this
theorem findIdx_ge {α : Type} (q : α → Bool) (l : List α) (hm : l.Pairwise (fun a b => q a = true → q b = true)) (i : Nat) (x : α) (h : l[i]? = some x) (hi : l.findIdx q ≤ i) : q x = true := by
  obtain ⟨hl, rfl⟩ := List.getElem?_eq_some_iff.1 h
  have hw : l.findIdx q < l.length := by omega
  have h0 : q (l[l.findIdx q]) = true := List.findIdx_getElem (w := hw)
  rcases Nat.lt_or_eq_of_le hi with h1 | h1
  · exact (List.pairwise_iff_getElem.1 hm) _ _ hw hl h1 h0
  · rw [show l[i] = l[l.findIdx q] by congr 1; exact h1.symm]
    exact h0
theorem hiPos_le (s : Int) (l : List HR) : hiPos s l ≤ l.length := List.findIdx_le_length
theorem hiPas_le (s : Int) (l : List HR) : hiPas s l ≤ l.length := List.findIdx_le_length
theorem hiUp_pos {l : List HR} (h : HiUp l) (s : Int) : l.Pairwise (fun a b => decide (s ≤ a.s) = true → decide (s ≤ b.s) = true) :=
  List.Pairwise.imp (R := fun (a b : HR) => a.s < b.s) (fun hab h0 => by simp at h0 ⊢; omega) h
theorem hiUp_pas {l : List HR} (h : HiUp l) (s : Int) : l.Pairwise (fun a b => decide (s < a.s) = true → decide (s < b.s) = true) :=
  List.Pairwise.imp (R := fun (a b : HR) => a.s < b.s) (fun hab h0 => by simp at h0 ⊢; omega) h
theorem hiPos_lt (s : Int) (l : List HR) (i : Nat) (r : HR) (h : l[i]? = some r) (hi : i < hiPos s l) : r.s < s := by
  have := findIdx_lt _ l i r h hi
  simp at this
  omega
theorem hiPos_ge {l : List HR} (hu : HiUp l) (s : Int) (i : Nat) (r : HR) (h : l[i]? = some r) (hi : hiPos s l ≤ i) : s ≤ r.s := by
  have := findIdx_ge _ l (hiUp_pos hu s) i r h hi
  simpa using this
theorem hiPas_lt (s : Int) (l : List HR) (i : Nat) (r : HR) (h : l[i]? = some r) (hi : i < hiPas s l) : r.s ≤ s := by
  have := findIdx_lt _ l i r h hi
  simp at this
  omega
theorem hiPas_ge {l : List HR} (hu : HiUp l) (s : Int) (i : Nat) (r : HR) (h : l[i]? = some r) (hi : hiPas s l ≤ i) : s < r.s := by
  have := findIdx_ge _ l (hiUp_pas hu s) i r h hi
  simpa using this
/-- The one of a number, if it is kept. -/
def hiFind (s : Int) (l : List HR) : Option HR := l.find? (fun r => decide (r.s = s))
theorem hiUp_inj {l : List HR} (hu : HiUp l) (i j : Nat) (a b : HR) (hi : l[i]? = some a) (hj : l[j]? = some b) (e : a.s = b.s) : i = j := by
  obtain ⟨h1, rfl⟩ := List.getElem?_eq_some_iff.1 hi
  obtain ⟨h2, rfl⟩ := List.getElem?_eq_some_iff.1 hj
  have hp := List.pairwise_iff_getElem.1 hu
  rcases Nat.lt_trichotomy i j with h | h | h
  · have := hp i j h1 h2 h; omega
  · exact h
  · have := hp j i h2 h1 h; omega
theorem hiFind_at {l : List HR} (hu : HiUp l) (i : Nat) (r : HR) (h : l[i]? = some r) : hiFind r.s l = some r := by
  cases e : hiFind r.s l with
  | none =>
    have := List.find?_eq_none.1 e r (List.mem_of_getElem? h)
    simp at this
  | some x =>
    have hm := List.mem_of_find?_eq_some e
    have hx := List.find?_some e
    simp at hx
    obtain ⟨j, hj⟩ := List.getElem?_of_mem hm
    have hij := hiUp_inj hu j i x r hj h hx
    subst hij
    rw [h] at hj
    exact hj.symm
theorem hiFind_no {l : List HR} (hu : HiUp l) (s : Int) (h : ∀ r, l[hiPos s l]? = some r → r.s ≠ s) : hiFind s l = none := by
  cases e : hiFind s l with
  | none => rfl
  | some x =>
    exfalso
    have hm := List.mem_of_find?_eq_some e
    have hx := List.find?_some e
    simp at hx
    obtain ⟨j, hj⟩ := List.getElem?_of_mem hm
    rcases Nat.lt_or_ge j (hiPos s l) with h1 | h1
    · have := hiPos_lt s l j x hj h1
      omega
    · obtain ⟨hjl, _⟩ := List.getElem?_eq_some_iff.1 hj
      have hpl : hiPos s l < l.length := by omega
      have hp : l[hiPos s l]? = some (l[hiPos s l]) := List.getElem?_eq_getElem hpl
      have h2 := hiPos_ge hu s _ _ hp (Nat.le_refl _)
      have h3 := h _ hp
      rcases Nat.lt_or_eq_of_le h1 with h4 | h4
      · have h5 := (List.pairwise_iff_getElem.1 hu) _ _ hpl hjl h4
        have h6 : l[j] = x := by rw [List.getElem?_eq_getElem hjl] at hj; exact Option.some.inj hj
        rw [h6] at h5
        omega
      · have h6 : l[hiPos s l]? = some x := by rw [h4]; exact hj
        rw [hp] at h6
        have h7 := Option.some.inj h6
        rw [h7] at h3
        omega
/-- May a number be put? -/
def hiOk (s : Int) (l : List HR) : Bool := l.all (fun r => decide (r.s < s))
theorem hiOk_last {l : List HR} (hu : HiUp l) (s : Int) (r : HR) (h : l[l.length - 1]? = some r) (hl : r.s < s) : hiOk s l = true := by
  unfold hiOk
  rw [List.all_eq_true]
  intro x hx
  obtain ⟨j, hj⟩ := List.getElem?_of_mem hx
  obtain ⟨hjl, hj2⟩ := List.getElem?_eq_some_iff.1 hj
  obtain ⟨hrl, hr2⟩ := List.getElem?_eq_some_iff.1 h
  rcases Nat.lt_or_ge j (l.length - 1) with h1 | h1
  · have h5 := (List.pairwise_iff_getElem.1 hu) _ _ hjl hrl h1
    rw [hj2, hr2] at h5
    simp
    omega
  · have : j = l.length - 1 := by omega
    subst this
    rw [hj] at h
    cases h
    simpa using hl
theorem hiOk_no {l : List HR} (s : Int) (i : Nat) (r : HR) (h : l[i]? = some r) (hl : s ≤ r.s) : hiOk s l = false := by
  rw [← Bool.not_eq_true]
  intro e
  unfold hiOk at e
  rw [List.all_eq_true] at e
  have := e r (List.mem_of_getElem? h)
  simp at this
  omega
theorem hiOk_nil (s : Int) : hiOk s [] = true := rfl
/-- What is kept behind a Put. -/
def hiAdd (M : Int) (l : List HR) (x : HR) : List HR := if (l.length : Int) + 1 > M then (l ++ [x]).drop 1 else l ++ [x]
def hiPut (M : Int) (l : List HR) (x : HR) : List HR := if hiOk x.s l = true then hiAdd M l x else l
theorem hiUp_snoc {l : List HR} (hu : HiUp l) (x : HR) (h : hiOk x.s l = true) : HiUp (l ++ [x]) := by
  unfold HiUp
  rw [List.pairwise_append]
  refine ⟨hu, List.pairwise_singleton _ _, fun a ha b hb => ?_⟩
  simp at hb
  subst hb
  unfold hiOk at h
  rw [List.all_eq_true] at h
  simpa using h a ha
theorem hiUp_add {l : List HR} (hu : HiUp l) (M : Int) (x : HR) (h : hiOk x.s l = true) : HiUp (hiAdd M l x) := by
  unfold hiAdd
  split
  · exact (hiUp_snoc hu x h).sublist (List.drop_sublist _ _)
  · exact hiUp_snoc hu x h
theorem hiUp_drop {l : List HR} (hu : HiUp l) (k : Nat) : HiUp (l.drop k) := hu.sublist (List.drop_sublist _ _)
theorem hiAdd_len (M : Int) (l : List HR) (x : HR) (h1 : 1 ≤ M) (h : (l.length : Int) ≤ M) : ((hiAdd M l x).length : Int) ≤ M := by
  unfold hiAdd
  split
  · simp; omega
  · simp; omega
/-- What is kept behind a Forget. -/
def hiFg (s : Int) (l : List HR) : List HR := l.filter (fun r => decide (s < r.s))
theorem hiFg_drop {l : List HR} (hu : HiUp l) (s : Int) : hiFg s l = l.drop (hiPas s l) := by
  induction l with
  | nil => rfl
  | cons r l ih =>
    have hu' := (List.pairwise_cons.1 hu)
    by_cases h : s < r.s
    · have e : hiPas s (r :: l) = 0 := by unfold hiPas; simp [List.findIdx_cons, h]
      rw [e, List.drop_zero]
      unfold hiFg
      rw [List.filter_eq_self]
      intro a ha
      rcases List.mem_cons.1 ha with rfl | ha
      · simpa using h
      · have := hu'.1 a ha
        simp
        omega
    · have e : hiPas s (r :: l) = hiPas s l + 1 := by unfold hiPas; simp [List.findIdx_cons, h]
      rw [e, List.drop_succ_cons, ← ih hu'.2]
      unfold hiFg
      rw [List.filter_cons]
      simp [h]
/-- What is kept behind an Again that sends one. -/
def HR.ag (r : HR) (p : Int) : HR := ⟨r.s, r.t + 1, p, r.d⟩
def hiAg (s p : Int) (l : List HR) : List HR := l.map (fun r => if r.s = s then r.ag p else r)
theorem hiAg_up {l : List HR} (hu : HiUp l) (s p : Int) : HiUp (hiAg s p l) := by
  unfold HiUp hiAg
  rw [List.pairwise_map]
  refine List.Pairwise.imp (R := fun (a b : HR) => a.s < b.s) (fun hab => ?_) hu
  have h1 : ∀ r : HR, (if r.s = s then r.ag p else r).s = r.s := fun r => by split <;> rfl
  rw [h1, h1]
  exact hab
theorem hiAg_set {l : List HR} (hu : HiUp l) (i : Nat) (r : HR) (h : l[i]? = some r) (p : Int) : hiAg r.s p l = l.set i (r.ag p) := by
  apply List.ext_getElem?
  intro j
  unfold hiAg
  rw [List.getElem?_map]
  by_cases hj : j = i
  · subst hj
    rw [List.getElem?_set_self (List.getElem?_eq_some_iff.1 h).1, h]
    simp
  · rw [List.getElem?_set_ne (fun e => hj e.symm)]
    cases e : l[j]? with
    | none => rfl
    | some x =>
      have hne : x.s ≠ r.s := fun e2 => hj (hiUp_inj hu j i x r e h e2)
      simp [hne]
theorem hiAg_len (s p : Int) (l : List HR) : (hiAg s p l).length = l.length := by simp [hiAg]
end Go.Proofs.Ytaekefedmobfoaa
