/- Rows of records: each element is so many cells. -/
import Derived.Test.YtilobmebfeenfaaApB
import Derived.Lib.SliceRun
import Derived.Deep.Upon
namespace Go.Proofs.Ytilobmebfeenfaa
open Go.RowKit
set_option linter.unusedVariables false
set_option linter.unusedSimpArgs false
/-- The cells of a row of records. -/
def rowsV {α : Type} (f : α → List Value) (l : List α) : List Value := l.flatMap f
section
variable {α : Type} {f : α → List Value} {c : Nat}
theorem rowsV_nil : rowsV f ([] : List α) = [] := rfl
theorem rowsV_cons (a : α) (l : List α) : rowsV f (a :: l) = f a ++ rowsV f l := by simp [rowsV]
theorem rowsV_app (l r : List α) : rowsV f (l ++ r) = rowsV f l ++ rowsV f r := by simp [rowsV]
theorem rowsV_len (hf : ∀ a, (f a).length = c) (l : List α) : (rowsV f l).length = l.length * c := by
  induction l with
  | nil => simp [rowsV_nil]
  | cons a l ih => rw [rowsV_cons, List.length_append, hf, ih, List.length_cons, Nat.add_mul]; omega
theorem rowsV_snoc (l : List α) (a : α) : rowsV f (l ++ [a]) = rowsV f l ++ f a := by rw [rowsV_app, rowsV_cons, rowsV_nil, List.append_nil]
theorem rowsV_take (hf : ∀ a, (f a).length = c) (l : List α) (k : Nat) : (rowsV f l).take (k * c) = rowsV f (l.take k) := by
  induction l generalizing k with
  | nil => simp [rowsV_nil]
  | cons a l ih =>
    cases k with
    | zero => simp [rowsV_nil]
    | succ k =>
      rw [rowsV_cons, List.take_succ_cons, rowsV_cons, ← ih k, List.take_append, hf]
      rw [List.take_of_length_le (by rw [hf, Nat.add_mul]; omega)]
      congr 2
      rw [Nat.add_mul]; omega
theorem rowsV_drop (hf : ∀ a, (f a).length = c) (l : List α) (k : Nat) : (rowsV f l).drop (k * c) = rowsV f (l.drop k) := by
  induction l generalizing k with
  | nil => simp [rowsV_nil]
  | cons a l ih =>
    cases k with
    | zero => simp
    | succ k =>
      rw [rowsV_cons, List.drop_succ_cons, ← ih k, List.drop_append, hf]
      rw [List.drop_of_length_le (by rw [hf, Nat.add_mul]; omega), List.nil_append]
      congr 1
      rw [Nat.add_mul]; omega
theorem rowsV_at (hf : ∀ a, (f a).length = c) (l : List α) (i : Nat) (a : α) (h : l[i]? = some a) (j : Nat) (u : Value) (hj : (f a)[j]? = some u) : (rowsV f l)[i * c + j]? = some u := by
  obtain ⟨hi, rfl⟩ := List.getElem?_eq_some_iff.1 h
  rw [← List.getElem?_drop, rowsV_drop hf, List.drop_eq_getElem_cons hi, rowsV_cons, List.getElem?_append_left (List.getElem?_eq_some_iff.1 hj).1]
  exact hj
theorem rowsV_set (hf : ∀ a, (f a).length = c) (l : List α) (i : Nat) (a a' : α) (h : l[i]? = some a) (j : Nat) (u : Value) (hj : j < c) (e : f a' = (f a).set j u) : rowsV f (l.set i a') = (rowsV f l).set (i * c + j) u := by
  induction l generalizing i with
  | nil => simp at h
  | cons b l ih =>
    cases i with
    | zero =>
      simp at h
      subst h
      rw [List.set_cons_zero, rowsV_cons, rowsV_cons, Nat.zero_mul, Nat.zero_add, List.set_append_left _ _ (by rw [hf]; exact hj), e]
    | succ i =>
      rw [List.set_cons_succ, rowsV_cons, rowsV_cons, ih i (by simpa using h), List.set_append_right _ _ (by rw [hf, Nat.add_mul]; omega), hf]
      congr 2
      rw [Nat.add_mul]; omega
theorem rowsV_one (h1 : ∀ a, ∀ u ∈ f a, u.oneCell' = true) (l : List α) : ∀ u ∈ rowsV f l, u.oneCell' = true := by
  intro u hu
  unfold rowsV at hu
  obtain ⟨a, _, ha⟩ := List.mem_flatMap.1 hu
  exact h1 a u ha
end
/-- Where a row of the call's own lies. -/
theorem OwnE.row {W : World} {b : Nat} {e : TypeId} {c : Nat} {v : Value} {n : Nat} {xs : List Value} (h : OwnE W b e c v n xs) (hn : 0 < n) : ∃ g off cap, v = .slice (some ⟨g, off, none⟩) n cap ∧ n ≤ cap ∧ cap ≤ maxLen ∧ b ≤ g ∧ g < W.heap.size ∧ ∀ q u, xs[q]? = some u → W.cell? ⟨g, off + q, none⟩ = some u ∧ W.frozen? ⟨g, off + q, none⟩ = false := h.1.cells hn
/-- One cell of such a row is set. -/
theorem OwnE.setAt {W : World} {b : Nat} {e : TypeId} {c n cap g off : Nat} {xs : List Value} (h : OwnE W b e c (.slice (some ⟨g, off, none⟩) n cap) n xs) (q : Nat) (u : Value) (hq : q < xs.length) :
    OwnE (W.setCell ⟨g, off + q, none⟩ u) b e c (.slice (some ⟨g, off, none⟩) n cap) n (xs.set q u) := by
  have ho := (Only.refl g W).setCell (off + q) u
  obtain ⟨⟨hl, h1⟩, h2⟩ := h
  rcases h1 with ⟨e1, _⟩ | ⟨g', off', cap', e1, q1, q2, q3, q4, q5, q6⟩
  · cases e1
  · simp only [Value.slice.injEq, Option.some.injEq, Addr.mk.injEq, true_and, and_true] at e1
    obtain ⟨⟨rfl, rfl⟩, rfl⟩ := e1
    have hin : q < cap * c := by rw [hl] at hq; exact Nat.lt_of_lt_of_le hq (Nat.mul_le_mul_right _ q3)
    have hsz : ∀ j, j < [u].length → (W.cell? ⟨g, off + q + j, none⟩).isSome = true := fun j hj => by
      obtain rfl : j = 0 := by simpa using hj
      exact (q5 q hin).1
    refine ⟨⟨by rw [List.length_set]; exact hl, .inr ⟨g, off, cap, rfl, q1, by rw [ho.size]; exact q2, q3, q4, fun j hj => ⟨?_, ?_⟩, fun j y hy => ?_⟩⟩, fun k hk => ?_⟩
    · exact World.isSome_setCells g [u] (off + q) W _ (q5 j hj).1
    · exact (World.frozen?_setCells g [u] (off + q) W ⟨g, off + j, none⟩).trans (q5 j hj).2
    · by_cases hjq : j = q
      · subst hjq
        rw [List.getElem?_set_self hq] at hy
        cases hy
        have := World.cell?_setCells_in g [u] (off + j) W hsz 0 (by simp)
        rw [Nat.add_zero] at this
        exact this
      · rw [List.getElem?_set_ne (fun e => hjq e.symm)] at hy
        exact (World.cell?_setCells_out g [u] (off + q) W ⟨g, off + j, none⟩ (fun _ _ => by show off + j < off + q ∨ off + q + 1 ≤ off + j; omega)).trans (q6 j y hy)
    · cases hk
      obtain ⟨cs, hcs⟩ := h2 g rfl
      exact ⟨_, block_setCell hcs⟩
/-- The first elements of such a row are overwritten, and left behind. -/
theorem OwnE.front {W : World} {b : Nat} {e : TypeId} {c n cap g off : Nat} {xs : List Value} (h : OwnE W b e c (.slice (some ⟨g, off, none⟩) n cap) n xs) (k : Nat) (hk : k ≤ n) (vs : List Value) (hvs : vs.length ≤ k * c) :
    OwnE (W.setCells g off vs) b e c (.slice (some ⟨g, off + k * c, none⟩) (n - k) (cap - k)) (n - k) (xs.drop (k * c)) := by
  have ho := setCells_only g vs off W
  obtain ⟨⟨hl, h1⟩, h2⟩ := h
  rcases h1 with ⟨e1, _⟩ | ⟨g', off', cap', e1, q1, q2, q3, q4, q5, q6⟩
  · cases e1
  · simp only [Value.slice.injEq, Option.some.injEq, Addr.mk.injEq, true_and, and_true] at e1
    obtain ⟨⟨rfl, rfl⟩, rfl⟩ := e1
    refine ⟨⟨by rw [List.length_drop, hl, Nat.sub_mul], .inr ⟨g, off + k * c, cap - k, rfl, q1, by rw [ho.size]; exact q2, by omega, by omega, fun j hj => ?_, fun j y hy => ?_⟩⟩, fun k hk => ?_⟩
    · have hj' : k * c + j < cap * c := by rw [Nat.sub_mul] at hj; omega
      rw [Nat.add_assoc]
      exact ⟨World.isSome_setCells g vs off W _ (q5 _ hj').1, (World.frozen?_setCells g vs off W _).trans (q5 _ hj').2⟩
    · rw [List.getElem?_drop] at hy
      rw [Nat.add_assoc]
      exact (World.cell?_setCells_out g vs off W _ (fun _ _ => by show off + (k * c + j) < off ∨ off + vs.length ≤ off + (k * c + j); omega)).trans (q6 _ y hy)
    · cases hk
      obtain ⟨cs, hcs⟩ := h2 g rfl
      exact setCells_type g e vs off W cs hcs
/-- All of such a row is overwritten, and left behind: nothing is left, not even room. -/
theorem OwnE.frontAll {W : World} {b : Nat} {e : TypeId} {c n g off : Nat} {xs : List Value} (h : OwnE W b e c (.slice (some ⟨g, off, none⟩) n n) n xs) (vs : List Value) :
    OwnE (W.setCells g off vs) b e c (.slice (some ⟨g, off, none⟩) 0 0) 0 [] := by
  have ho := setCells_only g vs off W
  obtain ⟨⟨hl, h1⟩, h2⟩ := h
  rcases h1 with ⟨e1, _⟩ | ⟨g', off', cap', e1, q1, q2, q3, q4, q5, q6⟩
  · cases e1
  · simp only [Value.slice.injEq, Option.some.injEq, Addr.mk.injEq, true_and, and_true] at e1
    obtain ⟨⟨rfl, rfl⟩, rfl⟩ := e1
    refine ⟨⟨by simp, .inr ⟨g, off, 0, rfl, q1, by rw [ho.size]; exact q2, Nat.le_refl _, Nat.zero_le _, fun j hj => by omega, fun j y hy => by simp at hy⟩⟩, fun k hk => ?_⟩
    cases hk
    obtain ⟨cs, hcs⟩ := h2 g rfl
    exact setCells_type g e vs off W cs hcs
/-- 'clear(s)' of elements of several cells. -/
theorem run_clear_recs {P : Program} (w : World) (t e ty : TypeId) (z : Value) (ht : P.underlying t = some (.slice e)) (hv : ∀ w, (zeroValue e).run P w = .ok z w) (hz : ∀ n, ∀ u ∈ (Builtin.zeroCells z.cells n).toList, u.oneCell' = true) (b o n c : Nat) (hn : 0 < n)
    (hc : ∀ j, j < n * z.cells.size → (w.cell? ⟨b, o + j, none⟩).isSome = true ∧ w.frozen? ⟨b, o + j, none⟩ = false) :
    (Builtin.clear_ #[t] ty #[.slice (some ⟨b, o, none⟩) n c]).run P w = .ok (.tuple #[]) (w.setCells b o (Builtin.zeroCells z.cells n).toList) := by
  have hl : (Builtin.zeroCells z.cells n).toList.length = n * z.cells.size := by simp [Builtin.zeroCells]
  have hst := run_storeCells_cells (P := P) b o (Builtin.zeroCells z.cells n).toList 0 w (by simpa [hl] using fun j hj => (hc j hj).1) (by simpa [hl] using fun j hj => (hc j hj).2) (hz n)
  simp only [Nat.add_zero] at hst
  obtain ⟨m, rfl⟩ : ∃ m, n = m + 1 := ⟨n - 1, by omega⟩
  simp [Builtin.clear_, run_underlying ht, hv, hst]
end Go.Proofs.Ytilobmebfeenfaa
