/- A slice of the call's own, wherever it begins in its array: append tells whether its array is a new one. -/
import Derived.Test.YtilobmebfeenfaaPenI
import Derived.Test.YtilobmebfeenfaaRow
import Derived.ArgAppend
import Derived.Deep.MidRow
namespace Go.Proofs.Ytilobmebfeenfaa
open Go.RowKit
set_option linter.unusedVariables false
/-- So many elements, from a place in a block on; the rest of its room is there, and nothing of it is frozen. -/
def OwnAt (W : World) (base size : Nat) (v : Value) (n : Nat) (xs : List Value) : Prop :=
  xs.length = n * size ∧ ((v = .slice none 0 0 ∧ n = 0) ∨
    ∃ g off cap, v = .slice (some ⟨g, off, none⟩) n cap ∧ base ≤ g ∧ g < W.heap.size ∧ n ≤ cap ∧ cap ≤ maxLen ∧
      (∀ j, j < cap * size → (W.cell? ⟨g, off + j, none⟩).isSome = true ∧ W.frozen? ⟨g, off + j, none⟩ = false) ∧
      (∀ j u, xs[j]? = some u → W.cell? ⟨g, off + j, none⟩ = some u))
theorem ownAt_nil (W : World) (base size : Nat) : OwnAt W base size (.slice none 0 0) 0 [] := ⟨by simp, .inl ⟨rfl, rfl⟩⟩
theorem ownAt_of {W : World} {base : Nat} {e : TypeId} {size : Nat} {v : Value} {n : Nat} {xs : List Value} (h : W.ownsRow base e size v n xs) : OwnAt W base size v n xs := by
  refine ⟨h.1, ?_⟩
  rcases h.2 with h0 | ⟨g, cap, cur, rfl, q1, q2, q3, q4, q5, q6⟩
  · exact .inl h0
  · refine .inr ⟨g, 0, cap, rfl, q1, lt_of_block q2, q3, q4, fun j hj => ?_, fun j u hu => ?_⟩
    · rw [Nat.zero_add]
      refine ⟨?_, ?_⟩
      · rw [cell_of_row W g j cur e (0, 0) q2, Array.getElem?_eq_getElem (by omega)]
        rfl
      · simp [World.frozen?, q2]
    · rw [Nat.zero_add, cell_of_row W g j cur e (0, 0) q2, ← Array.getElem?_toList]
      rw [← q6, List.getElem?_take] at hu
      split at hu
      · exact hu
      · cases hu
theorem OwnAt.base {W : World} {b c size : Nat} {v : Value} {n : Nat} {xs : List Value} (h : OwnAt W b size v n xs) (hc : c ≤ b) : OwnAt W c size v n xs := by
  refine ⟨h.1, ?_⟩
  rcases h.2 with h0 | ⟨g, off, cap, e, q1, q⟩
  · exact .inl h0
  · exact .inr ⟨g, off, cap, e, by omega, q⟩
/-- It stays where its block does. -/
theorem OwnAt.keep {W W' : World} {b size : Nat} {v : Value} {n : Nat} {xs : List Value} (h : OwnAt W b size v n xs) (hs : W.heap.size ≤ W'.heap.size) (hb : ∀ k, v.ownBlock = some k → k < W.heap.size → W'.heap[k]? = W.heap[k]?) : OwnAt W' b size v n xs := by
  refine ⟨h.1, ?_⟩
  rcases h.2 with h0 | ⟨g, off, cap, rfl, q1, q2, q3, q4, q5, q6⟩
  · exact .inl h0
  · have e := hb g rfl q2
    refine .inr ⟨g, off, cap, rfl, q1, by omega, q3, q4, fun j hj => ?_, fun j u hu => ?_⟩
    · rw [World.cell?_of_block (w := W) e, World.frozen?_of_block (w := W) e]
      exact q5 j hj
    · rw [World.cell?_of_block (w := W) e]
      exact q6 j u hu
theorem OwnAt.later {W W' : World} {b size : Nat} {v : Value} {n : Nat} {xs : List Value} (h : OwnAt W b size v n xs) (hb : Below W.heap.size W W') : OwnAt W' b size v n xs := h.keep hb.size fun k _ hk => hb.block k hk
theorem OwnAt.alloc {W : World} {b size : Nat} {v : Value} {n : Nat} {xs : List Value} (h : OwnAt W b size v n xs) (o : Obj) : OwnAt (W.alloc o) b size v n xs := h.later ((Below.refl _ _).alloc (Nat.le_refl _) _)
theorem OwnAt.drew {W : World} {b size : Nat} {v : Value} {n : Nat} {xs : List Value} (h : OwnAt W b size v n xs) : OwnAt W.drew b size v n xs := h
theorem OwnAt.only {W W' : World} {b size g : Nat} {v : Value} {n : Nat} {xs : List Value} (h : OwnAt W b size v n xs) (ho : Only g W W') (hg : v.ownBlock ≠ some g) : OwnAt W' b size v n xs :=
  h.keep (by rw [ho.size]; exact Nat.le_refl _) fun k hk _ => ho.block k (fun e => hg (by rw [hk, e]))
theorem OwnAt.grown {W W' : World} {b size : Nat} {v : Value} {n : Nat} {xs : List Value} {row : Option Nat} (h : OwnAt W b size v n xs) (hg : W.grownBy W' row) (hr : row = none ∨ v.ownBlock ≠ row) : OwnAt W' b size v n xs := by
  refine h.keep hg.size fun k hk hlt => hg.block k hlt (fun e => ?_)
  rcases hr with hr | hr
  · rw [hr] at e; cases e
  · exact hr (by rw [hk, e])
theorem OwnAt.lt {W : World} {b size : Nat} {v : Value} {n : Nat} {xs : List Value} (h : OwnAt W b size v n xs) : ∀ k, v.ownBlock = some k → b ≤ k ∧ k < W.heap.size := by
  intro k hk
  rcases h.2 with ⟨rfl, _⟩ | ⟨g, off, cap, rfl, q1, q2, _⟩
  · cases hk
  · cases hk
    exact ⟨q1, q2⟩
theorem OwnAt.cells {W : World} {b size : Nat} {v : Value} {n : Nat} {xs : List Value} (h : OwnAt W b size v n xs) (hn : 0 < n) : ∃ g off cap, v = .slice (some ⟨g, off, none⟩) n cap ∧ n ≤ cap ∧ cap ≤ maxLen ∧ b ≤ g ∧ g < W.heap.size ∧ (∀ j u, xs[j]? = some u → W.cell? ⟨g, off + j, none⟩ = some u ∧ W.frozen? ⟨g, off + j, none⟩ = false) := by
  rcases h.2 with ⟨rfl, h0⟩ | ⟨g, off, cap, rfl, q1, q2, q3, q4, q5, q6⟩
  · omega
  · refine ⟨g, off, cap, rfl, q3, q4, q1, q2, fun j u hu => ⟨q6 j u hu, (q5 j ?_).2⟩⟩
    have h1 := (List.getElem?_eq_some_iff.1 hu).1
    rw [h.1] at h1
    exact Nat.lt_of_lt_of_le h1 (Nat.mul_le_mul_right _ q3)
theorem setCells_only (g : Nat) : ∀ (vs : List Value) (o : Nat) (W : World), Only g W (W.setCells g o vs)
  | [], _, W => Only.refl g W
  | u :: r, o, W => ((Only.refl g W).setCell o u).trans (setCells_only g r (o + 1) (W.setCell ⟨g, o, none⟩ u))
theorem only_grown {g : Nat} {W W' : World} (h : Only g W W') : W.grownBy W' (some g) := ⟨h.os, h.tape, h.output, by rw [h.size]; exact Nat.le_refl _, fun k _ hk => h.block k (fun e => hk (by rw [e]))⟩
/-- 'append' of elements to such a slice: its array is the old one, or a new one. -/
theorem append_at {P : Program} (w : World) {ops : Array Oper} {rest : List Oper} {o : Oper} {a : Act} {Q : Exit → Act → World → Prop}
    (hg : o.guard = none) (s x : Operand) (t : TypeId) (hop : o.op = Op.call { callee := Callee.builtin Builtin.append, args := #[s, x], argTypes := #[t, t] })
    (e : TypeId) (i : TypeInfo) (z : Value) (size bytes : Nat) (h1 : P.underlying t = some (.slice e)) (h2 : P.info? e = some i) (h3 : i.zero = some z) (h4 : i.size = size) (h5 : i.bytes = bytes) (h6 : z.cells.size = size) (h7 : 0 < size)
    (base : Nat) (v : Value) (n : Nat) (xs : List Value) (hs : a.eval s = v) (hown : OwnAt w base size v n xs)
    (ad : Addr) (m c : Nat) (news : List Value) (hx : a.eval x = .slice (some ad) m c) (hn : news.length = m * size) (hc : ∀ j u, news[j]? = some u → w.cell? (ad.add j) = some u) (h1c : ∀ u ∈ news, u.oneCell' = true)
    (b1 : n + m ≤ maxLen) (b2 : (n + m) * bytes ≤ 140737488355328) (hbase : base ≤ w.heap.size)
    (hK : ∀ v' w', OwnAt w' base size v' (n + m) (xs ++ news) → w.grownBy w' v.ownBlock → (v'.ownBlock = v.ownBlock ∨ ∃ k, v'.ownBlock = some k ∧ w.heap.size ≤ k) → wpList P ops Q rest (a.put o.dst v') w') :
    wpList P ops Q (o :: rest) a w := by
  have gr : ∀ w' row, w.grownBy w' none → w.grownBy w' row := fun w' row h => ⟨h.os, h.tape, h.output, h.size, fun k hk _ => h.block k hk (by simp)⟩
  have nw : ∀ v' w', w'.ownsRow w.heap.size e size v' (n + m) (xs ++ news) → w.grownBy w' none → v'.ownBlock ≠ none → wpList P ops Q rest (a.put o.dst v') w' := fun v' w' r1 r2 hne => by
    refine hK v' w' ((ownAt_of r1).base hbase) (gr w' _ r2) ?_
    cases hb : v'.ownBlock with
    | none => exact absurd hb hne
    | some k => exact .inr ⟨k, rfl, (r1.lt k hb).1⟩
  rcases hown.2 with ⟨rfl, rfl⟩ | ⟨g, off, cap, rfl, q1, q2, q3, q4, q5, q6⟩
  · obtain rfl : xs = [] := List.eq_nil_of_length_eq_zero (by simpa using hown.1)
    by_cases hm : 0 = m
    · subst hm
      obtain rfl : news = [] := List.eq_nil_of_length_eq_zero (by simpa using hn)
      refine wpList_append_own w hg s x t hop base e i z size bytes h1 h2 h3 h4 h5 h6 h7 (.slice none 0 0) 0 [] hs (World.ownsRow_nil w base e size) ad 0 c [] hx hn hc h1c b1 b2 hbase fun v' w' r1 r2 r3 => ?_
      have e := r3.2 ⟨rfl, rfl⟩
      subst e
      exact hK _ _ (ownAt_nil _ _ _) r2 (.inl rfl)
    · refine wpList_append_grows w hg s x t hop e i z size bytes h1 h2 h3 h4 h5 h6 h7 none 0 0 [] hs (fun _ => ⟨rfl, rfl⟩) hown.1 (fun b hb => by cases hb) ad m c news hx hn hc h1c (by omega) b1 b2 fun v' w' r1 r2 => nw v' w' r1 r2 (fun e => ?_)
      rcases r1.2 with ⟨_, h0⟩ | ⟨g, cap, cur, rfl, _⟩
      · omega
      · cases e
  · refine wpList_append_arg w hg s x t hop e i z size bytes h1 h2 h3 h4 h5 h6 h7 g off n cap xs hs hown.1 q6 ad m c news hx hn hc h1c (fun hr j hj => ?_) b1 b2 (fun hr => ?_) (fun hr v' w' r1 r2 => nw v' w' r1 r2 (fun e => ?_))
    · rw [Nat.add_assoc]
      refine q5 _ ?_
      rw [hn] at hj
      have := Nat.mul_le_mul_right size hr
      rw [Nat.add_mul] at this
      omega
    · have ho := setCells_only g news (off + n * size) w
      have hsome : ∀ j, j < news.length → (w.cell? ⟨g, off + n * size + j, none⟩).isSome = true := fun j hj => by
        rw [Nat.add_assoc]
        refine (q5 _ ?_).1
        rw [hn] at hj
        have := Nat.mul_le_mul_right size hr
        rw [Nat.add_mul] at this
        omega
      refine hK _ _ ⟨by rw [List.length_append, hown.1, hn, Nat.add_mul], .inr ⟨g, off, cap, rfl, q1, by rw [ho.size]; exact q2, hr, q4, fun j hj => ⟨?_, ?_⟩, fun j u hu => ?_⟩⟩ (only_grown ho) (.inl rfl)
      · exact World.isSome_setCells g news (off + n * size) w _ (q5 j hj).1
      · rw [World.frozen?_setCells]
        exact (q5 j hj).2
      · by_cases hj : j < xs.length
        · rw [List.getElem?_append_left hj] at hu
          rw [World.cell?_setCells_out g news (off + n * size) w _ (fun _ _ => Or.inl (by show off + j < off + n * size; rw [hown.1] at hj; omega))]
          exact q6 j u hu
        · rw [List.getElem?_append_right (by omega)] at hu
          obtain ⟨hlt, rfl⟩ := List.getElem?_eq_some_iff.1 hu
          have := World.cell?_setCells_in g news (off + n * size) w hsome (j - xs.length) hlt
          rw [show off + n * size + (j - xs.length) = off + j by rw [hown.1] at hj ⊢; omega] at this
          exact this
    · rcases r1.2 with ⟨_, h0⟩ | ⟨g, cap, cur, rfl, _⟩
      · omega
      · cases e
end Go.Proofs.Ytilobmebfeenfaa
