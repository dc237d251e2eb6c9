/- A slice of the call's own, and its array's type: append. -/
import Derived.Test.YtilobmebfeenfaaApA
namespace Go.Proofs.Ytilobmebfeenfaa
open Go.RowKit
set_option linter.unusedVariables false
/-- A slice of the call's own, whose array is of this type. -/
def OwnE (W : World) (base : Nat) (e : TypeId) (size : Nat) (v : Value) (n : Nat) (xs : List Value) : Prop :=
  OwnAt W base size v n xs ∧ ∀ k, v.ownBlock = some k → ∃ cs, W.heap[k]? = some (.cells cs e (0, 0))
theorem ownE_nil (W : World) (base : Nat) (e : TypeId) (size : Nat) : OwnE W base e size (.slice none 0 0) 0 [] := ⟨ownAt_nil _ _ _, fun k hk => by cases hk⟩
theorem hasT_own {W : World} {base : Nat} {e : TypeId} {size : Nat} {v : Value} {n : Nat} {xs : List Value} (h : W.ownsRow base e size v n xs) : ∀ k, v.ownBlock = some k → ∃ cs, W.heap[k]? = some (.cells cs e (0, 0)) := by
  intro k hk
  rcases h.2 with ⟨rfl, _⟩ | ⟨g, cap, cur, rfl, _, q2, _⟩
  · cases hk
  · cases hk
    exact ⟨cur, q2⟩
theorem ownE_of {W : World} {base : Nat} {e : TypeId} {size : Nat} {v : Value} {n : Nat} {xs : List Value} (h : W.ownsRow base e size v n xs) : OwnE W base e size v n xs := ⟨ownAt_of h, hasT_own h⟩
theorem OwnE.keep {W W' : World} {b : Nat} {e : TypeId} {size : Nat} {v : Value} {n : Nat} {xs : List Value} (h : OwnE W b e size v n xs) (hs : W.heap.size ≤ W'.heap.size) (hb : ∀ k cs, v.ownBlock = some k → W.heap[k]? = some (.cells cs e (0, 0)) → W'.heap[k]? = W.heap[k]?) : OwnE W' b e size v n xs := by
  refine ⟨h.1.keep hs fun k hk _ => ?_, fun k hk => ?_⟩
  · obtain ⟨cs, hcs⟩ := h.2 k hk
    exact hb k cs hk hcs
  · obtain ⟨cs, hcs⟩ := h.2 k hk
    exact ⟨cs, by rw [hb k cs hk hcs]; exact hcs⟩
theorem OwnE.later {W W' : World} {b : Nat} {e : TypeId} {size : Nat} {v : Value} {n : Nat} {xs : List Value} (h : OwnE W b e size v n xs) (hb : Below W.heap.size W W') : OwnE W' b e size v n xs := h.keep hb.size fun k _ hk hc => hb.block k (lt_of_block hc)
theorem OwnE.alloc {W : World} {b : Nat} {e : TypeId} {size : Nat} {v : Value} {n : Nat} {xs : List Value} (h : OwnE W b e size v n xs) (o : Obj) : OwnE (W.alloc o) b e size v n xs := h.later ((Below.refl _ _).alloc (Nat.le_refl _) _)
theorem OwnE.drew {W : World} {b : Nat} {e : TypeId} {size : Nat} {v : Value} {n : Nat} {xs : List Value} (h : OwnE W b e size v n xs) : OwnE W.drew b e size v n xs := h
theorem OwnE.base {W : World} {b c : Nat} {e : TypeId} {size : Nat} {v : Value} {n : Nat} {xs : List Value} (h : OwnE W b e size v n xs) (hc : c ≤ b) : OwnE W c e size v n xs := ⟨h.1.base hc, h.2⟩
theorem setCells_type (g : Nat) (e : TypeId) : ∀ (vs : List Value) (o : Nat) (W : World) (cs : Array Value), W.heap[g]? = some (.cells cs e (0, 0)) → ∃ cs', (W.setCells g o vs).heap[g]? = some (.cells cs' e (0, 0))
  | [], _, _, cs, h => ⟨cs, h⟩
  | u :: r, o, W, cs, h => setCells_type g e r (o + 1) (W.setCell ⟨g, o, none⟩ u) _ (block_setCell h)
/-- 'append' of elements to such a slice: its array is the old one, or a new one. -/
theorem append_atE {P : Program} (w : World) {ops : Array Oper} {rest : List Oper} {o : Oper} {a : Act} {Q : Exit → Act → World → Prop}
    (hg : o.guard = none) (s x : Operand) (t : TypeId) (hop : o.op = Op.call { callee := Callee.builtin Builtin.append, args := #[s, x], argTypes := #[t, t] })
    (e : TypeId) (i : TypeInfo) (z : Value) (size bytes : Nat) (h1 : P.underlying t = some (.slice e)) (h2 : P.info? e = some i) (h3 : i.zero = some z) (h4 : i.size = size) (h5 : i.bytes = bytes) (h6 : z.cells.size = size) (h7 : 0 < size)
    (base : Nat) (v : Value) (n : Nat) (xs : List Value) (hs : a.eval s = v) (hownE : OwnE w base e size v n xs)
    (ad : Addr) (m c : Nat) (news : List Value) (hx : a.eval x = .slice (some ad) m c) (hn : news.length = m * size) (hc : ∀ j u, news[j]? = some u → w.cell? (ad.add j) = some u) (h1c : ∀ u ∈ news, u.oneCell' = true)
    (b1 : n + m ≤ maxLen) (b2 : (n + m) * bytes ≤ 140737488355328) (hbase : base ≤ w.heap.size)
    (hK : ∀ v' w', OwnE w' base e size v' (n + m) (xs ++ news) → w.grownBy w' v.ownBlock → (v'.ownBlock = v.ownBlock ∨ ∃ k, v'.ownBlock = some k ∧ w.heap.size ≤ k) → wpList P ops Q rest (a.put o.dst v') w') :
    wpList P ops Q (o :: rest) a w := by
  have hown := hownE.1
  have gr : ∀ w' row, w.grownBy w' none → w.grownBy w' row := fun w' row h => ⟨h.os, h.tape, h.output, h.size, fun k hk _ => h.block k hk (by simp)⟩
  have nw : ∀ v' w', w'.ownsRow w.heap.size e size v' (n + m) (xs ++ news) → w.grownBy w' none → v'.ownBlock ≠ none → wpList P ops Q rest (a.put o.dst v') w' := fun v' w' r1 r2 hne => by
    refine hK v' w' ⟨(ownAt_of r1).base hbase, hasT_own r1⟩ (gr w' _ r2) ?_
    cases hb : v'.ownBlock with
    | none => exact absurd hb hne
    | some k => exact .inr ⟨k, rfl, (r1.lt k hb).1⟩
  rcases hown.2 with ⟨rfl, rfl⟩ | ⟨g, off, cap, rfl, q1, q2, q3, q4, q5, q6⟩
  · obtain rfl : xs = [] := List.eq_nil_of_length_eq_zero (by simpa using hown.1)
    by_cases hm : 0 = m
    · subst hm
      obtain rfl : news = [] := List.eq_nil_of_length_eq_zero (by simpa using hn)
      refine wpList_append_own w hg s x t hop base e i z size bytes h1 h2 h3 h4 h5 h6 h7 (.slice none 0 0) 0 [] hs (World.ownsRow_nil w base e size) ad 0 c [] hx hn hc h1c b1 b2 hbase fun v' w' r1 r2 r3 => ?_
      have e := r3.2 ⟨rfl, rfl⟩
      subst e
      exact hK _ _ ⟨ownAt_nil _ _ _, fun k hk => by cases hk⟩ r2 (.inl rfl)
    · refine wpList_append_grows w hg s x t hop e i z size bytes h1 h2 h3 h4 h5 h6 h7 none 0 0 [] hs (fun _ => ⟨rfl, rfl⟩) hown.1 (fun b hb => by cases hb) ad m c news hx hn hc h1c (by omega) b1 b2 fun v' w' r1 r2 => nw v' w' r1 r2 (fun e => ?_)
      rcases r1.2 with ⟨_, h0⟩ | ⟨g, cap, cur, rfl, _⟩
      · omega
      · cases e
  · refine wpList_append_arg w hg s x t hop e i z size bytes h1 h2 h3 h4 h5 h6 h7 g off n cap xs hs hown.1 q6 ad m c news hx hn hc h1c (fun hr j hj => ?_) b1 b2 (fun hr => ?_) (fun hr v' w' r1 r2 => nw v' w' r1 r2 (fun e => ?_))
    · rw [Nat.add_assoc]
      refine q5 _ ?_
      rw [hn] at hj
      have := Nat.mul_le_mul_right size hr
      rw [Nat.add_mul] at this
      omega
    · have ho := setCells_only g news (off + n * size) w
      have hsome : ∀ j, j < news.length → (w.cell? ⟨g, off + n * size + j, none⟩).isSome = true := fun j hj => by
        rw [Nat.add_assoc]
        refine (q5 _ ?_).1
        rw [hn] at hj
        have := Nat.mul_le_mul_right size hr
        rw [Nat.add_mul] at this
        omega
      refine hK _ _ ⟨⟨by rw [List.length_append, hown.1, hn, Nat.add_mul], .inr ⟨g, off, cap, rfl, q1, by rw [ho.size]; exact q2, hr, q4, fun j hj => ⟨?_, ?_⟩, fun j u hu => ?_⟩⟩, fun k hk => ?_⟩ (only_grown ho) (.inl rfl)
      · exact World.isSome_setCells g news (off + n * size) w _ (q5 j hj).1
      · rw [World.frozen?_setCells]
        exact (q5 j hj).2
      · by_cases hj : j < xs.length
        · rw [List.getElem?_append_left hj] at hu
          rw [World.cell?_setCells_out g news (off + n * size) w _ (fun _ _ => Or.inl (by show off + j < off + n * size; rw [hown.1] at hj; omega))]
          exact q6 j u hu
        · rw [List.getElem?_append_right (by omega)] at hu
          obtain ⟨hlt, rfl⟩ := List.getElem?_eq_some_iff.1 hu
          have := World.cell?_setCells_in g news (off + n * size) w hsome (j - xs.length) hlt
          rw [show off + n * size + (j - xs.length) = off + j by rw [hown.1] at hj ⊢; omega] at this
          exact this
      · cases hk
        obtain ⟨cs, hcs⟩ := hownE.2 g rfl
        exact setCells_type g e news _ w cs hcs
    · rcases r1.2 with ⟨_, h0⟩ | ⟨g, cap, cur, rfl, _⟩
      · omega
      · cases e
end Go.Proofs.Ytilobmebfeenfaa
