/- queue: append of one text to a row of the call's own; pieces of a row of texts. -/
import Derived.Test.YtgmggilnhkdceaaQuE
namespace Go.Proofs.Ytgmggilnhkdceaa
open Go.RowKit
set_option linter.unusedVariables false
set_option linter.unusedSimpArgs false
/-- 'append' of one cell to a slice of the call's own, behind the making of what is appended. -/
theorem append_atE1 {P : Program} {w W : World} {ops : Array Oper} {rest : List Oper} {o : Oper} {a : Act} {Q : Exit → Act → World → Prop}
    (hg : o.guard = none) (s x : Operand) (t : TypeId) (hop : o.op = Op.call { callee := Callee.builtin Builtin.append, args := #[s, x], argTypes := #[t, t] })
    (e : TypeId) (i : TypeInfo) (z : Value) (bytes : Nat) (h1 : P.underlying t = some (.slice e)) (h2 : P.info? e = some i) (h3 : i.zero = some z) (h4 : i.size = 1) (h5 : i.bytes = bytes) (h6 : z.cells.size = 1)
    (base : Nat) (v : Value) (n : Nat) (xs : List Value) (hs : a.eval s = v) (hown : OwnE w base e 1 v n xs)
    (u : Value) (hx : a.eval x = .slice (some ⟨w.heap.size, 0, none⟩) 1 1) (h1c : u.oneCell' = true)
    (b1 : n + 1 ≤ maxLen) (b2 : (n + 1) * bytes ≤ 140737488355328) (hbase : base ≤ w.heap.size) (B : Nat) (hB : B ≤ base) (hbel : Below B W w)
    (hK : ∀ v' w', OwnE w' base e 1 v' (n + 1) (xs ++ [u]) → Below B W w' → (w.alloc (.cells #[u] e)).grownBy w' v.ownBlock → (v'.ownBlock = v.ownBlock ∨ ∃ k, v'.ownBlock = some k ∧ w.heap.size ≤ k) → wpList P ops Q rest (a.put o.dst v') w') :
    wpList P ops Q (o :: rest) a (w.alloc (.cells #[u] e)) := by
  refine append_atE _ hg s x t hop e i z 1 bytes h1 h2 h3 h4 h5 h6 (by decide) base v n xs hs (hown.alloc _) ⟨w.heap.size, 0, none⟩ 1 1 [u] hx rfl ?_ ?_ b1 b2 (by simp; omega) ?_
  · intro j u' hj
    match j, hj with
    | 0, hj => simp at hj; subst hj; simp [Addr.add]
  · intro u' hu; simp at hu; subst hu; exact h1c
  · intro v' w' r1 r2 r3
    refine hK v' w' r1 ?_ r2 ?_
    · refine (hbel.alloc (by omega) _).grown r2 (by simp; omega) ?_
      intro k hk
      exact Nat.le_trans hB (hown.1.lt k hk).1
    · rcases r3 with r3 | ⟨k, r3, r4⟩
      · exact .inl r3
      · exact .inr ⟨k, r3, by simp at r4; omega⟩
/-- A row of texts: where it lies. -/
theorem OwnE.texts {W : World} {b : Nat} {e : TypeId} {v : Value} {l : List ByteArray} (h : OwnE W b e 1 v l.length (quV l)) (hn : 0 < l.length) : ∃ g off cap, v = .slice (some ⟨g, off, none⟩) l.length cap ∧ l.length ≤ cap ∧ cap ≤ maxLen ∧ ∀ i s, l[i]? = some s → W.cell? ⟨g, off + i, none⟩ = some (.string s) := by
  obtain ⟨g, off, cap, e, h1, h2, _, _, hc⟩ := h.1.cells hn
  refine ⟨g, off, cap, e, h1, h2, fun i s hs => (hc i (.string s) ?_).1⟩
  unfold quV
  rw [List.getElem?_map, hs]
  rfl
theorem quV_at (l : List ByteArray) (i : Nat) (s : ByteArray) (h : l[i]? = some s) : quV (l.take (i + 1)) = quV (l.take i) ++ [.string s] := by
  have e : l.take (i + 1) = l.take i ++ [s] := by rw [List.take_add_one, h]; rfl
  rw [e, quV_app]
  rfl
theorem quTot_le (l : List ByteArray) (m : Nat) (h : ∀ s ∈ l, s.size ≤ m) : quTot l ≤ m * (l.length : Int) := by
  induction l with
  | nil => simp [quTot]
  | cons s l ih =>
    have e := ih (fun x hx => h x (List.mem_cons_of_mem _ hx))
    have e1 := h s (List.mem_cons_self ..)
    rw [quTot_cons, List.length_cons]
    have e2 : (m : Int) * ((l.length + 1 : Nat) : Int) = m * (l.length : Int) + m := by rw [Int.natCast_add, Int.mul_add]; simp
    omega
theorem cutB_size (s : ByteArray) (m : Nat) : (cutB s m).size ≤ m := by
  unfold cutB
  split
  · rw [ByteArray.size_extract]; omega
  · omega
end Go.Proofs.Ytgmggilnhkdceaa
