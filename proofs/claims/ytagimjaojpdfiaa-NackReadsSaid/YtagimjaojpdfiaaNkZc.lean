/- nack: what Of finds (plain facts); the append of a pair to a Nack's. -/
import Derived.Test.YtagimjaojpdfiaaNkZb
import Derived.Test.YtagimjaojpdfiaaByM
import Derived.Test.YtagimjaojpdfiaaPcS
namespace Go.Proofs.Ytagimjaojpdfiaa
open Go.RowKit
set_option linter.unusedVariables false
/-- The pairs that bytes are, so many. -/
def nqAt (s : ByteArray) (i : Nat) : Int × Nat := ((gN s (8 + 4 * i) (8 + 4 * i + 2) : Nat), gN s (8 + 4 * i + 2) (8 + 4 * i + 2 + 2))
def nqsAt (s : ByteArray) (n : Nat) : List (Int × Nat) := (List.range n).map (nqAt s)
theorem nqsAt_len (s : ByteArray) (n : Nat) : (nqsAt s n).length = n := by simp [nqsAt]
theorem nqsAt_succ (s : ByteArray) (n : Nat) : nqsAt s (n + 1) = nqsAt s n ++ [nqAt s n] := by simp [nqsAt, List.range_succ]
theorem nqAt_wf (s : ByteArray) (i : Nat) : 0 ≤ (nqAt s i).1 ∧ (nqAt s i).1 < 65536 ∧ (nqAt s i).2 < 65536 := by
  have h1 := gN_lt s (8 + 4 * i) (8 + 4 * i + 2) 2 (Nat.le_refl _)
  have h2 := gN_lt s (8 + 4 * i + 2) (8 + 4 * i + 2 + 2) 2 (Nat.le_refl _)
  unfold nqAt
  simp only
  omega
theorem nqsAt_wf (s : ByteArray) (n : Nat) : ∀ p ∈ nqsAt s n, 0 ≤ p.1 ∧ p.1 < 65536 ∧ p.2 < 65536 := by
  intro p hp
  obtain ⟨i, _, rfl⟩ := List.mem_map.1 hp
  exact nqAt_wf s i
theorem nkB_at (s : ByteArray) : ∀ n, 8 + 4 * n ≤ s.size → nkB (nqsAt s n) = sl s 8 (8 + 4 * n)
  | 0, hn => by
    show [] = _
    have := sl_len s 8 (8 + 4 * 0) hn
    exact (List.length_eq_zero_iff.1 (by omega)).symm
  | n + 1, hn => by
    have e : nkB (nqsAt s n ++ [nqAt s n]) = nkB (nqsAt s n) ++ (be (nqAt s n).1 2 ++ be ((nqAt s n).2 : Int) 2) := by simp [nkB]
    rw [nqsAt_succ, e, nkB_at s n (by omega)]
    unfold nqAt
    simp only
    rw [be_sl s _ _ 2 (by omega) rfl, be_sl s _ _ 2 (by omega) rfl, sl_cat s _ _ _ (by omega) (by omega) (by omega), sl_cat s 8 _ _ (by omega) (by omega) (by omega)]
    rfl
/-- What is wrong with a piece; its parts. -/
def nkE (p : PC) : Int := if p.kind ≠ 205 ∨ p.count ≠ 1 then 5 else if p.body.size < 12 then 2 else if p.body.size % 4 ≠ 0 ∨ 1208 < p.body.size then 1 else 0
def nkN (s : ByteArray) : Nat := (s.size - 8) / 4
def nkF (p : PC) : Int := if nkE p = 0 then (gN p.body 0 4 : Nat) else 0
def nkA (p : PC) : Int := if nkE p = 0 then (gN p.body 4 8 : Nat) else 0
def nkPs (p : PC) : List (Int × Nat) := if nkE p = 0 then nqsAt p.body (nkN p.body) else []
theorem nkE_zero {p : PC} (h : nkE p = 0) : p.kind = 205 ∧ p.count = 1 ∧ 12 ≤ p.body.size ∧ p.body.size = 8 + 4 * nkN p.body ∧ 1 ≤ nkN p.body ∧ nkN p.body ≤ 300 := by
  unfold nkE at h
  unfold nkN
  by_cases h1 : p.kind ≠ 205 ∨ p.count ≠ 1
  · rw [if_pos h1] at h; cases h
  rw [if_neg h1] at h
  by_cases h2 : p.body.size < 12
  · rw [if_pos h2] at h; cases h
  rw [if_neg h2] at h
  by_cases h3 : p.body.size % 4 ≠ 0 ∨ 1208 < p.body.size
  · rw [if_pos h3] at h; cases h
  omega
/-- What Of finds makes the same piece. -/
theorem nkPc_back {p : PC} (h : nkE p = 0) : nkPc (nkF p) (nkA p) (nkPs p) = p := by
  obtain ⟨h1, h2, h3, h4, h5, h6⟩ := nkE_zero h
  unfold nkF nkA nkPs
  simp only [if_pos h]
  unfold nkPc
  rw [nqsAt_len, if_pos ⟨h5, h6⟩, nkB_at _ _ (by omega), be_sl _ _ _ 4 (by omega) rfl, be_sl _ _ _ 4 (by omega) rfl, sl_cat _ 0 4 8 (by omega) (by omega) (by omega), sl_cat _ 0 8 _ (by omega) (by omega) (by omega), ← h4, sl_all, ofL_by]
  obtain ⟨c, k, b⟩ := p
  simp only at h1 h2 ⊢
  rw [h1, h2]
theorem nkWf (p : PC) : ∀ q ∈ nkPs p, 0 ≤ q.1 ∧ q.1 < 65536 ∧ q.2 < 65536 := by
  unfold nkPs
  split
  · exact nqsAt_wf _ _
  · intro q hq; cases hq
theorem nkPs_len (p : PC) : (nkPs p).length ≤ 300 := by
  unfold nkPs
  split
  · next h => rw [nqsAt_len]; exact (nkE_zero h).2.2.2.2.2
  · simp
theorem nkF_rng (p : PC) : 0 ≤ nkF p ∧ nkF p ≤ 4294967295 := by
  have := gN_lt p.body 0 4 4 (Nat.le_refl _)
  unfold nkF
  split <;> omega
theorem nkA_rng (p : PC) : 0 ≤ nkA p ∧ nkA p ≤ 4294967295 := by
  have := gN_lt p.body 4 8 4 (Nat.le_refl _)
  unfold nkA
  split <;> omega
/-- 'n.Pairs = append(n.Pairs, Pair{..})', the append. -/
theorem step_pr {ops : Array Oper} {o : Oper} {a : Act} {w : World} {K : Act → World → Prop} {Q : Exit → Act → World → Prop} {E : Prop} (hgd : o.guard = none) (s x : Operand)
    (ho : o.op = .call { callee := .builtin .append, args := #[s, x], argTypes := #[23, 23] })
    (B r : Nat) (v : Value) (l : List (Int × Nat)) (u1 : Int) (u2 : Nat) (c0 c1 : Value)
    (hX : AtK 25 w r #[c0, c1, v]) (hv : w.ownsRow B 131 2 v l.length (prV l)) (hB : B ≤ w.heap.size) (hl : l.length ≤ 1000) (hs : a.eval s = v) (hx : a.eval x = .slice (some ⟨w.heap.size, 0, none⟩) 1 1)
    (h : ∀ ad c w', Hid (w'.ownsRow B 131 2 (.slice ad (l.length + 1) c) (l.length + 1) (prV (l ++ [(u1, u2)])) ∧ (∀ (k : Nat) (o : Obj), w.heap[k]? = some o → (∀ cur q, o ≠ .cells cur 131 q) → w'.heap[k]? = some o) ∧ (∀ B0 w0, B0 ≤ B → Below B0 w0 w → Below B0 w0 w')) → w'.cell? ⟨r, 2, none⟩ = some v → w'.frozen? ⟨r, 2, none⟩ = false → K (a.put o.dst (.slice ad (l.length + 1) c)) w') :
    if Region.wanted o (yielded ops a.tmps) = true then Oper.wp Try.prog o a (w.alloc (.cells #[.int .u16 u1, .int .u16 (u2 : Int)] 131)) K Q else E := by
  obtain ⟨i0, hi, hz0, hz1, hz2⟩ := info_parts infoPair
  have hv1 := hv.alloc (.cells #[.int .u16 u1, .int .u16 (u2 : Int)] 131)
  refine step_append_own hgd s x _ ho B 131 i0 _ 2 4 Try.underlying23 hi hz0 hz1 hz2 rfl (by decide) v l.length (prV l) hs hv1 ⟨w.heap.size, 0, none⟩ 1 1 [.int .u16 u1, .int .u16 (u2 : Int)] hx rfl ?_ ?_ (by unfold maxLen; omega) (by omega) (by simp; omega) ?_
  · intro j u' hj
    rw [addr_add, cell_of_row _ w.heap.size j _ 131 (0, 0) (heap_alloc_new w _), ← Array.getElem?_toList]
    exact hj
  · intro u' hu
    simp only [List.mem_cons, List.not_mem_nil, or_false] at hu
    rcases hu with rfl | rfl <;> rfl
  · intro v' w' hown hgrow _
    obtain ⟨ad, c, rfl⟩ : ∃ ad c, v' = .slice ad (l.length + 1) c := by
      rcases hown.2 with ⟨_, h0⟩ | ⟨g, cap, cur, rfl, _⟩
      · omega
      · exact ⟨_, _, rfl⟩
    have hk : ∀ (k : Nat) (o : Obj), w.heap[k]? = some o → (∀ cur q, o ≠ .cells cur 131 q) → w'.heap[k]? = some o := fun k o hk hn => by
      rw [hgrow.block k (by have := lt_of_block hk; simp; omega) (row_neP hv hk hn)]
      exact heap_at_old _ _ _ _ hk
    have hX2 : AtK 25 w' r #[c0, c1, v] := hk _ _ hX (by intro cur q e; cases e)
    obtain ⟨_, _, q2⟩ := hX2.cells3
    refine h ad c w' (Lib.hid ⟨?_, hk, fun B0 w0 h0 hb => ?_⟩) q2 (hX2.free 2)
    · rw [prV_snoc]; exact hown
    · exact (hb.alloc (by omega) _).grown hgrow (by simp; omega) (fun k hk => Nat.le_trans h0 (hv1.lt k hk).1)
end Go.Proofs.Ytagimjaojpdfiaa
