/- split: parts by their Indexes, in a map; a Frame in memory. -/
import Derived.Test.YtgomijhckmcfeaaSpA
import Derived.Test.YtgomijhckmcfeaaMpA
namespace Go.Proofs.Ytgomijhckmcfeaa
open Go.RowKit Go.Maps
set_option linter.unusedVariables false
set_option linter.unusedSimpArgs false
/-- Cells in memory. -/
def AtS (T : TypeId) (W : World) (g : Nat) (cs : Array Value) : Prop := W.heap[g]? = some (.cells cs T (0, 0))
section
variable {T : TypeId} {W W' : World} {g b : Nat} {cs : Array Value}
theorem AtS.cell (h : AtS T W g cs) (i : Nat) : W.cell? ⟨g, i, none⟩ = cs[i]? := cell_of_row W g i _ _ (0, 0) h
theorem AtS.cells5 {c0 c1 c2 c3 c4 : Value} (h : AtS T W g #[c0, c1, c2, c3, c4]) : W.cell? ⟨g, 0, none⟩ = some c0 ∧ W.cell? ⟨g, 1, none⟩ = some c1 ∧ W.cell? ⟨g, 2, none⟩ = some c2 ∧ W.cell? ⟨g, 3, none⟩ = some c3 ∧ W.cell? ⟨g, 4, none⟩ = some c4 := by
  have f := h.cell
  exact ⟨by simpa using f 0, by simpa using f 1, by simpa using f 2, by simpa using f 3, by simpa using f 4⟩
theorem AtS.cells2 {c0 c1 : Value} (h : AtS T W g #[c0, c1]) : W.cell? ⟨g, 0, none⟩ = some c0 ∧ W.cell? ⟨g, 1, none⟩ = some c1 := by
  have f := h.cell
  exact ⟨by simpa using f 0, by simpa using f 1⟩
theorem AtS.free (h : AtS T W g cs) (i : Nat) : W.frozen? ⟨g, i, none⟩ = false := by unfold AtS at h; simp [World.frozen?, h]
theorem AtS.frees5 (h : AtS T W g cs) : W.frozen? ⟨g, 0, none⟩ = false ∧ W.frozen? ⟨g, 1, none⟩ = false ∧ W.frozen? ⟨g, 2, none⟩ = false ∧ W.frozen? ⟨g, 3, none⟩ = false ∧ W.frozen? ⟨g, 4, none⟩ = false := ⟨h.free 0, h.free 1, h.free 2, h.free 3, h.free 4⟩
theorem AtS.lt (h : AtS T W g cs) : g < W.heap.size := lt_of_block h
theorem AtS.later (h : AtS T W g cs) (hb : Below W.heap.size W W') : AtS T W' g cs := by unfold AtS; rw [hb.block g h.lt]; exact h
theorem AtS.drew (h : AtS T W g cs) : AtS T W.drew g cs := h
theorem AtS.only (h : AtS T W g cs) (hg : g ≠ b) (ho : Only b W W') : AtS T W' g cs := by unfold AtS; rw [ho.block g hg]; exact h
theorem AtS.grown {row : Option Nat} (h : AtS T W g cs) (hg : W.grownBy W' row) (hr : some g ≠ row) : AtS T W' g cs := by unfold AtS; rw [hg.block g h.lt hr]; exact h
theorem atS_new (T : TypeId) (W : World) (n : Nat) (cs : Array Value) (h : n = W.heap.size) : AtS T (W.alloc (.cells cs T)) n cs := by subst h; exact heap_alloc_new W _
theorem atS_set3 {c0 c1 c2 c3 c4 : Value} (h : AtS T W g #[c0, c1, c2, c3, c4]) (u : Value) : AtS T (W.setCell ⟨g, 3, none⟩ u) g #[c0, c1, c2, u, c4] := block_setCell h
theorem atS_set4 {c0 c1 c2 c3 c4 : Value} (h : AtS T W g #[c0, c1, c2, c3, c4]) (u : Value) : AtS T (W.setCell ⟨g, 4, none⟩ u) g #[c0, c1, c2, c3, u] := block_setCell h
end
/-- How a part in a map reads. -/
def partElem (v : Value) : Option (DataW Unit × List MemPlace) :=
  match v with
  | .agg a => match a.toList with
    | [.string s] => if s.size ≤ maxLen then some (.lit (.string s.data.toList), []) else none
    | _ => none
  | _ => none
theorem partElem_mk {s : ByteArray} (hs : s.size ≤ maxLen) : partElem (.agg #[.string s]) = some (.lit (.string s.data.toList), []) := by
  simp [partElem, hs]
theorem partElem_inv {v : Value} {z : DataW Unit × List MemPlace} (h : partElem v = some z) : ∃ s, v = .agg #[.string s] ∧ z = (.lit (.string s.data.toList), []) ∧ s.size ≤ maxLen := by
  unfold partElem at h
  split at h
  · rename_i a
    split at h
    · rename_i s hs
      split at h
      · rename_i hz
        cases h
        refine ⟨s, ?_, rfl, hz⟩
        congr 1
        exact Array.toList_inj.1 hs
      · cases h
    · cases h
  · cases h
/-- In block b there is such a map, of c parts. -/
def MapP (W : World) (b n : Nat) (f : Int → Option ByteArray) (c : Nat) : Prop := ∃ D : DataW Unit, W.ownsMap Try.prog 3 partElem b n D ∧ Tidy D ∧ (∀ x : Int, (Lit.int .i64 x).wf = true → Maps.has D (.int .i64 x) = (f x).isSome) ∧ (∀ x : Int, (Lit.int .i64 x).wf = true → D.atKey (.int .i64 x) (.lit (.string ((⟨#[]⟩ : ByteArray)).data.toList)) = .lit (.string ((f x).getD (⟨#[]⟩ : ByteArray)).data.toList)) ∧ Maps.size D = c
theorem zeroP (w : World) : (zeroValue 105).run Try.prog w = .ok (.agg #[.string (⟨#[]⟩ : ByteArray)]) w := by kernel_rfl
theorem mapP_new (W : World) : MapP (W.alloc (.map #[] 0)) W.heap.size 0 (fun _ => none) 0 :=
  ⟨_, World.ownsMap_made W _ _ _, tidy_empty, fun x _ => rfl, fun x _ => rfl, rfl⟩
theorem MapP.isMap {W : World} {b n c : Nat} {f : Int → Option ByteArray} (h : MapP W b n f c) : ∃ es cl, W.heap[b]? = some (.map es cl) := by
  obtain ⟨D, ⟨es, c, h1, _⟩, h2⟩ := h
  exact ⟨es, c, h1⟩
theorem MapP.lt {W : World} {b n c : Nat} {f : Int → Option ByteArray} (h : MapP W b n f c) : b < W.heap.size := by
  obtain ⟨es, cl, hm⟩ := h.isMap
  exact (Array.getElem?_eq_some_iff.1 hm).1
theorem MapP.same {W W' : World} {b n c : Nat} {f : Int → Option ByteArray} (h : MapP W b n f c) (hb : W'.heap[b]? = W.heap[b]?) : MapP W' b n f c := by
  obtain ⟨D, ⟨es, c, h1, h3⟩, h2⟩ := h
  exact ⟨D, ⟨es, c, hb.trans h1, h3⟩, h2⟩
theorem MapP.mono {W : World} {b n n' c : Nat} {f : Int → Option ByteArray} (h : MapP W b n f c) (hn : n ≤ n') : MapP W b n' f c := by
  obtain ⟨D, h1, h2⟩ := h
  exact ⟨D, h1.mono hn, h2⟩
theorem MapP.ext {W : World} {b n c : Nat} {f f' : Int → Option ByteArray} (h : MapP W b n f c) (he : ∀ x, (Lit.int .i64 x).wf = true → f' x = f x) : MapP W b n f' c := by
  obtain ⟨D, h1, h2, h3, h4, h5⟩ := h
  exact ⟨D, h1, h2, fun x hx => by rw [he x hx]; exact h3 x hx, fun x hx => by rw [he x hx]; exact h4 x hx, h5⟩
theorem MapP.len {W : World} {b n c : Nat} {f : Int → Option ByteArray} (h : MapP W b n f c) (ty : TypeId) : (Builtin.len_ #[93] ty #[.map (some b)]).run Try.prog W = .ok (.int .i64 c) W := by
  obtain ⟨D, h1, _, _, _, h5⟩ := h
  rw [← h5]
  exact h1.len Try.underlying93 ty
theorem MapP.eq {W : World} {b n c : Nat} {f : Int → Option ByteArray} (h : MapP W b n f c) {x : Int} (hx : (Lit.int .i64 x).wf = true) : (Instr.lookup 93 (.map (some b)) (.int .i64 x) false).run Try.prog W = .ok (.agg #[.string ((f x).getD (⟨#[]⟩ : ByteArray))]) W := by
  obtain ⟨D, h1, _, _, h3, _⟩ := h
  obtain ⟨v, ps, hrun, hv⟩ := h1.lookup mpKey Try.underlying93 (zeroP W) (partElem_mk (by decide)) (mp_key hx)
  obtain ⟨s, rfl, e, _⟩ := partElem_inv hv
  rw [h3 x hx] at e
  simp only [Prod.mk.injEq, DataW.lit.injEq, Lit.string.injEq] at e
  have e2 : s = (f x).getD (⟨#[]⟩ : ByteArray) := bytes_inj e.1.symm
  subst e2
  exact hrun
theorem MapP.okEq {W : World} {b n c : Nat} {f : Int → Option ByteArray} (h : MapP W b n f c) {x : Int} (hx : (Lit.int .i64 x).wf = true) : (Instr.lookup 93 (.map (some b)) (.int .i64 x) true).run Try.prog W = .ok (.tuple #[.agg #[.string ((f x).getD (⟨#[]⟩ : ByteArray))], .bool (f x).isSome]) W := by
  obtain ⟨D, h1, _, h2, h3, _⟩ := h
  obtain ⟨v, ps, hrun, hv⟩ := h1.look_ok mpKey Try.underlying93 (zeroP W) (partElem_mk (by decide)) (mp_key hx)
  rw [h2 x hx] at hrun
  obtain ⟨s, rfl, e, _⟩ := partElem_inv hv
  rw [h3 x hx] at e
  simp only [Prod.mk.injEq, DataW.lit.injEq, Lit.string.injEq] at e
  have e2 : s = (f x).getD (⟨#[]⟩ : ByteArray) := bytes_inj e.1.symm
  subst e2
  exact hrun
/-- 'm[k] = part{s}', of one that isn't there. -/
theorem wpList_putP (w : World) {ops : Array Oper} {rest : List Oper} {o : Oper} {a : Act} {Q : Exit → Act → World → Prop}
    (hg : o.guard = none) (m x v : Operand) (hop : o.op = Op.mapUpdate 93 m x v) (b n c : Nat) (f : Int → Option ByteArray) (hm : a.eval m = .map (some b)) (h : MapP w b n f c) (hn : n < maxLen)
    (k : Int) (s : ByteArray) (hx : a.eval x = .int .i64 k) (hk : (Lit.int .i64 k).wf = true) (hv : a.eval v = .agg #[.string s]) (hs : s.size ≤ maxLen) (hnew : f k = none)
    (hK : ∀ w', MapP w' b (n + 1) (fun y => if y = k then some s else f y) (c + 1) → w.grownBy w' (some b) → wpList Try.prog ops Q rest (a.put o.dst undef) w') : wpList Try.prog ops Q (o :: rest) a w := by
  obtain ⟨D, h1, h2, h3, h4, h5⟩ := h
  refine wpList_mapUpdate_own w hg m x v _ hop 3 105 mpKey Try.underlying93 _ b n D hm h1 hn _ _ _ hx hv (mp_key hk) (.lit (.string (s).data.toList)) [] (partElem_mk hs) ?_
  intro w1 hown hgrow
  have hD : IsMap D := h2.isMap
  refine hK w1 ⟨_, hown, Tidy.put (k := Lit.int .i64 k) h2 trivial _, fun y hy => ?_, fun y hy => ?_, ?_⟩ hgrow
  · by_cases e : y = k
    · subst e
      rw [has_put_same hD (k := Lit.int .i64 y) trivial]
      simp
    · rw [has_put_other (show Lit.int .i64 y ≠ Lit.int .i64 k from fun h => e (by injection h)), h3 y hy]
      simp [e]
  · by_cases e : y = k
    · subst e
      rw [atKey_put_same hD (k := Lit.int .i64 y) trivial]
      simp
    · rw [atKey_put_other (show Lit.int .i64 y ≠ Lit.int .i64 k from fun h => e (by injection h)), h4 y hy]
      simp [e]
  · rw [size_put h2, h3 k hk, hnew, h5]
    rfl
end Go.Proofs.Ytgomijhckmcfeaa
