/- net: maps of slices by places. -/
import Derived.Test.YtbmbomojnljccaaApB
import Derived.Maps.OwnSet
import Derived.Maps.Views
import Derived.WideKeyEntry
import Derived.DeepKeys4
import Derived.Maps.Range
namespace Go.Proofs.Ytbmbomojnljccaa
open Go.RowKit Go.Maps
open Go.ChangeMaps (setBlock heap_setBlock_other heap_setBlock_same)
set_option linter.unusedVariables false
set_option linter.unusedSimpArgs false
theorem neLaid : laidOutB Try.prog = true := by kernel_rfl
theorem neWide : (match Try.prog.underlying 73 with | some (.array _ _) | some (.struct _) => true | _ => false) = true := by kernel_rfl
theorem neLaw : Go.WideMaps.KeyLaw Try.prog 73 := deep_law_laid neLaid (m := 2) (by omega) (of_decide_eq_true (by kernel_rfl)) (by kernel_rfl) neWide
theorem neKey : Keyed Try.prog 73 := Keyed.of_law neLaw
def neKl (a p : Int) : Lit := .string (keyBytes [.int .i64 a, .int .i64 p])
theorem neTy : (Try.prog.cellsOf 73 = 2 ∧ Try.prog.cellsOf 3 = 1 ∧ Try.prog.keyType 73 = true) := ⟨by kernel_rfl, by kernel_rfl, by kernel_rfl⟩
theorem ne_key {a p : Int} (ha : (Lit.int .i64 a).wf = true) (hp : (Lit.int .i64 p).wf = true) : keyOf Try.prog 73 (.agg #[.int .i64 a, .int .i64 p]) = some (neKl a p) := by
  obtain ⟨h1, h2, h3⟩ := neTy
  obtain ⟨m, hm⟩ : ∃ m, Try.prog.types.size = m + 1 := ⟨Try.prog.types.size - 1, by have : 0 < Try.prog.types.size := of_decide_eq_true (by kernel_rfl); omega⟩
  have hf : (Value.agg #[.int .i64 a, .int .i64 p]).formed Try.prog 73 = true := by simp [Value.formed, Try.underlying73, h1]
  unfold keyOf
  rw [Try.underlying73]
  simp only [h3, hf, hm, Bool.and_self, if_true]
  simp [Program.keyLits, Value.cells, Try.underlying73, Try.underlying3, h1, h2, ha, hp, neKl]
theorem neKl_inj {a p a' p' : Int} (ha : (Lit.int .i64 a).wf = true) (hp : (Lit.int .i64 p).wf = true) (ha' : (Lit.int .i64 a').wf = true) (hp' : (Lit.int .i64 p').wf = true) (h : neKl a p = neKl a' p') : a = a' ∧ p = p' := by
  have h1 := ne_key ha hp
  have h2 := ne_key ha' hp'
  rw [h] at h1
  have e := neKey.inj h1 h2
  simp at e
  exact e
/-- How a slice in a map reads: as where it lies. -/
def slElem (v : Value) : Option (DataW Unit × List MemPlace) :=
  match v with
  | .slice none 0 0 => some (.nil, [])
  | .slice (some ⟨b, o, none⟩) n c => some (.agg [.lit (.int .i64 b), .lit (.int .i64 o), .lit (.int .i64 n), .lit (.int .i64 c)], [])
  | _ => none
def slD (v : Value) : DataW Unit := ((slElem v).map (·.1)).getD .nil
/-- nil, or in a block of cells. -/
def IsSl (v : Value) : Prop := v = .slice none 0 0 ∨ ∃ b o n c, v = .slice (some ⟨b, o, none⟩) n c
theorem slElem_mk {v : Value} (h : IsSl v) : slElem v = some (slD v, []) := by
  rcases h with rfl | ⟨b, o, n, c, rfl⟩ <;> rfl
theorem slElem_inj {v u : Value} {ps : List MemPlace} (hv : IsSl v) (h : slElem u = some (slD v, ps)) : u = v := by
  have hu : IsSl u := by
    unfold slElem at h
    split at h
    · exact .inl rfl
    · exact .inr ⟨_, _, _, _, rfl⟩
    · cases h
  rw [slElem_mk hu] at h
  simp only [Option.some.injEq, Prod.mk.injEq] at h
  have e := h.1
  rcases hv with rfl | ⟨b, o, n, c, rfl⟩ <;> rcases hu with rfl | ⟨b', o', n', c', rfl⟩
  · rfl
  · simp [slD, slElem] at e
  · simp [slD, slElem] at e
  · simp [slD, slElem] at e
    obtain ⟨e1, e2, e3, e4⟩ := e
    obtain rfl : b' = b := by exact_mod_cast e1
    obtain rfl : o' = o := by exact_mod_cast e2
    obtain rfl : n' = n := by exact_mod_cast e3
    obtain rfl : c' = c := by exact_mod_cast e4
    rfl
theorem zeroN (w : World) : (zeroValue 56).run Try.prog w = .ok (.slice none 0 0) w := by kernel_rfl
def wf2 (a p : Int) : Prop := (Lit.int .i64 a).wf = true ∧ (Lit.int .i64 p).wf = true
/-- In block b there is such a map. -/
def MapN (W : World) (b n : Nat) (f : Int → Int → Option Value) : Prop := ∃ D : DataW Unit, W.ownsMap Try.prog 73 slElem b n D ∧ Tidy D ∧ (∀ a p : Int, wf2 a p → Maps.has D (neKl a p) = (f a p).isSome) ∧ (∀ a p : Int, wf2 a p → D.atKey (neKl a p) .nil = slD ((f a p).getD (.slice none 0 0)))
def SlF (f : Int → Int → Option Value) : Prop := ∀ a p v, f a p = some v → IsSl v
theorem SlF.getD {f : Int → Int → Option Value} (h : SlF f) (a p : Int) : IsSl ((f a p).getD (.slice none 0 0)) := by
  cases e : f a p with
  | none => exact .inl rfl
  | some v => exact h a p v e
theorem mapN_new (W : World) : MapN (W.alloc (.map #[] 0)) W.heap.size 0 (fun _ _ => none) :=
  ⟨_, World.ownsMap_made W _ _ _, tidy_empty, fun a p _ => rfl, fun a p _ => rfl⟩
theorem MapN.isMap {W : World} {b n : Nat} {f : Int → Int → Option Value} (h : MapN W b n f) : ∃ es cl, W.heap[b]? = some (.map es cl) := by
  obtain ⟨D, ⟨es, c, h1, _⟩, h2⟩ := h
  exact ⟨es, c, h1⟩
theorem MapN.lt {W : World} {b n : Nat} {f : Int → Int → Option Value} (h : MapN W b n f) : b < W.heap.size := by
  obtain ⟨es, cl, hm⟩ := h.isMap
  exact (Array.getElem?_eq_some_iff.1 hm).1
theorem MapN.same {W W' : World} {b n : Nat} {f : Int → Int → Option Value} (h : MapN W b n f) (hb : W'.heap[b]? = W.heap[b]?) : MapN W' b n f := by
  obtain ⟨D, ⟨es, c, h1, h3⟩, h2⟩ := h
  exact ⟨D, ⟨es, c, hb.trans h1, h3⟩, h2⟩
theorem MapN.mono {W : World} {b n n' : Nat} {f : Int → Int → Option Value} (h : MapN W b n f) (hn : n ≤ n') : MapN W b n' f := by
  obtain ⟨D, h1, h2⟩ := h
  exact ⟨D, h1.mono hn, h2⟩
theorem MapN.ext {W : World} {b n : Nat} {f f' : Int → Int → Option Value} (h : MapN W b n f) (he : ∀ a p, wf2 a p → f' a p = f a p) : MapN W b n f' := by
  obtain ⟨D, h1, h2, h3, h4⟩ := h
  exact ⟨D, h1, h2, fun a p hx => by rw [he a p hx]; exact h3 a p hx, fun a p hx => by rw [he a p hx]; exact h4 a p hx⟩
/-- 'm[at]'. -/
theorem MapN.eq {W : World} {b n : Nat} {f : Int → Int → Option Value} (h : MapN W b n f) (hs : SlF f) {a p : Int} (hx : wf2 a p) : (Instr.lookup 60 (.map (some b)) (.agg #[.int .i64 a, .int .i64 p]) false).run Try.prog W = .ok ((f a p).getD (.slice none 0 0)) W := by
  obtain ⟨D, h1, _, _, h3⟩ := h
  obtain ⟨v, ps, hrun, hv⟩ := h1.lookup neKey Try.underlying60 (zeroN W) (slElem_mk (.inl rfl)) (ne_key hx.1 hx.2)
  have h4 := h3 a p hx
  have e : D.atKey (neKl a p) (slD (.slice none 0 0)) = slD ((f a p).getD (.slice none 0 0)) := h4
  rw [e] at hv
  rw [slElem_inj (hs.getD a p) hv] at hrun
  exact hrun
theorem mapNil_eq (W : World) {a p : Int} (hx : wf2 a p) : (Instr.lookup 60 (.map none) (.agg #[.int .i64 a, .int .i64 p]) false).run Try.prog W = .ok (.slice none 0 0) W :=
  Maps.look_nil false neKey Try.underlying60 (zeroN W) (ne_key hx.1 hx.2)
/-- f with another value at one place. -/
def putF (f : Int → Int → Option Value) (a p : Int) (v : Option Value) : Int → Int → Option Value := fun a' p' => if a' = a ∧ p' = p then v else f a' p'
theorem mapN_put {D : DataW Unit} {f : Int → Int → Option Value} {a p : Int} (hx : wf2 a p) (v : Value) (ht : Tidy D) (h3 : ∀ a p : Int, wf2 a p → Maps.has D (neKl a p) = (f a p).isSome) (h4 : ∀ a p : Int, wf2 a p → D.atKey (neKl a p) .nil = slD ((f a p).getD (.slice none 0 0))) :
    (∀ a' p' : Int, wf2 a' p' → Maps.has (D.put (neKl a p) (slD v)) (neKl a' p') = (putF f a p (some v) a' p').isSome) ∧ (∀ a' p' : Int, wf2 a' p' → (D.put (neKl a p) (slD v)).atKey (neKl a' p') .nil = slD ((putF f a p (some v) a' p').getD (.slice none 0 0))) := by
  have hD : IsMap D := ht.isMap
  constructor
  · intro a' p' hy
    unfold putF
    by_cases e : a' = a ∧ p' = p
    · obtain ⟨rfl, rfl⟩ := e
      rw [has_put_same hD (k := neKl a' p') trivial]
      simp
    · rw [has_put_other (show neKl a' p' ≠ neKl a p from fun h => e (neKl_inj hy.1 hy.2 hx.1 hx.2 h)), h3 a' p' hy, if_neg e]
  · intro a' p' hy
    unfold putF
    by_cases e : a' = a ∧ p' = p
    · obtain ⟨rfl, rfl⟩ := e
      rw [atKey_put_same hD (k := neKl a' p') trivial]
      simp
    · rw [atKey_put_other (show neKl a' p' ≠ neKl a p from fun h => e (neKl_inj hy.1 hy.2 hx.1 hx.2 h)), h4 a' p' hy, if_neg e]
/-- 'm[at] = v'. -/
theorem wpList_putN (w : World) {ops : Array Oper} {rest : List Oper} {o : Oper} {ac : Act} {Q : Exit → Act → World → Prop}
    (hg : o.guard = none) (m x v : Operand) (hop : o.op = Op.mapUpdate 60 m x v) (b n : Nat) (f : Int → Int → Option Value) (hm : ac.eval m = .map (some b)) (h : MapN w b n f) (hn : n < maxLen)
    (a p : Int) (s : Value) (hx : ac.eval x = .agg #[.int .i64 a, .int .i64 p]) (hk : wf2 a p) (hv : ac.eval v = s) (hs : IsSl s)
    (hK : ∀ w', MapN w' b (n + 1) (putF f a p (some s)) → w.grownBy w' (some b) → wpList Try.prog ops Q rest (ac.put o.dst undef) w') : wpList Try.prog ops Q (o :: rest) ac w := by
  obtain ⟨D, h1, h2, h3, h4⟩ := h
  refine wpList_mapUpdate_own w hg m x v _ hop 73 56 neKey Try.underlying60 _ b n D hm h1 hn _ _ _ hx hv (ne_key hk.1 hk.2) (slD s) [] (slElem_mk hs) ?_
  intro w1 hown hgrow
  obtain ⟨q1, q2⟩ := mapN_put hk s h2 h3 h4
  exact hK w1 ⟨_, hown, Tidy.put (k := neKl a p) h2 trivial _, q1, q2⟩ hgrow
/-- 'm[at] = f(m[at])': the entry is laid first, and stored last. -/
theorem MapN.entry {w : World} {b n : Nat} {f : Int → Int → Option Value} (h : MapN w b n f) (hs : SlF f) (hn : n < maxLen) {a p : Int} (hk : wf2 a p) :
    ∃ (st : Int) (w1 : World), (Instr.mapEntry 60 (.map (some b)) (.agg #[.int .i64 a, .int .i64 p])).run Try.prog w = .ok (.tuple #[(f a p).getD (.slice none 0 0), .int .i64 st]) w1 ∧ w.grownBy w1 (some b) ∧ w1.heap.size = w.heap.size ∧
      ∀ (w2 : World) (v : Value), w2.heap[b]? = w1.heap[b]? → IsSl v → ∃ w3, (Instr.entryStore 60 (.map (some b)) (.int .i64 st) v).run Try.prog w2 = .ok () w3 ∧ MapN w3 b (n + 1) (putF f a p (some v)) ∧ w2.grownBy w3 (some b) := by
  have hlook := h.eq hs hk
  obtain ⟨D, h1, h2, h3, h4⟩ := h
  have h1' := h1
  obtain ⟨es, cl, hb, F, hsz, hD⟩ := h1
  obtain ⟨v0, st, es1, cl1, hrun, hv0, hstore⟩ := WideElems.entry_then_store neLaw Try.underlying60 (z := .slice none 0 0) zeroN hb F (ne_key hk.1 hk.2)
  have hv : v0 = (f a p).getD (.slice none 0 0) := by
    rcases Maps.fit_look false neKey Try.underlying60 (zeroN w) hb F (ne_key hk.1 hk.2) with ⟨hr, hno, hat⟩ | ⟨e0, y, he0, hek, hr, hRv, hat, _⟩
    · rw [hlook] at hr
      have e : (f a p).getD (.slice none 0 0) = .slice none 0 0 := by
        simp at hr
        exact hr
      rcases hv0 with ⟨e1, he1, hk1, rfl⟩ | ⟨_, rfl⟩
      · exact absurd hk1 (hno e1 he1)
      · rw [e]
    · rw [hlook] at hr
      have e : (f a p).getD (.slice none 0 0) = e0.val := by
        simp at hr
        exact hr
      rcases hv0 with ⟨e1, he1, hk1, rfl⟩ | ⟨hno, _⟩
      · rw [e]
        have hp : es.toList.Pairwise (fun x y => x.key ≠ y.key) := ((MapKept.stamped_iff es cl).1 F.stamped).2.2
        rw [entry_eq_of_key hp he0 he1 (hek.trans hk1.symm)]
      · exact absurd hek (hno e0 he0)
  subst hv
  have hg1 : w.grownBy (setBlock w b (.map es1 cl1)) (some b) := ⟨rfl, rfl, rfl, by simp [setBlock], fun i _ hi => heap_setBlock_other hb _ (fun e => hi (by rw [e]))⟩
  refine ⟨(st : Int), _, hrun, hg1, by simp [setBlock], fun w2 v hw2 hv => ?_⟩
  rw [heap_setBlock_same hb _] at hw2
  obtain ⟨es', cl', hr2, hr3⟩ := hstore w2 v hw2
  obtain ⟨w', hr4, hown, _⟩ := h1'.update neKey Try.underlying60 hn (ne_key hk.1 hk.2) (slElem_mk hv)
  rw [hr3] at hr4
  have e4 : setBlock w b (.map es' cl') = w' := by simpa using hr4
  obtain ⟨q1, q2⟩ := mapN_put hk v h2 h3 h4
  refine ⟨_, hr2, ⟨_, ?_, Tidy.put (k := neKl a p) h2 trivial _, q1, q2⟩, ⟨rfl, rfl, rfl, by simp [setBlock], fun i _ hi => heap_setBlock_other hw2 _ (fun e => hi (by rw [e]))⟩⟩
  subst e4
  obtain ⟨es3, cl3, hb3, F3, hs3, hD3⟩ := hown
  rw [heap_setBlock_same hb _] at hb3
  refine ⟨es3, cl3, ?_, F3, hs3, hD3⟩
  rw [heap_setBlock_same hw2 _]
  exact hb3
/-- 'delete(m, at)'. -/
theorem wpList_delN (w : World) {ops : Array Oper} {rest : List Oper} {o : Oper} {ac : Act} {Q : Exit → Act → World → Prop}
    (hg : o.guard = none) (m x : Operand) (hop : o.op = Op.call { callee := Callee.builtin Builtin.delete, args := #[m, x], argTypes := #[60, 73] }) (b n : Nat) (f : Int → Int → Option Value) (hm : ac.eval m = .map (some b)) (h : MapN w b n f)
    (a p : Int) (hx : ac.eval x = .agg #[.int .i64 a, .int .i64 p]) (hk : wf2 a p)
    (hK : ∀ w', MapN w' b n (putF f a p none) → w.grownBy w' (some b) → wpList Try.prog ops Q rest (ac.put o.dst (.tuple #[])) w') : wpList Try.prog ops Q (o :: rest) ac w := by
  obtain ⟨D, h1, h2, h3, h4⟩ := h
  refine wpList_delete_own w hg m x _ _ hop 56 neKey Try.underlying60 _ b n D hm h1 _ _ hx (ne_key hk.1 hk.2) ?_
  intro w1 hown hturn
  refine hK w1 ⟨_, hown, Tidy.del h2 _, fun a' p' hy => ?_, fun a' p' hy => ?_⟩ hturn.grown
  · unfold putF
    by_cases e : a' = a ∧ p' = p
    · obtain ⟨rfl, rfl⟩ := e
      rw [has_del_same]
      simp
    · rw [has_del_other (show neKl a' p' ≠ neKl a p from fun h => e (neKl_inj hy.1 hy.2 hk.1 hk.2 h)), h3 a' p' hy, if_neg e]
  · unfold putF
    by_cases e : a' = a ∧ p' = p
    · obtain ⟨rfl, rfl⟩ := e
      rw [atKey_del_same]
      simp [slD, slElem]
    · rw [atKey_del_other (show neKl a' p' ≠ neKl a p from fun h => e (neKl_inj hy.1 hy.2 hk.1 hk.2 h)), h4 a' p' hy, if_neg e]
end Go.Proofs.Ytbmbomojnljccaa
