/- Maps of numbers to texts, numbers, truths, of the call's own. -/
import Derived.Test.YtilobmebfeenfaaApB
import Derived.Maps.OwnSet
import Derived.Maps.StringElems
namespace Go.Proofs.Ytilobmebfeenfaa
open Go.RowKit Go.Maps
set_option linter.unusedVariables false
theorem mpKey : Keyed Try.prog 3 := int_keyed Try.underlying3
theorem mp_key {x : Int} (h : (Lit.int .i64 x).wf = true) : keyOf Try.prog 3 (.int .i64 x) = some (.int .i64 x) := keyOf_int_mk Try.underlying3 h
theorem bytes_inj {s t : ByteArray} (h : s.data.toList = t.data.toList) : s = t := by
  cases s; cases t
  congr 1
  exact Array.toList_inj.1 h
theorem plainElem_bool_inv' {H : Type} {P : Program} {e : TypeId} (he : P.underlying e = some .bool) {v : Value} {z : DataW H × List MemPlace} (h : plainElem P e v = some z) : ∃ a, v = .bool a ∧ z = (.lit (.bool a), []) := by
  unfold plainElem at h
  rw [he] at h
  cases v <;> simp at h
  exact ⟨_, rfl, h.symm⟩

/-- In block b there is such a map. -/
def MapS (W : World) (b n : Nat) (f : Int → Option ByteArray) : Prop := ∃ D : DataW Unit, W.ownsMap Try.prog 3 (plainElem Try.prog 9) b n D ∧ IsMap D ∧ (∀ x : Int, (Lit.int .i64 x).wf = true → Maps.has D (.int .i64 x) = (f x).isSome) ∧ ∀ x : Int, (Lit.int .i64 x).wf = true → D.atKey (.int .i64 x) (.lit (.string ((⟨#[]⟩ : ByteArray)).data.toList)) = .lit (.string ((f x).getD (⟨#[]⟩ : ByteArray)).data.toList)
theorem zeroS (w : World) : (zeroValue 9).run Try.prog w = .ok (.string (⟨#[]⟩ : ByteArray)) w := by kernel_rfl
theorem mapS_new (W : World) : MapS (W.alloc (.map #[] 0)) W.heap.size 0 (fun _ => none) :=
  ⟨_, World.ownsMap_made W _ _ _, isMap_empty, fun x _ => rfl, fun x _ => rfl⟩
theorem MapS.kept {W W' : World} {b n : Nat} {row : Option Nat} {f : Int → Option ByteArray} (h : MapS W b n f) (hg : W.grownBy W' row) (hr : some b ≠ row) : MapS W' b n f := by
  obtain ⟨D, h1, h2⟩ := h
  exact ⟨D, h1.kept hg hr, h2⟩
theorem MapS.isMap {W : World} {b n : Nat} {f : Int → Option ByteArray} (h : MapS W b n f) : ∃ es c, W.heap[b]? = some (.map es c) := by
  obtain ⟨D, ⟨es, c, h1, _⟩, h2⟩ := h
  exact ⟨es, c, h1⟩
theorem MapS.same {W W' : World} {b n : Nat} {f : Int → Option ByteArray} (h : MapS W b n f) (hb : W'.heap[b]? = W.heap[b]?) : MapS W' b n f := by
  obtain ⟨D, ⟨es, c, h1, h3⟩, h2⟩ := h
  exact ⟨D, ⟨es, c, hb.trans h1, h3⟩, h2⟩
theorem MapS.mono {W : World} {b n n' : Nat} {f : Int → Option ByteArray} (h : MapS W b n f) (hn : n ≤ n') : MapS W b n' f := by
  obtain ⟨D, h1, h2⟩ := h
  exact ⟨D, h1.mono hn, h2⟩
theorem MapS.ext {W : World} {b n : Nat} {f f' : Int → Option ByteArray} (h : MapS W b n f) (he : ∀ x, (Lit.int .i64 x).wf = true → f' x = f x) : MapS W b n f' := by
  obtain ⟨D, h1, h2, h3, h4⟩ := h
  exact ⟨D, h1, h2, fun x hx => by rw [he x hx]; exact h3 x hx, fun x hx => by rw [he x hx]; exact h4 x hx⟩
/-- In block b there is such a map. -/
def MapI (W : World) (b n : Nat) (f : Int → Option Int) : Prop := ∃ D : DataW Unit, W.ownsMap Try.prog 3 (plainElem Try.prog 3) b n D ∧ IsMap D ∧ (∀ x : Int, (Lit.int .i64 x).wf = true → Maps.has D (.int .i64 x) = (f x).isSome) ∧ ∀ x : Int, (Lit.int .i64 x).wf = true → D.atKey (.int .i64 x) (.lit (.int .i64 (0))) = .lit (.int .i64 ((f x).getD 0))
theorem zeroI (w : World) : (zeroValue 3).run Try.prog w = .ok (.int .i64 0) w := by kernel_rfl
theorem mapI_new (W : World) : MapI (W.alloc (.map #[] 0)) W.heap.size 0 (fun _ => none) :=
  ⟨_, World.ownsMap_made W _ _ _, isMap_empty, fun x _ => rfl, fun x _ => rfl⟩
theorem MapI.kept {W W' : World} {b n : Nat} {row : Option Nat} {f : Int → Option Int} (h : MapI W b n f) (hg : W.grownBy W' row) (hr : some b ≠ row) : MapI W' b n f := by
  obtain ⟨D, h1, h2⟩ := h
  exact ⟨D, h1.kept hg hr, h2⟩
theorem MapI.isMap {W : World} {b n : Nat} {f : Int → Option Int} (h : MapI W b n f) : ∃ es c, W.heap[b]? = some (.map es c) := by
  obtain ⟨D, ⟨es, c, h1, _⟩, h2⟩ := h
  exact ⟨es, c, h1⟩
theorem MapI.same {W W' : World} {b n : Nat} {f : Int → Option Int} (h : MapI W b n f) (hb : W'.heap[b]? = W.heap[b]?) : MapI W' b n f := by
  obtain ⟨D, ⟨es, c, h1, h3⟩, h2⟩ := h
  exact ⟨D, ⟨es, c, hb.trans h1, h3⟩, h2⟩
theorem MapI.mono {W : World} {b n n' : Nat} {f : Int → Option Int} (h : MapI W b n f) (hn : n ≤ n') : MapI W b n' f := by
  obtain ⟨D, h1, h2⟩ := h
  exact ⟨D, h1.mono hn, h2⟩
theorem MapI.ext {W : World} {b n : Nat} {f f' : Int → Option Int} (h : MapI W b n f) (he : ∀ x, (Lit.int .i64 x).wf = true → f' x = f x) : MapI W b n f' := by
  obtain ⟨D, h1, h2, h3, h4⟩ := h
  exact ⟨D, h1, h2, fun x hx => by rw [he x hx]; exact h3 x hx, fun x hx => by rw [he x hx]; exact h4 x hx⟩
/-- In block b there is such a map. -/
def MapB (W : World) (b n : Nat) (f : Int → Option Bool) : Prop := ∃ D : DataW Unit, W.ownsMap Try.prog 3 (plainElem Try.prog 4) b n D ∧ IsMap D ∧ (∀ x : Int, (Lit.int .i64 x).wf = true → Maps.has D (.int .i64 x) = (f x).isSome) ∧ ∀ x : Int, (Lit.int .i64 x).wf = true → D.atKey (.int .i64 x) (.lit (.bool (false))) = .lit (.bool ((f x).getD false))
theorem zeroB (w : World) : (zeroValue 4).run Try.prog w = .ok (.bool false) w := by kernel_rfl
theorem mapB_new (W : World) : MapB (W.alloc (.map #[] 0)) W.heap.size 0 (fun _ => none) :=
  ⟨_, World.ownsMap_made W _ _ _, isMap_empty, fun x _ => rfl, fun x _ => rfl⟩
theorem MapB.kept {W W' : World} {b n : Nat} {row : Option Nat} {f : Int → Option Bool} (h : MapB W b n f) (hg : W.grownBy W' row) (hr : some b ≠ row) : MapB W' b n f := by
  obtain ⟨D, h1, h2⟩ := h
  exact ⟨D, h1.kept hg hr, h2⟩
theorem MapB.isMap {W : World} {b n : Nat} {f : Int → Option Bool} (h : MapB W b n f) : ∃ es c, W.heap[b]? = some (.map es c) := by
  obtain ⟨D, ⟨es, c, h1, _⟩, h2⟩ := h
  exact ⟨es, c, h1⟩
theorem MapB.same {W W' : World} {b n : Nat} {f : Int → Option Bool} (h : MapB W b n f) (hb : W'.heap[b]? = W.heap[b]?) : MapB W' b n f := by
  obtain ⟨D, ⟨es, c, h1, h3⟩, h2⟩ := h
  exact ⟨D, ⟨es, c, hb.trans h1, h3⟩, h2⟩
theorem MapB.mono {W : World} {b n n' : Nat} {f : Int → Option Bool} (h : MapB W b n f) (hn : n ≤ n') : MapB W b n' f := by
  obtain ⟨D, h1, h2⟩ := h
  exact ⟨D, h1.mono hn, h2⟩
theorem MapB.ext {W : World} {b n : Nat} {f f' : Int → Option Bool} (h : MapB W b n f) (he : ∀ x, (Lit.int .i64 x).wf = true → f' x = f x) : MapB W b n f' := by
  obtain ⟨D, h1, h2, h3, h4⟩ := h
  exact ⟨D, h1, h2, fun x hx => by rw [he x hx]; exact h3 x hx, fun x hx => by rw [he x hx]; exact h4 x hx⟩
theorem MapB.eq {W : World} {b n : Nat} {f : Int → Option Bool} (h : MapB W b n f) {x : Int} (hx : (Lit.int .i64 x).wf = true) : (Instr.lookup 72 (.map (some b)) (.int .i64 x) false).run Try.prog W = .ok (.bool ((f x).getD false)) W := by
  obtain ⟨D, h1, _, _, h3⟩ := h
  obtain ⟨v, ps, hrun, hv⟩ := h1.lookup mpKey Try.underlying72 (zeroB W) (plainElem_bool Try.underlying4 false) (mp_key hx)
  obtain ⟨s, rfl, e⟩ := plainElem_bool_inv' Try.underlying4 hv
  rw [h3 x hx] at e
  simp only [Prod.mk.injEq, DataW.lit.injEq, Lit.bool.injEq] at e
  obtain ⟨rfl, _⟩ := e
  exact hrun
theorem MapB.okEq {W : World} {b n : Nat} {f : Int → Option Bool} (h : MapB W b n f) {x : Int} (hx : (Lit.int .i64 x).wf = true) : (Instr.lookup 72 (.map (some b)) (.int .i64 x) true).run Try.prog W = .ok (.tuple #[.bool ((f x).getD false), .bool (f x).isSome]) W := by
  obtain ⟨D, h1, _, h2, h3⟩ := h
  obtain ⟨v, ps, hrun, hv⟩ := h1.look_ok mpKey Try.underlying72 (zeroB W) (plainElem_bool Try.underlying4 false) (mp_key hx)
  rw [h2 x hx] at hrun
  obtain ⟨s, rfl, e⟩ := plainElem_bool_inv' Try.underlying4 hv
  rw [h3 x hx] at e
  simp only [Prod.mk.injEq, DataW.lit.injEq, Lit.bool.injEq] at e
  obtain ⟨rfl, _⟩ := e
  exact hrun
/-- 'm[k] = v'. -/
theorem wpList_putB (w : World) {ops : Array Oper} {rest : List Oper} {o : Oper} {a : Act} {Q : Exit → Act → World → Prop}
    (hg : o.guard = none) (m x v : Operand) (hop : o.op = Op.mapUpdate 72 m x v) (b n : Nat) (f : Int → Option Bool) (hm : a.eval m = .map (some b)) (h : MapB w b n f) (hn : n < maxLen)
    (k : Int) (s : Bool) (hx : a.eval x = .int .i64 k) (hk : (Lit.int .i64 k).wf = true) (hv : a.eval v = .bool (s)) (hs : True)
    (hK : ∀ w', MapB w' b (n + 1) (fun y => if y = k then some s else f y) → w.grownBy w' (some b) → wpList Try.prog ops Q rest (a.put o.dst undef) w') : wpList Try.prog ops Q (o :: rest) a w := by
  obtain ⟨D, h1, h2, h3, h4⟩ := h
  refine wpList_mapUpdate_own w hg m x v _ hop 3 4 mpKey Try.underlying72 _ b n D hm h1 hn _ _ _ hx hv (mp_key hk) (.lit (.bool (s))) [] (plainElem_bool Try.underlying4 s) ?_
  intro w1 hown hgrow
  refine hK w1 ⟨_, hown, h2.put _ _, fun y hy => ?_, fun y hy => ?_⟩ hgrow
  · by_cases e : y = k
    · subst e
      rw [has_put_same h2 (k := Lit.int .i64 y) trivial]
      simp
    · rw [has_put_other (show Lit.int .i64 y ≠ Lit.int .i64 k from fun h => e (by injection h)), h3 y hy]
      simp [e]
  · by_cases e : y = k
    · subst e
      rw [atKey_put_same h2 (k := Lit.int .i64 y) trivial]
      simp
    · rw [atKey_put_other (show Lit.int .i64 y ≠ Lit.int .i64 k from fun h => e (by injection h)), h4 y hy]
      simp [e]

end Go.Proofs.Ytilobmebfeenfaa
