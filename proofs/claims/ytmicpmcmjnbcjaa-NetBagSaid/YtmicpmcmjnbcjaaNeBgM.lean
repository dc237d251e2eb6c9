/- NetBag: what holds between the calls. -/
import Derived.Test.YtmicpmcmjnbcjaaNeI
import Derived.Maps.StringElems
namespace Go.Proofs.Ytmicpmcmjnbcjaa
open Go.RowKit Go.Maps
set_option linter.unusedVariables false
set_option linter.unusedSimpArgs false
theorem mtKey : Keyed Try.prog 9 := string_keyed Try.underlying9
theorem mt_key {s : ByteArray} (h : s.size ≤ maxLen) : keyOf Try.prog 9 (.string s) = some (.string s.data.toList) := WideMaps.keyOf_string_mk Try.underlying9 h
theorem mt_inj {s t : ByteArray} (h : s.data.toList = t.data.toList) : s = t := by
  cases s; cases t
  congr 1
  exact Array.toList_inj.1 h
theorem mt_bool_inv {v : Value} {z : DataW Unit × List MemPlace} (h : plainElem Try.prog 4 v = some z) : ∃ a, v = .bool a ∧ z = (.lit (.bool a), []) := by
  unfold plainElem at h
  rw [Try.underlying4] at h
  cases v <;> simp at h
  exact ⟨_, rfl, h.symm⟩
/-- A map in block b that has these texts. -/
def MapT (W : World) (b n : Nat) (P : ByteArray → Prop) : Prop := ∃ D : DataW Unit, W.ownsMap Try.prog 9 (plainElem Try.prog 4) b n D ∧ IsMap D ∧ ∀ s : ByteArray, s.size ≤ maxLen → P s → D.atKey (.string s.data.toList) (.lit (.bool false)) = .lit (.bool true)
theorem zeroT (w : World) : (zeroValue 4).run Try.prog w = .ok (.bool false) w := by kernel_rfl
theorem mapT_new (W : World) : MapT (W.alloc (.map #[] 0)) W.heap.size 0 (fun _ => False) := ⟨_, World.ownsMap_made W _ _ _, tidy_empty.isMap, fun _ _ h => h.elim⟩
theorem MapT.isMap {W : World} {b n : Nat} {P : ByteArray → Prop} (h : MapT W b n P) : ∃ es cl, W.heap[b]? = some (.map es cl) := by
  obtain ⟨D, ⟨es, c, h1, _⟩, h2⟩ := h
  exact ⟨es, c, h1⟩
theorem MapT.lt {W : World} {b n : Nat} {P : ByteArray → Prop} (h : MapT W b n P) : b < W.heap.size := by
  obtain ⟨es, cl, hm⟩ := h.isMap
  exact (Array.getElem?_eq_some_iff.1 hm).1
theorem MapT.same {W W' : World} {b n : Nat} {P : ByteArray → Prop} (h : MapT W b n P) (hb : W'.heap[b]? = W.heap[b]?) : MapT W' b n P := by
  obtain ⟨D, ⟨es, c, h1, h3⟩, h2⟩ := h
  exact ⟨D, ⟨es, c, hb.trans h1, h3⟩, h2⟩
theorem MapT.mono {W : World} {b n n' : Nat} {P : ByteArray → Prop} (h : MapT W b n P) (hn : n ≤ n') : MapT W b n' P := by
  obtain ⟨D, h1, h2⟩ := h
  exact ⟨D, h1.mono hn, h2⟩
theorem MapT.eq {W : World} {b n : Nat} {P : ByteArray → Prop} (h : MapT W b n P) {s : ByteArray} (hs : s.size ≤ maxLen) (hP : P s) : (Instr.lookup 45 (.map (some b)) (.string s) false).run Try.prog W = .ok (.bool true) W := by
  obtain ⟨D, h1, _, h3⟩ := h
  obtain ⟨v, ps, hrun, hv⟩ := h1.lookup mtKey Try.underlying45 (zeroT W) (plainElem_bool Try.underlying4 false) (mt_key hs)
  obtain ⟨a, rfl, e⟩ := mt_bool_inv hv
  rw [h3 s hs hP] at e
  cases a with
  | true => exact hrun
  | false => simp at e
theorem wpList_putT (w : World) {ops : Array Oper} {rest : List Oper} {o : Oper} {a : Act} {Q : Exit → Act → World → Prop}
    (hg : o.guard = none) (m x v : Operand) (hop : o.op = Op.mapUpdate 45 m x v) (b n : Nat) (P : ByteArray → Prop) (hm : a.eval m = .map (some b)) (h : MapT w b n P) (hn : n < maxLen)
    (s : ByteArray) (hx : a.eval x = .string s) (hk : s.size ≤ maxLen) (hv : a.eval v = .bool true)
    (hK : ∀ w', MapT w' b (n + 1) (fun t => P t ∨ t = s) → w.grownBy w' (some b) → wpList Try.prog ops Q rest (a.put o.dst undef) w') : wpList Try.prog ops Q (o :: rest) a w := by
  obtain ⟨D, h1, hD, h3⟩ := h
  refine wpList_mapUpdate_own w hg m x v _ hop 9 4 mtKey Try.underlying45 _ b n D hm h1 hn _ _ _ hx hv (mt_key hk) (.lit (.bool true)) [] (plainElem_bool Try.underlying4 true) ?_
  intro w1 hown hgrow
  refine hK w1 ⟨_, hown, hown.isMap, fun t ht hP => ?_⟩ hgrow
  by_cases e : t = s
  · subst e
    rw [atKey_put_same hD (k := Lit.string t.data.toList) trivial]
  · rw [atKey_put_other (show Lit.string t.data.toList ≠ Lit.string s.data.toList from fun h => e (mt_inj (by injection h)))]
    exact h3 t ht (hP.resolve_right e)
/-- How many are under way on the first k paths. -/
def neT (x : NE) : Nat → Int
  | 0 => 0
  | k + 1 => neT x k + (((x.G 0 ((k : Int) + 1)).length : Int) + ((x.G 1 ((k : Int) + 1)).length : Int))
theorem neT_turn {x x' : NE} {a p : Int} (he : ∀ a' p', ¬ (a' = a ∧ p' = p) → x'.G a' p' = x.G a' p') (ha : a = 0 ∨ a = 1) (h1 : 1 ≤ p) (h4 : p ≤ 4) : neT x' 4 = neT x 4 + ((x'.G a p).length : Int) - ((x.G a p).length : Int) := by
  have hl := fun a' p' (h : ¬ (a' = a ∧ p' = p)) => congrArg List.length (he a' p' h)
  have hp : p = 1 ∨ p = 2 ∨ p = 3 ∨ p = 4 := by omega
  have e0 := hl 0 1
  have e1 := hl 1 1
  have e2 := hl 0 2
  have e3 := hl 1 2
  have e4 := hl 0 3
  have e5 := hl 1 3
  have e6 := hl 0 4
  have e7 := hl 1 4
  clear hl he
  rcases ha with rfl | rfl <;> rcases hp with rfl | rfl | rfl | rfl <;> simp [neT] at * <;> omega
theorem neT_le {x : NE} (h : ∀ a p, (x.G a p).length ≤ 1024) (k : Nat) : 0 ≤ neT x k ∧ neT x k ≤ 2048 * k := by
  induction k with
  | zero => simp [neT]
  | succ k ih =>
    have h1 := h 0 ((k : Int) + 1)
    have h2 := h 1 ((k : Int) + 1)
    simp only [neT]
    push_cast
    omega
/-- As many come as go, or are there. -/
def NeBal (x : NE) (lost : Int) : Prop := x.c 0 + x.c 3 + x.c 5 = x.c 2 + x.c 1 - lost + neT x 4
theorem NePut.bal {x x' : NE} {a p lost : Int} {s : ByteArray} {q : Nat} {r : Bool} (h : NePut x a p s q r x') (hq : q = 0 ∨ q = 5) (hb : NeBal x lost) (ha : a = 0 ∨ a = 1) (h1 : 1 ≤ p) (h4 : p ≤ 4) : NeBal x' (if r then lost else lost + 1) := by
  have ht := neT_turn (fun a' p' hne => h.else hne) ha h1 h4
  cases h with
  | yes hok v' mp' =>
    have e : ((({ x with mp := mp' } : NE).set a p v' (x.G a p ++ [s])).more q).G a p = x.G a p ++ [s] := NE.set_G { x with mp := mp' } a p v' _
    rw [e, List.length_append] at ht
    unfold NeBal at hb ⊢
    have c0 : ∀ i, ((({ x with mp := mp' } : NE).set a p v' (x.G a p ++ [s])).more q).c i = bump x.c q i := fun i => rfl
    rw [c0, c0, c0, c0, c0, ht]
    rcases hq with rfl | rfl <;> simp [bump] <;> omega
  | no hok =>
    have ht2 : neT (x.more 1) 4 = neT x 4 := by
      rw [ht]
      show neT x 4 + ((x.G a p).length : Int) - ((x.G a p).length : Int) = neT x 4
      omega
    unfold NeBal at hb ⊢
    have c0 : ∀ i, (x.more 1).c i = bump x.c 1 i := fun i => rfl
    rw [c0, c0, c0, c0, c0, ht2]
    simp [bump]
    omega
theorem NeTwin.bal {x x' : NE} {a p i lost : Int} {r : Bool} (h : NeTwin x a p i r x') (hb : NeBal x lost) (ha : a = 0 ∨ a = 1) (h1 : 1 ≤ p) (h4 : p ≤ 4) : NeBal x' lost := by
  have ht := neT_turn (fun a' p' hne => h.else hne) ha h1 h4
  cases h with
  | none h => exact hb
  | full k s hk hs hr => exact hb
  | yes k s hk hs hr v' mp' =>
    have e : ((({ x with mp := mp' } : NE).set a p v' (x.G a p ++ [s])).more 3).G a p = x.G a p ++ [s] := NE.set_G { x with mp := mp' } a p v' _
    rw [e, List.length_append] at ht
    unfold NeBal at hb ⊢
    have c0 : ∀ i, ((({ x with mp := mp' } : NE).set a p v' (x.G a p ++ [s])).more 3).c i = bump x.c 3 i := fun i => rfl
    rw [c0, c0, c0, c0, c0, ht]
    simp [bump]
    omega
theorem NeEnd.bal {x x' : NE} {a p i lost : Int} {q : Nat} {r : Option ByteArray} (h : NeEnd x a p i q r x') (hq : q = 1 ∨ q = 2) (hb : NeBal x lost) (ha : a = 0 ∨ a = 1) (h1 : 1 ≤ p) (h4 : p ≤ 4) : NeBal x' lost := by
  have ht := neT_turn (fun a' p' hne => h.else hne) ha h1 h4
  cases h with
  | none h => exact hb
  | some k s hk hs v' =>
    have hkl := (List.getElem?_eq_some_iff.1 hs).1
    have e : ((x.set a p v' ((x.G a p).eraseIdx k)).more q).G a p = (x.G a p).eraseIdx k := NE.set_G x a p v' _
    rw [e, List.length_eraseIdx_of_lt hkl] at ht
    unfold NeBal at hb ⊢
    have c0 : ∀ i, ((x.set a p v' ((x.G a p).eraseIdx k)).more q).c i = bump x.c q i := fun i => rfl
    rw [c0, c0, c0, c0, c0, ht]
    rcases hq with rfl | rfl <;> simp [bump] <;> omega
theorem NePut.mem {x x' : NE} {a p a' p' : Int} {s t : ByteArray} {q : Nat} {r : Bool} (h : NePut x a p s q r x') (ht : t ∈ x'.G a' p') : t ∈ x.G a' p' ∨ (r = true ∧ a' = a ∧ p' = p ∧ t = s) := by
  cases h with
  | yes hok v' mp' =>
    by_cases e : a' = a ∧ p' = p
    · obtain ⟨rfl, rfl⟩ := e
      have e2 : ((({ x with mp := mp' } : NE).set a' p' v' (x.G a' p' ++ [s])).more q).G a' p' = x.G a' p' ++ [s] := NE.set_G { x with mp := mp' } a' p' v' _
      rw [e2] at ht
      rcases List.mem_append.1 ht with h | h
      · exact .inl h
      · exact .inr ⟨rfl, rfl, rfl, by simpa using h⟩
    · have e2 : ((({ x with mp := mp' } : NE).set a p v' (x.G a p ++ [s])).more q).G a' p' = x.G a' p' := NE.set_Go { x with mp := mp' } v' _ e
      rw [e2] at ht
      exact .inl ht
  | no hok => exact .inl ht
theorem NeTwin.mem {x x' : NE} {a p i a' p' : Int} {t : ByteArray} {r : Bool} (h : NeTwin x a p i r x') (ht : t ∈ x'.G a' p') : t ∈ x.G a' p' := by
  cases h with
  | none h => exact ht
  | full k s hk hs hr => exact ht
  | yes k s hk hs hr v' mp' =>
    by_cases e : a' = a ∧ p' = p
    · obtain ⟨rfl, rfl⟩ := e
      have e2 : ((({ x with mp := mp' } : NE).set a' p' v' (x.G a' p' ++ [s])).more 3).G a' p' = x.G a' p' ++ [s] := NE.set_G { x with mp := mp' } a' p' v' _
      rw [e2] at ht
      rcases List.mem_append.1 ht with h | h
      · exact h
      · have : t = s := by simpa using h
        rw [this]
        exact List.mem_of_getElem? hs
    · have e2 : ((({ x with mp := mp' } : NE).set a p v' (x.G a p ++ [s])).more 3).G a' p' = x.G a' p' := NE.set_Go { x with mp := mp' } v' _ e
      rw [e2] at ht
      exact ht
theorem NeEnd.mem {x x' : NE} {a p i a' p' : Int} {q : Nat} {t : ByteArray} {r : Option ByteArray} (h : NeEnd x a p i q r x') (ht : t ∈ x'.G a' p') : t ∈ x.G a' p' := by
  cases h with
  | none h => exact ht
  | some k s hk hs v' =>
    by_cases e : a' = a ∧ p' = p
    · obtain ⟨rfl, rfl⟩ := e
      have e2 : ((x.set a' p' v' ((x.G a' p').eraseIdx k)).more q).G a' p' = (x.G a' p').eraseIdx k := NE.set_G x a' p' v' _
      rw [e2] at ht
      exact List.mem_of_mem_eraseIdx ht
    · have e2 : ((x.set a p v' ((x.G a p).eraseIdx k)).more q).G a' p' = x.G a' p' := NE.set_Go x v' _ e
      rw [e2] at ht
      exact ht
theorem NeEnd.took {x x' : NE} {a p i : Int} {q : Nat} {t : ByteArray} (h : NeEnd x a p i q (Option.some t) x') : t ∈ x.G a p := by
  cases h with
  | some k s hk hs v' => exact List.mem_of_getElem? hs
theorem NePut.bd {x x' : NE} {a p k : Int} {s : ByteArray} {q : Nat} {r : Bool} (h : NePut x a p s q r x') (hc : ∀ i, 0 ≤ x.c i ∧ x.c i ≤ k) : ∀ i, 0 ≤ x'.c i ∧ x'.c i ≤ k + 1 := by
  cases h with
  | yes hok v' mp' => exact bump_bd hc q
  | no hok => exact bump_bd hc 1
theorem NeTwin.bd {x x' : NE} {a p i k : Int} {r : Bool} (h : NeTwin x a p i r x') (hc : ∀ i, 0 ≤ x.c i ∧ x.c i ≤ k) : ∀ i, 0 ≤ x'.c i ∧ x'.c i ≤ k + 1 := by
  cases h with
  | none h => exact fun i => by have := hc i; omega
  | full k s hk hs hr => exact fun i => by have := hc i; omega
  | yes k s hk hs hr v' mp' => exact bump_bd hc 3
theorem NeEnd.bd {x x' : NE} {a p i k : Int} {q : Nat} {r : Option ByteArray} (h : NeEnd x a p i q r x') (hc : ∀ i, 0 ≤ x.c i ∧ x.c i ≤ k) : ∀ i, 0 ≤ x'.c i ∧ x'.c i ≤ k + 1 := by
  cases h with
  | none h => exact fun i => by have := hc i; omega
  | some k s hk hs v' => exact bump_bd hc q
/-- What a datagram's place is called. -/
def neNm (a p : Int) : ByteArray := strOfNums [48 + a, 48 + p]
/-- What holds between the calls. -/
structure BagIn (w0 W : World) (g B gn gm n n2 : Nat) (x : NE) (P : ByteArray → Prop) (k lost : Int) : Prop where
  nin : NIn W B gn n x
  map : MapT W gm n2 P
  ap : ¬ NFoot gn x gm
  bel : Below g w0 W
  gB : g ≤ B
  gg : g ≤ gm
  c : ∀ i, 0 ≤ x.c i ∧ x.c i ≤ k
  bal : NeBal x lost
  had : ∀ a p t, t ∈ x.G a p → P (neNm a p ++ t) ∧ t.size ≤ 40
section
variable {w0 W W' : World} {g B gn gm n n' n2 : Nat} {x x' : NE} {P P' : ByteArray → Prop} {k k' lost lost' : Int}
theorem BagIn.gW (h : BagIn w0 W g B gn gm n n2 x P k lost) : g ≤ W.heap.size := Nat.le_trans h.gg (Nat.le_of_lt h.map.lt)
theorem BagIn.later (h : BagIn w0 W g B gn gm n n2 x P k lost) (hb : Below W.heap.size W W') : BagIn w0 W' g B gn gm n n2 x P k lost :=
  ⟨h.nin.later hb, h.map.same (hb.block _ h.map.lt), h.ap, h.bel.trans (hb.mono h.gW), h.gB, h.gg, h.c, h.bal, h.had⟩
theorem BagIn.call (h : BagIn w0 W g B gn gm n n2 x P k lost) (hK : NKeep gn x W W' x') (hI : NIn W' B gn n' x') (hc : ∀ i, 0 ≤ x'.c i ∧ x'.c i ≤ k') (hb : NeBal x' lost') : (∀ a p t, t ∈ x'.G a p → P (neNm a p ++ t) ∧ t.size ≤ 40) → BagIn w0 W' g B gn gm n' n2 x' P k' lost' := fun hh =>
  ⟨hI, h.map.same (hK.block _ h.map.lt h.ap), fun hf => (hK.foot _ hf).elim h.ap (fun e => by have := h.map.lt; omega), h.bel.trans ((hK.below h.nin).mono h.gB), h.gB, h.gg, hc, hb, hh⟩
/-- A Send that went through, or was lost: the map isn't told yet. -/
theorem BagIn.put {a p : Int} {s : ByteArray} {q : Nat} {r : Bool} (h : BagIn w0 W g B gn gm n n2 x P k lost) (hp : NePut x a p s q r x') (hK : NKeep gn x W W' x') (hI : NIn W' B gn n' x') (hq : q = 0 ∨ q = 5) (ha : a = 0 ∨ a = 1) (h1 : 1 ≤ p) (h4 : p ≤ 4) (hs : s.size ≤ 40) :
    MapT W' gm n2 P ∧ ∀ (W'' : World) (n3 : Nat) (P' : ByteArray → Prop), MapT W'' gm n3 P' → W'.grownBy W'' (some gm) → (∀ t, P t → P' t) → (r = true → P' (neNm a p ++ s)) → BagIn w0 W'' g B gn gm n' n3 x' P' (k + 1) (if r then lost else lost + 1) := by
  have hap : ¬ NFoot gn x' gm := fun hf => (hK.foot _ hf).elim h.ap (fun e => by have := h.map.lt; omega)
  refine ⟨h.map.same (hK.block _ h.map.lt h.ap), fun W'' n3 P' hm hg hP hr => ⟨hI.keep hg.size (fun k hf => hg.block k (hI.foot_lt hf).2 (fun e => by cases e; exact hap hf)), hm, hap, ?_, h.gB, h.gg, hp.bd h.c, hp.bal hq h.bal ha h1 h4, fun a' p' t ht => ?_⟩⟩
  · exact (h.bel.trans ((hK.below h.nin).mono h.gB)).grown hg (Nat.le_trans h.gW hK.size) (fun q hq => by cases hq; exact h.gg)
  · rcases hp.mem ht with h2 | ⟨h2, rfl, rfl, rfl⟩
    · have := h.had a' p' t h2
      exact ⟨hP _ this.1, this.2⟩
    · exact ⟨hr h2, hs⟩
end
end Go.Proofs.Ytmicpmcmjnbcjaa
