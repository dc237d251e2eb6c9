/- net: both sides alike, plain; what a call of the program keeps. -/
import Derived.Test.YtbmbomojnljccaaNeW
import Derived.Test.YtbmbomojnljccaaNeX
import Derived.Test.YtbmbomojnljccaaNeP3
import Derived.Test.YtbmbomojnljccaaNeI
import Derived.Test.YtbmbomojnljccaaCut
import Derived.Test.YtbmbomojnljccaaRecs
namespace Go.Proofs.Ytbmbomojnljccaa
open Go.RowKit Go.Maps
set_option linter.unusedVariables false
set_option linter.unusedSimpArgs false
/-- The program's datagrams are the document's. -/
structure NeEq (x : NE) (l : List OD) : Prop where
  g : ∀ a p, odG l a p = x.G a p
  tx : ∀ o ∈ l, 0 < o.s.size ∧ o.s.size ≤ 1500
theorem neEq_new (m b : Int) : NeEq (neNew m b) [] := ⟨fun _ _ => rfl, fun _ h => by cases h⟩
/-- The limits stay. -/
def NeLim (x x' : NE) : Prop := x'.m = x.m ∧ x'.b = x.b
theorem odPut_G (y : Bool) (l : List OD) (a p : Int) (s : ByteArray) (a' p' : Int) : odG (odPut y l a p s) a' p' = if y = true ∧ (a' = a ∧ p' = p) then odG l a' p' ++ [s] else odG l a' p' := by
  unfold odPut
  by_cases hy : y = true
  · rw [if_pos hy, odG_snoc]
    by_cases h : a' = a ∧ p' = p
    · have e1 : odIs a' p' ⟨a, p, s⟩ = true := odIs_iff.2 ⟨h.1.symm, h.2.symm⟩
      rw [if_pos e1, if_pos ⟨hy, h⟩]
    · have e1 : ¬ odIs a' p' ⟨a, p, s⟩ = true := fun e => h ⟨(odIs_iff.1 e).1.symm, (odIs_iff.1 e).2.symm⟩
      rw [if_neg e1, List.append_nil, if_neg (fun e => h e.2)]
  · rw [if_neg hy, if_neg (fun e => hy e.1)]
theorem odPut_tx {y : Bool} {l : List OD} {a p : Int} {s : ByteArray} (h : ∀ o ∈ l, 0 < o.s.size ∧ o.s.size ≤ 1500) (hs : y = true → 0 < s.size ∧ s.size ≤ 1500) : ∀ o ∈ odPut y l a p s, 0 < o.s.size ∧ o.s.size ≤ 1500 := by
  intro o ho
  unfold odPut at ho
  split at ho
  · rename_i hy
    rcases List.mem_append.1 ho with e | e
    · exact h o e
    · have : o = ⟨a, p, s⟩ := by simpa using e
      rw [this]
      exact hs hy
  · exact h o ho
theorem neMay_sz {m b : Int} {G : List ByteArray} {a p : Int} {s : ByteArray} (h : neMay m b G a p s = true) : 0 < s.size ∧ s.size ≤ 1500 := by
  unfold neMay at h
  simp only [Bool.and_eq_true, decide_eq_true_eq] at h
  omega
section
variable {x x' : NE} {l : List OD} {a p i : Int} {s : ByteArray} {q : Nat}
theorem NePut.sim {r : Bool} (h : NePut x a p s q r x') (e : NeEq x l) : r = neMay (am 1 x.m 1024) (am 1 x.b 16777216) (odG l a p) a p s ∧ NeEq x' (odPut r l a p s) ∧ NeLim x x' ∧ x'.c = bump x.c (if r = true then q else 1) := by
  have hok : neMay (am 1 x.m 1024) (am 1 x.b 16777216) (odG l a p) a p s = neOk x a p s := by
    rw [e.g]; rfl
  cases h with
  | yes hk v' mp' =>
    refine ⟨by rw [hok, hk], ⟨fun a' p' => ?_, odPut_tx e.tx (fun _ => neMay_sz (hok.trans hk))⟩, ⟨rfl, rfl⟩, by rw [if_pos rfl]; rfl⟩
    rw [odPut_G]
    by_cases hh : a' = a ∧ p' = p
    · rw [if_pos ⟨rfl, hh⟩, hh.1, hh.2, e.g]
      exact (NE.set_G _ a p v' _).symm
    · rw [if_neg (fun z => hh z.2), e.g]
      exact (NE.set_Go { x with mp := mp' } v' _ hh).symm
  | no hk =>
    refine ⟨by rw [hok, hk], ⟨fun a' p' => ?_, odPut_tx e.tx (fun h => by cases h)⟩, ⟨rfl, rfl⟩, by rw [if_neg (by decide)]; rfl⟩
    rw [odPut_G, if_neg (fun z => by cases z.1)]
    exact e.g a' p'
theorem OdNone.not {k : Nat} {r : OD} (h : OdNone l a p i) (h' : OdAt l a p i k r) : False := by
  have := h.neAt
  rw [h'.neAt] at this
  cases this
theorem NeCut.len {r : Option ByteArray} {l' : List OD} (h : NeCut l a p i r l') : l'.length ≤ l.length := by
  cases h with
  | none => exact Nat.le_refl _
  | some k r h => have := h.lt; simp; omega
theorem NeEnd.sim {r r' : Option ByteArray} {l' : List OD} (h : NeEnd x a p i q r x') (hc : NeCut l a p i r' l') (e : NeEq x l) : r = r' ∧ NeEq x' l' ∧ NeLim x x' ∧ x'.c = if r.isSome = true then bump x.c q else x.c := by
  cases hc with
  | none hn =>
    have hn2 := hn.neAt
    rw [e.g] at hn2
    cases h with
    | none h0 => exact ⟨rfl, e, ⟨rfl, rfl⟩, rfl⟩
    | some j t hj ht v' =>
      exfalso
      unfold neAt at hn2
      rw [if_pos (by omega), hj] at hn2
      rw [show ((j : Int).toNat) = j from rfl, ht] at hn2
      cases hn2
  | some k o ho =>
    have hn2 := ho.neAt
    rw [e.g] at hn2
    cases h with
    | none h0 => rw [h0] at hn2; cases hn2
    | some j t hj ht v' =>
      have hjt : (x.G a p)[j]? = Option.some o.s := by
        unfold neAt at hn2
        rw [if_pos (by omega), hj] at hn2
        exact hn2
      rw [ht] at hjt
      cases hjt
      refine ⟨rfl, ⟨fun a' p' => ?_, fun o' ho' => ?_⟩, ⟨rfl, rfl⟩, rfl⟩
      · by_cases hh : a' = a ∧ p' = p
        · rw [hh.1, hh.2, ho.erase, e.g, hj]
          exact (NE.set_G _ a p v' _).symm
        · rw [ho.erase_other hh, e.g]
          exact (NE.set_Go x v' _ hh).symm
      · rcases List.mem_append.1 ho' with z | z
        · exact e.tx o' (List.mem_of_mem_take z)
        · exact e.tx o' (List.mem_of_mem_drop z)
theorem NeTwinR.len {m b : Int} {r : Bool} {l' : List OD} (h : NeTwinR l m b a p i r l') : l'.length ≤ l.length + 1 := by
  cases h with
  | none => omega
  | some k o h =>
    unfold odPut
    split
    · simp
    · omega
theorem NeTwin.sim {r r' : Bool} {l' : List OD} (h : NeTwin x a p i r x') (hc : NeTwinR l (am 1 x.m 1024) (am 1 x.b 16777216) a p i r' l') (e : NeEq x l) (hpl : ∀ a p, x.G a p ≠ [] → (a = 0 ∨ a = 1) ∧ 1 ≤ p ∧ p ≤ 15) : r = r' ∧ NeEq x' l' ∧ NeLim x x' ∧ x'.c = if r = true then bump x.c 3 else x.c := by
  cases hc with
  | none hn =>
    have hn2 := hn.neAt
    rw [e.g] at hn2
    have no : ∀ (j : Nat) (t : ByteArray), i = j → (x.G a p)[j]? = some t → False := fun j t hj ht => by
      unfold neAt at hn2
      rw [if_pos (by omega), hj] at hn2
      rw [show ((j : Int).toNat) = j from rfl, ht] at hn2
      cases hn2
    cases h with
    | none h0 => exact ⟨rfl, e, ⟨rfl, rfl⟩, rfl⟩
    | full j t hj ht hr => exact (no j t hj ht).elim
    | yes j t hj ht hr v' mp' => exact (no j t hj ht).elim
  | some k o ho =>
    have hn2 := ho.neAt
    rw [e.g] at hn2
    have yes : ∀ (j : Nat) (t : ByteArray), i = j → (x.G a p)[j]? = some t → t = o.s := fun j t hj ht => by
      unfold neAt at hn2
      rw [if_pos (by omega), hj] at hn2
      rw [show ((j : Int).toNat) = j from rfl, ht] at hn2
      exact Option.some.inj hn2
    have hG : x.G a p ≠ [] := fun h0 => by
      obtain ⟨j, hj, ht⟩ := ho.nth
      rw [e.g, h0] at ht
      cases ht
    have hsz := e.tx o ho.mem
    have hpl2 := hpl a p hG
    have hmr : neMay (am 1 x.m 1024) (am 1 x.b 16777216) (odG l a p) a p o.s = neRoom x a p o.s := by
      rw [e.g]
      unfold neMay neRoom neIs
      rw [decide_eq_true (show o.s.size ≠ 0 by omega), decide_eq_true (show o.s.size ≤ 1500 by omega), decide_eq_true hpl2.2.1, decide_eq_true hpl2.2.2]
      rcases hpl2.1 with h0 | h0
      · rw [decide_eq_true h0]; simp
      · rw [decide_eq_true h0]; simp
    rw [hmr]
    cases h with
    | none h0 => rw [h0] at hn2; cases hn2
    | full j t hj ht hr =>
      rw [yes j t hj ht] at hr
      rw [hr]
      exact ⟨rfl, ⟨fun a' p' => by rw [odPut_G, if_neg (fun z => by cases z.1)]; exact e.g a' p', odPut_tx e.tx (fun h => by cases h)⟩, ⟨rfl, rfl⟩, rfl⟩
    | yes j t hj ht hr v' mp' =>
      have ht' := yes j t hj ht
      subst ht'
      rw [hr]
      refine ⟨rfl, ⟨fun a' p' => ?_, odPut_tx e.tx (fun _ => hsz)⟩, ⟨rfl, rfl⟩, rfl⟩
      rw [odPut_G]
      by_cases hh : a' = a ∧ p' = p
      · rw [if_pos ⟨rfl, hh⟩, hh.1, hh.2, e.g]
        exact (NE.set_G _ a p v' _).symm
      · rw [if_neg (fun z => hh z.2), e.g]
        exact (NE.set_Go { x with mp := mp' } v' _ hh).symm
theorem NeTurnR.len {bit : Int} {mk : Nat} {r : Bool} {l' : List OD} (h : NeTurnR l a p i bit mk r l') : l'.length ≤ l.length := by
  cases h with
  | none => exact Nat.le_refl _
  | some k r h => rw [List.length_set]; exact Nat.le_refl _
theorem NeTurn.sim {bit : Int} {mk : Nat} {r r' : Bool} {l' : List OD} (h : NeTurn x a p i bit mk r x') (hc : NeTurnR l a p i bit mk r' l') (e : NeEq x l) : r = r' ∧ NeEq x' l' ∧ NeLim x x' ∧ x'.c = if r = true then bump x.c 4 else x.c := by
  cases hc with
  | none hn =>
    have hn2 := hn.neAt
    rw [e.g] at hn2
    cases h with
    | none h0 => exact ⟨rfl, e, ⟨rfl, rfl⟩, rfl⟩
    | some j t hj ht =>
      exfalso
      unfold neAt at hn2
      rw [if_pos (by omega), hj] at hn2
      rw [show ((j : Int).toNat) = j from rfl, ht] at hn2
      cases hn2
  | some k o ho =>
    have hn2 := ho.neAt
    rw [e.g] at hn2
    cases h with
    | none h0 => rw [h0] at hn2; cases hn2
    | some j t hj ht =>
      have hjt : (x.G a p)[j]? = Option.some o.s := by
        unfold neAt at hn2
        rw [if_pos (by omega), hj] at hn2
        exact hn2
      rw [ht] at hjt
      cases hjt
      refine ⟨rfl, ⟨fun a' p' => ?_, fun o' ho' => ?_⟩, ⟨rfl, rfl⟩, rfl⟩
      · by_cases hh : a' = a ∧ p' = p
        · rw [hh.1, hh.2, ho.set, e.g, hj]
          exact (NE.set_G x a p (x.V a p) _).symm
        · rw [ho.set_other _ hh, e.g]
          exact (NE.set_Go x (x.V a p) _ hh).symm
      · rcases List.mem_or_eq_of_mem_set ho' with z | z
        · exact e.tx o' z
        · rw [z]
          show 0 < (turnB o.s bit mk).size ∧ (turnB o.s bit mk).size ≤ 1500
          rw [turnB_size]
          exact e.tx o ho.mem
end
theorem odPut_len (y : Bool) (l : List OD) (a p : Int) (s : ByteArray) : (odPut y l a p s).length ≤ l.length + 1 := by
  unfold odPut
  split
  · simp
  · omega
section
variable {W W' : World} {base gn n0 : Nat} {x x' : NE}
theorem NIn.foot_ty (hI : NIn W base gn n0 x) {k : Nat} (hf : NFoot gn x k) {cs : Array Value} {T : TypeId} (h : W.heap[k]? = some (.cells cs T (0, 0))) : T = 62 ∨ T = 9 := by
  rcases hf with rfl | hm | ⟨a, p, hr⟩
  · have h2 : W.heap[k]? = some (.cells x.cells 62 (0, 0)) := hI.at9
    rw [h] at h2
    simp only [Option.some.injEq, Obj.cells.injEq] at h2
    exact .inl h2.2.1
  · rcases hI.mem with ⟨e, _⟩ | ⟨b', e, _, hh⟩
    · rw [hm] at e; cases e
    · rw [hm] at e
      cases e
      obtain ⟨es, cl, h2⟩ := hh.isMap
      exact absurd rfl (blkQ_map h h2)
  · obtain ⟨cs2, h2⟩ := (hI.own a p).2 k hr
    rw [h] at h2
    simp only [Option.some.injEq, Obj.cells.injEq] at h2
    exact .inr h2.2.1
theorem AtQ.nkeep {T : TypeId} {g : Nat} {cs : Array Value} (h : AtQ T W g cs) (hI : NIn W base gn n0 x) (hk : NKeep gn x W W' x') (h1 : T ≠ 62) (h2 : T ≠ 9) : AtQ T W' g cs := by
  refine h.same (hk.block g h.lt (fun hf => ?_))
  rcases hI.foot_ty hf h with e | e
  · exact h1 e
  · exact h2 e
theorem OwnE.nkeep {b n c : Nat} {T : TypeId} {v : Value} {xs : List Value} (h : OwnE W b T c v n xs) (hI : NIn W base gn n0 x) (hk : NKeep gn x W W' x') (h1 : T ≠ 62) (h2 : T ≠ 9) : OwnE W' b T c v n xs :=
  h.keep hk.size (fun k cs q1 q2 => hk.block k (lt_of_block q2) (fun hf => by
    rcases hI.foot_ty hf q2 with e | e
    · exact h1 e
    · exact h2 e))
theorem NIn.only {g : Nat} {cs : Array Value} {T : TypeId} (hI : NIn W base gn n0 x) (h : AtQ T W g cs) (ho : Only g W W') (h1 : T ≠ 62) (h2 : T ≠ 9) : NIn W' base gn n0 x :=
  hI.keep (by rw [ho.size]; exact Nat.le_refl _) (fun k hf => ho.block k (fun e => by
    subst e
    rcases hI.foot_ty hf h with e | e
    · exact h1 e
    · exact h2 e))
theorem NKeep.onlyNew {g : Nat} {w : World} (hk : NKeep gn x w W x') (hg : w.heap.size ≤ g) (ho : Only g W W') : NKeep gn x w W' x' :=
  ⟨by rw [ho.size]; exact hk.size, fun k h1 h2 => by rw [ho.block k (by omega)]; exact hk.block k h1 h2, hk.foot, hk.env.trans (sameE_only ho)⟩
end
theorem nm_cutB (s : ByteArray) (m : Nat) : (cutB s m).size ≤ m := by
  unfold cutB
  split
  · rw [ByteArray.size_extract]; omega
  · omega
theorem AtQ.cells7 {T : TypeId} {W : World} {g : Nat} {c0 c1 c2 c3 c4 c5 c6 : Value} (h : AtQ T W g #[c0, c1, c2, c3, c4, c5, c6]) : W.cell? ⟨g, 0, none⟩ = some c0 ∧ W.cell? ⟨g, 1, none⟩ = some c1 ∧ W.cell? ⟨g, 2, none⟩ = some c2 ∧ W.cell? ⟨g, 3, none⟩ = some c3 ∧ W.cell? ⟨g, 4, none⟩ = some c4 ∧ W.cell? ⟨g, 5, none⟩ = some c5 ∧ W.cell? ⟨g, 6, none⟩ = some c6 := by
  have f := fun i => h.cell i
  exact ⟨by simpa using f 0, by simpa using f 1, by simpa using f 2, by simpa using f 3, by simpa using f 4, by simpa using f 5, by simpa using f 6⟩
theorem bump_if (c : Nat → Int) (q i : Nat) (y : Bool) : (if y = true then bump c q else c) i = if y = true ∧ i = q then c i + 1 else c i := by
  cases y with
  | true => simp [bump]
  | false => simp
end Go.Proofs.Ytbmbomojnljccaa
