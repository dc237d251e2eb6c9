/- Lists without repeats, as they come first; and sets, counts as maps. -/
import Derived.WalkKit
import Derived.Maps.OwnSet
namespace Go.Proofs.Ytagimjaojpdfiaa
open Go.RowKit Go.Maps
def addNew (acc : List Int) (x : Int) : List Int := if acc.contains x then acc else acc ++ [x]
/-- Each number once, as they come first. -/
def dist (zs : List Int) : List Int := zs.foldl addNew []
theorem dist_succ (zs : List Int) (k : Nat) (hk : k < zs.length) : dist (zs.take (k + 1)) = addNew (dist (zs.take k)) (zs[k]?.getD 0) := by
  unfold dist
  rw [List.take_succ_eq_append_getElem hk, List.foldl_append]
  simp [hk]
theorem addNew_old {acc : List Int} {x : Int} (h : acc.contains x = true) : addNew acc x = acc := by unfold addNew; rw [if_pos h]
theorem addNew_new {acc : List Int} {x : Int} (h : acc.contains x = false) : addNew acc x = acc ++ [x] := by unfold addNew; rw [if_neg (by rw [h]; exact Bool.false_ne_true)]
theorem addNew_prefix (acc : List Int) (x : Int) : acc <+: addNew acc x := by
  unfold addNew
  split
  · exact List.prefix_refl _
  · exact List.prefix_append _ _
theorem fold_prefix (l : List Int) : ∀ acc : List Int, acc <+: l.foldl addNew acc := by
  induction l with
  | nil => intro acc; exact List.prefix_refl _
  | cons a r ih => intro acc; exact (addNew_prefix acc a).trans (ih _)
theorem dist_prefix (zs : List Int) (k : Nat) : dist (zs.take k) <+: dist zs := by
  have h : dist zs = (zs.drop k).foldl addNew (dist (zs.take k)) := by
    unfold dist
    rw [← List.foldl_append, List.take_append_drop]
  rw [h]
  exact fold_prefix _ _
theorem addNew_len (acc : List Int) (x : Int) : (addNew acc x).length ≤ acc.length + 1 := by
  unfold addNew; split <;> simp
theorem fold_len (l : List Int) : ∀ acc : List Int, (l.foldl addNew acc).length ≤ acc.length + l.length := by
  induction l with
  | nil => intro acc; simp
  | cons a r ih => intro acc; have := ih (addNew acc a); have := addNew_len acc a; simp; omega
theorem dist_len (zs : List Int) : (dist zs).length ≤ zs.length := by have := fold_len zs []; simpa [dist] using this
theorem dist_len_take (zs : List Int) (k : Nat) : (dist (zs.take k)).length ≤ k := by have := dist_len (zs.take k); simp at this; omega
theorem addNew_nodup {acc : List Int} (h : acc.Nodup) (x : Int) : (addNew acc x).Nodup := by
  unfold addNew
  split
  · exact h
  · rename_i hc
    rw [List.nodup_append]
    refine ⟨h, by simp, ?_⟩
    intro a ha b hb
    simp at hb
    subst hb
    intro e
    subst e
    exact hc (by simpa using ha)
theorem fold_nodup (l : List Int) : ∀ acc : List Int, acc.Nodup → (l.foldl addNew acc).Nodup := by
  induction l with
  | nil => intro acc h; exact h
  | cons a r ih => intro acc h; exact ih _ (addNew_nodup h a)
theorem dist_nodup (zs : List Int) : (dist zs).Nodup := fold_nodup zs [] (by simp)
theorem mem_addNew {acc : List Int} {x y : Int} : y ∈ addNew acc x ↔ y ∈ acc ∨ y = x := by
  unfold addNew
  split
  · rename_i hc
    simp at hc
    constructor
    · exact Or.inl
    · rintro (h | rfl)
      · exact h
      · exact hc
  · simp
theorem mem_fold (l : List Int) : ∀ (acc : List Int) (y : Int), y ∈ l.foldl addNew acc ↔ y ∈ acc ∨ y ∈ l := by
  induction l with
  | nil => intro acc y; simp
  | cons a r ih => intro acc y; rw [List.foldl_cons, ih, mem_addNew, List.mem_cons, or_assoc]
theorem mem_dist (zs : List Int) (y : Int) : y ∈ dist zs ↔ y ∈ zs := by unfold dist; rw [mem_fold]; simp
/-- Where the next new number stands. -/
theorem dist_next (zs : List Int) (k : Nat) (hk : k < zs.length) (h : (dist (zs.take k)).contains (zs[k]?.getD 0) = false) :
    (dist (zs.take k)).length < (dist zs).length ∧ (dist zs)[(dist (zs.take k)).length]?.getD 0 = zs[k]?.getD 0 := by
  have hp := dist_prefix zs (k + 1)
  rw [dist_succ zs k hk, addNew_new h] at hp
  obtain ⟨t, ht⟩ := hp
  rw [← ht]
  constructor
  · simp
  · simp
/-- One that was seen doesn't stand where the next new one would. -/
theorem dist_seen (zs : List Int) (k : Nat) (x : Int) (h : (dist (zs.take k)).contains x = true) (hl : (dist (zs.take k)).length < (dist zs).length) :
    (dist zs)[(dist (zs.take k)).length]?.getD 0 ≠ x := by
  intro e
  obtain ⟨t, ht⟩ := dist_prefix zs k
  have hn := dist_nodup zs
  have hm : x ∈ dist (zs.take k) := by simpa using h
  rw [← ht] at hn e hl
  rw [List.nodup_append] at hn
  cases t with
  | nil => simp at hl
  | cons b t =>
    simp at e
    subst e
    exact hn.2.2 b hm b (by simp) rfl
variable {H : Type}
theorem any_key (k : IntKind) (x : Int) : ∀ l : List Int, l.any ((fun y : Lit => y.sameKey (.int k x)) ∘ Lit.int k) = l.contains x
  | [] => rfl
  | a :: r => by
    rw [List.any_cons, List.contains_cons, any_key k x r]
    congr 1
    show decide (k = k ∧ a = x) = (x == a)
    by_cases e : a = x
    · subst e
      simp
    · have e' : ¬ x = a := fun h => e h.symm
      simp [e, e']
/-- A key is in the set just if the number is on the list. -/
theorem has_ints (u : DataW H) (k : IntKind) (l : List Int) (x : Int) : Maps.has (setOf u (l.map (Lit.int k))) (.int k x) = l.contains x := by
  rw [has_setOf _ _ _ (fun y hy => by obtain ⟨_, _, rfl⟩ := List.mem_map.1 hy; trivial), List.any_map]
  exact any_key k x _
theorem setOf_new (u : DataW H) (k : IntKind) (l : List Int) (x : Int) : setOf u ((l ++ [x]).map (Lit.int k)) = (setOf u (l.map (Lit.int k))).put (.int k x) u := by
  rw [List.map_append, List.map_singleton, setOf_snoc]
theorem isMap_ints (u : DataW H) (k : IntKind) (l : List Int) : IsMap (setOf u (l.map (Lit.int k))) := (tidy_setOf u _ (fun y hy => by obtain ⟨_, _, rfl⟩ := List.mem_map.1 hy; trivial)).isMap
theorem atKey_fold (u z : DataW H) (k : IntKind) (x : Int) (l : List Int) : ∀ D : DataW H, IsMap D → ((l.map (Lit.int k)).foldl (fun m y => m.put y u) D).atKey (.int k x) z = if l.contains x then u else D.atKey (.int k x) z := by
  induction l with
  | nil => intro D _; rfl
  | cons a r ih =>
    intro D hD
    rw [List.map_cons, List.foldl_cons, ih _ (hD.put _ _), List.contains_cons]
    by_cases hr : r.contains x = true
    · rw [hr, Bool.or_true]
      rfl
    · rw [Bool.not_eq_true] at hr
      rw [hr, Bool.or_false]
      by_cases e : x = a
      · subst e
        simp [atKey_put_same hD (k := Lit.int k x) trivial]
      · have hne : Lit.int k x ≠ Lit.int k a := fun h => e (by injection h)
        simp [e, atKey_put_other hne]
/-- What stands at a key of the set. -/
theorem atKey_ints (u z : DataW H) (k : IntKind) (l : List Int) (x : Int) : (setOf u (l.map (Lit.int k))).atKey (.int k x) z = if l.contains x then u else z := by
  unfold setOf
  rw [atKey_fold u z k x l _ isMap_empty]
  rfl
end Go.Proofs.Ytagimjaojpdfiaa
