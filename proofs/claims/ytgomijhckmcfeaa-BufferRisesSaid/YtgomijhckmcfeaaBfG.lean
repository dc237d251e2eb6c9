/- buffer: Put. -/
import Derived.Test.YtgomijhckmcfeaaBfF
namespace Go.Proofs.Ytgomijhckmcfeaa
open Go.RowKit
set_option linter.unusedVariables false
set_option linter.unusedSimpArgs false
/-- A Buffer whose counts aren't yet those of its frames. -/
structure BMd (W : World) (base gb : Nat) (s : BS) (pa bt : Int) (v : Value) (l : List BF) : Prop where
  bs : base ≤ gb
  at10 : s.at W gb pa bt v
  own : OwnE W base 66 1 v l.length (bfV l)
  fr : FrIn W base l
  up : BUp s.least l
theorem BMd.full {W : World} {base gb : Nat} {s : BS} {pa bt : Int} {v : Value} {l : List BF} (h : BMd W base gb s pa bt v l) (h1 : pa = bfParts l) (h2 : bt = bfBytes l) : BIn W base gb s v l := by
  subst h1 h2
  exact ⟨h.bs, h.at10, h.own, h.fr, h.up⟩
/-- A frame whose parts (and map) have changed. -/
def BF.with (x : BF) (m : Option Nat) (P : List (Option ByteArray)) : BF := { x with m := m, P := P }
theorem set_at {l : List BF} {k : Nat} {x y : BF} (h : l[k]? = some x) : l.set k y = l.take k ++ y :: l.drop (k + 1) := by
  have hlt := (List.getElem?_eq_some_iff.1 h).1
  exact List.set_eq_take_append_cons_drop .. |>.trans (by rw [if_pos hlt])
theorem bfV_set {l : List BF} {k : Nat} {x : BF} (h : l[k]? = some x) (m : Option Nat) (P : List (Option ByteArray)) : bfV (l.set k (x.with m P)) = bfV l := by
  unfold bfV
  rw [List.map_set]
  have e : (x.with m P).ptr = x.ptr := rfl
  rw [e]
  apply List.ext_getElem?
  intro i
  rw [List.getElem?_set]
  by_cases hik : k = i
  · subst hik
    rw [if_pos rfl, List.getElem?_map, h]
    simp [(List.getElem?_eq_some_iff.1 h).1]
  · rw [if_neg hik]
theorem sum_set {l : List BF} {k : Nat} {x : BF} (h : l[k]? = some x) (f : BF → Nat) (y : BF) : ((l.set k y).map f).sum + f x = (l.map f).sum + f y := by
  induction l generalizing k with
  | nil => simp at h
  | cons a l ih =>
    cases k with
    | zero =>
      simp at h
      subst h
      simp
      omega
    | succ k =>
      simp at h
      have := ih h
      simp only [List.set_cons_succ, List.map_cons, List.sum_cons]
      omega
theorem bfParts_set {l : List BF} {k : Nat} {x : BF} (h : l[k]? = some x) (m : Option Nat) (P : List (Option ByteArray)) : bfParts (l.set k (x.with m P)) + spH x.P = bfParts l + spH P := sum_set h (fun y => spH y.P) _
theorem bfBytes_set {l : List BF} {k : Nat} {x : BF} (h : l[k]? = some x) (m : Option Nat) (P : List (Option ByteArray)) : bfBytes (l.set k (x.with m P)) + spB x.P = bfBytes l + spB P := sum_set h (fun y => spB y.P) _
theorem mem_set {l : List BF} {k : Nat} {x y : BF} (h : y ∈ l.set k x) : y = x ∨ (y ∈ l ∧ ∃ j, j ≠ k ∧ l[j]? = some y) := by
  obtain ⟨j, hj⟩ := List.mem_iff_getElem?.1 h
  rw [List.getElem?_set] at hj
  by_cases e : k = j
  · rw [if_pos e] at hj
    split at hj
    · exact .inl (Option.some.inj hj).symm
    · cases hj
  · rw [if_neg e] at hj
    exact .inr ⟨List.mem_of_getElem? hj, j, fun e2 => e e2.symm, hj⟩
theorem pw_set {R : BF → BF → Prop} {l : List BF} (h : l.Pairwise R) {k : Nat} {x y : BF} (hx : l[k]? = some x) (h1 : ∀ j z, j < k → l[j]? = some z → R z x → R z y) (h2 : ∀ j z, k < j → l[j]? = some z → R x z → R y z) : (l.set k y).Pairwise R := by
  rw [List.pairwise_iff_getElem] at h ⊢
  obtain ⟨hk, rfl⟩ := List.getElem?_eq_some_iff.1 hx
  intro i j hi hj hij
  rw [List.length_set] at hi hj
  rw [List.getElem_set, List.getElem_set]
  by_cases e1 : k = i
  · subst e1
    rw [if_pos rfl, if_neg (by omega)]
    exact h2 j _ hij (List.getElem?_eq_getElem hj) (h k j hi hj hij)
  · rw [if_neg e1]
    by_cases e2 : k = j
    · subst e2
      rw [if_pos rfl]
      exact h1 i _ hij (List.getElem?_eq_getElem hi) (h i k hi hj hij)
    · rw [if_neg e2]
      exact h i j hi hj hij
/-- What the frame's Put leaves of the Buffer. -/
theorem bIn_put {w w' : World} {base gb : Nat} {s : BS} {v : Value} {l : List BF} (h : BIn w base gb s v l) {k : Nat} {x : BF} (hx : l[k]? = some x) {mp' : Option Nat} {P' : List (Option ByteArray)} (hF : FIn w' base x.g x.t x.c x.f mp' P') (hK : KeepF x.g x.m w w') (hm : ∀ b, mp' = some b → x.m = some b ∨ w.heap.size ≤ b) :
    BMd w' base gb s (bfParts l) (bfBytes l) v (l.set k (x.with mp' P')) ∧ BKeep gb v l w w' v (l.set k (x.with mp' P')) := by
  have hxm := List.mem_of_getElem? hx
  obtain ⟨⟨hxg, hxv⟩, hxb⟩ := h.apart x hxm
  obtain ⟨⟨_, hxl⟩, hxbl⟩ := h.fr.lt x hxm
  have hgm : x.m ≠ some x.g := (h.fr.fr x hxm).apart
  have hpos := h.fr.nd
  have hne : ∀ j y, j ≠ k → l[j]? = some y → (y.g ≠ x.g ∧ x.m ≠ some y.g) ∧ ∀ b, y.m = some b → b ≠ x.g ∧ x.m ≠ some b := fun j y hjk hy => by
    have hym := List.mem_of_getElem? hy
    have hp : (y.g ≠ x.g) ∧ ∀ b, y.m = some b → x.m ≠ some b := by
      obtain ⟨h1, rfl⟩ := List.getElem?_eq_some_iff.1 hx
      obtain ⟨h2, rfl⟩ := List.getElem?_eq_some_iff.1 hy
      rcases Nat.lt_or_gt_of_ne hjk with e | e
      · have := List.pairwise_iff_getElem.1 hpos j k h2 h1 e
        exact ⟨this.1, this.2⟩
      · have := List.pairwise_iff_getElem.1 hpos k j h1 h2 e
        exact ⟨fun e => this.1 e.symm, fun b hb hb2 => this.2 b hb2 hb⟩
    refine ⟨⟨hp.1, fun e => ?_⟩, fun b hb => ⟨fun e => ?_, hp.2 b hb⟩⟩
    · obtain ⟨es, cl, hmm⟩ := (h.fr.fr x hxm).isMap _ e
      exact blk_map (h.fr.fr y hym).at5 hmm rfl
    · obtain ⟨es, cl, hmm⟩ := (h.fr.fr y hym).isMap _ hb
      exact blk_map (h.fr.fr x hxm).at5 hmm e.symm
  refine ⟨⟨h.bs, ?_, ?_, ⟨fun y hy => ?_, ?_⟩, ⟨?_, ?_, h.up.l0, ?_⟩⟩, ⟨hK.size, fun i hi hf => hK.block i hi (fun e => hf (.inr (.inr ⟨x, hxm, .inl e.symm⟩))) (fun e => hf (.inr (.inr ⟨x, hxm, .inr e⟩))), fun i hi => ?_⟩⟩
  · have h10 := h.at10
    unfold BS.at AtS at h10 ⊢
    rw [hK.block gb (lt_of_block h10) (fun e => hxg e.symm) (fun e => (hxb gb e).1 rfl)]
    exact h10
  · rw [List.length_set, bfV_set hx]
    exact hK.row (h.fr.fr x hxm) h.own (by decide)
  · rcases mem_set hy with rfl | ⟨hym, j, hjk, hj⟩
    · exact hF
    · obtain ⟨⟨h1, h2⟩, h3⟩ := hne j y hjk hj
      obtain ⟨⟨_, h4⟩, h5⟩ := h.fr.lt y hym
      exact (h.fr.fr y hym).same (hK.block _ h4 h1 (fun e => h2 e)) (fun b hb => hK.block b (h5 b hb).2 (h3 b hb).1 (fun e => (h3 b hb).2 e))
  · refine pw_set h.fr.nd hx (fun j z hj hz hr => ⟨hr.1, fun b hb e => ?_⟩) (fun j z hj hz hr => ⟨hr.1, fun b hb e => ?_⟩)
    · rcases hm b e with e1 | e1
      · exact hr.2 b hb e1
      · have := ((h.fr.lt z (List.mem_of_getElem? hz)).2 b hb).2
        omega
    · rcases hm b hb with e1 | e1
      · exact hr.2 b e1 e
      · have := ((h.fr.lt z (List.mem_of_getElem? hz)).2 b e).2
        omega
  · exact pw_set h.up.up hx (fun j z hj hz hr => hr) (fun j z hj hz hr => hr)
  · intro y hy
    rcases mem_set hy with rfl | ⟨hym, _⟩
    · exact h.up.lo x hxm
    · exact h.up.lo y hym
  · intro y hy
    rcases mem_set hy with rfl | ⟨hym, _⟩
    · exact h.up.tb x hxm
    · exact h.up.tb y hym
  · rcases hi with e | e | ⟨y, hy, e⟩
    · exact .inl (.inl e)
    · exact .inl (.inr (.inl e))
    · rcases mem_set hy with rfl | ⟨hym, _⟩
      · rcases e with e | e
        · exact .inl (.inr (.inr ⟨x, hxm, .inl e⟩))
        · rcases hm i e with e1 | e1
          · exact .inl (.inr (.inr ⟨x, hxm, .inr e1⟩))
          · exact .inr e1
      · exact .inl (.inr (.inr ⟨y, hym, e⟩))
end Go.Proofs.Ytgomijhckmcfeaa
