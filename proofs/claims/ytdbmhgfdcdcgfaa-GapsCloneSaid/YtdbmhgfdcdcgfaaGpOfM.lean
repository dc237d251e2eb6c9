/- GapsOften: plain facts: how often each was asked for, and which came. -/
import Derived.Test.YtdbmhgfdcdcgfaaGpO
namespace Go.Proofs.Ytdbmhgfdcdcgfaa
open Go.RowKit
set_option linter.unusedVariables false
set_option linter.unusedSimpArgs false
namespace gapsOften
theorem duD1_mem (c : GC) (now : Int) (x : GW) (d : Int) (h : d ∈ duD1 c now x) : d = x.n ∧ ¬ now < x.at_ ∧ (x.k : Int) < c.t := by
  unfold duD1 at h
  split at h
  · simp at h
  · rename_i h1
    split at h
    · rename_i h2
      simp at h
      exact ⟨h, h1, h2⟩
    · simp at h
theorem dueD_mem (c : GC) (now : Int) (l : List GW) (d : Int) (h : d ∈ gpDueD c now l) : ∃ x ∈ l, d = x.n ∧ ¬ now < x.at_ ∧ (x.k : Int) < c.t := by
  obtain ⟨x, hx, h⟩ := List.mem_flatMap.1 h
  exact ⟨x, hx, duD1_mem c now x d h⟩
theorem dueD_up (c : GC) (now : Int) (l : List GW) (h : GpUp l) : (gpDueD c now l).Pairwise (fun a b => a < b) := by
  unfold gpDueD
  rw [List.pairwise_flatMap]
  refine ⟨fun a _ => ?_, h.imp fun hab x hx y hy => by rw [(duD1_mem _ _ _ _ hx).1, (duD1_mem _ _ _ _ hy).1]; exact hab⟩
  have h1 := duD1_len c now a
  match hz : duD1 c now a, h1 with
  | [], _ => exact List.Pairwise.nil
  | [x], _ => exact List.pairwise_singleton _ _
  | _ :: _ :: _, h1 => simp at h1
theorem dueD_new (c : GC) (now : Int) (l : List GW) (h : GpUp l) (k : Nat) (d : Int) (hk : (gpDueD c now l)[k]? = some d) : d ∉ (gpDueD c now l).take k := by
  intro hm
  obtain ⟨i, hi⟩ := List.getElem?_of_mem hm
  rw [List.getElem?_take] at hi
  split at hi
  · rename_i hik
    obtain ⟨q1, e1⟩ := List.getElem?_eq_some_iff.1 hi
    obtain ⟨q2, e2⟩ := List.getElem?_eq_some_iff.1 hk
    have := (List.pairwise_iff_getElem.1 (dueD_up c now l h)) i k q1 q2 hik
    rw [e1, e2] at this
    omega
  · cases hi
theorem up_inj {l : List GW} (h : GpUp l) {x y : GW} (hx : x ∈ l) (hy : y ∈ l) (e : x.n = y.n) : x = y := by
  obtain ⟨i, hi⟩ := List.getElem?_of_mem hx
  obtain ⟨j, hj⟩ := List.getElem?_of_mem hy
  obtain ⟨q1, e1⟩ := List.getElem?_eq_some_iff.1 hi
  obtain ⟨q2, e2⟩ := List.getElem?_eq_some_iff.1 hj
  rcases Nat.lt_trichotomy i j with h1 | h1 | h1
  · have := (List.pairwise_iff_getElem.1 h) i j q1 q2 h1
    rw [e1, e2] at this
    omega
  · subst h1
    rw [hi] at hj
    exact Option.some.inj hj
  · have := (List.pairwise_iff_getElem.1 h) j i q2 q1 h1
    rw [e1, e2] at this
    omega
/-- What is known of how often each was asked for (f), and of which came (b): G is the greatest that came. -/
structure Inv (T G : Int) (l : List GW) (f : Int → Option Int) (b : Int → Option Bool) : Prop where
  up : GpUp l
  lt : ∀ x ∈ l, x.n < G
  a : ∀ x ∈ l, (f x.n).getD 0 = x.k
  new : ∀ n, G < n → (f n).getD 0 = 0
  le : ∀ n, 0 ≤ (f n).getD 0 ∧ (f n).getD 0 ≤ T
  not : ∀ x ∈ l, (b x.n).getD false = false
  none : ∀ n, G < n → (b n).getD false = false
theorem inv_start (T : Int) (hT : 0 ≤ T) : Inv T (-100) [] (fun _ => none) (fun _ => none) :=
  ⟨List.Pairwise.nil, by simp, by simp, fun _ _ => rfl, fun _ => ⟨Int.le_refl _, hT⟩, by simp, fun _ _ => rfl⟩
/-- Where a list that stands for the greatest that came is G. -/
def GOk (cm : Bool) (G gr : Int) (l : List GW) : Prop := (cm = true ∧ G = gr) ∨ (cm = false ∧ G = -100 ∧ l = [])
theorem inv_came {T G gr : Int} {c : GC} {cm : Bool} {l : List GW} {f : Int → Option Int} {b : Int → Option Bool} (h : Inv T G l f b) (hg : GOk cm G gr l) (n now : Int) (hn : -100 < n ∧ n ≤ 100000) (hu : GpUp (cmL c cm gr l n now)) :
    Inv T (max G n) (cmL c cm gr l n now) f (fun y => if y = n then some true else b y) ∧ GOk true (max G n) (cmG cm gr n) (cmL c cm gr l n now) := by
  have hgn : gpN n = n := gpN_same ⟨by omega, by omega⟩
  rcases hg with ⟨rfl, rfl⟩ | ⟨rfl, rfl, rfl⟩
  · by_cases hlt : G < n
    · have e1 : cmL c true G l n now = gpLeap c G n (gpK now) l := by unfold cmL; rw [if_pos rfl, hgn, if_pos hlt]
      have e2 : cmG true G n = n := by unfold cmG; rw [if_pos rfl, hgn, if_pos hlt]
      rw [e1] at hu
      rw [e1, e2, show max G n = n by omega]
      have hm := fun x => gpLeap_mem c G n (gpK now) l x
      refine ⟨⟨hu, fun x hx => ?_, fun x hx => ?_, fun y hy => h.new y (by omega), h.le, fun x hx => ?_, fun y hy => ?_⟩, .inl ⟨rfl, rfl⟩⟩
      · rcases hm x hx with h1 | h1
        · have := h.lt x h1; omega
        · omega
      · rcases hm x hx with h1 | h1
        · exact h.a x h1
        · rw [h.new _ h1.1, h1.2.2]; rfl
      · have hne : x.n ≠ n := by
          rcases hm x hx with h1 | h1
          · have := h.lt x h1; omega
          · omega
        simp only [if_neg hne]
        rcases hm x hx with h1 | h1
        · exact h.not x h1
        · exact h.none _ h1.1
      · simp only [if_neg (show ¬ y = n by omega)]
        exact h.none _ (by omega)
    · have e1 : cmL c true G l n now = gpRm n l := by unfold cmL; rw [if_pos rfl, hgn, if_neg hlt]
      have e2 : cmG true G n = G := by unfold cmG; rw [if_pos rfl, hgn, if_neg hlt]
      rw [e1] at hu
      rw [e1, e2, show max G n = G by omega]
      have hm := fun x => gpRm_mem h.up n x
      refine ⟨⟨hu, fun x hx => h.lt x (hm x hx).1, fun x hx => h.a x (hm x hx).1, h.new, h.le, fun x hx => ?_, fun y hy => ?_⟩, .inl ⟨rfl, rfl⟩⟩
      · simp only [if_neg (hm x hx).2]
        exact h.not x (hm x hx).1
      · simp only [if_neg (show ¬ y = n by omega)]
        exact h.none y hy
  · have e1 : cmL c false gr [] n now = [] := rfl
    have e2 : cmG false gr n = n := hgn
    rw [e1, e2, show max (-100) n = n by omega]
    refine ⟨⟨List.Pairwise.nil, by simp, by simp, fun y hy => h.new y (by omega), h.le, by simp, fun y hy => ?_⟩, .inl ⟨rfl, rfl⟩⟩
    simp only [if_neg (show ¬ y = n by omega)]
    exact h.none y (by omega)
/-- Asked for once more. -/
def Plus (D : List Int) (f f' : Int → Option Int) : Prop := ∀ n, (f' n).getD 0 = (f n).getD 0 + (if n ∈ D then 1 else 0)
theorem plus_nil (f : Int → Option Int) : Plus [] f f := fun n => by simp
theorem plus_snoc {D : List Int} {f f' : Int → Option Int} (h : Plus D f f') (d : Int) (hd : d ∉ D) : Plus (D ++ [d]) f (fun y => if y = d then some ((f' d).getD 0 + 1) else f' y) := fun n => by
  by_cases e : n = d
  · subst e
    simp [h n, hd]
  · simp [e, h n]
theorem inv_due {T G : Int} {c : GC} {l : List GW} {f f' : Int → Option Int} {b : Int → Option Bool} (h : Inv T G l f b) (hc : c.t = T) (now : Int) (hp : Plus (gpDueD c now l) f f') : Inv T G (gpDueK c now l) f' b := by
  have hmem : ∀ y ∈ gpDueK c now l, ∃ x ∈ l, y ∈ duK1 c now x := fun y hy => List.mem_flatMap.1 hy
  have hD := fun d => dueD_mem c now l d
  have hin : ∀ x ∈ l, ∀ d ∈ duD1 c now x, d ∈ gpDueD c now l := fun x hx d hd => List.mem_flatMap.2 ⟨x, hx, hd⟩
  refine ⟨gpDueK_up c now l h.up, fun y hy => ?_, fun y hy => ?_, fun n hn => ?_, fun n => ?_, fun y hy => ?_, h.none⟩
  · obtain ⟨x, hx, hy⟩ := hmem y hy
    rw [duK1_n _ _ _ _ hy]
    exact h.lt x hx
  · obtain ⟨x, hx, hy⟩ := hmem y hy
    rw [hp, duK1_n _ _ _ _ hy, h.a x hx]
    unfold duK1 at hy
    split at hy
    · rename_i h1
      simp at hy
      subst hy
      rw [if_neg (fun hd => by
        obtain ⟨z, hz, e, h2, _⟩ := hD _ hd
        have := up_inj h.up hx hz e
        subst this
        exact h2 h1)]
      simp
    · rename_i h1
      split at hy
      · rename_i h2
        simp at hy
        subst hy
        rw [if_pos (hin x hx x.n (by unfold duD1; rw [if_neg h1, if_pos h2]; simp))]
        simp
      · simp at hy
  · rw [hp, h.new n hn, if_neg (fun hd => by
      obtain ⟨z, hz, e, _⟩ := hD _ hd
      have := h.lt z hz
      omega)]
    rfl
  · rw [hp]
    have := h.le n
    split
    · rename_i hd
      obtain ⟨z, hz, rfl, _, h3⟩ := hD _ hd
      have := h.a z hz
      omega
    · omega
  · obtain ⟨x, hx, hy⟩ := hmem y hy
    rw [duK1_n _ _ _ _ hy]
    exact h.not x hx
/-- One that is asked for: it was so less often than may be, and did not come. -/
theorem inv_ask {T G : Int} {c : GC} {l : List GW} {f f' : Int → Option Int} {b : Int → Option Bool} (h : Inv T G l f b) (hc : c.t = T) (now : Int) (k : Nat) (d : Int) (hk : (gpDueD c now l)[k]? = some d) (hp : Plus ((gpDueD c now l).take k) f f') :
    (0 ≤ (f' d).getD 0 ∧ (f' d).getD 0 < T) ∧ (b d).getD false = false := by
  obtain ⟨z, hz, rfl, _, h3⟩ := dueD_mem c now l d (List.mem_of_getElem? hk)
  have h1 := h.a z hz
  rw [hp, if_neg (dueD_new c now l h.up k _ hk)]
  exact ⟨by omega, h.not z hz⟩
end gapsOften
end Go.Proofs.Ytdbmhgfdcdcgfaa
