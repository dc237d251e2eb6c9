/- ShareFair, ShareScales: plain facts. -/
import Derived.Test.YtaiekbhpgbmalaaShS
namespace Go.Proofs.Ytaiekbhpgbmalaa
open Go.RowKit
set_option linter.unusedVariables false
set_option linter.unusedSimpArgs false
/-- The law's weights, the paths, and the sum of the weights. -/
def wqF (m : Int) (z : List Int) (k : Nat) : Int := 1 + z[k]?.getD 0 % m
def wsF (m : Int) (z : List Int) : Nat → List (Int × Int) | 0 => [] | k + 1 => wsF m z k ++ [(1 + (k : Int), wqF m z k)]
def mayF : Nat → List Int | 0 => [] | k + 1 => mayF k ++ [1 + (k : Int)]
def sumF (m : Int) (z : List Int) : Nat → Int | 0 => 0 | k + 1 => sumF m z k + wqF m z k
theorem wqF_bd (m : Int) (z : List Int) (k : Nat) (h : 0 < m) : 1 ≤ wqF m z k ∧ wqF m z k ≤ m := by
  unfold wqF
  have := Int.emod_nonneg (z[k]?.getD 0) (show m ≠ 0 by omega)
  have := Int.emod_lt_of_pos (z[k]?.getD 0) h
  omega
theorem sumF_bd (m : Int) (z : List Int) (h : 0 < m) : ∀ k : Nat, 0 ≤ sumF m z k ∧ sumF m z k ≤ m * (k : Int)
  | 0 => by simp [sumF]
  | k + 1 => by
    have h1 := sumF_bd m z h k
    have h2 := wqF_bd m z k h
    have e : m * ((k + 1 : Nat) : Int) = m * (k : Int) + m := by rw [Int.natCast_succ, Int.mul_add, Int.mul_one]
    rw [e]
    simp only [sumF]
    omega
theorem wsF_len (m : Int) (z : List Int) : ∀ k, (wsF m z k).length = k
  | 0 => rfl
  | k + 1 => by simp [wsF, wsF_len m z k]
theorem mayF_len : ∀ k, (mayF k).length = k
  | 0 => rfl
  | k + 1 => by simp [mayF, mayF_len k]
theorem wsF_lt (m : Int) (z : List Int) : ∀ k, ∀ x ∈ wsF m z k, x.1 ≤ (k : Int)
  | 0 => by simp [wsF]
  | k + 1 => by
    intro x hx
    rcases List.mem_append.1 hx with h | h
    · have := wsF_lt m z k x h; omega
    · simp at h; subst h; simp; omega
theorem wsF_up (m : Int) (z : List Int) : ∀ k, WhUp (wsF m z k)
  | 0 => List.Pairwise.nil
  | k + 1 => by
    unfold WhUp wsF
    refine List.pairwise_append.2 ⟨wsF_up m z k, List.pairwise_singleton _ _, fun a ha b hb => ?_⟩
    simp at hb; subst hb
    have := wsF_lt m z k a ha
    simp; omega
theorem wsF_clip (m : Int) (z : List Int) (h : 0 < m) (h2 : m ≤ 65535) : ∀ k, clipW (wsF m z k) = wsF m z k
  | 0 => rfl
  | k + 1 => by
    have e := wsF_clip m z h h2 k
    have := wqF_bd m z k h
    unfold clipW at e ⊢
    simp only [wsF, List.map_append, e, List.map_cons, List.map_nil]
    congr 3
    unfold clipK; omega
/-- What holds behind so many packets. -/
structure FairInv (m : Int) (es : List Int) (n k : Nat) (most : Int) (ls : List SL) : Prop where
  ok : ShOk ls
  ws : ls.map (fun x => (x.p, x.w)) = wsF m es n
  c : ∀ x ∈ ls, 0 ≤ x.c ∧ x.c ≤ 2047 * (k : Int)
  m0 : 0 ≤ most
  m1 : most ≤ 2047
  fair : FairS most ls
theorem FairInv.len {m : Int} {es : List Int} {n k : Nat} {most : Int} {ls : List SL} (h : FairInv m es n k most ls) : ls.length = n := by
  have := congrArg List.length h.ws
  rw [List.length_map, wsF_len] at this
  exact this
theorem wsF_sum (m : Int) (es : List Int) : ∀ n, ((wsF m es n).map (·.2)).sum = sumF m es n
  | 0 => rfl
  | n + 1 => by simp only [wsF, List.map_append, List.sum_append, wsF_sum m es n, sumF, List.map_cons, List.map_nil, List.sum_cons, List.sum_nil]; omega
theorem wsF_may (m : Int) (es : List Int) : ∀ n, (wsF m es n).map (·.1) = mayF n
  | 0 => rfl
  | n + 1 => by simp only [wsF, List.map_append, wsF_may m es n, mayF, List.map_cons, List.map_nil]
theorem FairInv.sum {m : Int} {es : List Int} {n k : Nat} {most : Int} {ls : List SL} (h : FairInv m es n k most ls) : sumWS ls = sumF m es n := by
  rw [← wsF_sum, ← h.ws, List.map_map]
  rfl
theorem FairInv.may {m : Int} {es : List Int} {n k : Nat} {most : Int} {ls : List SL} (h : FairInv m es n k most ls) : ls.map (·.p) = mayF n := by
  rw [← wsF_may m es, ← h.ws, List.map_map]
  rfl
theorem ableS_all {ls : List SL} {may : List Int} (h : ∀ x ∈ ls, x.p ∈ may) : ableS ls may = ls := by
  unfold ableS
  exact List.filter_eq_self.2 (fun x hx => by simpa using h x hx)
theorem FairInv.pick {m : Int} {es : List Int} {n k : Nat} {most : Int} {x : SL} {l : List SL} (h : FairInv m es n k most (x :: l)) : pickS (x :: l) (mayF n) = ((minS x l).p, true) := by
  unfold pickS
  rw [ableS_all (fun y hy => by rw [← h.may]; exact List.mem_map_of_mem (f := (·.p)) hy)]
theorem ShOk.nodup {ls : List SL} (h : ShOk ls) : (ls.map (·.p)).Nodup :=
  List.pairwise_map.2 (h.up.imp (fun {a b} hab e => by omega))
theorem FairInv.carry {m : Int} {es : List Int} {n k : Nat} {most : Int} {x : SL} {l : List SL} (h : FairInv m es n k most (x :: l)) (hk : k < 1000) (z : Int) (z0 : 0 ≤ z) (z1 : z ≤ 2047) :
    FairInv m es n (k + 1) (max most z) (carryS (x :: l) (minS x l).p z) := by
  have hw : ∀ y ∈ x :: l, 0 < y.w := fun y hy => by have := (h.ok.w0 y hy).1; omega
  have hmem := minS_mem l x
  have h0 := h.m0
  have h1 := h.m1
  refine ⟨carryS_ok h.ok _ _ (fun y hy => by have := h.c y hy; omega), ?_, fun y hy => ?_, by omega, by omega, ?_⟩
  · rw [← h.ws]
    unfold carryS
    rw [List.map_map]
    refine List.map_congr_left (fun y _ => ?_)
    simp only [Function.comp]
    split <;> rfl
  · obtain ⟨y', hy', rfl⟩ := List.mem_map.1 hy
    have := h.c y' hy'
    split
    · simp only; omega
    · omega
  · exact fairS_carry (max most z) z _ _ hw h.ok.nodup hmem (minS_least l x hw) (fairS_more most _ _ hw (by omega) h.fair) z0 (by omega)
theorem FairInv.start (m : Int) (es : List Int) (n : Nat) (h : 0 < m) (h2 : m ≤ 65535) : FairInv m es n 0 0 (ldW (wsF m es n)) := by
  have e : ldW (wsF m es n) = (wsF m es n).map fun x => ⟨x.1, x.2, 0⟩ := by
    unfold ldW
    rw [wsF_clip m es h h2]
  rw [e]
  have hb : ∀ n, ∀ x ∈ wsF m es n, 1 ≤ x.2 ∧ x.2 ≤ m := by
    intro n
    induction n with
    | zero => simp [wsF]
    | succ n ih =>
      intro x hx
      rcases List.mem_append.1 hx with h1 | h1
      · exact ih x h1
      · simp at h1; subst h1; exact wqF_bd m es n h
  refine ⟨⟨?_, fun y hy => ?_, fun y hy => ?_⟩, ?_, fun y hy => ?_, by omega, by omega, fun y hy => ?_⟩
  · exact List.pairwise_map.2 (wsF_up m es n)
  · obtain ⟨x, hx, rfl⟩ := List.mem_map.1 hy
    have := hb n x hx
    simp only; omega
  · obtain ⟨x, hx, rfl⟩ := List.mem_map.1 hy
    simp
  · rw [List.map_map]
    exact (List.map_congr_left (fun x _ => rfl)).trans (List.map_id _)
  · obtain ⟨x, hx, rfl⟩ := List.mem_map.1 hy
    simp
  · have hz : sumCS ((wsF m es n).map fun x => (⟨x.1, x.2, 0⟩ : SL)) = 0 := by
      unfold sumCS
      rw [List.map_map]
      generalize wsF m es n = l
      induction l with
      | nil => rfl
      | cons a l ih => simp only [List.map_cons, List.sum_cons, Function.comp] at ih ⊢; omega
    obtain ⟨x, hx, rfl⟩ := List.mem_map.1 hy
    rw [hz]
    simp
theorem FairInv.none (m : Int) (es : List Int) (k : Nat) (most : Int) (h0 : 0 ≤ most) (h1 : most ≤ 2047) : FairInv m es 0 k most [] :=
  ⟨⟨List.Pairwise.nil, fun _ h => absurd h List.not_mem_nil, fun _ h => absurd h List.not_mem_nil⟩, rfl, fun _ h => absurd h List.not_mem_nil, h0, h1, fun _ h => absurd h List.not_mem_nil⟩
theorem FairInv.at {m : Int} {es : List Int} {n k : Nat} {most : Int} {ls : List SL} (h : FairInv m es n k most ls) (j : Nat) (hj : j < n) : ∃ x, ls[j]? = some x ∧ (wsF m es n)[j]? = some (x.p, x.w) := by
  have hl := h.len
  refine ⟨_, List.getElem?_eq_getElem (by omega), ?_⟩
  rw [← h.ws, List.getElem?_map, List.getElem?_eq_getElem (by omega)]
  rfl
/-- What the law asks of each path. -/
theorem FairInv.asks {es : List Int} {n k : Nat} {most : Int} {ls : List SL} (h : FairInv 4096 es n k most ls) (hn : n ≤ 6) (hk : k ≤ 150) (j : Nat) (x : SL) (hx : ls[j]? = some x) :
    hadS ls x.p = x.c ∧ 0 ≤ x.c * sumF 4096 es n ∧ x.c * sumF 4096 es n ≤ 1000000000000 ∧ 0 ≤ sumCS ls * x.w ∧ sumCS ls * x.w ≤ 1000000000000 ∧ 0 ≤ most * sumF 4096 es n ∧ most * sumF 4096 es n ≤ 1000000000 ∧
    x.c * sumF 4096 es n - sumCS ls * x.w ≤ most * sumF 4096 es n ∧ sumCS ls * x.w - x.c * sumF 4096 es n ≤ most * sumF 4096 es n * ((n : Int) - 1) := by
  have hm := List.mem_of_getElem? hx
  have hf := h.fair x hm
  have hl := fairS_low most ls h.fair x hm
  rw [h.sum] at hf hl
  rw [h.len] at hl
  have hs := sumF_bd 4096 es (by decide) n
  have hc := h.c x hm
  have hw := h.ok.w0 x hm
  have h0 := h.m0
  have h1 := h.m1
  have hS : 0 ≤ sumCS ls ∧ sumCS ls ≤ 307050 * (n : Int) := by
    rw [← h.len]
    have hcc := h.c
    clear hx hm hf hl hs hc hw h0 h1 h
    induction ls with
    | nil => simp [sumCS]
    | cons a l ih =>
      have h1 := ih (fun y hy => hcc y (List.mem_cons_of_mem _ hy))
      have h2 := hcc a (List.mem_cons_self ..)
      rw [sumCS_cons]
      simp only [List.length_cons]
      omega
  have hs6 : sumF 4096 es n ≤ 24576 := by omega
  have hC : sumCS ls ≤ 1842300 := by omega
  have hc2 : x.c ≤ 307050 := by omega
  refine ⟨hadS_yes h.ok x.p j x hx rfl, Int.mul_nonneg hc.1 hs.1, ?_, Int.mul_nonneg hS.1 (by omega), ?_, Int.mul_nonneg h0 hs.1, ?_, hf, hl⟩
  · have := Int.mul_le_mul hc2 hs6 hs.1 (by decide); omega
  · have := Int.mul_le_mul hC hw.2 (by omega) (by decide); omega
  · have := Int.mul_le_mul h1 hs6 hs.1 (by decide); omega
end Go.Proofs.Ytaiekbhpgbmalaa
