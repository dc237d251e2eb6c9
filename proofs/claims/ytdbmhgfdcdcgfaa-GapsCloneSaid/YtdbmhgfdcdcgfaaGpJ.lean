/- gaps: what Due leaves, and asks for (plain facts). -/
import Derived.Test.YtdbmhgfdcdcgfaaGpI
namespace Go.Proofs.Ytdbmhgfdcdcgfaa
open Go.RowKit
set_option linter.unusedVariables false
set_option linter.unusedSimpArgs false
/-- One that is wanting, behind a Due: it stays, is asked for, or is given up. -/
def duK1 (c : GC) (now : Int) (x : GW) : List GW := if now < x.at_ then [x] else if (x.k : Int) < c.t then [⟨x.n, now + wtR c.a x.k, x.k + 1⟩] else []
def duD1 (c : GC) (now : Int) (x : GW) : List Int := if now < x.at_ then [] else if (x.k : Int) < c.t then [x.n] else []
def gpDueK (c : GC) (now : Int) (l : List GW) : List GW := l.flatMap (duK1 c now)
def gpDueD (c : GC) (now : Int) (l : List GW) : List Int := l.flatMap (duD1 c now)
theorem gpDueK_take (c : GC) (now : Int) (l : List GW) (i : Nat) (r : GW) (h : l[i]? = some r) : gpDueK c now (l.take (i + 1)) = gpDueK c now (l.take i) ++ duK1 c now r := by
  unfold gpDueK
  rw [List.take_add_one, h, List.flatMap_append]
  simp
theorem gpDueD_take (c : GC) (now : Int) (l : List GW) (i : Nat) (r : GW) (h : l[i]? = some r) : gpDueD c now (l.take (i + 1)) = gpDueD c now (l.take i) ++ duD1 c now r := by
  unfold gpDueD
  rw [List.take_add_one, h, List.flatMap_append]
  simp
theorem duK1_len (c : GC) (now : Int) (x : GW) : (duK1 c now x).length ≤ 1 := by
  unfold duK1
  split
  · simp
  · split <;> simp
theorem duD1_len (c : GC) (now : Int) (x : GW) : (duD1 c now x).length ≤ 1 := by
  unfold duD1
  split
  · simp
  · split <;> simp
theorem gpDueK_len (c : GC) (now : Int) (l : List GW) : (gpDueK c now l).length ≤ l.length := by
  induction l with
  | nil => simp [gpDueK]
  | cons x xs ih =>
    have h1 := duK1_len c now x
    simp only [gpDueK, List.flatMap_cons, List.length_append, List.length_cons] at ih ⊢
    omega
theorem gpDueD_len (c : GC) (now : Int) (l : List GW) : (gpDueD c now l).length ≤ l.length := by
  induction l with
  | nil => simp [gpDueD]
  | cons x xs ih =>
    have h1 := duD1_len c now x
    simp only [gpDueD, List.flatMap_cons, List.length_append, List.length_cons] at ih ⊢
    omega
theorem duK1_mem (c : GC) (now : Int) (x y : GW) (h : y ∈ duK1 c now x) : y = x ∨ (y = ⟨x.n, now + wtR c.a x.k, x.k + 1⟩ ∧ (x.k : Int) < c.t) := by
  unfold duK1 at h
  split at h
  · simp at h; exact .inl h
  · split at h
    · simp at h; exact .inr ⟨h, by assumption⟩
    · simp at h
theorem duK1_n (c : GC) (now : Int) (x y : GW) (h : y ∈ duK1 c now x) : y.n = x.n := by
  rcases duK1_mem c now x y h with rfl | ⟨rfl, _⟩ <;> rfl
theorem gpDueK_up (c : GC) (now : Int) (l : List GW) (h : GpUp l) : GpUp (gpDueK c now l) := by
  unfold gpDueK GpUp
  rw [List.pairwise_flatMap]
  refine ⟨fun a _ => ?_, h.imp fun hab x hx y hy => by rw [duK1_n _ _ _ _ hx, duK1_n _ _ _ _ hy]; exact hab⟩
  have h1 := duK1_len c now a
  match hz : duK1 c now a, h1 with
  | [], _ => exact List.Pairwise.nil
  | [x], _ => exact List.pairwise_singleton _ _
  | _ :: _ :: _, h1 => simp at h1
theorem gpDue_in {W w : World} {base gg : Nat} {c : GC} {cm : Bool} {gr : Int} {v v' : Value} {l : List GW} {gv gv' : Int} (h : GIn w base gg c cm gr v l gv) (now : Int) (hnow : 0 ≤ now ∧ now ≤ 1099511627776)
    (h8 : At8 57 W gg (.int .i64 c.m) (.int .i64 c.t) (.int .i64 c.f) (.int .i64 c.a) (.bool cm) (.int .i64 gr) v' (.int .i64 gv')) (N : Nat) (hO : OwnE W base 69 4 v' N (gpV c.a (gpDueK c now l))) :
    GIn W base gg c cm gr v' (gpDueK c now l) gv' := by
  have hN : N = (gpDueK c now l).length := by have := hO.1.1; rw [gpV_len] at this; omega
  subst hN
  have hle := gpDueK_len c now l
  have hlen := h.len
  obtain ⟨_, ⟨ht0, ht1⟩, _, ha⟩ := h.ok
  have hmem : ∀ y ∈ gpDueK c now l, ∃ x ∈ l, y = x ∨ (y = ⟨x.n, now + wtR c.a x.k, x.k + 1⟩ ∧ (x.k : Int) < c.t) := fun y hy => by
    obtain ⟨x, hx, hy⟩ := List.mem_flatMap.1 hy
    exact ⟨x, hx, duK1_mem c now x y hy⟩
  refine ⟨h.bs, h8, hO, h.ok, by omega, gpDueK_up c now l h.up, h.gb, fun y hy => ?_, fun y hy => ?_⟩
  · obtain ⟨x, hx, rfl | ⟨rfl, _⟩⟩ := hmem y hy
    · exact h.nb _ hx
    · exact h.nb x hx
  · obtain ⟨x, hx, rfl | ⟨rfl, hk⟩⟩ := hmem y hy
    · exact h.ab _ hx
    · have hw := wtR_bd c.a ha x.k
      show 0 ≤ now + wtR c.a x.k ∧ now + wtR c.a x.k ≤ 1099512676352 ∧ x.k + 1 ≤ 100
      omega

end Go.Proofs.Ytdbmhgfdcdcgfaa
