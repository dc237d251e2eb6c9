/- delay: plain facts. -/
import Derived.Test.YtkefpedijjbmfaaLfM
namespace Go.Proofs.Ytkefpedijjbmfaa
open Go.RowKit
set_option linter.unusedVariables false
/-- A Delay: the least, the most, now. -/
structure DL where
  a : Int
  b : Int
  c : Int
def DL.val (d : DL) : Value := .agg #[.int .i64 d.a, .int .i64 d.b, .int .i64 d.c]
/-- As it counts. -/
def DL.fit (d : DL) : DL := ⟨am 0 d.a 1048576, max (am 0 d.b 1048576) (am 0 d.a 1048576), am (am 0 d.a 1048576) d.c (max (am 0 d.b 1048576) (am 0 d.a 1048576))⟩
structure DL.Ok (d : DL) : Prop where
  a0 : 0 ≤ d.a
  ab : d.a ≤ d.b
  b1 : d.b ≤ 1048576
  ac : d.a ≤ d.c
  cb : d.c ≤ d.b
theorem DL.fit_ok (d : DL) : d.fit.Ok := by
  constructor <;> simp only [DL.fit, am] <;> omega
theorem DL.Ok.fit {d : DL} (h : d.Ok) : d.fit = d := by
  obtain ⟨a, b, c⟩ := d
  obtain ⟨h0, h1, h2, h3, h4⟩ := h
  simp only at h0 h1 h2 h3 h4
  simp only [DL.fit, am, DL.mk.injEq]
  refine ⟨?_, ?_, ?_⟩ <;> omega
theorem DL.fit_ref (a b c : Int) : DL.fit ⟨a, b, c⟩ = ⟨max 0 (min a 1048576), max (max 0 (min a 1048576)) (min b 1048576), max (max 0 (min a 1048576)) (min c (max (max 0 (min a 1048576)) (min b 1048576)))⟩ := by
  simp only [DL.fit, am, DL.mk.injEq]
  refine ⟨?_, ?_, ?_⟩ <;> omega
/-- New's. -/
theorem DL.fit_new (a b : Int) : DL.fit ⟨a, b, 0⟩ = DL.fit ⟨a, b, a⟩ := by
  simp only [DL.fit, am, DL.mk.injEq]
  refine ⟨trivial, trivial, ?_⟩; omega
/-- What is wanted with that jitter. -/
def DL.want (d : DL) (j : Int) : Int := min (d.a + 4 * am 0 j 1048576) d.b
def jitC (w c : Int) : Int := if c < w then w else if w < c then c - 1 else c
def DL.jit (d : DL) (j : Int) : DL := ⟨d.fit.a, d.fit.b, jitC (d.fit.want j) d.fit.c⟩
def DL.late (d : DL) (j : Int) : DL := ⟨d.fit.a, d.fit.b, min (d.fit.c + am 0 j 1048576) d.fit.b⟩
theorem DL.jit_ok (d : DL) (j : Int) : (d.jit j).Ok := by
  have h := d.fit_ok
  obtain ⟨h0, h1, h2, h3, h4⟩ := h
  unfold DL.jit DL.want jitC am
  constructor <;> simp only <;> (try split) <;> (try split) <;> omega
theorem DL.late_ok (d : DL) (j : Int) : (d.late j).Ok := by
  have h := d.fit_ok
  obtain ⟨h0, h1, h2, h3, h4⟩ := h
  unfold DL.late am
  constructor <;> simp only <;> omega
theorem DL.jit_mono (d : DL) (j k : Int) (h : j ≤ k) : (d.jit j).c ≤ (d.jit k).c := by
  unfold DL.jit DL.want jitC am
  simp only
  split <;> split <;> (try split) <;> (try split) <;> omega
theorem DL.late_mono (d : DL) (j k : Int) (h : j ≤ k) : (d.late j).c ≤ (d.late k).c := by
  unfold DL.late am
  simp only
  omega
/-- Behind jitters, one behind the other. -/
def DL.run (d : DL) (l : List Int) : DL := l.foldl DL.jit d.fit
theorem DL.run_nil (d : DL) : d.run [] = d.fit := rfl
theorem DL.run_step (d : DL) (l : List Int) (k : Nat) (hk : k < l.length) : d.run (l.take (k + 1)) = (d.run (l.take k)).jit (l[k]?.getD 0) := by
  unfold DL.run
  rw [List.take_succ_eq_append_getElem hk, List.foldl_append]
  simp [hk]
theorem DL.run_ok (d : DL) (l : List Int) : (d.run l).Ok := by
  unfold DL.run
  have h := d.fit_ok
  generalize d.fit = q at h
  induction l generalizing q with
  | nil => exact h
  | cons x l ih => exact ih _ (q.jit_ok x)
/-- With jitter 0 it falls by one. -/
theorem DL.jit0 (d : DL) (h : d.Ok) : d.jit 0 = ⟨d.a, d.b, max d.a (d.c - 1)⟩ := by
  unfold DL.jit
  rw [h.fit]
  obtain ⟨h0, h1, h2, h3, h4⟩ := h
  unfold DL.want jitC am
  simp only [DL.mk.injEq, true_and]
  split <;> (try split) <;> omega
theorem DL.run_zeros (d : DL) (h : d.Ok) (n : Nat) : d.run (List.replicate n 0) = ⟨d.a, d.b, max d.a (d.c - n)⟩ := by
  unfold DL.run
  rw [h.fit]
  induction n generalizing d with
  | zero =>
    obtain ⟨h0, h1, h2, h3, h4⟩ := h
    obtain ⟨a, b, c⟩ := d
    simp only at h3
    simp only [List.replicate, List.foldl_nil, DL.mk.injEq, true_and]
    omega
  | succ n ih =>
    rw [List.replicate_succ, List.foldl_cons, ih (d.jit 0) (d.jit_ok 0), d.jit0 h]
    obtain ⟨h0, h1, h2, h3, h4⟩ := h
    simp only [DL.mk.injEq, true_and]
    omega
/-- Anew, with that jitter. -/
theorem DL.fresh (l m j : Int) (l0 : 0 ≤ l) (l1 : l ≤ 255) (m0 : 0 ≤ m) (m1 : m ≤ 255) : (DL.fit ⟨l, l + m, 0⟩).jit j = ⟨l, l + m, min (l + m) (l + 4 * max 0 (min j 1048576))⟩ := by
  have e : DL.fit ⟨l, l + m, 0⟩ = ⟨l, l + m, l⟩ := by
    simp only [DL.fit, am, DL.mk.injEq]
    refine ⟨?_, ?_, ?_⟩ <;> omega
  have ho : (DL.mk l (l + m) l).Ok := by constructor <;> simp only <;> omega
  rw [e]
  unfold DL.jit
  rw [ho.fit]
  unfold DL.want jitC am
  simp only [DL.mk.injEq, true_and]
  split <;> (try split) <;> omega
end Go.Proofs.Ytkefpedijjbmfaa
