/- A source, and what becomes of it by a number: plain facts. -/
import Derived.Test.YtncpepbpphpkoaaSerMath
namespace Go.Proofs.Ytncpepbpphpkoaa
/-- A source: its numbers. -/
structure SR where
  mx : Int
  cy : Int
  ba : Int
  bd : Int
  pr : Int
  rc : Int
def SR.new (f : Int) : SR := ⟨(f + 65535) % 65536, 0, f, 65537, 2, 0⟩
/-- Behind one number more. -/
def SR.upd (s : SR) (n : Int) : SR × Bool :=
  if 0 < s.pr then
    if n = (s.mx + 1) % 65536 then
      if s.pr = 1 then (⟨n, 0, n, 65537, 0, 1⟩, true) else (⟨n, s.cy, s.ba, s.bd, s.pr - 1, s.rc⟩, false)
    else (⟨n, s.cy, s.ba, s.bd, 1, s.rc⟩, false)
  else if (n - s.mx) % 65536 < 3000 then
    (⟨n, (if n < s.mx then s.cy + 65536 else s.cy), s.ba, s.bd, s.pr, s.rc + 1⟩, true)
  else if 65436 < (n - s.mx) % 65536 then (⟨s.mx, s.cy, s.ba, s.bd, s.pr, s.rc + 1⟩, true)
  else if n = s.bd then (⟨n, 0, n, 65537, s.pr, 1⟩, true)
  else (⟨s.mx, s.cy, s.ba, (n + 1) % 65536, s.pr, s.rc⟩, false)
def SR.high (s : SR) : Int := s.cy + s.mx
def SR.exp (s : SR) : Int := if 0 < s.pr then 0 else s.cy + s.mx - s.ba + 1
/-- Bounds of a source behind k numbers. -/
structure SR.Ok (k : Nat) (s : SR) : Prop where
  m0 : 0 ≤ s.mx
  m1 : s.mx < 65536
  c0 : 0 ≤ s.cy
  c1 : s.cy ≤ 65536 * k
  a0 : 0 ≤ s.ba
  a1 : s.ba < 65536
  d0 : 0 ≤ s.bd
  d1 : s.bd ≤ 65537
  p0 : 0 ≤ s.pr
  p1 : s.pr ≤ 2
  r0 : 0 ≤ s.rc
  r1 : s.rc ≤ k
theorem SR.new_ok (f : Int) (h0 : 0 ≤ f) (h1 : f < 65536) : (SR.new f).Ok 0 := by
  constructor <;> simp only [SR.new] <;> omega
theorem SR.upd_ok {k : Nat} {s : SR} (h : s.Ok k) (n : Int) (h0 : 0 ≤ n) (h1 : n < 65536) : (s.upd n).1.Ok (k + 1) := by
  obtain ⟨m0, m1, c0, c1, a0, a1, d0, d1, p0, p1, r0, r1⟩ := h
  unfold SR.upd
  split
  · split
    · split <;> (constructor <;> simp only [] <;> omega)
    · constructor <;> simp only [] <;> omega
  · split
    · split <;> (constructor <;> simp only [] <;> omega)
    · split
      · constructor <;> simp only [] <;> omega
      · split <;> (constructor <;> simp only [] <;> omega)
theorem SR.Ok.le {k m : Nat} {s : SR} (h : s.Ok k) (hk : k ≤ m) : s.Ok m := by
  obtain ⟨m0, m1, c0, c1, a0, a1, d0, d1, p0, p1, r0, r1⟩ := h
  constructor <;> omega
def tick (b : Bool) : Int := cond b 1 0
theorem tick_bd (b : Bool) : 0 ≤ tick b ∧ tick b ≤ 1 := by cases b <;> simp [tick]
/-- Behind some numbers, and how many of them count. -/
def SR.run (s : SR) : List Int → SR × Int
  | [] => (s, 0)
  | n :: l => (((s.upd n).1.run l).1, tick (s.upd n).2 + ((s.upd n).1.run l).2)
theorem SR.run_snoc (l : List Int) (n : Int) (s : SR) : s.run (l ++ [n]) = (((s.run l).1.upd n).1, (s.run l).2 + tick ((s.run l).1.upd n).2) := by
  induction l generalizing s with
  | nil => simp [SR.run]
  | cons a l ih => simp only [List.cons_append, SR.run, ih]; simp only [Int.add_assoc]
theorem SR.run_step (s : SR) (l : List Int) (k : Nat) (hk : k < l.length) :
    s.run (l.take (k + 1)) = (((s.run (l.take k)).1.upd (l[k]?.getD 0)).1, (s.run (l.take k)).2 + tick ((s.run (l.take k)).1.upd (l[k]?.getD 0)).2) := by
  rw [List.take_succ_eq_append_getElem hk, SR.run_snoc]
  simp [hk]
theorem SR.run_ok {j : Nat} {s : SR} (h : s.Ok j) (l : List Int) (hl : ∀ n ∈ l, 0 ≤ n ∧ n < 65536) : (s.run l).1.Ok (j + l.length) ∧ 0 ≤ (s.run l).2 ∧ (s.run l).2 ≤ l.length := by
  induction l generalizing s j with
  | nil => exact ⟨h.le (by simp), by simp [SR.run], by simp [SR.run]⟩
  | cons n l ih =>
    have h2 := ih (SR.upd_ok h n (hl n (by simp)).1 (hl n (by simp)).2) (fun m hm => hl m (by simp [hm]))
    refine ⟨?_, ?_, ?_⟩
    · simp only [SR.run]; exact h2.1.le (by simp; omega)
    · simp only [SR.run]; have := h2.2.1; have := tick_bd (s.upd n).2; omega
    · simp only [SR.run, List.length_cons]; have := h2.2.2; have := tick_bd (s.upd n).2; omega
/-- Two numbers, one behind the other. -/
theorem SR.two (f : Int) (h0 : 0 ≤ f) (h1 : f < 65536) : (SR.new f).run [f, (f + 1) % 65536] = (⟨(f + 1) % 65536, 0, (f + 1) % 65536, 65537, 0, 1⟩, 1) := by
  have e1 : f = ((SR.new f).mx + 1) % 65536 := by simp only [SR.new]; omega
  have u1 : (SR.new f).upd f = (⟨f, 0, f, 65537, 1, 0⟩, false) := by
    unfold SR.upd
    rw [if_pos (by simp [SR.new]), if_pos e1]
    simp [SR.new]
  simp only [SR.run, u1]
  have u2 : (⟨f, 0, f, 65537, 1, 0⟩ : SR).upd ((f + 1) % 65536) = (⟨(f + 1) % 65536, 0, (f + 1) % 65536, 65537, 0, 1⟩, true) := by
    simp [SR.upd]
  rw [u2]
  simp [tick]
end Go.Proofs.Ytncpepbpphpkoaa
