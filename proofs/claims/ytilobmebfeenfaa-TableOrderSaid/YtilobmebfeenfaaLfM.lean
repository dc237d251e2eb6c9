/- life: plain facts. -/
import Derived.Test.YtilobmebfeenfaaRow
namespace Go.Proofs.Ytilobmebfeenfaa
open Go.RowKit
set_option linter.unusedVariables false
/-- Brought among the two. -/
def am (a n b : Int) : Int := min (max n a) b
theorem am_lo (a n b : Int) (h : a ≤ b) : a ≤ am a n b := by unfold am; omega
theorem am_hi (a n b : Int) : am a n b ≤ b := by unfold am; omega
theorem am_in (a n b : Int) (h : a ≤ n) (k : n ≤ b) : am a n b = n := by unfold am; omega
theorem am_alt (a n b : Int) (h : a ≤ b) : max a (min n b) = am a n b := by unfold am; omega
/-- A Config; as it counts. -/
structure LC where
  t : Int
  lo : Int
  hi : Int
  st : Int
def LC.clip (c : LC) : LC := ⟨am 1 c.t 1048576, am 0 c.lo 255, am (am 0 c.lo 255) c.hi 255, am 1 c.st 100⟩
structure LC.Ok (c : LC) : Prop where
  t0 : 1 ≤ c.t
  t1 : c.t ≤ 1048576
  l0 : 0 ≤ c.lo
  l1 : c.lo ≤ c.hi
  h1 : c.hi ≤ 255
  s0 : 1 ≤ c.st
  s1 : c.st ≤ 100
theorem LC.clip_ok (c : LC) : c.clip.Ok := by
  constructor <;> simp only [LC.clip, am] <;> omega
/-- A Life; as it counts. -/
structure LL where
  s : Int
  h : Int
  k : Int
def stk (s : Int) : Int := if s < 0 ∨ 3 < s then 3 else s
def LL.cnt (l : LL) : LL := ⟨stk l.s, am 0 l.h 1099511627776, max l.k 0⟩
structure LL.Ok (l : LL) : Prop where
  s0 : 0 ≤ l.s
  s1 : l.s ≤ 3
  h0 : 0 ≤ l.h
  h1 : l.h ≤ 1099511627776
  k0 : 0 ≤ l.k
theorem stk_in (s : Int) : 0 ≤ stk s ∧ stk s ≤ 3 := by unfold stk; split <;> omega
theorem stk_id (s : Int) (h0 : 0 ≤ s) (h1 : s ≤ 3) : stk s = s := by unfold stk; rw [if_neg (by omega)]
theorem LL.cnt_ok (l : LL) : l.cnt.Ok := by
  have := stk_in l.s
  constructor <;> simp only [LL.cnt, am] <;> omega
theorem LL.cnt_id {l : LL} (h : l.Ok) : l.cnt = l := by
  obtain ⟨s, hh, k⟩ := l
  obtain ⟨a, b, c, d, e⟩ := h
  simp only [LL.cnt, LL.mk.injEq]
  exact ⟨stk_id _ a b, am_in _ _ _ c d, by simp only at e; omega⟩
/-- What a State becomes by a low report, by a high one. -/
def bLow (s : Int) : Int := if s = 3 then 0 else 1
def bHigh (s : Int) : Int := if s = 1 then 2 else s
/-- Behind a report, at a Config that counts. -/
def LL.rep (l : LL) (c : LC) (f now : Int) : LL :=
  if f ≤ c.lo then ⟨bLow l.s, now, 0⟩
  else if c.hi < f then (if l.s = 3 ∨ c.st - 1 ≤ l.k then ⟨3, now, 0⟩ else ⟨bHigh l.s, now, l.k + 1⟩)
  else ⟨l.s, now, l.k⟩
def LL.tick (l : LL) (c : LC) (now : Int) : LL := if l.s = 3 ∨ now - l.h ≤ c.t then l else ⟨3, l.h, 0⟩
theorem LL.rep_ok {l : LL} (h : l.Ok) (c : LC) (f now : Int) (n0 : 0 ≤ now) (n1 : now ≤ 1099511627776) : (l.rep c f now).Ok := by
  obtain ⟨a, b, c1, d, e⟩ := h
  unfold LL.rep bLow bHigh
  repeat' split
  all_goals constructor <;> simp only <;> omega
theorem LL.tick_ok {l : LL} (h : l.Ok) (c : LC) (now : Int) : (l.tick c now).Ok := by
  obtain ⟨a, b, c1, d, e⟩ := h
  unfold LL.tick
  split
  · exact ⟨a, b, c1, d, e⟩
  · constructor <;> simp only <;> omega
/-- The weight of a life that counts. -/
def wgt (s r : Int) : Int := if s = 3 then 0 else if s = 0 then max (r / 4) 1 else if s = 1 then r else max (r / 2) 1
end Go.Proofs.Ytilobmebfeenfaa
