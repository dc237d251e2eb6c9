/- pace: plain facts. -/
import Derived.Test.YtgmggilnhkdceaaRow
namespace Go.Proofs.Ytgmggilnhkdceaa
set_option linter.unusedVariables false
/-- A pace: its rate, its burst, what there is, and since when. -/
structure PP where
  r : Int
  b : Int
  k : Int
  l : Int
/-- With numbers that count. -/
def PP.fit (p : PP) : PP :=
  ⟨max 1 (min p.r 65535), max 1 (min p.b 1048576), max 0 (min p.k (max 1 (min p.b 1048576))), max 0 (min p.l 1099511627776)⟩
structure PP.Ok (p : PP) : Prop where
  r0 : 1 ≤ p.r
  r1 : p.r ≤ 65535
  b0 : 1 ≤ p.b
  b1 : p.b ≤ 1048576
  k0 : 0 ≤ p.k
  k1 : p.k ≤ p.b
  l0 : 0 ≤ p.l
  l1 : p.l ≤ 1099511627776
theorem PP.fit_ok (p : PP) : p.fit.Ok := by
  constructor <;> simp only [PP.fit] <;> omega
theorem PP.fit_id (p : PP) (h : p.Ok) : p.fit = p := by
  obtain ⟨r, b, k, l⟩ := p
  obtain ⟨a0, a1, a2, a3, a4, a5, a6, a7⟩ := h
  simp only at a0 a1 a2 a3 a4 a5 a6 a7
  have e1 : max 1 (min r 65535) = r := by omega
  have e2 : max 1 (min b 1048576) = b := by omega
  have e3 : max 0 (min k b) = k := by omega
  have e4 : max 0 (min l 1099511627776) = l := by omega
  simp only [PP.fit, e1, e2, e3, e4]
/-- What there is so many ticks later (of a pace that counts). -/
def PP.upA (p : PP) (d : Int) : Int := if 0 < d then min p.b (p.k + p.r * d) else p.k
theorem PP.mul_nn (p : PP) (h : p.Ok) (d : Int) (hd : 0 ≤ d) : d ≤ p.r * d := by
  have e := Int.mul_le_mul_of_nonneg_right h.r0 hd
  omega
theorem PP.mul_mono (p : PP) (h : p.Ok) (c d : Int) (hd : c ≤ d) : p.r * c ≤ p.r * d := by
  have := h.r0
  exact Int.mul_le_mul_of_nonneg_left hd (by omega)
/-- Many ticks later there is the whole burst. -/
theorem PP.upA_far (p : PP) (h : p.Ok) (d : Int) (hd : 1048576 ≤ d) : p.upA d = p.b := by
  have e := p.mul_nn h d (by omega)
  have := h.b1
  have := h.k0
  unfold PP.upA
  rw [if_pos (by omega)]
  omega
theorem PP.upA_bd (p : PP) (h : p.Ok) (d : Int) : 0 ≤ p.upA d ∧ p.upA d ≤ p.b := by
  have := h.b0
  have := h.k0
  have := h.k1
  unfold PP.upA
  split
  case isTrue g =>
    have e := p.mul_nn h d (by omega)
    omega
  case isFalse => omega
/-- The product stays small where it is taken. -/
theorem PP.mul_small (p : PP) (h : p.Ok) (d : Int) (h0 : 0 ≤ d) (hd : d < 1048576) : 0 ≤ p.r * d ∧ p.r * d < 68719476736 := by
  have e := p.mul_nn h d h0
  have e1 := Int.mul_le_mul_of_nonneg_right h.r1 h0
  omega
theorem PP.upA_mono (p : PP) (h : p.Ok) (c d : Int) (hd : c ≤ d) : p.upA c ≤ p.upA d := by
  have := h.k1
  have e := p.mul_mono h c d hd
  have e1 := p.upA_bd h d
  unfold PP.upA at e1 ⊢
  split <;> split
  case isTrue.isTrue => omega
  case isTrue.isFalse => omega
  case isFalse.isTrue g1 g2 =>
    have e2 := p.mul_nn h d (by omega)
    omega
  case isFalse.isFalse => omega
/-- A tick as it counts, above. -/
def clkT (n : Int) : Int := min n 1099511627776
/-- At a tick. -/
def PP.at (p : PP) (now : Int) : PP :=
  ⟨p.fit.r, p.fit.b, p.fit.upA (clkT now - p.fit.l), max p.fit.l (clkT now)⟩
theorem PP.at_ok (p : PP) (now : Int) : (p.at now).Ok := by
  have h := p.fit_ok
  have e := p.fit.upA_bd h (clkT now - p.fit.l)
  obtain ⟨a0, a1, a2, a3, a4, a5, a6, a7⟩ := h
  constructor <;> simp only [PP.at, clkT] at e ⊢ <;> omega
/-- Some go out. -/
def PP.can (p : PP) (now n : Int) : Prop := n ≤ (p.at now).k
instance (p : PP) (now n : Int) : Decidable (p.can now n) := inferInstanceAs (Decidable (n ≤ (p.at now).k))
def PP.take (p : PP) (now n : Int) : PP :=
  if p.can now n then ⟨(p.at now).r, (p.at now).b, (p.at now).k - max 0 n, (p.at now).l⟩ else p.at now
theorem PP.take_yes (p : PP) (now n : Int) (h : p.can now n) : p.take now n = ⟨(p.at now).r, (p.at now).b, (p.at now).k - max 0 n, (p.at now).l⟩ := if_pos h
theorem PP.take_no (p : PP) (now n : Int) (h : ¬p.can now n) : p.take now n = p.at now := if_neg h
theorem PP.take_ok (p : PP) (now n : Int) : (p.take now n).Ok := by
  have h := p.at_ok now
  by_cases hc : p.can now n
  case neg => rw [p.take_no now n hc]; exact h
  case pos =>
    rw [p.take_yes now n hc]
    obtain ⟨a0, a1, a2, a3, a4, a5, a6, a7⟩ := h
    unfold PP.can at hc
    constructor <;> simp only <;> omega
/-- Another rate. -/
def PP.chg (p : PP) (now rate : Int) : PP := ⟨max 1 (min rate 65535), (p.at now).b, (p.at now).k, (p.at now).l⟩
theorem PP.chg_ok (p : PP) (now rate : Int) : (p.chg now rate).Ok := by
  obtain ⟨a0, a1, a2, a3, a4, a5, a6, a7⟩ := p.at_ok now
  constructor <;> simp only [PP.chg] <;> omega
/-- More and less: what can be taken can be later, and less of it. -/
theorem PP.can_later (p : PP) (c d n : Int) (hd : c ≤ d) (h : p.can c n) : p.can d n := by
  have e := p.fit.upA_mono p.fit_ok (clkT c - p.fit.l) (clkT d - p.fit.l) (by unfold clkT; omega)
  unfold PP.can at h ⊢
  simp only [PP.at] at h ⊢
  omega
theorem PP.can_less (p : PP) (now m n : Int) (hd : m ≤ n) (h : p.can now n) : p.can now m := Int.le_trans hd h
theorem PP.take_less (p : PP) (now m n : Int) (hd : m ≤ n) (h : p.can now n) : (p.take now n).k ≤ (p.take now m).k := by
  rw [p.take_yes now n h, p.take_yes now m (p.can_less now m n hd h)]
  simp only
  omega
/-- So many ticks it takes: the least number of ticks that bring as much. -/
def ticksFor (r d : Int) : Int := (d + r - 1) / r
theorem ticksFor_bd (r d : Int) (hr : 1 ≤ r) : d ≤ r * ticksFor r d ∧ r * (ticksFor r d - 1) < d := by
  have e := Int.mul_ediv_add_emod (d + r - 1) r
  have e0 := Int.emod_nonneg (d + r - 1) (show r ≠ 0 by omega)
  have e1 := Int.emod_lt_of_pos (d + r - 1) (show 0 < r by omega)
  have e2 : r * (ticksFor r d - 1) = r * ticksFor r d - r := by rw [Int.mul_sub, Int.mul_one]
  unfold ticksFor at e2 ⊢
  rw [e2]
  omega
theorem ticksFor_pos (r d : Int) (hr : 1 ≤ r) (hd : 0 < d) : 1 ≤ ticksFor r d := by
  have e := (ticksFor_bd r d hr).1
  by_cases h : 1 ≤ ticksFor r d
  case pos => exact h
  case neg =>
    have e1 := Int.mul_le_mul_of_nonneg_left (show ticksFor r d ≤ 0 by omega) (show 0 ≤ r by omega)
    rw [Int.mul_zero] at e1
    omega
theorem ticksFor_le (r d : Int) (hr : 1 ≤ r) (hd : 0 ≤ d) : ticksFor r d ≤ d := by
  have e := (ticksFor_bd r d hr).2
  by_cases h : ticksFor r d ≤ d
  case pos => exact h
  case neg =>
    have e1 := Int.mul_le_mul_of_nonneg_right hr (show 0 ≤ ticksFor r d - 1 by omega)
    omega
/-- The first tick at which so much can be taken; -1: there is none. -/
def PP.when (p : PP) (n : Int) : Int :=
  if n ≤ p.fit.k then p.fit.l
  else if p.fit.b < n then -1
  else if 1099511627776 < p.fit.l + ticksFor p.fit.r (n - p.fit.k) then -1
  else p.fit.l + ticksFor p.fit.r (n - p.fit.k)
theorem PP.can_iff (p : PP) (now n : Int) (hk : ¬n ≤ p.fit.k) (hb : n ≤ p.fit.b) :
    p.can now n ↔ ticksFor p.fit.r (n - p.fit.k) ≤ clkT now - p.fit.l := by
  have h := p.fit_ok
  obtain ⟨f1, f2⟩ := ticksFor_bd p.fit.r (n - p.fit.k) h.r0
  have f3 := ticksFor_pos p.fit.r (n - p.fit.k) h.r0 (by omega)
  unfold PP.can
  simp only [PP.at, PP.upA]
  constructor
  · intro g
    by_cases hc : ticksFor p.fit.r (n - p.fit.k) ≤ clkT now - p.fit.l
    case pos => exact hc
    case neg =>
      split at g
      case isTrue g1 =>
        have e := p.fit.mul_mono h (clkT now - p.fit.l) (ticksFor p.fit.r (n - p.fit.k) - 1) (by omega)
        omega
      case isFalse g1 => omega
  · intro g
    rw [if_pos (by omega)]
    have e := p.fit.mul_mono h _ _ g
    omega
/-- None: there are never so many, or it is beyond the last tick. -/
theorem PP.when_none (p : PP) (n : Int) (h : p.when n = -1) : p.fit.b < n ∨ ¬p.can 1099511627776 n := by
  have hk := p.fit_ok
  have a0 := hk.l0
  unfold PP.when at h
  split at h
  case isTrue => omega
  case isFalse g1 =>
    split at h
    case isTrue g2 => exact Or.inl g2
    case isFalse g2 =>
      have f3 := ticksFor_pos p.fit.r (n - p.fit.k) hk.r0 (by omega)
      split at h
      case isTrue g3 =>
        refine Or.inr fun c => ?_
        have := (p.can_iff 1099511627776 n g1 (by omega)).1 c
        simp only [clkT] at this
        omega
      case isFalse g3 => omega
theorem PP.when_some (p : PP) (n : Int) (h : p.when n ≠ -1) :
    p.can (p.when n) n ∧ p.fit.l ≤ p.when n ∧ p.when n ≤ 1099511627776 ∧ (p.when n = p.fit.l ∨ ¬p.can (p.when n - 1) n) := by
  have hk := p.fit_ok
  have a0 := hk.l0
  have a1 := hk.l1
  by_cases g1 : n ≤ p.fit.k
  case pos =>
    have e : p.when n = p.fit.l := if_pos g1
    rw [e]
    refine ⟨?_, Int.le_refl _, a1, Or.inl rfl⟩
    have e1 : p.fit.upA (clkT p.fit.l - p.fit.l) = p.fit.k := if_neg (by unfold clkT; omega)
    unfold PP.can
    simp only [PP.at]
    rw [e1]
    exact g1
  case neg =>
    have e0 : p.when n = if p.fit.b < n then -1 else if 1099511627776 < p.fit.l + ticksFor p.fit.r (n - p.fit.k) then -1 else p.fit.l + ticksFor p.fit.r (n - p.fit.k) := if_neg g1
    by_cases g2 : p.fit.b < n
    case pos => rw [e0, if_pos g2] at h; exact absurd rfl h
    case neg =>
      rw [if_neg g2] at e0
      by_cases g3 : 1099511627776 < p.fit.l + ticksFor p.fit.r (n - p.fit.k)
      case pos => rw [e0, if_pos g3] at h; exact absurd rfl h
      case neg =>
        rw [if_neg g3] at e0
        have f3 := ticksFor_pos p.fit.r (n - p.fit.k) hk.r0 (by omega)
        rw [e0]
        refine ⟨(p.can_iff _ n g1 (by omega)).2 (by simp only [clkT]; omega), by omega, by omega, Or.inr fun c => ?_⟩
        have := (p.can_iff _ n g1 (by omega)).1 c
        simp only [clkT] at this
        omega
/-- BOUND: what was taken from a tick on, with what there is, is no more than the burst and the rate for each tick. -/
structure Held (r b now k : Int) (h : List (Int × Int)) : Prop where
  all : ∀ i, i < h.length → ((h.take (i + 1)).map (·.2)).sum + k ≤ b + r * (now - (h.getD i (0, 0)).1)
theorem held_nil (r b now k : Int) : Held r b now k [] := ⟨fun i hi => absurd hi (by simp)⟩
theorem held_step (r b now k : Int) (h : List (Int × Int)) (g : Held r b now k h) (t n k' : Int) (h0 : k' + n ≤ b) (h1 : k' + n ≤ k + r * (t - now)) : Held r b t k' ((t, n) :: h) := by
  refine ⟨fun i hi => ?_⟩
  cases i with
  | zero =>
    simp only [Nat.zero_add, List.take_succ_cons, List.take_zero, List.map_cons, List.map_nil, List.sum_cons, List.sum_nil, List.getD_cons_zero, Int.sub_self, Int.mul_zero]
    omega
  | succ i =>
    have e := g.all i (by simpa using hi)
    simp only [List.take_succ_cons, List.map_cons, List.sum_cons, List.getD_cons_succ]
    have e1 : r * (t - (h.getD i (0, 0)).1) = r * (t - now) + r * (now - (h.getD i (0, 0)).1) := by
      rw [← Int.mul_add]
      congr 1
      omega
    rw [e1]
    omega
/-- One more Take keeps it. -/
theorem PP.held_take (p : PP) (hp : p.Ok) (h : List (Int × Int)) (g : Held p.r p.b p.l p.k h) (t n : Int) (ht : p.l ≤ t) (h1 : t ≤ 1099511627776) (h0 : 0 ≤ n) :
    Held p.r p.b t (p.take t n).k ((t, if p.can t n then n else 0) :: h) ∧ (p.take t n).r = p.r ∧ (p.take t n).b = p.b ∧ (p.take t n).l = t := by
  have e := p.fit_id hp
  have ek : (p.at t).k = p.upA (t - p.l) := by
    simp only [PP.at, e, clkT]
    rw [Int.min_eq_left h1]
  have el : (p.at t).l = t := by
    simp only [PP.at, e, clkT]
    omega
  have er : (p.at t).r = p.r := by simp only [PP.at, e]
  have eb : (p.at t).b = p.b := by simp only [PP.at, e]
  have hb := p.upA_bd hp (t - p.l)
  have hu : p.upA (t - p.l) ≤ p.k + p.r * (t - p.l) := by
    have hm := p.mul_nn hp (t - p.l) (by omega)
    unfold PP.upA
    split <;> omega
  by_cases hc : p.can t n
  case pos =>
    have hc' := hc
    unfold PP.can at hc'
    rw [ek] at hc'
    rw [p.take_yes t n hc, if_pos hc]
    refine ⟨held_step p.r p.b p.l p.k h g t n _ ?_ ?_, er, eb, el⟩
    · simp only [ek]; omega
    · simp only [ek]; omega
  case neg =>
    rw [p.take_no t n hc, if_neg hc]
    refine ⟨held_step p.r p.b p.l p.k h g t 0 _ ?_ ?_, er, eb, el⟩
    · rw [ek]; omega
    · rw [ek]; omega
/-- So no more is taken than the burst, and the rate for each tick. -/
theorem held_bound (r b now k : Int) (h : List (Int × Int)) (g : Held r b now k h) (hk : 0 ≤ k) (i : Nat) (hi : i < h.length) :
    ((h.take (i + 1)).map (·.2)).sum ≤ b + r * (now - (h.getD i (0, 0)).1) := by
  have := g.all i hi
  omega
end Go.Proofs.Ytgmggilnhkdceaa
