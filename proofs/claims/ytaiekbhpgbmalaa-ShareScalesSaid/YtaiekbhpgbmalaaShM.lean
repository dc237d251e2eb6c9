/- share: plain facts: who is next; FAIR; weights that are all so many times as great. -/
import Derived.Test.YtaiekbhpgbmalaaRow
namespace Go.Proofs.Ytaiekbhpgbmalaa
set_option linter.unusedVariables false
/-- A load: its path, its weight, what it carried. -/
structure SL where
  p : Int
  w : Int
  c : Int
/-- The first of those that carried least by their weight. -/
def minS : SL → List SL → SL
  | b, [] => b
  | b, x :: l => minS (if x.c * b.w < b.c * x.w then x else b) l
theorem minS_mem (l : List SL) : ∀ b : SL, minS b l ∈ b :: l := by
  induction l with
  | nil => intro b; exact List.mem_cons_self ..
  | cons x l ih =>
    intro b
    have e := ih (if x.c * b.w < b.c * x.w then x else b)
    have e1 : minS b (x :: l) = minS (if x.c * b.w < b.c * x.w then x else b) l := rfl
    rw [e1]
    rcases List.mem_cons.1 e with h | h
    · rw [h]
      split
      · exact List.mem_cons_of_mem _ (List.mem_cons_self ..)
      · exact List.mem_cons_self ..
    · exact List.mem_cons_of_mem _ (List.mem_cons_of_mem _ h)
/-- No more by its weight. -/
def leS (x y : SL) : Prop := x.c * y.w ≤ y.c * x.w
theorem leS_refl (x : SL) : leS x x := Int.le_refl _
theorem leS_trans (x y z : SL) (hx : 0 < x.w) (hy : 0 < y.w) (hz : 0 < z.w) (h : leS x y) (g : leS y z) : leS x z := by
  unfold leS at h g ⊢
  have e1 := Int.mul_le_mul_of_nonneg_right h (show 0 ≤ z.w by omega)
  have e2 := Int.mul_le_mul_of_nonneg_right g (show 0 ≤ x.w by omega)
  have e3 : y.c * x.w * z.w = y.c * z.w * x.w := by rw [Int.mul_assoc, Int.mul_comm x.w, ← Int.mul_assoc]
  have e4 : x.c * y.w * z.w = x.c * z.w * y.w := by rw [Int.mul_assoc, Int.mul_comm y.w, ← Int.mul_assoc]
  have e5 : z.c * y.w * x.w = z.c * x.w * y.w := by rw [Int.mul_assoc, Int.mul_comm y.w, ← Int.mul_assoc]
  have e : x.c * z.w * y.w ≤ z.c * x.w * y.w := by omega
  exact Int.le_of_mul_le_mul_right e hy
theorem minS_least (l : List SL) : ∀ b : SL, (∀ y ∈ b :: l, 0 < y.w) → ∀ y ∈ b :: l, leS (minS b l) y := by
  induction l with
  | nil =>
    intro b hw y hy
    rcases List.mem_cons.1 hy with h | h
    · rw [h]; exact leS_refl _
    · exact absurd h (by simp)
  | cons x l ih =>
    intro b hw y hy
    have hb := hw b (List.mem_cons_self ..)
    have hx := hw x (List.mem_cons_of_mem _ (List.mem_cons_self ..))
    have e1 : minS b (x :: l) = minS (if x.c * b.w < b.c * x.w then x else b) l := rfl
    rw [e1]
    by_cases g : x.c * b.w < b.c * x.w
    case pos =>
      rw [if_pos g]
      have hw1 : ∀ y ∈ x :: l, 0 < y.w := fun y hy => hw y (List.mem_cons_of_mem _ hy)
      have hm := hw1 _ (minS_mem l x)
      rcases List.mem_cons.1 hy with h | h
      · rw [h]
        exact leS_trans _ x b hm hx hb (ih x hw1 x (List.mem_cons_self ..)) (Int.le_of_lt g)
      · exact ih x hw1 y h
    case neg =>
      rw [if_neg g]
      have hw1 : ∀ y ∈ b :: l, 0 < y.w := fun y hy => by
        rcases List.mem_cons.1 hy with h | h
        · rw [h]; exact hb
        · exact hw y (List.mem_cons_of_mem _ (List.mem_cons_of_mem _ h))
      have hm := hw1 _ (minS_mem l b)
      rcases List.mem_cons.1 hy with h | h
      · rw [h]; exact ih b hw1 b (List.mem_cons_self ..)
      · rcases List.mem_cons.1 h with h | h
        · rw [h]
          exact leS_trans _ b x hm hb hx (ih b hw1 b (List.mem_cons_self ..)) (Int.not_lt.1 g)
        · exact ih b hw1 y (List.mem_cons_of_mem _ h)
def sumWS (l : List SL) : Int := (l.map (·.w)).sum
def sumCS (l : List SL) : Int := (l.map (·.c)).sum
theorem sumWS_cons (x : SL) (l : List SL) : sumWS (x :: l) = x.w + sumWS l := by simp only [sumWS, List.map_cons, List.sum_cons]
theorem sumCS_cons (x : SL) (l : List SL) : sumCS (x :: l) = x.c + sumCS l := by simp only [sumCS, List.map_cons, List.sum_cons]
theorem sumWS_nn (l : List SL) (h : ∀ y ∈ l, 0 < y.w) : 0 ≤ sumWS l := by
  induction l with
  | nil => exact Int.le_refl _
  | cons x l ih =>
    have e := ih (fun y hy => h y (List.mem_cons_of_mem _ hy))
    have e1 := h x (List.mem_cons_self ..)
    rw [sumWS_cons]
    omega
/-- The least one carried no more than its part of all. -/
theorem least_part (b : SL) (l : List SL) (h : ∀ y ∈ l, leS b y) : b.c * sumWS l ≤ sumCS l * b.w := by
  induction l with
  | nil => simp only [sumWS, sumCS, List.map_nil, List.sum_nil, Int.mul_zero, Int.zero_mul]; exact Int.le_refl _
  | cons x l ih =>
    have e := ih (fun y hy => h y (List.mem_cons_of_mem _ hy))
    have e1 := h x (List.mem_cons_self ..)
    unfold leS at e1
    rw [sumWS_cons, sumCS_cons, Int.mul_add, Int.add_mul]
    omega
/-- One carried so many more. -/
def carryS (l : List SL) (p n : Int) : List SL := l.map fun x => if x.p = p then ⟨x.p, x.w, x.c + n⟩ else x
theorem carryS_cons (x : SL) (l : List SL) (p n : Int) : carryS (x :: l) p n = (if x.p = p then ⟨x.p, x.w, x.c + n⟩ else x) :: carryS l p n := rfl
theorem carryS_len (l : List SL) (p n : Int) : (carryS l p n).length = l.length := by simp only [carryS, List.length_map]
theorem carryS_ps (l : List SL) (p n : Int) : (carryS l p n).map (·.p) = l.map (·.p) := by
  induction l with
  | nil => rfl
  | cons x l ih =>
    rw [carryS_cons, List.map_cons, List.map_cons, ih]
    split <;> rfl
theorem carryS_w (l : List SL) (p n : Int) : sumWS (carryS l p n) = sumWS l := by
  induction l with
  | nil => rfl
  | cons x l ih =>
    rw [carryS_cons, sumWS_cons, sumWS_cons, ih]
    split <;> rfl
theorem carryS_none (l : List SL) (p n : Int) (h : p ∉ l.map (·.p)) : carryS l p n = l := by
  induction l with
  | nil => rfl
  | cons x l ih =>
    rw [List.map_cons] at h
    have h1 : ¬x.p = p := fun e => h (by rw [e]; exact List.mem_cons_self ..)
    rw [carryS_cons, if_neg h1, ih (fun g => h (List.mem_cons_of_mem _ g))]
theorem carryS_c (l : List SL) (p n : Int) (hd : (l.map (·.p)).Nodup) (h : p ∈ l.map (·.p)) : sumCS (carryS l p n) = sumCS l + n := by
  induction l with
  | nil => exact absurd h (by simp)
  | cons x l ih =>
    rw [List.map_cons] at hd h
    obtain ⟨d1, d2⟩ := List.nodup_cons.1 hd
    rw [carryS_cons, sumCS_cons, sumCS_cons]
    by_cases g : x.p = p
    case pos =>
      rw [g] at d1
      rw [if_pos g, carryS_none l p n d1]
      simp only
      omega
    case neg =>
      rw [if_neg g]
      rcases List.mem_cons.1 h with h | h
      · exact absurd h.symm g
      · rw [ih d2 h]
        omega
theorem nodup_eqS (l : List SL) (hd : (l.map (·.p)).Nodup) (x y : SL) (hx : x ∈ l) (hy : y ∈ l) (h : x.p = y.p) : x = y := by
  induction l with
  | nil => exact absurd hx (by simp)
  | cons z l ih =>
    rw [List.map_cons] at hd
    obtain ⟨d1, d2⟩ := List.nodup_cons.1 hd
    rcases List.mem_cons.1 hx with a | a <;> rcases List.mem_cons.1 hy with b | b
    · rw [a, b]
    · exact absurd (List.mem_map.2 ⟨y, b, by rw [← h, a]⟩) d1
    · exact absurd (List.mem_map.2 ⟨x, a, by rw [h, b]⟩) d1
    · exact ih d2 a b
/-- FAIR: none carried more than its part of all by more than so much. -/
def FairS (m : Int) (l : List SL) : Prop := ∀ x ∈ l, x.c * sumWS l - sumCS l * x.w ≤ m * sumWS l
theorem fairS_more (m m' : Int) (l : List SL) (hw : ∀ y ∈ l, 0 < y.w) (hm : m ≤ m') (h : FairS m l) : FairS m' l := by
  intro x hx
  have e := h x hx
  have e1 := Int.mul_le_mul_of_nonneg_right hm (sumWS_nn l hw)
  omega
/-- It stays so where the least one carries. -/
theorem fairS_carry (m n : Int) (l : List SL) (b : SL) (hw : ∀ y ∈ l, 0 < y.w) (hd : (l.map (·.p)).Nodup) (hb : b ∈ l) (hl : ∀ y ∈ l, leS b y) (h : FairS m l) (h0 : 0 ≤ n) (hn : n ≤ m) :
    FairS m (carryS l b.p n) := by
  intro y hy
  obtain ⟨x, hx, rfl⟩ := List.mem_map.1 hy
  rw [carryS_w, carryS_c l b.p n hd (List.mem_map.2 ⟨b, hb, rfl⟩)]
  have hW := sumWS_nn l hw
  by_cases g : x.p = b.p
  case pos =>
    rw [if_pos g]
    have e := nodup_eqS l hd x b hx hb g
    rw [e]
    simp only
    have e1 := least_part b l hl
    have e2 := Int.mul_le_mul_of_nonneg_right hn hW
    have e3 := Int.mul_nonneg h0 (Int.le_of_lt (hw b hb))
    rw [Int.add_mul, Int.add_mul]
    omega
  case neg =>
    rw [if_neg g]
    have e1 := h x hx
    have e3 := Int.mul_nonneg h0 (Int.le_of_lt (hw x hx))
    rw [Int.add_mul]
    omega
/-- Where none is far above, none is far below: the sum of all is 0. -/
theorem sum_but (f : SL → Int) (k : Int) (l : List SL) (h : ∀ x ∈ l, f x ≤ k) : (l.map f).sum ≤ k * (l.length : Int) := by
  induction l with
  | nil => simp
  | cons x l ih =>
    have e := ih (fun y hy => h y (List.mem_cons_of_mem _ hy))
    have e1 := h x (List.mem_cons_self ..)
    rw [List.map_cons, List.sum_cons, List.length_cons]
    have e2 : k * ((l.length + 1 : Nat) : Int) = k * (l.length : Int) + k := by
      rw [Int.natCast_add, Int.mul_add]
      simp
    omega
theorem sum_but_one (f : SL → Int) (k : Int) (l : List SL) (y : SL) (hy : y ∈ l) (h : ∀ x ∈ l, f x ≤ k) : (l.map f).sum - f y ≤ k * ((l.length : Int) - 1) := by
  induction l with
  | nil => exact absurd hy (by simp)
  | cons x l ih =>
    have h1 : ∀ x ∈ l, f x ≤ k := fun y hy => h y (List.mem_cons_of_mem _ hy)
    rw [List.map_cons, List.sum_cons, List.length_cons]
    have e2 : k * (((l.length + 1 : Nat) : Int) - 1) = k * (l.length : Int) := by
      congr 1
      omega
    rw [e2]
    rcases List.mem_cons.1 hy with g | g
    · have e := sum_but f k l h1
      rw [g]
      omega
    · have e := ih g h1
      have e1 := h x (List.mem_cons_self ..)
      have e3 : k * ((l.length : Int) - 1) = k * (l.length : Int) - k := by rw [Int.mul_sub, Int.mul_one]
      omega
theorem sum_parts (l : List SL) (a b : Int) : (l.map fun x => x.c * a - b * x.w).sum = sumCS l * a - b * sumWS l := by
  induction l with
  | nil => simp [sumCS, sumWS]
  | cons x l ih =>
    rw [List.map_cons, List.sum_cons, ih, sumCS_cons, sumWS_cons, Int.add_mul, Int.mul_add]
    omega
theorem fairS_low (m : Int) (l : List SL) (h : FairS m l) (y : SL) (hy : y ∈ l) : sumCS l * y.w - y.c * sumWS l ≤ m * sumWS l * ((l.length : Int) - 1) := by
  have e := sum_but_one (fun x => x.c * sumWS l - sumCS l * x.w) (m * sumWS l) l y hy h
  rw [sum_parts] at e
  omega
/-- Weights that are all so many times as great: the same one is next. -/
def timesS (t : Int) (x : SL) : SL := ⟨x.p, x.w * t, x.c⟩
theorem less_times (t : Int) (ht : 0 < t) (x b : SL) : ((timesS t x).c * (timesS t b).w < (timesS t b).c * (timesS t x).w) ↔ x.c * b.w < b.c * x.w := by
  simp only [timesS]
  rw [← Int.mul_assoc, ← Int.mul_assoc]
  constructor
  · intro h
    exact Int.lt_of_mul_lt_mul_right h (Int.le_of_lt ht)
  · intro h
    exact Int.mul_lt_mul_of_pos_right h ht
theorem minS_times (t : Int) (ht : 0 < t) (l : List SL) : ∀ b : SL, minS (timesS t b) (l.map (timesS t)) = timesS t (minS b l) := by
  induction l with
  | nil => intro b; rfl
  | cons x l ih =>
    intro b
    have e1 : minS b (x :: l) = minS (if x.c * b.w < b.c * x.w then x else b) l := rfl
    have e2 : minS (timesS t b) ((x :: l).map (timesS t)) = minS (if (timesS t x).c * (timesS t b).w < (timesS t b).c * (timesS t x).w then timesS t x else timesS t b) (l.map (timesS t)) := rfl
    rw [e1, e2]
    by_cases g : x.c * b.w < b.c * x.w
    case pos => rw [if_pos g, if_pos ((less_times t ht x b).2 g)]; exact ih x
    case neg => rw [if_neg g, if_neg (fun k => g ((less_times t ht x b).1 k))]; exact ih b
theorem carryS_times (t p n : Int) (l : List SL) : carryS (l.map (timesS t)) p n = (carryS l p n).map (timesS t) := by
  induction l with
  | nil => rfl
  | cons x l ih =>
    rw [List.map_cons, carryS_cons, carryS_cons, List.map_cons, ih]
    have e : (if (timesS t x).p = p then (⟨(timesS t x).p, (timesS t x).w, (timesS t x).c + n⟩ : SL) else timesS t x) = timesS t (if x.p = p then ⟨x.p, x.w, x.c + n⟩ else x) := by
      by_cases g : x.p = p
      case pos => rw [if_pos g, if_pos (show (timesS t x).p = p from g)]; rfl
      case neg => rw [if_neg g, if_neg (show ¬(timesS t x).p = p from g)]
    rw [e]
theorem sumCS_times (t : Int) (l : List SL) : sumCS (l.map (timesS t)) = sumCS l := by
  induction l with
  | nil => rfl
  | cons x l ih =>
    rw [List.map_cons, sumCS_cons, sumCS_cons, ih]
    rfl
end Go.Proofs.Ytaiekbhpgbmalaa
