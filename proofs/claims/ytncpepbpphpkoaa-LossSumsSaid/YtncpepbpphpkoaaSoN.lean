/- A source behind numbers that are near: plain facts. -/
import Derived.Test.YtncpepbpphpkoaaSoM
namespace Go.Proofs.Ytncpepbpphpkoaa
structure SR.Cnt (f : Int) (k : Nat) (T : Int) (t : SR) : Prop where
  pr : t.pr = 0
  top : t.cy + t.mx = T
  cyc : t.cy % 65536 = 0
  base : t.ba = f
  rcv : t.rc = k + 1
  t0 : 0 ≤ T
  t1 : T ≤ 65535 + 3000 * k
  m0 : 0 ≤ t.mx
  m1 : t.mx < 65536
theorem SR.cnt_start (f : Int) (h0 : 0 ≤ f) (h1 : f < 65536) : SR.Cnt f 0 f ⟨f, 0, f, 65537, 0, 1⟩ := by
  constructor <;> (try simp only []) <;> omega
theorem SR.cnt_step {f : Int} {k : Nat} {T : Int} {t : SR} (h : t.Cnt f k T) (d : Int) (d0 : -99 ≤ d) (d1 : d ≤ 2999) :
    (t.upd ((T + d) % 65536)).2 = true ∧ (t.upd ((T + d) % 65536)).1.Cnt f (k + 1) (if 0 < d then T + d else T) := by
  obtain ⟨mx, cy, ba, bd, pr, rc⟩ := t
  obtain ⟨hp, ht, hc, hba, hr, t0, t1, m0, m1⟩ := h
  simp only at hp ht hc hba hr m0 m1
  unfold SR.upd
  simp only []
  rw [if_neg (by omega)]
  by_cases hd : 0 ≤ d
  · rw [if_pos (by omega)]
    refine ⟨rfl, ?_⟩
    by_cases hl : (T + d) % 65536 < mx
    · rw [if_pos hl]
      constructor <;> (try simp only []) <;> (try split) <;> omega
    · rw [if_neg hl]
      constructor <;> (try simp only []) <;> (try split) <;> omega
  · rw [if_neg (by omega), if_pos (by omega)]
    refine ⟨rfl, ?_⟩
    constructor <;> (try simp only []) <;> (try split) <;> omega
theorem ext_back (L d T : Int) (h0 : 0 ≤ L) (h1 : L ≤ 1000000) (d0 : -99 ≤ d) (d1 : d ≤ 2999) (hL : L = if 0 < d then T + d else T) : near62 L + d16 (near62 L % 65536) ((T + d) % 65536) = T + d := by
  have e : near62 L = L := by unfold near62; omega
  rw [e]
  unfold d16
  split at hL <;> omega
end Go.Proofs.Ytncpepbpphpkoaa
