/- gaps: Came and Due in one; what a leap, and what comes, leaves; the law's awake. -/
import Derived.Test.YtdbmhgfdcdcgfaaGpN
namespace Go.Proofs.Ytdbmhgfdcdcgfaa
open Go.RowKit
set_option linter.unusedVariables false
set_option linter.unusedSimpArgs false
/-- The greatest, what is wanting, and how many were given up, behind a packet. -/
def cmG (cm : Bool) (gr n : Int) : Int := if cm = true then (if gr < gpN n then gpN n else gr) else gpN n
def cmL (c : GC) (cm : Bool) (gr : Int) (l : List GW) (n now : Int) : List GW := if cm = true then (if gr < gpN n then gpLeap c gr (gpN n) (gpK now) l else gpRm (gpN n) l) else []
def cmU (c : GC) (cm : Bool) (gr : Int) (l : List GW) (n : Int) : Int := if cm = true then (if gr < gpN n then gpGive c.m gr (gpN n) l else 0) else 0
theorem gpCame_any {w : World} {base gg : Nat} {c : GC} {cm : Bool} {gr : Int} {v : Value} {l : List GW} {gv : Int} (h : GIn w base gg c cm gr v l gv) (hl : cm = false → l = []) (n now : Int) (hgv : 0 ≤ gv ∧ gv ≤ 1152921504606846976) :
    Calls Try.prog 16 #[.pointer (some ⟨gg, 0, none⟩), .int .i64 n, .int .i64 now] w fun e w' => e = .returned (.int .i64 (cmU c cm gr l n)) ∧ (∃ v', GIn w' base gg c true (cmG cm gr n) v' (cmL c cm gr l n now) (gv + cmU c cm gr l n)) ∧ Below base w w' ∧ KeptG w w' := by
  cases cm with
  | false =>
    obtain rfl := hl rfl
    rw [show cmU c false gr [] n = 0 from rfl, show cmG false gr n = gpN n from rfl, show cmL c false gr [] n now = [] from rfl, Int.add_zero]
    exact gpCameFirst (l := []) h n now
  | true =>
    by_cases hn : gr < gpN n
    · rw [show cmU c true gr l n = gpGive c.m gr (gpN n) l by unfold cmU; rw [if_pos rfl, if_pos hn], show cmG true gr n = gpN n by unfold cmG; rw [if_pos rfl, if_pos hn], show cmL c true gr l n now = gpLeap c gr (gpN n) (gpK now) l by unfold cmL; rw [if_pos rfl, if_pos hn]]
      exact gpCameLeap h n now hn hgv
    · rw [show cmU c true gr l n = 0 by unfold cmU; rw [if_pos rfl, if_neg hn], show cmG true gr n = gr by unfold cmG; rw [if_pos rfl, if_neg hn], show cmL c true gr l n now = gpRm (gpN n) l by unfold cmL; rw [if_pos rfl, if_neg hn], Int.add_zero]
      exact gpCameFound h n now (by omega)
theorem gpDue_any {w : World} {base gg : Nat} {c : GC} {cm : Bool} {gr : Int} {v : Value} {l : List GW} {gv : Int} (h : GIn w base gg c cm gr v l gv) (now : Int) (hgv : 0 ≤ gv ∧ gv ≤ 1152921504606846976) :
    Calls Try.prog 15 #[.pointer (some ⟨gg, 0, none⟩), .int .i64 now] w fun e w' => ∃ dv v', e = .returned dv ∧ OwnE w' w.heap.size 3 1 dv (gpDueD c (gpK now) l).length ((gpDueD c (gpK now) l).map (Value.int .i64)) ∧ GIn w' base gg c cm gr v' (gpDueK c (gpK now) l) (gv + ((l.length : Int) - (gpDueK c (gpK now) l).length)) ∧ Below base w w' ∧ KeptG w w' := by
  rcases h.own.1.2 with ⟨rfl, h0⟩ | ⟨g, off, cap, rfl, _⟩
  · obtain rfl : l = [] := List.length_eq_zero_iff.1 h0
    refine (gpDue_nil h now hgv).mono ?_
    rintro e w' ⟨rfl, hG, hb, hk⟩
    refine ⟨.slice none 0 0, .slice none 0 0, rfl, ownE_nil _ _ _ _, ?_, hb, hk⟩
    rw [show gpDueK c (gpK now) [] = [] from rfl]
    simpa using hG
  · exact gpDue_some h now hgv
theorem gpRm_mem {l : List GW} (hu : GpUp l) (s : Int) (x : GW) (hx : x ∈ gpRm s l) : x ∈ l ∧ x.n ≠ s := by
  have h0 : ∀ (i : Nat) (y : GW), l[i]? = some y → i < gpPos s l → y.n < s := fun i y => gpPos_lt s l i y
  have h1 : ∀ (i : Nat) (y : GW), l[i]? = some y → gpPos s l ≤ i → s ≤ y.n := fun i y => gpPos_ge hu s i y
  unfold gpRm at hx
  generalize gpPos s l = k at *
  split at hx
  · rename_i r hr
    split at hx
    · rename_i hrn
      rcases List.mem_append.1 hx with hx | hx
      · obtain ⟨i, hi⟩ := List.getElem?_of_mem hx
        rw [List.getElem?_take] at hi
        split at hi
        · have := h0 i x hi (by assumption)
          exact ⟨List.mem_of_mem_take hx, by omega⟩
        · cases hi
      · refine ⟨List.mem_of_mem_drop hx, ?_⟩
        obtain ⟨i, hi⟩ := List.getElem?_of_mem hx
        rw [List.getElem?_drop] at hi
        obtain ⟨q1, e1⟩ := List.getElem?_eq_some_iff.1 hr
        obtain ⟨q2, e2⟩ := List.getElem?_eq_some_iff.1 hi
        have := (List.pairwise_iff_getElem.1 hu) k (k + 1 + i) q1 q2 (by omega)
        rw [e1, e2] at this
        omega
    · rename_i hrn
      refine ⟨hx, fun e => ?_⟩
      obtain ⟨i, hi⟩ := List.getElem?_of_mem hx
      rcases Nat.lt_trichotomy i k with hik | hik | hik
      · have := h0 i x hi hik
        omega
      · subst hik
        rw [hr] at hi
        cases hi
        exact hrn e
      · obtain ⟨q1, e1⟩ := List.getElem?_eq_some_iff.1 hr
        obtain ⟨q2, e2⟩ := List.getElem?_eq_some_iff.1 hi
        have h3 := (List.pairwise_iff_getElem.1 hu) k i q1 q2 hik
        have h4 := h1 k r hr (Nat.le_refl _)
        rw [e1, e2] at h3
        omega
  · rename_i hr
    refine ⟨hx, fun e => ?_⟩
    obtain ⟨i, hi⟩ := List.getElem?_of_mem hx
    have hil := (List.getElem?_eq_some_iff.1 hi).1
    have := List.getElem?_eq_none_iff.1 hr
    have := h0 i x hi (by omega)
    omega
theorem gpRm_first (x : GW) (l : List GW) : gpRm x.n (x :: l) = l := by
  have : gpPos x.n (x :: l) = 0 := by simp [gpPos, List.findIdx_cons]
  unfold gpRm
  rw [this]
  simp
theorem gpLeap_mem (c : GC) (gr n now : Int) (l : List GW) (x : GW) (hx : x ∈ gpLeap c gr n now l) : x ∈ l ∨ (gr < x.n ∧ x.n < n ∧ x.k = 0) := by
  rcases List.mem_append.1 hx with hx | hx
  · exact .inl (gpMem_del _ _ hx)
  · obtain ⟨i, hi, rfl⟩ := gpNew_at _ _ _ _ hx
    right
    show gr < gpFrom c.m gr n + (i : Int) ∧ gpFrom c.m gr n + (i : Int) < n ∧ (0 : Nat) = 0
    unfold gpFrom at hi ⊢
    omega
theorem gpN_same {n : Int} (h : -1000000000000 ≤ n ∧ n ≤ 1000000000000) : gpN n = n := by unfold gpN; omega
theorem gpK_same {n : Int} (h : 0 ≤ n ∧ n ≤ 1000000000000) : gpK n = n := by unfold gpK; omega
theorem GIn.keepI {W W' : World} {b : Nat} {v : Value} {n : Nat} {zs : List Int} (h : OwnE W b 3 1 v n (zs.map (Value.int .i64))) (hk : KeptG W W') : OwnE W' b 3 1 v n (zs.map (Value.int .i64)) := h.keptG hk (by decide) (by decide)
end Go.Proofs.Ytdbmhgfdcdcgfaa
