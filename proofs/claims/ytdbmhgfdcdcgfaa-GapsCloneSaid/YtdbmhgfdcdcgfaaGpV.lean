/- gaps: both sides' lists are alike; the document's Came in one; what keeps what. -/
import Derived.Test.YtdbmhgfdcdcgfaaGpU
namespace Go.Proofs.Ytdbmhgfdcdcgfaa
open Go.RowKit
set_option linter.unusedVariables false
set_option linter.unusedSimpArgs false
theorem grF_pas {l : List GW} (h : GpUp l) (s : Int) : grF (fun x => decide (s < x.n)) l = l.take 0 ++ l.drop (gpPas s l) := by
  rw [List.take_zero, List.nil_append]
  induction l with
  | nil => rfl
  | cons x l ih =>
    have hx := List.pairwise_cons.1 h
    have ih' := ih hx.2
    unfold grF gpPas at ih' ⊢
    by_cases hc : s < x.n
    · rw [List.findIdx_cons, show decide (s < x.n) = true from decide_eq_true hc]
      show List.filter _ (x :: l) = List.drop 0 (x :: l)
      rw [List.drop_zero, List.filter_eq_self]
      intro y hy
      rcases List.mem_cons.1 hy with rfl | hy
      · exact decide_eq_true hc
      · have := hx.1 y hy; exact decide_eq_true (by omega)
    · rw [List.findIdx_cons, show decide (s < x.n) = false from decide_eq_false hc, List.filter_cons_of_neg (by simpa using hc), ih']
      rfl
theorem grF_rm {l : List GW} (h : GpUp l) (s : Int) : grF (fun x => decide (x.n ≠ s)) l = gpRm s l := by
  induction l with
  | nil => rfl
  | cons x l ih =>
    have hx := List.pairwise_cons.1 h
    have ih' := ih hx.2
    by_cases hc : s ≤ x.n
    · have hall : ∀ y ∈ l, s < y.n := fun y hy => by have := hx.1 y hy; omega
      have hp : gpPos s (x :: l) = 0 := by unfold gpPos; rw [List.findIdx_cons, show decide (s ≤ x.n) = true from decide_eq_true hc]; rfl
      have hf : List.filter (fun x => decide (x.n ≠ s)) l = l := by
        rw [List.filter_eq_self]
        intro y hy
        have := hall y hy
        exact decide_eq_true (by omega)
      unfold gpRm
      rw [hp]
      unfold grF
      by_cases he : x.n = s
      · rw [List.filter_cons_of_neg (by simpa using he), hf]
        simp [he]
      · rw [List.filter_cons_of_pos (by simpa using he), hf]
        simp [he]
    · have hp : gpPos s (x :: l) = gpPos s l + 1 := by unfold gpPos; rw [List.findIdx_cons, show decide (s ≤ x.n) = false from decide_eq_false hc]; rfl
      have hr : gpRm s (x :: l) = x :: gpRm s l := by
        unfold gpRm
        rw [hp, List.getElem?_cons_succ]
        cases l[gpPos s l]? with
        | none => rfl
        | some r =>
          simp only
          split <;> rfl
      rw [hr, ← ih']
      unfold grF
      rw [List.filter_cons_of_pos (by simp; omega)]
theorem gpPas_len (l : List GW) (s : Int) : ((l.length : Int) - (l.take 0 ++ l.drop (gpPas s l)).length) = (gpPas s l : Nat) := by
  have := gpPas_le s l
  rw [List.take_zero, List.nil_append, List.length_drop]
  omega
section
variable {W W' : World} {g : Nat} {T : TypeId} {c0 c1 c2 c3 c4 c5 c6 c7 : Value}
theorem At8.keptG (h : At8 T W g c0 c1 c2 c3 c4 c5 c6 c7) (hk : KeptG W W') (h1 : T ≠ 57) (h2 : T ≠ 69) : At8 T W' g c0 c1 c2 c3 c4 c5 c6 c7 := by
  unfold At8 at h ⊢
  rw [hk.block g _ h (not_isGp h1 h2)]
  exact h
theorem GIn.only8 {base gg : Nat} {c : GC} {cm : Bool} {gr : Int} {v : Value} {l : List GW} {gv : Int} (h : GIn W base gg c cm gr v l gv) (x : At8 T W g c0 c1 c2 c3 c4 c5 c6 c7) (ho : Only g W W') (h1 : T ≠ 57) (h2 : T ≠ 69) : GIn W' base gg c cm gr v l gv :=
  ⟨h.bs, h.at8.only (fun e => by
    subst e
    have h5 := h.at8
    unfold At8 at x h5
    rw [x] at h5
    simp only [Option.some.injEq, Obj.cells.injEq] at h5
    exact h1 h5.2.1) ho, h.own.only8 x ho (fun e => h2 e.symm), h.ok, h.len, h.up, h.gb, h.nb, h.ab⟩
theorem keptG_new {w : World} (ho : Only g W W') (hk : KeptG w W) (hg : w.heap.size ≤ g) : KeptG w W' :=
  ⟨by have := hk.size; rw [ho.size]; exact this, fun k o h h1 => by
    have hlt := lt_of_objG h
    rw [ho.block k (by omega)]
    exact hk.block k o h h1⟩
end
theorem refGpCame_any {w : World} {base gg : Nat} {c : GC} {cm : Bool} {gr : Int} {v vl : Value} {l : List GW} {gv : Int} {w0 : World} (h : GIn w0 base gg c cm gr v l gv) (hl : cm = false → l = []) (hL : OwnE w 0 65 3 vl l.length (grV l)) (n1 now : Int) (hgv : 0 ≤ gv ∧ gv ≤ 1152921504606846976) :
    Calls Try.prog 25 #[grG c vl cm gr gv, .int .i64 n1, .int .i64 now] w fun e w' => ∃ v', e = .returned (.tuple #[grG c v' true (cmG cm gr n1) (gv + cmU c cm gr l n1), .int .i64 (cmU c cm gr l n1)]) ∧ OwnE w' 0 65 3 v' (cmL c cm gr l n1 now).length (grV (cmL c cm gr l n1 now)) ∧ Below w.heap.size w w' := by
  have hs := h.small
  cases cm with
  | false =>
    obtain rfl := hl rfl
    rw [show cmU c false gr [] n1 = 0 from rfl, show cmG false gr n1 = gpN n1 from rfl, show cmL c false gr [] n1 now = [] from rfl, Int.add_zero]
    refine (refGpCameFirst c gr gv n1 now hL (by simp)).mono ?_
    rintro e w' ⟨rfl, hO, hk⟩
    exact ⟨vl, rfl, hO, hk⟩
  | true =>
    by_cases hn : gr < gpN n1
    · rw [show cmU c true gr l n1 = gpGive c.m gr (gpN n1) l by unfold cmU; rw [if_pos rfl, if_pos hn], show cmG true gr n1 = gpN n1 by unfold cmG; rw [if_pos rfl, if_pos hn], show cmL c true gr l n1 now = gpLeap c gr (gpN n1) (gpK now) l by unfold cmL; rw [if_pos rfl, if_pos hn]]
      exact refGpCameLeap c gr gv n1 now hL (by omega) h.ok hn h.gb.1 hgv
    · rw [show cmU c true gr l n1 = 0 by unfold cmU; rw [if_pos rfl, if_neg hn], show cmG true gr n1 = gr by unfold cmG; rw [if_pos rfl, if_neg hn], show cmL c true gr l n1 now = gpRm (gpN n1) l by unfold cmL; rw [if_pos rfl, if_neg hn], Int.add_zero, ← grF_rm h.up]
      exact refGpCameFound c gr gv n1 now hL (by omega) (by omega)
theorem cmU_bd {w : World} {base gg : Nat} {c : GC} {cm : Bool} {gr : Int} {v : Value} {l : List GW} {gv : Int} (h : GIn w base gg c cm gr v l gv) (n1 : Int) : 0 ≤ cmU c cm gr l n1 ∧ cmU c cm gr l n1 ≤ 4398046511104 := by
  have hs := h.small
  have hg := h.gb
  have hm := h.ok.1
  have hn := gpN_bd n1
  unfold cmU gpGive
  split
  · split <;> omega
  · omega
end Go.Proofs.Ytdbmhgfdcdcgfaa
