/- split: Put of a part that may not be. -/
import Derived.Test.YtgomijhckmcfeaaSpH
import Derived.Deep.QuietTactic
import Derived.BigQuiet
namespace Go.Proofs.Ytgomijhckmcfeaa
open Go.RowKit
set_option linter.unusedVariables false
set_option linter.unusedSimpArgs false
set_option maxRecDepth 100000 in
set_option maxHeartbeats 1600000 in
theorem spPutBad {w : World} {base gf : Nat} {t cnt first : Int} {mp : Option Nat} {P : List (Option ByteArray)} (h : FIn w base gf t cnt first mp P) (i c : Int) (d : ByteArray) (hbad : ¬ (c = (spK cnt : Int) ∧ 0 ≤ i ∧ i < c)) :
    Calls Try.prog 31 #[.pointer (some ⟨gf, 0, none⟩), .agg #[.int .i64 i, .int .i64 c], .string d] w fun e w' => e = .returned (.int .i64 4) ∧ Below w.heap.size w w' := by
  have hbs := h.bs
  have hgl := h.at5.lt
  have hK := spK_bd cnt
  have hX := atS_new 43 w w.heap.size #[.int .i64 i, .int .i64 c] rfl
  have hal : Below w.heap.size w (w.alloc (.cells #[.int .i64 i, .int .i64 c] 43)) := (Below.refl _ _).alloc (Nat.le_refl _) _
  have hF2 := h.later hal
  have hb2 := hal
  have hne : w.heap.size ≠ gf := by omega
  go_enter Try.func31, Try.ntmps31
  go_upto_region 1 with fail
  generalize (w.alloc (.cells #[.int .i64 i, .int .i64 c] 43)) = w2 at *
  obtain ⟨gp, hgp⟩ : ∃ gp, w.heap.size = gp := ⟨_, rfl⟩
  rw [hgp] at hX hne hb2 ⊢
  have HGP := Lib.hid hgp
  have HC0 := Lib.hid (spCount_q hF2)
  have HC := Lib.hid (fun q => spCount_q (hF2.later (below_drewN (Below.refl w2.heap.size w2) q)))
  obtain ⟨K, hKe⟩ : ∃ K, spK cnt = K := ⟨_, rfl⟩
  rw [hKe] at HC HC0 hK hbad
  clear hgp hgl h hal hKe hF2
  have HB2 := Lib.hid hb2
  clear hb2
  obtain ⟨_, _⟩ := hX.cells2
  clear hX
  by_cases h1 : c = (K : Int)
  · subst h1
    by_cases h3 : i < 0
    · have hd1 : decide (i < 0) = true := decide_eq_true h3
      go_quiet ((go_at_call 42; first | exact Calls.quiet_of_same (HC0.out) | exact Calls.quiet_of_same (HC.out _)))
      go_wp2_with fail
      go_ret
      exact ⟨rfl, by rw [HGP.out]; exact HB2.out.trans (below_drewN (Below.refl _ _) _)⟩
    · have hd1 : decide (i < 0) = false := decide_eq_false h3
      have hd2 : decide ((K : Int) ≤ i) = true := decide_eq_true (by omega)
      go_quiet ((go_at_call 42; first | exact Calls.quiet_of_same (HC0.out) | exact Calls.quiet_of_same (HC.out _)))
      go_wp2_with fail
      go_ret
      exact ⟨rfl, by rw [HGP.out]; exact HB2.out.trans (below_drewN (Below.refl _ _) _)⟩
  · have hd0 : (c == (K : Int)) = false := by simp; exact h1
    go_quiet ((go_at_call 42; first | exact Calls.quiet_of_same (HC0.out) | exact Calls.quiet_of_same (HC.out _)))
    go_wp2_with fail
    go_ret
    exact ⟨rfl, by rw [HGP.out]; exact HB2.out.trans (below_drewN (Below.refl _ _) _)⟩
end Go.Proofs.Ytgomijhckmcfeaa
