/- nack: the law's awake. -/
import Derived.Test.YtagimjaojpdfiaaNkP
namespace Go.Proofs.Ytagimjaojpdfiaa
open Go.RowKit
set_option linter.unusedVariables false
theorem own_cells {W : World} {B e size n : Nat} {v : Value} {xs : List Value} (h : W.ownsRow B e size v n xs) (hn : 0 < n) : ∃ g cap, v = .slice (some ⟨g, 0, none⟩) n cap ∧ n ≤ cap ∧ g < W.heap.size ∧ ∀ i u, xs[i]? = some u → W.cell? ⟨g, i, none⟩ = some u := by
  rcases h.2 with ⟨rfl, h0⟩ | ⟨g, cap, cur, rfl, _, hg, h1, h2, h3, h4⟩
  · omega
  · refine ⟨g, cap, rfl, h1, lt_of_block hg, fun i u hu => ?_⟩
    rw [cell_of_row W g i _ _ (0, 0) hg, ← Array.getElem?_toList]
    rw [← h4] at hu
    rw [List.getElem?_take] at hu
    split at hu
    · exact hu
    · cases hu
theorem prs4 : prs [5, 7, 21, 22] = [(5, 32770), (22, 0)] := by kernel_rfl
theorem nums5 : nums 5 32770 16 = [5, 7, 21] := by kernel_rfl
set_option maxHeartbeats 1600000 in
theorem nkAwake_any (w : World) : Calls Try.prog 11 #[] w fun e w' => e = .returned (.bool true) ∧ Below w.heap.size w w' := by
  have hP := Lib.hid (fun (W : World) (b : Nat) (hr : Reads .u16 W (some ⟨b, 0, none⟩) [5, 7, 21, 22]) => pairs_any [5, 7, 21, 22] (some ⟨b, 0, none⟩) 4 W hr (by decide) (by decide))
  rw [prs4] at hP
  have hN := Lib.hid (fun W => numbers_any 5 32770 (by decide) (by decide) (by decide) W)
  rw [nums5] at hN
  go_enter Try.func11, Try.ntmps11
  go_wp2_with fail
  have hb1 : Below w.heap.size w (w.alloc (.cells #[.int .u16 5, .int .u16 7, .int .u16 21, .int .u16 22] 129)) := (Below.refl _ _).alloc (Nat.le_refl _) _
  have hr : Reads .u16 (w.alloc (.cells #[.int .u16 5, .int .u16 7, .int .u16 21, .int .u16 22] 129)) (some ⟨w.heap.size, 0, none⟩) [5, 7, 21, 22] := by
    refine Or.inr ⟨_, _, rfl, fun i hi => ?_⟩
    match i, hi with
    | 0, _ => simp
    | 1, _ => simp
    | 2, _ => simp
    | 3, _ => simp
  refine (hP.out _ _ hr).mono ?_
  rintro e w3 ⟨v, rfl, hrow, hb3⟩
  have hb4 := hb1.trans (hb3.mono (by simp))
  obtain ⟨g, cap, rfl, hcap, hg, hc⟩ := own_cells hrow (by decide)
  have c0 := hc 0 (.int .u16 5) rfl
  have c1 := hc 1 (.int .u16 32770) rfl
  have c2 := hc 2 (.int .u16 22) rfl
  have c3 := hc 3 (.int .u16 0) rfl
  clear hc hrow hr hb1 hb3 hP
  simp only [List.length_cons, List.length_nil, Nat.zero_add, Nat.reduceAdd]
  go_wp2_with fail
  refine (hN.out _).mono ?_
  rintro e w5 ⟨v2, rfl, hrow2, hb5⟩
  obtain ⟨g', cap', rfl, _, _, _⟩ := own_cells hrow2 (by decide)
  have hb6 := hb4.trans (hb5.mono hb4.size)
  clear hrow2
  go_wp2
  go_ret
  exact ⟨rfl, hb6⟩
end Go.Proofs.Ytagimjaojpdfiaa
