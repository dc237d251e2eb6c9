/- split: the law's awake. -/
import Derived.Test.YtihbhgimceglnaaSpE
namespace Go.Proofs.Ytihbhgimceglnaa
open Go.RowKit
set_option linter.unusedVariables false
set_option linter.unusedSimpArgs false
set_option maxRecDepth 100000 in
set_option maxHeartbeats 1600000 in
theorem spAwake_any (w : World) : Calls Try.prog 12 #[] w fun e w' => e = .returned (.bool true) ∧ Below w.heap.size w w' := by
  have HS := Lib.hid (split_some (⟨#[97, 98, 99, 100, 101]⟩ : ByteArray) 2 w (by decide))
  rw [show spN (⟨#[97, 98, 99, 100, 101]⟩ : ByteArray).size (spC 2) = 3 from rfl, show (spL (⟨#[97, 98, 99, 100, 101]⟩ : ByteArray) (spC 2) 3).map Value.string = [.string ⟨#[97, 98]⟩, .string ⟨#[99, 100]⟩, .string ⟨#[101]⟩] from rfl] at HS
  go_enter Try.func12, Try.ntmps12
  go_wp2_with fail
  refine HS.out.mono ?_
  rintro e w1 ⟨v, rfl, hL, hb1⟩
  clear HS
  obtain ⟨g, off, cap, rfl, _, hcm, _, hgl, hc⟩ := (ownE_of hL).1.cells (by decide)
  have hc2 := (hc 2 (.string ⟨#[101]⟩) rfl).1
  unfold maxLen at hcm
  go_wp2_with fail
  refine (spNew_any 7 1 3 w1).mono ?_
  rintro e w2 ⟨gf, rfl, hF2, hb2⟩
  have hbb := hb1.trans (hb2.mono hb1.size)
  have hc3 : w2.cell? ⟨g, off + 2, none⟩ = some (.string ⟨#[101]⟩) := by rw [hb2.cell (p := ⟨g, off + 2, none⟩) hgl]; exact hc2
  have h1 := hb1.size
  have HP := Lib.hid (spPutNew hF2 0 (⟨#[120]⟩ : ByteArray) rfl (by decide))
  rw [show spK 1 = 1 from rfl, show spH (spNo 1) = 0 from rfl, if_pos rfl] at HP
  clear hc hc2 hL hb1 hb2
  go_wp2_with fail
  refine HP.out.mono ?_
  rintro e w3 ⟨rfl, ⟨mp', hF3, _⟩, hb3, _⟩
  have HT := Lib.hid (spTime_q hF3)
  have HI := Lib.hid (spFirst_q hF3)
  have hb4 : Below w.heap.size w w3 := hbb.trans (hb3.mono h1)
  clear HP hF2
  go_wp2_with fail
  refine HT.out.mono ?_
  rintro e w4 ⟨rfl, hq⟩
  subst hq
  go_wp2_with fail
  refine HI.out.mono ?_
  rintro e w4 ⟨rfl, hq⟩
  subst hq
  go_wp2_with fail
  go_ret
  exact ⟨rfl, hb4⟩
end Go.Proofs.Ytihbhgimceglnaa
