/- notes' law: awake. -/
import Derived.Test.YtjoikidnnhjogaaNtI
namespace Go.Proofs.Ytjoikidnnhjogaa
open Go.RowKit
set_option linter.unusedVariables false
def awY : BY := ⟨{ data := #[97, 98] }, [1]⟩
def awYS : ByteArray := { data := #[0, 0, 0, 1, 2, 97, 98, 0] }
theorem awY_p : byP awY = ⟨1, 203, awYS⟩ := by kernel_rfl
theorem awY_e : toBE ⟨1, 203, awYS⟩ = 0 := by kernel_rfl
theorem awY_b : toB ⟨1, 203, awYS⟩ = awY := by kernel_rfl
set_option maxRecDepth 100000 in
set_option maxHeartbeats 1600000 in
theorem ntAwake_any (w : World) : Calls Try.prog 23 #[] w fun e w' => e = .returned (.bool true) ∧ Below w.heap.size w w' := by
  have hP := fun W a c h => byePiece_any awY a c W h (by decide) (by decide)
  have hT := fun W => toBye_any ⟨1, 203, awYS⟩ W (by decide)
  unfold ToBd at hT
  rw [awY_e, awY_b] at hT
  rw [awY_p] at hP
  have hG1 := fun W a c h => goes_any awY 1 a c W h (by decide) true (by decide)
  have hG2 := fun W a c h => goes_any awY 2 a c W h (by decide) false (by decide)
  unfold awY at hP hT hG1 hG2
  unfold awYS at hP hT
  simp only [List.length_cons, List.length_nil] at hP hT hG1 hG2
  have HP := Lib.hid hP
  have HT := Lib.hid hT
  have HG1 := Lib.hid hG1
  have HG2 := Lib.hid hG2
  clear hP hT hG1 hG2
  have hS0 : (w.alloc (.cells #[.int .u32 1] 26)).heap[w.heap.size]? = some (.cells #[.int .u32 1] 26 (0, 0)) := heap_alloc_new w _
  have hS : Reads .u32 (w.alloc (.cells #[.int .u32 1] 26)) (some ⟨w.heap.size, 0, none⟩) [1] := .inr ⟨w.heap.size, 0, rfl, fun i hi => by
    match i, hi with
    | 0, _ => exact cell_of_row _ w.heap.size 0 _ _ (0, 0) hS0⟩
  have hS2 := hS.later ((Below.refl _ _).alloc (Nat.le_refl _) (.cells #[.string { data := #[97, 98] }, .slice (some ⟨w.heap.size, 0, none⟩) 1 1] 52))
  have hX2 := atC_new 52 (w.alloc (.cells #[.int .u32 1] 26)) #[.string { data := #[97, 98] }, .slice (some ⟨w.heap.size, 0, none⟩) 1 1]
  have hb2 : Below w.heap.size w ((w.alloc (.cells #[.int .u32 1] 26)).alloc (.cells #[.string { data := #[97, 98] }, .slice (some ⟨w.heap.size, 0, none⟩) 1 1] 52)) := by go_grown
  have hne : (w.alloc (.cells #[.int .u32 1] 26)).heap.size = w.heap.size + 1 := by simp
  rw [hne] at hX2
  clear hS0 hS hne
  go_enter Try.func23, Try.ntmps23
  go_upto_region 2 with fail
  generalize (w.alloc (.cells #[.int .u32 1] 26)).alloc (.cells #[.string { data := #[97, 98] }, .slice (some ⟨w.heap.size, 0, none⟩) 1 1] 52) = w2 at hS2 hX2 hb2 ⊢
  have hgl : w.heap.size ≤ w2.heap.size := by have := hX2.lt; omega
  generalize hg1 : w.heap.size + 1 = g1 at hX2 ⊢
  clear hg1
  obtain ⟨g, hg⟩ : ∃ g, w.heap.size = g := ⟨_, rfl⟩
  have HG := Lib.hid hg
  rw [hg] at hS2 hX2 hb2 hgl ⊢
  clear hg
  obtain ⟨x0, x1⟩ := hX2.cells2
  go_wp2_with fail
  refine (HP.out _ _ _ hS2).mono ?_
  rintro e w3 ⟨rfl, hb3⟩
  have hal : Below w3.heap.size w3 (w3.alloc (.cells #[.int .i64 1, .int .i64 203, .string { data := #[0, 0, 0, 1, 2, 97, 98, 0] }] 33)) := (Below.refl _ _).alloc (Nat.le_refl _) _
  have hP4 := pc_new w3 ⟨1, 203, { data := #[0, 0, 0, 1, 2, 97, 98, 0] }⟩
  simp only at hP4
  have hg3 : g ≤ w3.heap.size := by have := hb3.size; omega
  have hbb4 := (hb2.trans (hb3.mono hgl)).trans (hal.mono hg3)
  clear hS2 hX2 hb2 hb3 hal x0 x1
  go_upto_region 3 with fail
  generalize w3.alloc (.cells #[.int .i64 1, .int .i64 203, .string { data := #[0, 0, 0, 1, 2, 97, 98, 0] }] 33) = w4 at hP4 hbb4 ⊢
  generalize w3.heap.size = gp at hP4 hg3 ⊢
  obtain ⟨x0, x1, x2, _⟩ := pcAt_S hP4
  have hg4 : g ≤ w4.heap.size := by have := hP4.lt; omega
  go_wp2_with fail
  refine (HT.out _).mono ?_
  rintro e w5 ⟨hb5, a5, c5, rfl, hr5⟩
  have hal : Below w5.heap.size w5 (w5.alloc (.cells #[.string { data := #[97, 98] }, .slice a5 1 c5] 52)) := (Below.refl _ _).alloc (Nat.le_refl _) _
  have hB6 := atC_new 52 w5 #[.string { data := #[97, 98] }, .slice a5 1 c5]
  have hP6 := (hP4.later hb5).later hal
  have hr6 := hr5.later hal
  have hg5 : g ≤ w5.heap.size := by have := hb5.size; omega
  have hbb6 := (hbb4.trans (hb5.mono hg4)).trans (hal.mono hg5)
  clear hP4 hbb4 hb5 hal hr5 x0 x1 x2
  go_upto_region 4 with fail
  generalize w5.alloc (.cells #[.string { data := #[97, 98] }, .slice a5 1 c5] 52) = w6 at hB6 hP6 hr6 hbb6 ⊢
  generalize w5.heap.size = gb at hB6 hg5 ⊢
  obtain ⟨x0, x1, x2, _⟩ := pcAt_S hP6
  obtain ⟨y0, y1⟩ := hB6.cells2
  have hg6 : g ≤ w6.heap.size := by have := hB6.lt; omega
  go_wp2_with fail
  refine (HG1.out _ _ _ hr6).mono ?_
  rintro e w7 ⟨rfl, hb7⟩
  have hB7 := hB6.later hb7
  have hr7 := hr6.later hb7
  have hbb7 := hbb6.trans (hb7.mono hg6)
  have hg7 : g ≤ w7.heap.size := by have := hb7.size; omega
  clear hB6 hP6 hr6 hbb6 hb7 x0 x1 x2 y0 y1
  obtain ⟨y0, y1⟩ := hB7.cells2
  go_wp2_with fail
  refine (HG2.out _ _ _ hr7).mono ?_
  rintro e w8 ⟨rfl, hb8⟩
  go_wp2
  go_ret
  exact ⟨rfl, by rw [HG.out]; exact hbb7.trans (hb8.mono hg7)⟩
end Go.Proofs.Ytjoikidnnhjogaa

