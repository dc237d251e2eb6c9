/- Layer 11's statements: awake. -/
import Derived.Test.YtjoikidnnhjogaaMSfD
import Derived.Test.YtjoikidnnhjogaaMSfE
import Derived.Test.YtjoikidnnhjogaaMPcK
namespace Go.Proofs.Ytjoikidnnhjogaa
open Go.RowKit
set_option linter.unusedVariables false
def awS : AS := ⟨1, [⟨2, true, 5⟩]⟩
def awSS : ByteArray := { data := #[0, 0, 0, 1, 2, 1, 0, 5] }
theorem awS_p : asP ⟨1, [⟨2, true, 5⟩]⟩ = ⟨2, 211, awSS⟩ := by kernel_rfl
theorem awS_e : toSE ⟨2, 211, awSS⟩ = 0 := by kernel_rfl
theorem awS_b : toS ⟨2, 211, awSS⟩ = ⟨1, [⟨2, true, 5⟩]⟩ := by kernel_rfl
theorem awS_u : upsL [⟨2, true, 5⟩] = [2] := by kernel_rfl
set_option maxRecDepth 100000 in
set_option maxHeartbeats 3200000 in
theorem sfAwake_any (w : World) : Calls Try.prog 12 #[] w fun e w' => e = .returned (.bool true) ∧ Below w.heap.size w w' := by
  have hP0 := fun W a c (h : ReadsA W a [⟨2, true, 5⟩]) => advPiece_any 1 [⟨2, true, 5⟩] a c W h (by decide)
  rw [awS_p] at hP0
  have hT0 := fun W => toAds_any ⟨2, 211, awSS⟩ W (by decide)
  unfold ToSd at hT0
  rw [awS_e, awS_b] at hT0
  have hU := fun W a c (h : ReadsA W a [⟨2, true, 5⟩]) => advUp_any 1 [⟨2, true, 5⟩] a c W h (by decide)
  rw [awS_u] at hU
  simp only [List.length_cons, List.length_nil] at hP0 hT0 hU
  unfold awSS at hP0 hT0
  have HP := Lib.hid hP0
  have HT := Lib.hid hT0
  have HU := Lib.hid hU
  clear hP0 hT0 hU
  have hSm := fun a a2 n c c2 W hn hr hr2 => sameInts_any [2] a a2 n c c2 W hn hr hr2 (by decide)
  have HS := Lib.hid hSm
  clear hSm
  have hS0 : (w.alloc (.cells #[.int .i64 2, .bool true, .int .i64 5] 115)).heap[w.heap.size]? = some (.cells #[.int .i64 2, .bool true, .int .i64 5] 115 (0, 0)) := heap_alloc_new w _
  have hS : ReadsA (w.alloc (.cells #[.int .i64 2, .bool true, .int .i64 5] 115)) (some ⟨w.heap.size, 0, none⟩) [⟨2, true, 5⟩] := .inr ⟨w.heap.size, 0, rfl, fun i hi j v hv => by
    match i, hi with
    | 0, _ =>
      rw [show 0 + (0 * 3 + j) = j from by omega, cell_of_row _ w.heap.size j _ _ (0, 0) hS0]
      match j, hv with
      | 0, hv => simpa [AD.vals] using hv
      | 1, hv => simpa [AD.vals] using hv
      | 2, hv => simpa [AD.vals] using hv
      | (n + 3), hv => simp [AD.vals] at hv⟩
  have hS2 := hS.later ((Below.refl _ _).alloc (Nat.le_refl _) (.cells #[.int .u32 1, .slice (some ⟨w.heap.size, 0, none⟩) 1 1] 39))
  have hX2 := atC_new 39 (w.alloc (.cells #[.int .i64 2, .bool true, .int .i64 5] 115)) #[.int .u32 1, .slice (some ⟨w.heap.size, 0, none⟩) 1 1]
  have hb2 : Below w.heap.size w ((w.alloc (.cells #[.int .i64 2, .bool true, .int .i64 5] 115)).alloc (.cells #[.int .u32 1, .slice (some ⟨w.heap.size, 0, none⟩) 1 1] 39)) := by go_grown
  have hne : (w.alloc (.cells #[.int .i64 2, .bool true, .int .i64 5] 115)).heap.size = w.heap.size + 1 := by simp
  rw [hne] at hX2
  clear hS0 hS hne
  go_enter Try.func12, Try.ntmps12
  go_upto_region 2 with fail
  generalize (w.alloc (.cells #[.int .i64 2, .bool true, .int .i64 5] 115)).alloc (.cells #[.int .u32 1, .slice (some ⟨w.heap.size, 0, none⟩) 1 1] 39) = w2 at hS2 hX2 hb2 ⊢
  have hgl : w.heap.size ≤ w2.heap.size := by have := hX2.lt; omega
  generalize hg1 : w.heap.size + 1 = g1 at hX2 ⊢
  clear hg1
  obtain ⟨g, hg⟩ : ∃ g, w.heap.size = g := ⟨_, rfl⟩
  have HG := Lib.hid hg
  rw [hg] at hS2 hX2 hb2 hgl ⊢
  clear hg
  obtain ⟨x0, x1⟩ := hX2.cells2
  go_wp2_with fail
  refine (HP.out _ _ _ hS2).mono ?_
  rintro e w3 ⟨rfl, hb3⟩
  have hal : Below w3.heap.size w3 (w3.alloc (.cells #[.int .i64 2, .int .i64 211, .string { data := #[0, 0, 0, 1, 2, 1, 0, 5] }] 33)) := (Below.refl _ _).alloc (Nat.le_refl _) _
  have hP4 := pc_new w3 ⟨2, 211, { data := #[0, 0, 0, 1, 2, 1, 0, 5] }⟩
  simp only at hP4
  have hg3 : g ≤ w3.heap.size := by have := hb3.size; omega
  have hbb4 := (hb2.trans (hb3.mono hgl)).trans (hal.mono hg3)
  clear hS2 hX2 hb2 hb3 hal x0 x1
  go_upto_region 3 with fail
  generalize w3.alloc (.cells #[.int .i64 2, .int .i64 211, .string { data := #[0, 0, 0, 1, 2, 1, 0, 5] }] 33) = w4 at hP4 hbb4 ⊢
  generalize w3.heap.size = gp at hP4 hg3 ⊢
  obtain ⟨x0, x1, x2, _⟩ := pcAt_S hP4
  have hg4 : g ≤ w4.heap.size := by have := hP4.lt; omega
  go_wp2_with fail
  refine (HT.out _).mono ?_
  rintro e w5 ⟨hb5, a5, c5, rfl, hr5⟩
  have hal : Below w5.heap.size w5 (w5.alloc (.cells #[.int .u32 1, .slice a5 1 c5] 39)) := (Below.refl _ _).alloc (Nat.le_refl _) _
  have hB6 := atC_new 39 w5 #[.int .u32 1, .slice a5 1 c5]
  have hP6 := (hP4.later hb5).later hal
  have hr6 := hr5.later hal
  have hg5 : g ≤ w5.heap.size := by have := hb5.size; omega
  have hbb6 := (hbb4.trans (hb5.mono hg4)).trans (hal.mono hg5)
  clear hP4 hbb4 hb5 hal hr5 x0 x1 x2
  go_upto_region 4 with fail
  generalize w5.alloc (.cells #[.int .u32 1, .slice a5 1 c5] 39) = w6 at hB6 hP6 hr6 hbb6 ⊢
  generalize w5.heap.size = gb at hB6 hg5 ⊢
  obtain ⟨x0, x1, x2, _⟩ := pcAt_S hP6
  obtain ⟨y0, y1⟩ := hB6.cells2
  have hg6 : g ≤ w6.heap.size := by have := hB6.lt; omega
  go_wp2_with fail
  refine (HU.out _ _ _ hr6).mono ?_
  rintro e w7 ⟨hb7, a7, c7, rfl, hr7⟩
  have hbb7 := hbb6.trans (hb7.mono hg6)
  have hg7 : g ≤ w7.heap.size := by have := hb7.size; omega
  have hS0 : (w7.alloc (.cells #[.int .i64 2] 3)).heap[w7.heap.size]? = some (.cells #[.int .i64 2] 3 (0, 0)) := heap_alloc_new w7 _
  have hal : Below w7.heap.size w7 (w7.alloc (.cells #[.int .i64 2] 3)) := (Below.refl _ _).alloc (Nat.le_refl _) _
  have hra : Reads .i64 (w7.alloc (.cells #[.int .i64 2] 3)) a7 [2] := hr7.later hal
  have hrb : Reads .i64 (w7.alloc (.cells #[.int .i64 2] 3)) (some ⟨w7.heap.size, 0, none⟩) [2] := .inr ⟨w7.heap.size, 0, rfl, fun i hi => by
    match i, hi with
    | 0, _ => exact cell_of_row _ w7.heap.size 0 _ _ (0, 0) hS0⟩
  have hbb8 := hbb7.trans (hal.mono hg7)
  have hg8 : g ≤ (w7.alloc (.cells #[.int .i64 2] 3)).heap.size := by simp; omega
  clear hB6 hP6 hr6 hbb6 hb7 hr7 hS0 hal hbb7 x0 x1 x2 y0 y1
  go_wp2_with fail
  refine (HS.out _ _ _ _ _ _ rfl hra hrb).mono ?_
  rintro e w9 ⟨rfl, hb9⟩
  go_wp2
  go_ret
  exact ⟨rfl, by rw [HG.out]; exact hbb8.trans (hb9.mono hg8)⟩
end Go.Proofs.Ytjoikidnnhjogaa

