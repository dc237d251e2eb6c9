/- The law's awake of gauge. -/
import Derived.Test.YtolbnbjbehdnaaaGaD
import Derived.Test.YtolbnbjbehdnaaaGaS
namespace Go.Proofs.Ytolbnbjbehdnaaa
open Go.RowKit
set_option linter.unusedVariables false
theorem srt312 : (srt [3, 1, 2])[(([3, 1, 2] : List Int).length - 1) / 2]?.getD 0 = 2 := by
  simp [srt, List.mergeSort, List.MergeSort.Internal.splitInTwo]
set_option maxHeartbeats 1600000 in
theorem gaAwake_any (w : World) : Calls Try.prog 6 #[] w fun e w' => e = .returned (.bool true) ∧ Below w.heap.size w w' := by
  have hN0 := Lib.hid (fun W => jNext0_any 0 0 0 5 (by decide) (by decide) (by decide) (by decide) (by decide) (by decide) W)
  have hN1 := Lib.hid (fun W => jNext1_any 0 5 10 31 (by decide) (by decide) (by decide) (by decide) (by decide) (by decide) (by decide) (by decide) W)
  rw [show jst 0 (max (31 - 10 - 5) (-(31 - 10 - 5))) = 16 from by decide] at hN1
  have hV := Lib.hid (fun W => jValue_any 16 21 true (by decide) (by decide) W)
  have hH := Lib.hid (fun (W : World) (b : Nat) (hb : b < W.heap.size) (hI : ∀ j, j < 3 → W.cell? ⟨b, 0 + j, none⟩ = some (.int .i64 (([3, 1, 2] : List Int)[j]?.getD 0))) => half_any b 0 3 [3, 1, 2] (by decide) (by decide) W hb hI 2 srt312)
  go_enter Try.func6, Try.ntmps6
  go_wp2_with fail
  refine (hN0.out _).mono ?_
  rintro e w3 ⟨rfl, hb3⟩
  go_wp2_with fail
  refine (hN1.out _).mono ?_
  rintro e w4 ⟨rfl, hb4⟩
  have hb5 : Below w.heap.size w w4 := hb3.trans (hb4.mono hb3.size)
  have hX := at3_new 25 w4 _ (.int .i64 16) (.int .i64 21) (.bool true) rfl
  have hb6 := hb5.alloc hb5.size (.cells #[.int .i64 16, .int .i64 21, .bool true] 25)
  have hle := hb5.size
  go_upto_region 2 with fail
  generalize w4.alloc (.cells #[.int .i64 16, .int .i64 21, .bool true] 25) = w5 at hX hb6 ⊢
  generalize w4.heap.size = g at hX hle ⊢
  clear hb5 hb4 hb3 hN0 hN1
  have hlt := hX.lt
  obtain ⟨_, _, _⟩ := hX.cells
  go_wp2_with fail
  refine (hV.out _).mono ?_
  rintro e w6 ⟨rfl, hb7⟩
  have hb8 := hb6.trans (hb7.mono (by omega))
  clear hV hX hlt
  go_wp2_with fail
  have hb9 := hb8.alloc hb8.size (.cells #[.int .i64 3, .int .i64 1, .int .i64 2] 3)
  refine (hH.out _ w6.heap.size (by simp) (fun j hj => ?r)).mono ?_
  case r =>
    match j, hj with
    | 0, _ => simp
    | 1, _ => simp
    | 2, _ => simp
  rintro e w7 ⟨rfl, hb10⟩
  have hb11 := hb9.trans (hb10.mono (Below.size hb9))
  clear hH
  go_wp2_with fail
  refine (tOut0_any _).mono ?_
  rintro e w8 ⟨rfl, hb12⟩
  have hb13 := hb11.trans (hb12.mono (Below.size hb11))
  go_wp2
  go_ret
  exact ⟨rfl, hb13⟩
end Go.Proofs.Ytolbnbjbehdnaaa
