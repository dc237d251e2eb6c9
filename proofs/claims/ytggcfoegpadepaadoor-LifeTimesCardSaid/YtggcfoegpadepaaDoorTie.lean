/-
  DERIVED. GIVEN WITH THE SEED: THE PROGRAM's TIES (one call each: nine closed facts by the kernel) AND EACH ROW's TIE, after the 31st guide's Derived/Test/Toyas{Tie, Card}.lean. No idea stands in it: it is a product of the set-up. Laid BY PROGRAM, IN A SANDBOX (cutbox-door.mjs). By AI agents, Wed Nov 11 2026. No macro, syntax, notation, axiom, sorry.
-/
import Derived.Test.YtggcfoegpadepaaDoorRows
import Derived.LaidByTextLater
import Derived.SevenTiedAt
import Derived.LaidSub
import Derived.LaidOnce
namespace Go.Proofs.YtggcfoegpadepaaDoor
open Go
set_option maxRecDepth 100000
theorem seatTie1 : Tryd.prog.laidByTextLater [("cordelle/life.byLow", Rows.laid_cordelle_life_byLow), ("cordelle/life.byHigh", Rows.laid_cordelle_life_byHigh), ("cordelle/life.divisor", Rows.laid_cordelle_life_divisor)] [.data, .data, .data] true :=
  Program.laidByTextLater_by_one 24 8 5 (by kernel_rfl) (by kernel_rfl) (by kernel_rfl) (by kernel_rfl) (by kernel_rfl) (by kernel_rfl) (fun _ _ => by kernel_rfl)
theorem noOwnUnsafe : Tryd.pinned.checked.prog.headLifts.contains "ownunsafe" = false := by kernel_rfl
theorem tie : Tryd.prog.laidByTextLater [("cordelle/life.byLow", Rows.laid_cordelle_life_byLow), ("cordelle/life.byHigh", Rows.laid_cordelle_life_byHigh), ("cordelle/life.divisor", Rows.laid_cordelle_life_divisor)] [.data, .data, .data] true :=
  Program.laidByTextLater.sub seatTie1 ["cordelle/life.byLow", "cordelle/life.byHigh", "cordelle/life.divisor"] (by kernel_rfl) (by kernel_rfl)
theorem lifePlays_row_tie : Rows.lifePlaysRow.laidByTextAt .later Tryd.pinned [.data, .data, .data] true :=
  OpenClaim.laidByTextAt_later rfl rfl tie noOwnUnsafe
theorem lifeWeights_row_tie : Rows.lifeWeightsRow.laidByTextAt .later Tryd.pinned [.data, .data, .data] true :=
  OpenClaim.laidByTextAt_later rfl rfl tie noOwnUnsafe
theorem cordelleHealth_row_tie : Rows.cordelleHealthRow.laidByTextAt .later Tryd.pinned [.data, .data, .data] true :=
  OpenClaim.laidByTextAt_later rfl rfl tie noOwnUnsafe
theorem tie2 : Tryd.prog.laidByTextLater [("cordelle/life.byLow", Rows.laid_cordelle_life_byLow), ("cordelle/life.byHigh", Rows.laid_cordelle_life_byHigh)] [.data, .data] true :=
  Program.laidByTextLater.sub seatTie1 ["cordelle/life.byLow", "cordelle/life.byHigh"] (by kernel_rfl) (by kernel_rfl)
theorem lifeTimes_row_tie : Rows.lifeTimesRow.laidByTextAt .later Tryd.pinned [.data, .data] true :=
  OpenClaim.laidByTextAt_later rfl rfl tie2 noOwnUnsafe
theorem lifePlaysUpto_row_tie : Rows.lifePlaysUptoRow.laidByTextAt .later Tryd.pinned [.data, .data, .data] true :=
  OpenClaim.laidByTextAt_later rfl rfl tie noOwnUnsafe
theorem lifeTimesUpto_row_tie : Rows.lifeTimesUptoRow.laidByTextAt .later Tryd.pinned [.data, .data] true :=
  OpenClaim.laidByTextAt_later rfl rfl tie2 noOwnUnsafe
theorem lifeWeightsUpto_row_tie : Rows.lifeWeightsUptoRow.laidByTextAt .later Tryd.pinned [.data, .data, .data] true :=
  OpenClaim.laidByTextAt_later rfl rfl tie noOwnUnsafe
theorem cordelleHealthUpto_row_tie : Rows.cordelleHealthUptoRow.laidByTextAt .later Tryd.pinned [.data, .data, .data] true :=
  OpenClaim.laidByTextAt_later rfl rfl tie noOwnUnsafe
end Go.Proofs.YtggcfoegpadepaaDoor
