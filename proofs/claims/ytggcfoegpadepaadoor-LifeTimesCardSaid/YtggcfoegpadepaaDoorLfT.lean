/- life: the tables out of what is laid. -/
import Derived.Test.YtggcfoegpadepaaDoorLfB
import Derived.ProofKit
import Derived.LaidMore
import Derived.OpenShut
import Derived.MakeChecks
namespace Go.Proofs.YtggcfoegpadepaaDoor
open Go.ChangeShapes Go.WideShapes Go.ChangeAt Go.RowKit
set_option linter.unusedVariables false
/-- An array of ints that reads as said: its cells. -/
theorem arr_cells {H : Type} {enc : TypeId × Value → H} {P : Program} {w : World} {base : Nat} {spare : Nat → Bool} {held : Bool} {fuel : Nat} {t e : TypeId} {cs : List Value} {x : DataW H × List MemPlace} {n : Nat} (zs : List Int)
    (ht : P.underlying t = some (.array n e)) (he : P.underlying e = some (.int .i64)) (hce : P.cellsOf e = 1) (hct : P.cellsOf t = n)
    (h : DataW.trod enc P w base spare held fuel t cs = some x) (hx : x.1 = DataW.agg (zs.map fun z => DataW.lit (.int .i64 z))) (i : Nat) (z : Int) (hi : zs[i]? = some z) : cs[i]? = some (Value.int .i64 z) := by
  obtain ⟨xs, m, rfl, hx1, hlen, hn, hel⟩ := DataW.trod_array ht h
  rw [hx1] at hx
  simp only [DataW.agg.injEq] at hx
  have hzl : i < zs.length := (List.getElem?_eq_some_iff.1 hi).1
  have hxl : zs.length = xs.length := by have := congrArg List.length hx; simpa using this.symm
  have hin : i < n := by omega
  have h1 := hel i hin
  rw [hce, Nat.mul_one] at h1
  have hcl : i < cs.length := by omega
  have htk : (cs.drop i).take 1 = [cs[i]'hcl] := by rw [List.drop_eq_getElem_cons hcl]; rfl
  rw [htk] at h1
  have hxs : xs[i]? = some (xs[i]'(by omega)) := List.getElem?_eq_getElem (by omega)
  rw [hxs] at h1
  obtain ⟨k, e1, e2, _⟩ := DataW.trod_int he h1
  have hz : (xs.map (·.1))[i]? = (zs.map fun z => DataW.lit (.int .i64 z))[i]? := by rw [hx]
  rw [List.getElem?_map, hxs, List.getElem?_map, hi] at hz
  simp only [Option.map_some, Option.some.injEq] at hz
  rw [e2] at hz
  have hk : k = z := by simpa using hz
  rw [List.getElem?_eq_getElem hcl, ← hk]
  simpa using e1
theorem cells_of {P : Program} {W : World} {nm : String} {g : Nat} {cs : Array Value} {v : Value} {i : Nat} (hg : P.globalNamed nm = some g) (hv : W.var? P nm = some cs) (h : cs.toList[i]? = some v) : W.cell? ⟨g, i, none⟩ = some v := by
  rw [World.var?_cell hg hv i]
  simpa using h
theorem gLow : Tryd.prog.globalNamed "cordelle/life.byLow" = some 0 := by kernel_rfl
theorem gDiv : Tryd.prog.globalNamed "cordelle/life.divisor" = some 1 := by kernel_rfl
theorem gHigh : Tryd.prog.globalNamed "cordelle/life.byHigh" = some 2 := by kernel_rfl
theorem tLow : (Tryd.prog.globals[0]?).map (·.type) = some 45 := by kernel_rfl
theorem tDiv : (Tryd.prog.globals[1]?).map (·.type) = some 70 := by kernel_rfl
theorem tHigh : (Tryd.prog.globals[2]?).map (·.type) = some 45 := by kernel_rfl
theorem tb_of {W : World} (h0 : ∀ i z, [(1 : Int), 1, 1, 0][i]? = some z → W.cell? ⟨0, i, none⟩ = some (.int .i64 z)) (h2 : ∀ i z, [(0 : Int), 2, 2, 3][i]? = some z → W.cell? ⟨2, i, none⟩ = some (.int .i64 z)) : Tb W := by
  intro n hn
  match n, hn with
  | 0, _ => exact ⟨h0 0 1 rfl, h2 0 0 rfl⟩
  | 1, _ => exact ⟨h0 1 1 rfl, h2 1 2 rfl⟩
  | 2, _ => exact ⟨h0 2 1 rfl, h2 2 2 rfl⟩
  | 3, _ => exact ⟨h0 3 0 rfl, h2 3 3 rfl⟩
theorem td_of {W : World} (h1 : ∀ i z, [(4 : Int), 1, 2][i]? = some z → W.cell? ⟨1, i, none⟩ = some (.int .i64 z)) : Td W := by
  intro n hn
  match n, hn with
  | 0, _ => exact h1 0 4 rfl
  | 1, _ => exact h1 1 1 rfl
  | 2, _ => exact h1 2 2 rfl
def laidA {H : Type} : List (String × DataW H) := [("cordelle/life.byLow", Rows.laid_cordelle_life_byLow), ("cordelle/life.byHigh", Rows.laid_cordelle_life_byHigh), ("cordelle/life.divisor", Rows.laid_cordelle_life_divisor)]
def laidB {H : Type} : List (String × DataW H) := [("cordelle/life.byLow", Rows.laid_cordelle_life_byLow), ("cordelle/life.byHigh", Rows.laid_cordelle_life_byHigh)]
theorem door_metA (os : Os) (args : Array Value) : laidMetH Tryd.prog laidA ((World.doorLaid Tryd.prog 400 os).forCall (fun _ _ => 0) ⟨#[], args, []⟩).memory :=
  laidMetH_of_parts3 (fuel := 8) (laidMet_of_run' 8 (by kernel_rfl) (by kernel_rfl)) (by kernel_rfl) (by kernel_rfl)
theorem door_metB (os : Os) (args : Array Value) : laidMetH Tryd.prog laidB ((World.doorLaid Tryd.prog 400 os).forCall (fun _ _ => 0) ⟨#[], args, []⟩).memory :=
  laidMetH_of_parts3 (fuel := 8) (laidMet_of_run' 8 (by kernel_rfl) (by kernel_rfl)) (by kernel_rfl) (by kernel_rfl)
theorem of_laidB {W : World} (h : laidMetH Tryd.prog laidB W) : Tb W := by
  rw [MakeChecks.laidMetH_plain _ _ _ (by kernel_rfl)] at h
  obtain ⟨ps, ⟨g0, t0, cs0, f0, p0, q0, hg0, ht0, hv0, hd0, ⟨g1, t1, cs1, f1, p1, q1, hg1, ht1, hv1, hd1, _, _⟩, _⟩, _, _⟩ := h
  obtain rfl := Option.some.inj (gLow.symm.trans hg0)
  obtain rfl := Option.some.inj (gHigh.symm.trans hg1)
  obtain rfl := Option.some.inj (tLow.symm.trans ht0)
  obtain rfl := Option.some.inj (tHigh.symm.trans ht1)
  exact tb_of (fun i z hi => cells_of hg0 hv0 (arr_cells [1, 1, 1, 0] Tryd.underlying45 Tryd.underlying3 (by kernel_rfl) (by kernel_rfl) hd0 rfl i z hi))
    (fun i z hi => cells_of hg1 hv1 (arr_cells [0, 2, 2, 3] Tryd.underlying45 Tryd.underlying3 (by kernel_rfl) (by kernel_rfl) hd1 rfl i z hi))
theorem of_laidA {W : World} (h : laidMetH Tryd.prog laidA W) : Tb W ∧ Td W := by
  rw [MakeChecks.laidMetH_plain _ _ _ (by kernel_rfl)] at h
  obtain ⟨ps, ⟨g0, t0, cs0, f0, p0, q0, hg0, ht0, hv0, hd0, ⟨g1, t1, cs1, f1, p1, q1, hg1, ht1, hv1, hd1, ⟨g2, t2, cs2, f2, p2, q2, hg2, ht2, hv2, hd2, _, _⟩, _⟩, _⟩, _, _⟩ := h
  obtain rfl := Option.some.inj (gLow.symm.trans hg0)
  obtain rfl := Option.some.inj (gHigh.symm.trans hg1)
  obtain rfl := Option.some.inj (gDiv.symm.trans hg2)
  obtain rfl := Option.some.inj (tLow.symm.trans ht0)
  obtain rfl := Option.some.inj (tHigh.symm.trans ht1)
  obtain rfl := Option.some.inj (tDiv.symm.trans ht2)
  exact ⟨tb_of (fun i z hi => cells_of hg0 hv0 (arr_cells [1, 1, 1, 0] Tryd.underlying45 Tryd.underlying3 (by kernel_rfl) (by kernel_rfl) hd0 rfl i z hi))
    (fun i z hi => cells_of hg1 hv1 (arr_cells [0, 2, 2, 3] Tryd.underlying45 Tryd.underlying3 (by kernel_rfl) (by kernel_rfl) hd1 rfl i z hi)),
    td_of (fun i z hi => cells_of hg2 hv2 (arr_cells [4, 1, 2] Tryd.underlying70 Tryd.underlying3 (by kernel_rfl) (by kernel_rfl) hd2 rfl i z hi))⟩
end Go.Proofs.YtggcfoegpadepaaDoor
