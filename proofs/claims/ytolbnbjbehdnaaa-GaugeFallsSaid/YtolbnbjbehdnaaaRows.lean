/-
  No cell of these rows narrows 'for every input' (looked for: loops, veiled, ifaces, maps, wideKeys, modest, calm, conditions, laid).
  DERIVED. THE GIVEN ROWS OF THIS SEAT. 3 by the template 'for every input the law returns true; each argument reads behind the call as it read before'; 0 by the template 'total and deterministic' (their statements: YtolbnbjbehdnaaaTotals.lean).
  GIVEN WITH THE SEED: the statements are not yours to turn. If you find one false, say at which input.
  Laid BY PROGRAM, IN A SANDBOX (cutbox-rows.mjs): the forced cells as the released guide's own fill.sh prints them over the translation 7f22d122ea5750cc… (all of the seat's roots in one cut). By AI agents, Wed Nov 11 2026. No macro, syntax, notation, axiom, sorry.
-/
import Derived.Test.YtolbnbjbehdnaaaChecked
import GoSem.Claim
import GoSem.ClaimJoined
import GoSem.ClaimMapViews
import Derived.JoinedTies
import Derived.KernelRfl
namespace Go.Proofs.Ytolbnbjbehdnaaa
/- THE CELL 'sum', in the pinned program and in every row, IS THE sha256 OF THE DUMP (.gsa) THAT YtolbnbjbehdnaaaProg.lean LOADS. Nothing in Lean hashes anything: it is a label: what it is worth is what the hold of that sum in a sandbox is worth. -/
noncomputable def Try.pinned : Pinned := { name := "ytolbnbjbehdnaaa", sum := "7f22d122ea5750cc8a3d0a416c2c6b90d0c6bb418a3b0c8206cf664ce2b80d4e", checked := Try.checked }
namespace Rows
def none {H : Type} : Left H := { results := [], args := [] }

/-- 'cordellelaw15.GaugeEven': WHATEVER THE INPUT: true; the input reads as it did. -/
def gaugeEvenSpec : ChangeSpec := { name := "gaugeEven", fn := fun _ => fun
  | [d1, d2] => { results := [.lit (.bool true)], args := [d1, d2] }
  | _ => none }
def gaugeEvenRow : OpenClaim := { program := "ytolbnbjbehdnaaa", sum := "7f22d122ea5750cc8a3d0a416c2c6b90d0c6bb418a3b0c8206cf664ce2b80d4e", func := "cordelle/cordellelaw15.GaugeEven", spec := "gaugeEven", unfollowed := true, recurses := true, apart := false }
def GaugeEvenSaid : Prop := gaugeEvenRow.holds Try.pinned (OpenSpec.ofChange gaugeEvenSpec)

/-- ITS FALSE NEIGHBOUR: 'it returns false'. Refute it at one input. -/
def gaugeEvenWrong : ChangeSpec := { name := "gaugeEven", fn := fun _ => fun
  | [d1, d2] => { results := [.lit (.bool false)], args := [d1, d2] }
  | _ => none }
def GaugeEvenWrongFalsely : Prop := gaugeEvenRow.holds Try.pinned (OpenSpec.ofChange gaugeEvenWrong)

/-- 'cordellelaw15.GaugeFalls': WHATEVER THE INPUT: true; the input reads as it did. -/
def gaugeFallsSpec : ChangeSpec := { name := "gaugeFalls", fn := fun _ => fun
  | [d1, d2] => { results := [.lit (.bool true)], args := [d1, d2] }
  | _ => none }
def gaugeFallsRow : OpenClaim := { program := "ytolbnbjbehdnaaa", sum := "7f22d122ea5750cc8a3d0a416c2c6b90d0c6bb418a3b0c8206cf664ce2b80d4e", func := "cordelle/cordellelaw15.GaugeFalls", spec := "gaugeFalls", unfollowed := true, recurses := true, apart := false }
def GaugeFallsSaid : Prop := gaugeFallsRow.holds Try.pinned (OpenSpec.ofChange gaugeFallsSpec)

/-- ITS FALSE NEIGHBOUR: 'it returns false'. Refute it at one input. -/
def gaugeFallsWrong : ChangeSpec := { name := "gaugeFalls", fn := fun _ => fun
  | [d1, d2] => { results := [.lit (.bool false)], args := [d1, d2] }
  | _ => none }
def GaugeFallsWrongFalsely : Prop := gaugeFallsRow.holds Try.pinned (OpenSpec.ofChange gaugeFallsWrong)

/-- 'cordellelaw15.GaugeSteady': WHATEVER THE INPUT: true; the input reads as it did. -/
def gaugeSteadySpec : ChangeSpec := { name := "gaugeSteady", fn := fun _ => fun
  | [d1, d2] => { results := [.lit (.bool true)], args := [d1, d2] }
  | _ => none }
def gaugeSteadyRow : OpenClaim := { program := "ytolbnbjbehdnaaa", sum := "7f22d122ea5750cc8a3d0a416c2c6b90d0c6bb418a3b0c8206cf664ce2b80d4e", func := "cordelle/cordellelaw15.GaugeSteady", spec := "gaugeSteady", unfollowed := true, recurses := true, apart := false }
def GaugeSteadySaid : Prop := gaugeSteadyRow.holds Try.pinned (OpenSpec.ofChange gaugeSteadySpec)

/-- ITS FALSE NEIGHBOUR: 'it returns false'. Refute it at one input. -/
def gaugeSteadyWrong : ChangeSpec := { name := "gaugeSteady", fn := fun _ => fun
  | [d1, d2] => { results := [.lit (.bool false)], args := [d1, d2] }
  | _ => none }
def GaugeSteadyWrongFalsely : Prop := gaugeSteadyRow.holds Try.pinned (OpenSpec.ofChange gaugeSteadyWrong)

/- THE SECOND FORM. 'bulk': how many values and letters a reading holds, each counted each time it is reached (what is shared counts as often as it is met; a slice's spare places count too). A statement '..UptoSaid' is the law's where the arguments, and the package variables that the reading takes, are together of bulk at most 1048576: NARROWER than '..Said'. Prove '..Said' where nothing that the law and all that it calls make is longer than what came in: it says more and counts as full. Else prove '..UptoSaid'. A law counts once. -/
mutual
def uptoBulk {H : Type} : DataW H → Nat
  | .lit (.string bytes) => bytes.length + 1
  | .lit _ => 1
  | .nil => 1
  | .ptr d => uptoBulk d + 1
  | .slice elems spare => uptoBulkAll elems + uptoBulkAll spare + 1
  | .agg parts => uptoBulkAll parts + 1
  | .iface _ d => uptoBulk d + 1
  | .map entries => uptoBulkEntries entries + 1
  | .held _ => 1
def uptoBulkAll {H : Type} : List (DataW H) → Nat
  | [] => 0
  | d :: r => uptoBulk d + uptoBulkAll r
def uptoBulkEntries {H : Type} : List (Lit × DataW H) → Nat
  | [] => 0
  | x :: r => uptoBulkEntry x + uptoBulkEntries r
def uptoBulkEntry {H : Type} : Lit × DataW H → Nat
  | (.string bytes, d) => bytes.length + uptoBulk d + 1
  | (_, d) => uptoBulk d + 1
 end
def uptoSmall : (H : Type) → List (DataW H) → Bool := fun _ ds => decide (uptoBulkAll ds ≤ 1048576)
def OpenSpec.upto (s : _root_.Go.ChangeSpec) : _root_.Go.OpenSpec := { _root_.Go.OpenSpec.ofChange s with cond := some uptoSmall }

/-- 'cordellelaw15.GaugeEven', WHERE WHAT IT READS IS OF BULK AT MOST 1048576: true; the input reads as it did. -/
def gaugeEvenUptoRow : OpenClaim := { program := "ytolbnbjbehdnaaa", sum := "7f22d122ea5750cc8a3d0a416c2c6b90d0c6bb418a3b0c8206cf664ce2b80d4e", func := "cordelle/cordellelaw15.GaugeEven", spec := "gaugeEven", unfollowed := true, recurses := true, apart := false, narrowed := true }
def GaugeEvenUptoSaid : Prop := gaugeEvenUptoRow.holds Try.pinned (OpenSpec.upto gaugeEvenSpec)

/-- 'cordellelaw15.GaugeFalls', WHERE WHAT IT READS IS OF BULK AT MOST 1048576: true; the input reads as it did. -/
def gaugeFallsUptoRow : OpenClaim := { program := "ytolbnbjbehdnaaa", sum := "7f22d122ea5750cc8a3d0a416c2c6b90d0c6bb418a3b0c8206cf664ce2b80d4e", func := "cordelle/cordellelaw15.GaugeFalls", spec := "gaugeFalls", unfollowed := true, recurses := true, apart := false, narrowed := true }
def GaugeFallsUptoSaid : Prop := gaugeFallsUptoRow.holds Try.pinned (OpenSpec.upto gaugeFallsSpec)

/-- 'cordellelaw15.GaugeSteady', WHERE WHAT IT READS IS OF BULK AT MOST 1048576: true; the input reads as it did. -/
def gaugeSteadyUptoRow : OpenClaim := { program := "ytolbnbjbehdnaaa", sum := "7f22d122ea5750cc8a3d0a416c2c6b90d0c6bb418a3b0c8206cf664ce2b80d4e", func := "cordelle/cordellelaw15.GaugeSteady", spec := "gaugeSteady", unfollowed := true, recurses := true, apart := false, narrowed := true }
def GaugeSteadyUptoSaid : Prop := gaugeSteadyUptoRow.holds Try.pinned (OpenSpec.upto gaugeSteadySpec)

end Rows
end Go.Proofs.Ytolbnbjbehdnaaa
