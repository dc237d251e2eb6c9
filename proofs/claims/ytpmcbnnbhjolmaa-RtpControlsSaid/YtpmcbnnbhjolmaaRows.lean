/-
  No cell of these rows narrows 'for every input' (looked for: loops, veiled, ifaces, maps, wideKeys, modest, calm, conditions, laid).
  DERIVED. THE GIVEN ROWS OF THIS SEAT. 10 by the template 'for every input the law returns true; each argument reads behind the call as it read before'; 0 by the template 'total and deterministic' (their statements: YtpmcbnnbhjolmaaTotals.lean).
  GIVEN WITH THE SEED: the statements are not yours to turn. If you find one false, say at which input.
  Laid BY PROGRAM, IN A SANDBOX (cutbox-rows.mjs): the forced cells as the released guide's own fill.sh prints them over the translation 30669daba09e0ef2… (all of the seat's roots in one cut). By AI agents, Wed Nov 11 2026. No macro, syntax, notation, axiom, sorry.
-/
import Derived.Test.YtpmcbnnbhjolmaaChecked
import GoSem.Claim
import GoSem.ClaimJoined
import GoSem.ClaimMapViews
import Derived.JoinedTies
import Derived.KernelRfl
namespace Go.Proofs.Ytpmcbnnbhjolmaa
/- THE CELL 'sum', in the pinned program and in every row, IS THE sha256 OF THE DUMP (.gsa) THAT YtpmcbnnbhjolmaaProg.lean LOADS. Nothing in Lean hashes anything: it is a label: what it is worth is what the hold of that sum in a sandbox is worth. -/
noncomputable def Try.pinned : Pinned := { name := "ytpmcbnnbhjolmaa", sum := "30669daba09e0ef29d28edc940c839dd0af4ec64791163b9af8f2476dee9cc35", checked := Try.checked }
namespace Rows
def none {H : Type} : Left H := { results := [], args := [] }

/-- 'cordellelaw03.PenWrites': WHATEVER THE INPUT: true; the input reads as it did. -/
def penWritesSpec : ChangeSpec := { name := "penWrites", fn := fun _ => fun
  | [d] => { results := [.lit (.bool true)], args := [d] }
  | _ => none }
def penWritesRow : OpenClaim := { program := "ytpmcbnnbhjolmaa", sum := "30669daba09e0ef29d28edc940c839dd0af4ec64791163b9af8f2476dee9cc35", func := "cordelle/cordellelaw03.PenWrites", spec := "penWrites", apart := false }
def PenWritesSaid : Prop := penWritesRow.holds Try.pinned (OpenSpec.ofChange penWritesSpec)

/-- ITS FALSE NEIGHBOUR: 'it returns false'. Refute it at one input. -/
def penWritesWrong : ChangeSpec := { name := "penWrites", fn := fun _ => fun
  | [d] => { results := [.lit (.bool false)], args := [d] }
  | _ => none }
def PenWritesWrongFalsely : Prop := penWritesRow.holds Try.pinned (OpenSpec.ofChange penWritesWrong)

/-- 'cordellelaw03.PenReads': WHATEVER THE INPUT: true; the input reads as it did. -/
def penReadsSpec : ChangeSpec := { name := "penReads", fn := fun _ => fun
  | [d1, d2] => { results := [.lit (.bool true)], args := [d1, d2] }
  | _ => none }
def penReadsRow : OpenClaim := { program := "ytpmcbnnbhjolmaa", sum := "30669daba09e0ef29d28edc940c839dd0af4ec64791163b9af8f2476dee9cc35", func := "cordelle/cordellelaw03.PenReads", spec := "penReads", apart := false }
def PenReadsSaid : Prop := penReadsRow.holds Try.pinned (OpenSpec.ofChange penReadsSpec)

/-- ITS FALSE NEIGHBOUR: 'it returns false'. Refute it at one input. -/
def penReadsWrong : ChangeSpec := { name := "penReads", fn := fun _ => fun
  | [d1, d2] => { results := [.lit (.bool false)], args := [d1, d2] }
  | _ => none }
def PenReadsWrongFalsely : Prop := penReadsRow.holds Try.pinned (OpenSpec.ofChange penReadsWrong)

/-- 'cordellelaw03.PenBack': WHATEVER THE INPUT: true; the input reads as it did. -/
def penBackSpec : ChangeSpec := { name := "penBack", fn := fun _ => fun
  | [d1, d2, d3] => { results := [.lit (.bool true)], args := [d1, d2, d3] }
  | _ => none }
def penBackRow : OpenClaim := { program := "ytpmcbnnbhjolmaa", sum := "30669daba09e0ef29d28edc940c839dd0af4ec64791163b9af8f2476dee9cc35", func := "cordelle/cordellelaw03.PenBack", spec := "penBack", apart := false }
def PenBackSaid : Prop := penBackRow.holds Try.pinned (OpenSpec.ofChange penBackSpec)

/-- ITS FALSE NEIGHBOUR: 'it returns false'. Refute it at one input. -/
def penBackWrong : ChangeSpec := { name := "penBack", fn := fun _ => fun
  | [d1, d2, d3] => { results := [.lit (.bool false)], args := [d1, d2, d3] }
  | _ => none }
def PenBackWrongFalsely : Prop := penBackRow.holds Try.pinned (OpenSpec.ofChange penBackWrong)

/-- 'cordellelaw03.PenTakes': WHATEVER THE INPUT: true; the input reads as it did. -/
def penTakesSpec : ChangeSpec := { name := "penTakes", fn := fun _ => fun
  | [d1, d2] => { results := [.lit (.bool true)], args := [d1, d2] }
  | _ => none }
def penTakesRow : OpenClaim := { program := "ytpmcbnnbhjolmaa", sum := "30669daba09e0ef29d28edc940c839dd0af4ec64791163b9af8f2476dee9cc35", func := "cordelle/cordellelaw03.PenTakes", spec := "penTakes", apart := false }
def PenTakesSaid : Prop := penTakesRow.holds Try.pinned (OpenSpec.ofChange penTakesSpec)

/-- ITS FALSE NEIGHBOUR: 'it returns false'. Refute it at one input. -/
def penTakesWrong : ChangeSpec := { name := "penTakes", fn := fun _ => fun
  | [d1, d2] => { results := [.lit (.bool false)], args := [d1, d2] }
  | _ => none }
def PenTakesWrongFalsely : Prop := penTakesRow.holds Try.pinned (OpenSpec.ofChange penTakesWrong)

/-- 'cordellelaw04.RtpParses': WHATEVER THE INPUT: true; the input reads as it did. -/
def rtpParsesSpec : ChangeSpec := { name := "rtpParses", fn := fun _ => fun
  | [d] => { results := [.lit (.bool true)], args := [d] }
  | _ => none }
def rtpParsesRow : OpenClaim := { program := "ytpmcbnnbhjolmaa", sum := "30669daba09e0ef29d28edc940c839dd0af4ec64791163b9af8f2476dee9cc35", func := "cordelle/cordellelaw04.RtpParses", spec := "rtpParses", inPlace := ["internal/abi.NoEscape", "internal/bytealg.MakeNoZero"], apart := false }
def RtpParsesSaid : Prop := rtpParsesRow.holds Try.pinned (OpenSpec.ofChange rtpParsesSpec)

/-- ITS FALSE NEIGHBOUR: 'it returns false'. Refute it at one input. -/
def rtpParsesWrong : ChangeSpec := { name := "rtpParses", fn := fun _ => fun
  | [d] => { results := [.lit (.bool false)], args := [d] }
  | _ => none }
def RtpParsesWrongFalsely : Prop := rtpParsesRow.holds Try.pinned (OpenSpec.ofChange rtpParsesWrong)

/-- 'cordellelaw04.RtpBack': WHATEVER THE INPUT: true; the input reads as it did. -/
def rtpBackSpec : ChangeSpec := { name := "rtpBack", fn := fun _ => fun
  | [d] => { results := [.lit (.bool true)], args := [d] }
  | _ => none }
def rtpBackRow : OpenClaim := { program := "ytpmcbnnbhjolmaa", sum := "30669daba09e0ef29d28edc940c839dd0af4ec64791163b9af8f2476dee9cc35", func := "cordelle/cordellelaw04.RtpBack", spec := "rtpBack", inPlace := ["internal/abi.NoEscape", "internal/bytealg.MakeNoZero"], apart := false }
def RtpBackSaid : Prop := rtpBackRow.holds Try.pinned (OpenSpec.ofChange rtpBackSpec)

/-- ITS FALSE NEIGHBOUR: 'it returns false'. Refute it at one input. -/
def rtpBackWrong : ChangeSpec := { name := "rtpBack", fn := fun _ => fun
  | [d] => { results := [.lit (.bool false)], args := [d] }
  | _ => none }
def RtpBackWrongFalsely : Prop := rtpBackRow.holds Try.pinned (OpenSpec.ofChange rtpBackWrong)

/-- 'cordellelaw04.RtpControls': WHATEVER THE INPUT: true; the input reads as it did. -/
def rtpControlsSpec : ChangeSpec := { name := "rtpControls", fn := fun _ => fun
  | [d] => { results := [.lit (.bool true)], args := [d] }
  | _ => none }
def rtpControlsRow : OpenClaim := { program := "ytpmcbnnbhjolmaa", sum := "30669daba09e0ef29d28edc940c839dd0af4ec64791163b9af8f2476dee9cc35", func := "cordelle/cordellelaw04.RtpControls", spec := "rtpControls", inPlace := ["internal/abi.NoEscape", "internal/bytealg.MakeNoZero"], apart := false }
def RtpControlsSaid : Prop := rtpControlsRow.holds Try.pinned (OpenSpec.ofChange rtpControlsSpec)

/-- ITS FALSE NEIGHBOUR: 'it returns false'. Refute it at one input. -/
def rtpControlsWrong : ChangeSpec := { name := "rtpControls", fn := fun _ => fun
  | [d] => { results := [.lit (.bool false)], args := [d] }
  | _ => none }
def RtpControlsWrongFalsely : Prop := rtpControlsRow.holds Try.pinned (OpenSpec.ofChange rtpControlsWrong)

/-- 'cordellelaw04.RtpApart': WHATEVER THE INPUT: true; the input reads as it did. -/
def rtpApartSpec : ChangeSpec := { name := "rtpApart", fn := fun _ => fun
  | [d1, d2] => { results := [.lit (.bool true)], args := [d1, d2] }
  | _ => none }
def rtpApartRow : OpenClaim := { program := "ytpmcbnnbhjolmaa", sum := "30669daba09e0ef29d28edc940c839dd0af4ec64791163b9af8f2476dee9cc35", func := "cordelle/cordellelaw04.RtpApart", spec := "rtpApart", inPlace := ["internal/abi.NoEscape", "internal/bytealg.MakeNoZero"], apart := false }
def RtpApartSaid : Prop := rtpApartRow.holds Try.pinned (OpenSpec.ofChange rtpApartSpec)

/-- ITS FALSE NEIGHBOUR: 'it returns false'. Refute it at one input. -/
def rtpApartWrong : ChangeSpec := { name := "rtpApart", fn := fun _ => fun
  | [d1, d2] => { results := [.lit (.bool false)], args := [d1, d2] }
  | _ => none }
def RtpApartWrongFalsely : Prop := rtpApartRow.holds Try.pinned (OpenSpec.ofChange rtpApartWrong)

/-- 'cordelletop.CordelleWire': WHATEVER THE INPUT: true; the input reads as it did. -/
def cordelleWireSpec : ChangeSpec := { name := "cordelleWire", fn := fun _ => fun
  | [d1, d2, d3] => { results := [.lit (.bool true)], args := [d1, d2, d3] }
  | _ => none }
def cordelleWireRow : OpenClaim := { program := "ytpmcbnnbhjolmaa", sum := "30669daba09e0ef29d28edc940c839dd0af4ec64791163b9af8f2476dee9cc35", func := "cordelle/cordelletop.CordelleWire", spec := "cordelleWire", inPlace := ["internal/abi.NoEscape", "internal/bytealg.MakeNoZero"], apart := false }
def CordelleWireSaid : Prop := cordelleWireRow.holds Try.pinned (OpenSpec.ofChange cordelleWireSpec)

/-- ITS FALSE NEIGHBOUR: 'it returns false'. Refute it at one input. -/
def cordelleWireWrong : ChangeSpec := { name := "cordelleWire", fn := fun _ => fun
  | [d1, d2, d3] => { results := [.lit (.bool false)], args := [d1, d2, d3] }
  | _ => none }
def CordelleWireWrongFalsely : Prop := cordelleWireRow.holds Try.pinned (OpenSpec.ofChange cordelleWireWrong)

/-- 'cordelletop.CordelleNumbers': WHATEVER THE INPUT: true; the input reads as it did. -/
def cordelleNumbersSpec : ChangeSpec := { name := "cordelleNumbers", fn := fun _ => fun
  | [d1, d2] => { results := [.lit (.bool true)], args := [d1, d2] }
  | _ => none }
def cordelleNumbersRow : OpenClaim := { program := "ytpmcbnnbhjolmaa", sum := "30669daba09e0ef29d28edc940c839dd0af4ec64791163b9af8f2476dee9cc35", func := "cordelle/cordelletop.CordelleNumbers", spec := "cordelleNumbers", apart := false }
def CordelleNumbersSaid : Prop := cordelleNumbersRow.holds Try.pinned (OpenSpec.ofChange cordelleNumbersSpec)

/-- ITS FALSE NEIGHBOUR: 'it returns false'. Refute it at one input. -/
def cordelleNumbersWrong : ChangeSpec := { name := "cordelleNumbers", fn := fun _ => fun
  | [d1, d2] => { results := [.lit (.bool false)], args := [d1, d2] }
  | _ => none }
def CordelleNumbersWrongFalsely : Prop := cordelleNumbersRow.holds Try.pinned (OpenSpec.ofChange cordelleNumbersWrong)

/- THE SECOND FORM. 'bulk': how many values and letters a reading holds, each counted each time it is reached (what is shared counts as often as it is met; a slice's spare places count too). A statement '..UptoSaid' is the law's where the arguments, and the package variables that the reading takes, are together of bulk at most 1048576: NARROWER than '..Said'. Prove '..Said' where nothing that the law and all that it calls make is longer than what came in: it says more and counts as full. Else prove '..UptoSaid'. A law counts once. -/
mutual
def uptoBulk {H : Type} : DataW H → Nat
  | .lit (.string bytes) => bytes.length + 1
  | .lit _ => 1
  | .nil => 1
  | .ptr d => uptoBulk d + 1
  | .slice elems spare => uptoBulkAll elems + uptoBulkAll spare + 1
  | .agg parts => uptoBulkAll parts + 1
  | .iface _ d => uptoBulk d + 1
  | .map entries => uptoBulkEntries entries + 1
  | .held _ => 1
def uptoBulkAll {H : Type} : List (DataW H) → Nat
  | [] => 0
  | d :: r => uptoBulk d + uptoBulkAll r
def uptoBulkEntries {H : Type} : List (Lit × DataW H) → Nat
  | [] => 0
  | x :: r => uptoBulkEntry x + uptoBulkEntries r
def uptoBulkEntry {H : Type} : Lit × DataW H → Nat
  | (.string bytes, d) => bytes.length + uptoBulk d + 1
  | (_, d) => uptoBulk d + 1
 end
def uptoSmall : (H : Type) → List (DataW H) → Bool := fun _ ds => decide (uptoBulkAll ds ≤ 1048576)
def OpenSpec.upto (s : _root_.Go.ChangeSpec) : _root_.Go.OpenSpec := { _root_.Go.OpenSpec.ofChange s with cond := some uptoSmall }

/-- 'cordellelaw03.PenWrites', WHERE WHAT IT READS IS OF BULK AT MOST 1048576: true; the input reads as it did. -/
def penWritesUptoRow : OpenClaim := { program := "ytpmcbnnbhjolmaa", sum := "30669daba09e0ef29d28edc940c839dd0af4ec64791163b9af8f2476dee9cc35", func := "cordelle/cordellelaw03.PenWrites", spec := "penWrites", apart := false, narrowed := true }
def PenWritesUptoSaid : Prop := penWritesUptoRow.holds Try.pinned (OpenSpec.upto penWritesSpec)

/-- 'cordellelaw03.PenReads', WHERE WHAT IT READS IS OF BULK AT MOST 1048576: true; the input reads as it did. -/
def penReadsUptoRow : OpenClaim := { program := "ytpmcbnnbhjolmaa", sum := "30669daba09e0ef29d28edc940c839dd0af4ec64791163b9af8f2476dee9cc35", func := "cordelle/cordellelaw03.PenReads", spec := "penReads", apart := false, narrowed := true }
def PenReadsUptoSaid : Prop := penReadsUptoRow.holds Try.pinned (OpenSpec.upto penReadsSpec)

/-- 'cordellelaw03.PenBack', WHERE WHAT IT READS IS OF BULK AT MOST 1048576: true; the input reads as it did. -/
def penBackUptoRow : OpenClaim := { program := "ytpmcbnnbhjolmaa", sum := "30669daba09e0ef29d28edc940c839dd0af4ec64791163b9af8f2476dee9cc35", func := "cordelle/cordellelaw03.PenBack", spec := "penBack", apart := false, narrowed := true }
def PenBackUptoSaid : Prop := penBackUptoRow.holds Try.pinned (OpenSpec.upto penBackSpec)

/-- 'cordellelaw03.PenTakes', WHERE WHAT IT READS IS OF BULK AT MOST 1048576: true; the input reads as it did. -/
def penTakesUptoRow : OpenClaim := { program := "ytpmcbnnbhjolmaa", sum := "30669daba09e0ef29d28edc940c839dd0af4ec64791163b9af8f2476dee9cc35", func := "cordelle/cordellelaw03.PenTakes", spec := "penTakes", apart := false, narrowed := true }
def PenTakesUptoSaid : Prop := penTakesUptoRow.holds Try.pinned (OpenSpec.upto penTakesSpec)

/-- 'cordellelaw04.RtpParses', WHERE WHAT IT READS IS OF BULK AT MOST 1048576: true; the input reads as it did. -/
def rtpParsesUptoRow : OpenClaim := { program := "ytpmcbnnbhjolmaa", sum := "30669daba09e0ef29d28edc940c839dd0af4ec64791163b9af8f2476dee9cc35", func := "cordelle/cordellelaw04.RtpParses", spec := "rtpParses", inPlace := ["internal/abi.NoEscape", "internal/bytealg.MakeNoZero"], apart := false, narrowed := true }
def RtpParsesUptoSaid : Prop := rtpParsesUptoRow.holds Try.pinned (OpenSpec.upto rtpParsesSpec)

/-- 'cordellelaw04.RtpBack', WHERE WHAT IT READS IS OF BULK AT MOST 1048576: true; the input reads as it did. -/
def rtpBackUptoRow : OpenClaim := { program := "ytpmcbnnbhjolmaa", sum := "30669daba09e0ef29d28edc940c839dd0af4ec64791163b9af8f2476dee9cc35", func := "cordelle/cordellelaw04.RtpBack", spec := "rtpBack", inPlace := ["internal/abi.NoEscape", "internal/bytealg.MakeNoZero"], apart := false, narrowed := true }
def RtpBackUptoSaid : Prop := rtpBackUptoRow.holds Try.pinned (OpenSpec.upto rtpBackSpec)

/-- 'cordellelaw04.RtpControls', WHERE WHAT IT READS IS OF BULK AT MOST 1048576: true; the input reads as it did. -/
def rtpControlsUptoRow : OpenClaim := { program := "ytpmcbnnbhjolmaa", sum := "30669daba09e0ef29d28edc940c839dd0af4ec64791163b9af8f2476dee9cc35", func := "cordelle/cordellelaw04.RtpControls", spec := "rtpControls", inPlace := ["internal/abi.NoEscape", "internal/bytealg.MakeNoZero"], apart := false, narrowed := true }
def RtpControlsUptoSaid : Prop := rtpControlsUptoRow.holds Try.pinned (OpenSpec.upto rtpControlsSpec)

/-- 'cordellelaw04.RtpApart', WHERE WHAT IT READS IS OF BULK AT MOST 1048576: true; the input reads as it did. -/
def rtpApartUptoRow : OpenClaim := { program := "ytpmcbnnbhjolmaa", sum := "30669daba09e0ef29d28edc940c839dd0af4ec64791163b9af8f2476dee9cc35", func := "cordelle/cordellelaw04.RtpApart", spec := "rtpApart", inPlace := ["internal/abi.NoEscape", "internal/bytealg.MakeNoZero"], apart := false, narrowed := true }
def RtpApartUptoSaid : Prop := rtpApartUptoRow.holds Try.pinned (OpenSpec.upto rtpApartSpec)

/-- 'cordelletop.CordelleWire', WHERE WHAT IT READS IS OF BULK AT MOST 1048576: true; the input reads as it did. -/
def cordelleWireUptoRow : OpenClaim := { program := "ytpmcbnnbhjolmaa", sum := "30669daba09e0ef29d28edc940c839dd0af4ec64791163b9af8f2476dee9cc35", func := "cordelle/cordelletop.CordelleWire", spec := "cordelleWire", inPlace := ["internal/abi.NoEscape", "internal/bytealg.MakeNoZero"], apart := false, narrowed := true }
def CordelleWireUptoSaid : Prop := cordelleWireUptoRow.holds Try.pinned (OpenSpec.upto cordelleWireSpec)

/-- 'cordelletop.CordelleNumbers', WHERE WHAT IT READS IS OF BULK AT MOST 1048576: true; the input reads as it did. -/
def cordelleNumbersUptoRow : OpenClaim := { program := "ytpmcbnnbhjolmaa", sum := "30669daba09e0ef29d28edc940c839dd0af4ec64791163b9af8f2476dee9cc35", func := "cordelle/cordelletop.CordelleNumbers", spec := "cordelleNumbers", apart := false, narrowed := true }
def CordelleNumbersUptoSaid : Prop := cordelleNumbersUptoRow.holds Try.pinned (OpenSpec.upto cordelleNumbersSpec)

end Rows
end Go.Proofs.Ytpmcbnnbhjolmaa
