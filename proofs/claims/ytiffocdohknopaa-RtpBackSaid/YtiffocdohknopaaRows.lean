/-
  No cell of these rows narrows 'for every input' (looked for: loops, veiled, ifaces, maps, wideKeys, modest, calm, conditions, laid).
  DERIVED. THE GIVEN ROWS OF THIS SEAT. 5 by the template 'for every input the law returns true; each argument reads behind the call as it read before'; 0 by the template 'total and deterministic' (their statements: YtiffocdohknopaaTotals.lean).
  GIVEN WITH THE SEED: the statements are not yours to turn. If you find one false, say at which input.
  Laid BY PROGRAM, IN A SANDBOX (cutbox-rows.mjs): the forced cells as the released guide's own fill.sh prints them over the translation 17bed319f989d1cb… (all of the seat's roots in one cut). By AI agents, Wed Nov 11 2026. No macro, syntax, notation, axiom, sorry.
-/
import Derived.Test.YtiffocdohknopaaChecked
import GoSem.Claim
import GoSem.ClaimJoined
import GoSem.ClaimMapViews
import Derived.JoinedTies
import Derived.KernelRfl
namespace Go.Proofs.Ytiffocdohknopaa
/- THE CELL 'sum', in the pinned program and in every row, IS THE sha256 OF THE DUMP (.gsa) THAT YtiffocdohknopaaProg.lean LOADS. Nothing in Lean hashes anything: it is a label: what it is worth is what the hold of that sum in a sandbox is worth. -/
noncomputable def Try.pinned : Pinned := { name := "ytiffocdohknopaa", sum := "17bed319f989d1cb819e7de5c0961308368bfd43138bd362ed06fb68a40d9184", checked := Try.checked }
namespace Rows
def none {H : Type} : Left H := { results := [], args := [] }

/-- 'cordellelaw04.RtpParses': WHATEVER THE INPUT: true; the input reads as it did. -/
def rtpParsesSpec : ChangeSpec := { name := "rtpParses", fn := fun _ => fun
  | [d] => { results := [.lit (.bool true)], args := [d] }
  | _ => none }
def rtpParsesRow : OpenClaim := { program := "ytiffocdohknopaa", sum := "17bed319f989d1cb819e7de5c0961308368bfd43138bd362ed06fb68a40d9184", func := "cordelle/cordellelaw04.RtpParses", spec := "rtpParses", inPlace := ["internal/abi.NoEscape", "internal/bytealg.MakeNoZero"], apart := false }
def RtpParsesSaid : Prop := rtpParsesRow.holds Try.pinned (OpenSpec.ofChange rtpParsesSpec)

/-- ITS FALSE NEIGHBOUR: 'it returns false'. Refute it at one input. -/
def rtpParsesWrong : ChangeSpec := { name := "rtpParses", fn := fun _ => fun
  | [d] => { results := [.lit (.bool false)], args := [d] }
  | _ => none }
def RtpParsesWrongFalsely : Prop := rtpParsesRow.holds Try.pinned (OpenSpec.ofChange rtpParsesWrong)

/-- 'cordellelaw04.RtpBack': WHATEVER THE INPUT: true; the input reads as it did. -/
def rtpBackSpec : ChangeSpec := { name := "rtpBack", fn := fun _ => fun
  | [d] => { results := [.lit (.bool true)], args := [d] }
  | _ => none }
def rtpBackRow : OpenClaim := { program := "ytiffocdohknopaa", sum := "17bed319f989d1cb819e7de5c0961308368bfd43138bd362ed06fb68a40d9184", func := "cordelle/cordellelaw04.RtpBack", spec := "rtpBack", inPlace := ["internal/abi.NoEscape", "internal/bytealg.MakeNoZero"], apart := false }
def RtpBackSaid : Prop := rtpBackRow.holds Try.pinned (OpenSpec.ofChange rtpBackSpec)

/-- ITS FALSE NEIGHBOUR: 'it returns false'. Refute it at one input. -/
def rtpBackWrong : ChangeSpec := { name := "rtpBack", fn := fun _ => fun
  | [d] => { results := [.lit (.bool false)], args := [d] }
  | _ => none }
def RtpBackWrongFalsely : Prop := rtpBackRow.holds Try.pinned (OpenSpec.ofChange rtpBackWrong)

/-- 'cordellelaw04.RtpApart': WHATEVER THE INPUT: true; the input reads as it did. -/
def rtpApartSpec : ChangeSpec := { name := "rtpApart", fn := fun _ => fun
  | [d1, d2] => { results := [.lit (.bool true)], args := [d1, d2] }
  | _ => none }
def rtpApartRow : OpenClaim := { program := "ytiffocdohknopaa", sum := "17bed319f989d1cb819e7de5c0961308368bfd43138bd362ed06fb68a40d9184", func := "cordelle/cordellelaw04.RtpApart", spec := "rtpApart", inPlace := ["internal/abi.NoEscape", "internal/bytealg.MakeNoZero"], apart := false }
def RtpApartSaid : Prop := rtpApartRow.holds Try.pinned (OpenSpec.ofChange rtpApartSpec)

/-- ITS FALSE NEIGHBOUR: 'it returns false'. Refute it at one input. -/
def rtpApartWrong : ChangeSpec := { name := "rtpApart", fn := fun _ => fun
  | [d1, d2] => { results := [.lit (.bool false)], args := [d1, d2] }
  | _ => none }
def RtpApartWrongFalsely : Prop := rtpApartRow.holds Try.pinned (OpenSpec.ofChange rtpApartWrong)

/-- 'cordellelaw05.ExtsApart': WHATEVER THE INPUT: true; the input reads as it did. -/
def extsApartSpec : ChangeSpec := { name := "extsApart", fn := fun _ => fun
  | [d1, d2, d3] => { results := [.lit (.bool true)], args := [d1, d2, d3] }
  | _ => none }
def extsApartRow : OpenClaim := { program := "ytiffocdohknopaa", sum := "17bed319f989d1cb819e7de5c0961308368bfd43138bd362ed06fb68a40d9184", func := "cordelle/cordellelaw05.ExtsApart", spec := "extsApart", inPlace := ["internal/abi.NoEscape", "internal/bytealg.MakeNoZero"], unfollowed := true, recurses := true, apart := false }
def ExtsApartSaid : Prop := extsApartRow.holds Try.pinned (OpenSpec.ofChange extsApartSpec)

/-- ITS FALSE NEIGHBOUR: 'it returns false'. Refute it at one input. -/
def extsApartWrong : ChangeSpec := { name := "extsApart", fn := fun _ => fun
  | [d1, d2, d3] => { results := [.lit (.bool false)], args := [d1, d2, d3] }
  | _ => none }
def ExtsApartWrongFalsely : Prop := extsApartRow.holds Try.pinned (OpenSpec.ofChange extsApartWrong)

/-- 'cordelletop.CordelleWire': WHATEVER THE INPUT: true; the input reads as it did. -/
def cordelleWireSpec : ChangeSpec := { name := "cordelleWire", fn := fun _ => fun
  | [d1, d2, d3] => { results := [.lit (.bool true)], args := [d1, d2, d3] }
  | _ => none }
def cordelleWireRow : OpenClaim := { program := "ytiffocdohknopaa", sum := "17bed319f989d1cb819e7de5c0961308368bfd43138bd362ed06fb68a40d9184", func := "cordelle/cordelletop.CordelleWire", spec := "cordelleWire", inPlace := ["internal/abi.NoEscape", "internal/bytealg.MakeNoZero"], apart := false }
def CordelleWireSaid : Prop := cordelleWireRow.holds Try.pinned (OpenSpec.ofChange cordelleWireSpec)

/-- ITS FALSE NEIGHBOUR: 'it returns false'. Refute it at one input. -/
def cordelleWireWrong : ChangeSpec := { name := "cordelleWire", fn := fun _ => fun
  | [d1, d2, d3] => { results := [.lit (.bool false)], args := [d1, d2, d3] }
  | _ => none }
def CordelleWireWrongFalsely : Prop := cordelleWireRow.holds Try.pinned (OpenSpec.ofChange cordelleWireWrong)

/- THE SECOND FORM. 'bulk': how many values and letters a reading holds, each counted each time it is reached (what is shared counts as often as it is met; a slice's spare places count too). A statement '..UptoSaid' is the law's where the arguments, and the package variables that the reading takes, are together of bulk at most 1048576: NARROWER than '..Said'. Prove '..Said' where nothing that the law and all that it calls make is longer than what came in: it says more and counts as full. Else prove '..UptoSaid'. A law counts once. -/
mutual
def uptoBulk {H : Type} : DataW H → Nat
  | .lit (.string bytes) => bytes.length + 1
  | .lit _ => 1
  | .nil => 1
  | .ptr d => uptoBulk d + 1
  | .slice elems spare => uptoBulkAll elems + uptoBulkAll spare + 1
  | .agg parts => uptoBulkAll parts + 1
  | .iface _ d => uptoBulk d + 1
  | .map entries => uptoBulkEntries entries + 1
  | .held _ => 1
def uptoBulkAll {H : Type} : List (DataW H) → Nat
  | [] => 0
  | d :: r => uptoBulk d + uptoBulkAll r
def uptoBulkEntries {H : Type} : List (Lit × DataW H) → Nat
  | [] => 0
  | x :: r => uptoBulkEntry x + uptoBulkEntries r
def uptoBulkEntry {H : Type} : Lit × DataW H → Nat
  | (.string bytes, d) => bytes.length + uptoBulk d + 1
  | (_, d) => uptoBulk d + 1
 end
def uptoSmall : (H : Type) → List (DataW H) → Bool := fun _ ds => decide (uptoBulkAll ds ≤ 1048576)
def OpenSpec.upto (s : _root_.Go.ChangeSpec) : _root_.Go.OpenSpec := { _root_.Go.OpenSpec.ofChange s with cond := some uptoSmall }

/-- 'cordellelaw04.RtpParses', WHERE WHAT IT READS IS OF BULK AT MOST 1048576: true; the input reads as it did. -/
def rtpParsesUptoRow : OpenClaim := { program := "ytiffocdohknopaa", sum := "17bed319f989d1cb819e7de5c0961308368bfd43138bd362ed06fb68a40d9184", func := "cordelle/cordellelaw04.RtpParses", spec := "rtpParses", inPlace := ["internal/abi.NoEscape", "internal/bytealg.MakeNoZero"], apart := false, narrowed := true }
def RtpParsesUptoSaid : Prop := rtpParsesUptoRow.holds Try.pinned (OpenSpec.upto rtpParsesSpec)

/-- 'cordellelaw04.RtpBack', WHERE WHAT IT READS IS OF BULK AT MOST 1048576: true; the input reads as it did. -/
def rtpBackUptoRow : OpenClaim := { program := "ytiffocdohknopaa", sum := "17bed319f989d1cb819e7de5c0961308368bfd43138bd362ed06fb68a40d9184", func := "cordelle/cordellelaw04.RtpBack", spec := "rtpBack", inPlace := ["internal/abi.NoEscape", "internal/bytealg.MakeNoZero"], apart := false, narrowed := true }
def RtpBackUptoSaid : Prop := rtpBackUptoRow.holds Try.pinned (OpenSpec.upto rtpBackSpec)

/-- 'cordellelaw04.RtpApart', WHERE WHAT IT READS IS OF BULK AT MOST 1048576: true; the input reads as it did. -/
def rtpApartUptoRow : OpenClaim := { program := "ytiffocdohknopaa", sum := "17bed319f989d1cb819e7de5c0961308368bfd43138bd362ed06fb68a40d9184", func := "cordelle/cordellelaw04.RtpApart", spec := "rtpApart", inPlace := ["internal/abi.NoEscape", "internal/bytealg.MakeNoZero"], apart := false, narrowed := true }
def RtpApartUptoSaid : Prop := rtpApartUptoRow.holds Try.pinned (OpenSpec.upto rtpApartSpec)

/-- 'cordellelaw05.ExtsApart', WHERE WHAT IT READS IS OF BULK AT MOST 1048576: true; the input reads as it did. -/
def extsApartUptoRow : OpenClaim := { program := "ytiffocdohknopaa", sum := "17bed319f989d1cb819e7de5c0961308368bfd43138bd362ed06fb68a40d9184", func := "cordelle/cordellelaw05.ExtsApart", spec := "extsApart", inPlace := ["internal/abi.NoEscape", "internal/bytealg.MakeNoZero"], unfollowed := true, recurses := true, apart := false, narrowed := true }
def ExtsApartUptoSaid : Prop := extsApartUptoRow.holds Try.pinned (OpenSpec.upto extsApartSpec)

/-- 'cordelletop.CordelleWire', WHERE WHAT IT READS IS OF BULK AT MOST 1048576: true; the input reads as it did. -/
def cordelleWireUptoRow : OpenClaim := { program := "ytiffocdohknopaa", sum := "17bed319f989d1cb819e7de5c0961308368bfd43138bd362ed06fb68a40d9184", func := "cordelle/cordelletop.CordelleWire", spec := "cordelleWire", inPlace := ["internal/abi.NoEscape", "internal/bytealg.MakeNoZero"], apart := false, narrowed := true }
def CordelleWireUptoSaid : Prop := cordelleWireUptoRow.holds Try.pinned (OpenSpec.upto cordelleWireSpec)

end Rows
end Go.Proofs.Ytiffocdohknopaa
