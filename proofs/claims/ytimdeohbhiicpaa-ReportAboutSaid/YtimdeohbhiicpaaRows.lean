/-
  No cell of these rows narrows 'for every input' (looked for: loops, veiled, ifaces, maps, wideKeys, modest, calm, conditions, laid).
  DERIVED. THE GIVEN ROWS OF THIS SEAT. 10 by the template 'for every input the law returns true; each argument reads behind the call as it read before'; 0 by the template 'total and deterministic' (their statements: YtimdeohbhiicpaaTotals.lean).
  GIVEN WITH THE SEED: the statements are not yours to turn. If you find one false, say at which input.
  Laid BY PROGRAM, IN A SANDBOX (cutbox-rows.mjs): the forced cells as the released guide's own fill.sh prints them over the translation 4e8647c010e74ab5… (all of the seat's roots in one cut). By AI agents, Wed Nov 11 2026. No macro, syntax, notation, axiom, sorry.
-/
import Derived.Test.YtimdeohbhiicpaaChecked
import GoSem.Claim
import GoSem.ClaimJoined
import GoSem.ClaimMapViews
import Derived.JoinedTies
import Derived.KernelRfl
namespace Go.Proofs.Ytimdeohbhiicpaa
/- THE CELL 'sum', in the pinned program and in every row, IS THE sha256 OF THE DUMP (.gsa) THAT YtimdeohbhiicpaaProg.lean LOADS. Nothing in Lean hashes anything: it is a label: what it is worth is what the hold of that sum in a sandbox is worth. -/
noncomputable def Try.pinned : Pinned := { name := "ytimdeohbhiicpaa", sum := "4e8647c010e74ab5efb313d107397dec4b52dde5140a6373769a47674b71a3ab", checked := Try.checked }
namespace Rows
def none {H : Type} : Left H := { results := [], args := [] }

/-- 'cordellelaw04.RtpParses': WHATEVER THE INPUT: true; the input reads as it did. -/
def rtpParsesSpec : ChangeSpec := { name := "rtpParses", fn := fun _ => fun
  | [d] => { results := [.lit (.bool true)], args := [d] }
  | _ => none }
def rtpParsesRow : OpenClaim := { program := "ytimdeohbhiicpaa", sum := "4e8647c010e74ab5efb313d107397dec4b52dde5140a6373769a47674b71a3ab", func := "cordelle/cordellelaw04.RtpParses", spec := "rtpParses", inPlace := ["internal/abi.NoEscape", "internal/bytealg.MakeNoZero"], apart := false }
def RtpParsesSaid : Prop := rtpParsesRow.holds Try.pinned (OpenSpec.ofChange rtpParsesSpec)

/-- ITS FALSE NEIGHBOUR: 'it returns false'. Refute it at one input. -/
def rtpParsesWrong : ChangeSpec := { name := "rtpParses", fn := fun _ => fun
  | [d] => { results := [.lit (.bool false)], args := [d] }
  | _ => none }
def RtpParsesWrongFalsely : Prop := rtpParsesRow.holds Try.pinned (OpenSpec.ofChange rtpParsesWrong)

/-- 'cordellelaw05.ExtsApart': WHATEVER THE INPUT: true; the input reads as it did. -/
def extsApartSpec : ChangeSpec := { name := "extsApart", fn := fun _ => fun
  | [d1, d2, d3] => { results := [.lit (.bool true)], args := [d1, d2, d3] }
  | _ => none }
def extsApartRow : OpenClaim := { program := "ytimdeohbhiicpaa", sum := "4e8647c010e74ab5efb313d107397dec4b52dde5140a6373769a47674b71a3ab", func := "cordelle/cordellelaw05.ExtsApart", spec := "extsApart", inPlace := ["internal/abi.NoEscape", "internal/bytealg.MakeNoZero"], unfollowed := true, recurses := true, apart := false }
def ExtsApartSaid : Prop := extsApartRow.holds Try.pinned (OpenSpec.ofChange extsApartSpec)

/-- ITS FALSE NEIGHBOUR: 'it returns false'. Refute it at one input. -/
def extsApartWrong : ChangeSpec := { name := "extsApart", fn := fun _ => fun
  | [d1, d2, d3] => { results := [.lit (.bool false)], args := [d1, d2, d3] }
  | _ => none }
def ExtsApartWrongFalsely : Prop := extsApartRow.holds Try.pinned (OpenSpec.ofChange extsApartWrong)

/-- 'cordellelaw07.PieceSplits': WHATEVER THE INPUT: true; the input reads as it did. -/
def pieceSplitsSpec : ChangeSpec := { name := "pieceSplits", fn := fun _ => fun
  | [d] => { results := [.lit (.bool true)], args := [d] }
  | _ => none }
def pieceSplitsRow : OpenClaim := { program := "ytimdeohbhiicpaa", sum := "4e8647c010e74ab5efb313d107397dec4b52dde5140a6373769a47674b71a3ab", func := "cordelle/cordellelaw07.PieceSplits", spec := "pieceSplits", apart := false }
def PieceSplitsSaid : Prop := pieceSplitsRow.holds Try.pinned (OpenSpec.ofChange pieceSplitsSpec)

/-- ITS FALSE NEIGHBOUR: 'it returns false'. Refute it at one input. -/
def pieceSplitsWrong : ChangeSpec := { name := "pieceSplits", fn := fun _ => fun
  | [d] => { results := [.lit (.bool false)], args := [d] }
  | _ => none }
def PieceSplitsWrongFalsely : Prop := pieceSplitsRow.holds Try.pinned (OpenSpec.ofChange pieceSplitsWrong)

/-- 'cordellelaw07.PieceBack': WHATEVER THE INPUT: true; the input reads as it did. -/
def pieceBackSpec : ChangeSpec := { name := "pieceBack", fn := fun _ => fun
  | [d] => { results := [.lit (.bool true)], args := [d] }
  | _ => none }
def pieceBackRow : OpenClaim := { program := "ytimdeohbhiicpaa", sum := "4e8647c010e74ab5efb313d107397dec4b52dde5140a6373769a47674b71a3ab", func := "cordelle/cordellelaw07.PieceBack", spec := "pieceBack", apart := false }
def PieceBackSaid : Prop := pieceBackRow.holds Try.pinned (OpenSpec.ofChange pieceBackSpec)

/-- ITS FALSE NEIGHBOUR: 'it returns false'. Refute it at one input. -/
def pieceBackWrong : ChangeSpec := { name := "pieceBack", fn := fun _ => fun
  | [d] => { results := [.lit (.bool false)], args := [d] }
  | _ => none }
def PieceBackWrongFalsely : Prop := pieceBackRow.holds Try.pinned (OpenSpec.ofChange pieceBackWrong)

/-- 'cordellelaw07.PieceJoins': WHATEVER THE INPUT: true; the input reads as it did. -/
def pieceJoinsSpec : ChangeSpec := { name := "pieceJoins", fn := fun _ => fun
  | [d1, d2] => { results := [.lit (.bool true)], args := [d1, d2] }
  | _ => none }
def pieceJoinsRow : OpenClaim := { program := "ytimdeohbhiicpaa", sum := "4e8647c010e74ab5efb313d107397dec4b52dde5140a6373769a47674b71a3ab", func := "cordelle/cordellelaw07.PieceJoins", spec := "pieceJoins", apart := false }
def PieceJoinsSaid : Prop := pieceJoinsRow.holds Try.pinned (OpenSpec.ofChange pieceJoinsSpec)

/-- ITS FALSE NEIGHBOUR: 'it returns false'. Refute it at one input. -/
def pieceJoinsWrong : ChangeSpec := { name := "pieceJoins", fn := fun _ => fun
  | [d1, d2] => { results := [.lit (.bool false)], args := [d1, d2] }
  | _ => none }
def PieceJoinsWrongFalsely : Prop := pieceJoinsRow.holds Try.pinned (OpenSpec.ofChange pieceJoinsWrong)

/-- 'cordellelaw08.ReportReads': WHATEVER THE INPUT: true; the input reads as it did. -/
def reportReadsSpec : ChangeSpec := { name := "reportReads", fn := fun _ => fun
  | [d] => { results := [.lit (.bool true)], args := [d] }
  | _ => none }
def reportReadsRow : OpenClaim := { program := "ytimdeohbhiicpaa", sum := "4e8647c010e74ab5efb313d107397dec4b52dde5140a6373769a47674b71a3ab", func := "cordelle/cordellelaw08.ReportReads", spec := "reportReads", apart := false }
def ReportReadsSaid : Prop := reportReadsRow.holds Try.pinned (OpenSpec.ofChange reportReadsSpec)

/-- ITS FALSE NEIGHBOUR: 'it returns false'. Refute it at one input. -/
def reportReadsWrong : ChangeSpec := { name := "reportReads", fn := fun _ => fun
  | [d] => { results := [.lit (.bool false)], args := [d] }
  | _ => none }
def ReportReadsWrongFalsely : Prop := reportReadsRow.holds Try.pinned (OpenSpec.ofChange reportReadsWrong)

/-- 'cordellelaw08.ReportBack': WHATEVER THE INPUT: true; the input reads as it did. -/
def reportBackSpec : ChangeSpec := { name := "reportBack", fn := fun _ => fun
  | [d] => { results := [.lit (.bool true)], args := [d] }
  | _ => none }
def reportBackRow : OpenClaim := { program := "ytimdeohbhiicpaa", sum := "4e8647c010e74ab5efb313d107397dec4b52dde5140a6373769a47674b71a3ab", func := "cordelle/cordellelaw08.ReportBack", spec := "reportBack", apart := false }
def ReportBackSaid : Prop := reportBackRow.holds Try.pinned (OpenSpec.ofChange reportBackSpec)

/-- ITS FALSE NEIGHBOUR: 'it returns false'. Refute it at one input. -/
def reportBackWrong : ChangeSpec := { name := "reportBack", fn := fun _ => fun
  | [d] => { results := [.lit (.bool false)], args := [d] }
  | _ => none }
def ReportBackWrongFalsely : Prop := reportBackRow.holds Try.pinned (OpenSpec.ofChange reportBackWrong)

/-- 'cordellelaw08.ReportAbout': WHATEVER THE INPUT: true; the input reads as it did. -/
def reportAboutSpec : ChangeSpec := { name := "reportAbout", fn := fun _ => fun
  | [d1, d2, d3] => { results := [.lit (.bool true)], args := [d1, d2, d3] }
  | _ => none }
def reportAboutRow : OpenClaim := { program := "ytimdeohbhiicpaa", sum := "4e8647c010e74ab5efb313d107397dec4b52dde5140a6373769a47674b71a3ab", func := "cordelle/cordellelaw08.ReportAbout", spec := "reportAbout", apart := false }
def ReportAboutSaid : Prop := reportAboutRow.holds Try.pinned (OpenSpec.ofChange reportAboutSpec)

/-- ITS FALSE NEIGHBOUR: 'it returns false'. Refute it at one input. -/
def reportAboutWrong : ChangeSpec := { name := "reportAbout", fn := fun _ => fun
  | [d1, d2, d3] => { results := [.lit (.bool false)], args := [d1, d2, d3] }
  | _ => none }
def ReportAboutWrongFalsely : Prop := reportAboutRow.holds Try.pinned (OpenSpec.ofChange reportAboutWrong)

/-- 'cordellelaw08.ReportApart': WHATEVER THE INPUT: true; the input reads as it did. -/
def reportApartSpec : ChangeSpec := { name := "reportApart", fn := fun _ => fun
  | [d1, d2] => { results := [.lit (.bool true)], args := [d1, d2] }
  | _ => none }
def reportApartRow : OpenClaim := { program := "ytimdeohbhiicpaa", sum := "4e8647c010e74ab5efb313d107397dec4b52dde5140a6373769a47674b71a3ab", func := "cordelle/cordellelaw08.ReportApart", spec := "reportApart", apart := false }
def ReportApartSaid : Prop := reportApartRow.holds Try.pinned (OpenSpec.ofChange reportApartSpec)

/-- ITS FALSE NEIGHBOUR: 'it returns false'. Refute it at one input. -/
def reportApartWrong : ChangeSpec := { name := "reportApart", fn := fun _ => fun
  | [d1, d2] => { results := [.lit (.bool false)], args := [d1, d2] }
  | _ => none }
def ReportApartWrongFalsely : Prop := reportApartRow.holds Try.pinned (OpenSpec.ofChange reportApartWrong)

/-- 'cordelletop.CordelleReports': WHATEVER THE INPUT: true; the input reads as it did. -/
def cordelleReportsSpec : ChangeSpec := { name := "cordelleReports", fn := fun _ => fun
  | [d] => { results := [.lit (.bool true)], args := [d] }
  | _ => none }
def cordelleReportsRow : OpenClaim := { program := "ytimdeohbhiicpaa", sum := "4e8647c010e74ab5efb313d107397dec4b52dde5140a6373769a47674b71a3ab", func := "cordelle/cordelletop.CordelleReports", spec := "cordelleReports", apart := false }
def CordelleReportsSaid : Prop := cordelleReportsRow.holds Try.pinned (OpenSpec.ofChange cordelleReportsSpec)

/-- ITS FALSE NEIGHBOUR: 'it returns false'. Refute it at one input. -/
def cordelleReportsWrong : ChangeSpec := { name := "cordelleReports", fn := fun _ => fun
  | [d] => { results := [.lit (.bool false)], args := [d] }
  | _ => none }
def CordelleReportsWrongFalsely : Prop := cordelleReportsRow.holds Try.pinned (OpenSpec.ofChange cordelleReportsWrong)

/- THE SECOND FORM. 'bulk': how many values and letters a reading holds, each counted each time it is reached (what is shared counts as often as it is met; a slice's spare places count too). A statement '..UptoSaid' is the law's where the arguments, and the package variables that the reading takes, are together of bulk at most 1048576: NARROWER than '..Said'. Prove '..Said' where nothing that the law and all that it calls make is longer than what came in: it says more and counts as full. Else prove '..UptoSaid'. A law counts once. -/
mutual
def uptoBulk {H : Type} : DataW H → Nat
  | .lit (.string bytes) => bytes.length + 1
  | .lit _ => 1
  | .nil => 1
  | .ptr d => uptoBulk d + 1
  | .slice elems spare => uptoBulkAll elems + uptoBulkAll spare + 1
  | .agg parts => uptoBulkAll parts + 1
  | .iface _ d => uptoBulk d + 1
  | .map entries => uptoBulkEntries entries + 1
  | .held _ => 1
def uptoBulkAll {H : Type} : List (DataW H) → Nat
  | [] => 0
  | d :: r => uptoBulk d + uptoBulkAll r
def uptoBulkEntries {H : Type} : List (Lit × DataW H) → Nat
  | [] => 0
  | x :: r => uptoBulkEntry x + uptoBulkEntries r
def uptoBulkEntry {H : Type} : Lit × DataW H → Nat
  | (.string bytes, d) => bytes.length + uptoBulk d + 1
  | (_, d) => uptoBulk d + 1
 end
def uptoSmall : (H : Type) → List (DataW H) → Bool := fun _ ds => decide (uptoBulkAll ds ≤ 1048576)
def OpenSpec.upto (s : _root_.Go.ChangeSpec) : _root_.Go.OpenSpec := { _root_.Go.OpenSpec.ofChange s with cond := some uptoSmall }

/-- 'cordellelaw04.RtpParses', WHERE WHAT IT READS IS OF BULK AT MOST 1048576: true; the input reads as it did. -/
def rtpParsesUptoRow : OpenClaim := { program := "ytimdeohbhiicpaa", sum := "4e8647c010e74ab5efb313d107397dec4b52dde5140a6373769a47674b71a3ab", func := "cordelle/cordellelaw04.RtpParses", spec := "rtpParses", inPlace := ["internal/abi.NoEscape", "internal/bytealg.MakeNoZero"], apart := false, narrowed := true }
def RtpParsesUptoSaid : Prop := rtpParsesUptoRow.holds Try.pinned (OpenSpec.upto rtpParsesSpec)

/-- 'cordellelaw05.ExtsApart', WHERE WHAT IT READS IS OF BULK AT MOST 1048576: true; the input reads as it did. -/
def extsApartUptoRow : OpenClaim := { program := "ytimdeohbhiicpaa", sum := "4e8647c010e74ab5efb313d107397dec4b52dde5140a6373769a47674b71a3ab", func := "cordelle/cordellelaw05.ExtsApart", spec := "extsApart", inPlace := ["internal/abi.NoEscape", "internal/bytealg.MakeNoZero"], unfollowed := true, recurses := true, apart := false, narrowed := true }
def ExtsApartUptoSaid : Prop := extsApartUptoRow.holds Try.pinned (OpenSpec.upto extsApartSpec)

/-- 'cordellelaw07.PieceSplits', WHERE WHAT IT READS IS OF BULK AT MOST 1048576: true; the input reads as it did. -/
def pieceSplitsUptoRow : OpenClaim := { program := "ytimdeohbhiicpaa", sum := "4e8647c010e74ab5efb313d107397dec4b52dde5140a6373769a47674b71a3ab", func := "cordelle/cordellelaw07.PieceSplits", spec := "pieceSplits", apart := false, narrowed := true }
def PieceSplitsUptoSaid : Prop := pieceSplitsUptoRow.holds Try.pinned (OpenSpec.upto pieceSplitsSpec)

/-- 'cordellelaw07.PieceBack', WHERE WHAT IT READS IS OF BULK AT MOST 1048576: true; the input reads as it did. -/
def pieceBackUptoRow : OpenClaim := { program := "ytimdeohbhiicpaa", sum := "4e8647c010e74ab5efb313d107397dec4b52dde5140a6373769a47674b71a3ab", func := "cordelle/cordellelaw07.PieceBack", spec := "pieceBack", apart := false, narrowed := true }
def PieceBackUptoSaid : Prop := pieceBackUptoRow.holds Try.pinned (OpenSpec.upto pieceBackSpec)

/-- 'cordellelaw07.PieceJoins', WHERE WHAT IT READS IS OF BULK AT MOST 1048576: true; the input reads as it did. -/
def pieceJoinsUptoRow : OpenClaim := { program := "ytimdeohbhiicpaa", sum := "4e8647c010e74ab5efb313d107397dec4b52dde5140a6373769a47674b71a3ab", func := "cordelle/cordellelaw07.PieceJoins", spec := "pieceJoins", apart := false, narrowed := true }
def PieceJoinsUptoSaid : Prop := pieceJoinsUptoRow.holds Try.pinned (OpenSpec.upto pieceJoinsSpec)

/-- 'cordellelaw08.ReportReads', WHERE WHAT IT READS IS OF BULK AT MOST 1048576: true; the input reads as it did. -/
def reportReadsUptoRow : OpenClaim := { program := "ytimdeohbhiicpaa", sum := "4e8647c010e74ab5efb313d107397dec4b52dde5140a6373769a47674b71a3ab", func := "cordelle/cordellelaw08.ReportReads", spec := "reportReads", apart := false, narrowed := true }
def ReportReadsUptoSaid : Prop := reportReadsUptoRow.holds Try.pinned (OpenSpec.upto reportReadsSpec)

/-- 'cordellelaw08.ReportBack', WHERE WHAT IT READS IS OF BULK AT MOST 1048576: true; the input reads as it did. -/
def reportBackUptoRow : OpenClaim := { program := "ytimdeohbhiicpaa", sum := "4e8647c010e74ab5efb313d107397dec4b52dde5140a6373769a47674b71a3ab", func := "cordelle/cordellelaw08.ReportBack", spec := "reportBack", apart := false, narrowed := true }
def ReportBackUptoSaid : Prop := reportBackUptoRow.holds Try.pinned (OpenSpec.upto reportBackSpec)

/-- 'cordellelaw08.ReportAbout', WHERE WHAT IT READS IS OF BULK AT MOST 1048576: true; the input reads as it did. -/
def reportAboutUptoRow : OpenClaim := { program := "ytimdeohbhiicpaa", sum := "4e8647c010e74ab5efb313d107397dec4b52dde5140a6373769a47674b71a3ab", func := "cordelle/cordellelaw08.ReportAbout", spec := "reportAbout", apart := false, narrowed := true }
def ReportAboutUptoSaid : Prop := reportAboutUptoRow.holds Try.pinned (OpenSpec.upto reportAboutSpec)

/-- 'cordellelaw08.ReportApart', WHERE WHAT IT READS IS OF BULK AT MOST 1048576: true; the input reads as it did. -/
def reportApartUptoRow : OpenClaim := { program := "ytimdeohbhiicpaa", sum := "4e8647c010e74ab5efb313d107397dec4b52dde5140a6373769a47674b71a3ab", func := "cordelle/cordellelaw08.ReportApart", spec := "reportApart", apart := false, narrowed := true }
def ReportApartUptoSaid : Prop := reportApartUptoRow.holds Try.pinned (OpenSpec.upto reportApartSpec)

/-- 'cordelletop.CordelleReports', WHERE WHAT IT READS IS OF BULK AT MOST 1048576: true; the input reads as it did. -/
def cordelleReportsUptoRow : OpenClaim := { program := "ytimdeohbhiicpaa", sum := "4e8647c010e74ab5efb313d107397dec4b52dde5140a6373769a47674b71a3ab", func := "cordelle/cordelletop.CordelleReports", spec := "cordelleReports", apart := false, narrowed := true }
def CordelleReportsUptoSaid : Prop := cordelleReportsUptoRow.holds Try.pinned (OpenSpec.upto cordelleReportsSpec)

end Rows
end Go.Proofs.Ytimdeohbhiicpaa
