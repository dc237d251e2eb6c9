/-
  No cell of these rows narrows 'for every input' (looked for: loops, veiled, ifaces, maps, wideKeys, modest, calm, conditions, laid).
  DERIVED. THE GIVEN ROWS OF THIS SEAT. 8 by the template 'for every input the law returns true; each argument reads behind the call as it read before'; 0 by the template 'total and deterministic' (their statements: YtagimjaojpdfiaaTotals.lean).
  GIVEN WITH THE SEED: the statements are not yours to turn. If you find one false, say at which input.
  Laid BY PROGRAM, IN A SANDBOX (cutbox-rows.mjs): the forced cells as the released guide's own fill.sh prints them over the translation e7803c63dbdb52a8… (all of the seat's roots in one cut). By AI agents, Wed Nov 11 2026. No macro, syntax, notation, axiom, sorry.
-/
import Derived.Test.YtagimjaojpdfiaaChecked
import GoSem.Claim
import GoSem.ClaimJoined
import GoSem.ClaimMapViews
import Derived.JoinedTies
import Derived.KernelRfl
namespace Go.Proofs.Ytagimjaojpdfiaa
/- THE CELL 'sum', in the pinned program and in every row, IS THE sha256 OF THE DUMP (.gsa) THAT YtagimjaojpdfiaaProg.lean LOADS. Nothing in Lean hashes anything: it is a label: what it is worth is what the hold of that sum in a sandbox is worth. -/
noncomputable def Try.pinned : Pinned := { name := "ytagimjaojpdfiaa", sum := "e7803c63dbdb52a8e59b8ab5d1aa7fbab4b6fc1e1e94435ff632e60e047420c3", checked := Try.checked }
namespace Rows
def none {H : Type} : Left H := { results := [], args := [] }

/-- 'cordellelaw10.NackBack': WHATEVER THE INPUT: true; the input reads as it did. -/
def nackBackSpec : ChangeSpec := { name := "nackBack", fn := fun _ => fun
  | [d] => { results := [.lit (.bool true)], args := [d] }
  | _ => none }
def nackBackRow : OpenClaim := { program := "ytagimjaojpdfiaa", sum := "e7803c63dbdb52a8e59b8ab5d1aa7fbab4b6fc1e1e94435ff632e60e047420c3", func := "cordelle/cordellelaw10.NackBack", spec := "nackBack", unfollowed := true, recurses := true, apart := false }
def NackBackSaid : Prop := nackBackRow.holds Try.pinned (OpenSpec.ofChange nackBackSpec)

/-- ITS FALSE NEIGHBOUR: 'it returns false'. Refute it at one input. -/
def nackBackWrong : ChangeSpec := { name := "nackBack", fn := fun _ => fun
  | [d] => { results := [.lit (.bool false)], args := [d] }
  | _ => none }
def NackBackWrongFalsely : Prop := nackBackRow.holds Try.pinned (OpenSpec.ofChange nackBackWrong)

/-- 'cordellelaw10.NackReads': WHATEVER THE INPUT: true; the input reads as it did. -/
def nackReadsSpec : ChangeSpec := { name := "nackReads", fn := fun _ => fun
  | [d] => { results := [.lit (.bool true)], args := [d] }
  | _ => none }
def nackReadsRow : OpenClaim := { program := "ytagimjaojpdfiaa", sum := "e7803c63dbdb52a8e59b8ab5d1aa7fbab4b6fc1e1e94435ff632e60e047420c3", func := "cordelle/cordellelaw10.NackReads", spec := "nackReads", unfollowed := true, recurses := true, apart := false }
def NackReadsSaid : Prop := nackReadsRow.holds Try.pinned (OpenSpec.ofChange nackReadsSpec)

/-- ITS FALSE NEIGHBOUR: 'it returns false'. Refute it at one input. -/
def nackReadsWrong : ChangeSpec := { name := "nackReads", fn := fun _ => fun
  | [d] => { results := [.lit (.bool false)], args := [d] }
  | _ => none }
def NackReadsWrongFalsely : Prop := nackReadsRow.holds Try.pinned (OpenSpec.ofChange nackReadsWrong)

/-- 'cordellelaw09.NotesNames': WHATEVER THE INPUT: true; the input reads as it did. -/
def notesNamesSpec : ChangeSpec := { name := "notesNames", fn := fun _ => fun
  | [d] => { results := [.lit (.bool true)], args := [d] }
  | _ => none }
def notesNamesRow : OpenClaim := { program := "ytagimjaojpdfiaa", sum := "e7803c63dbdb52a8e59b8ab5d1aa7fbab4b6fc1e1e94435ff632e60e047420c3", func := "cordelle/cordellelaw09.NotesNames", spec := "notesNames", inPlace := ["internal/abi.NoEscape", "internal/bytealg.MakeNoZero"], unfollowed := true, recurses := true, apart := false }
def NotesNamesSaid : Prop := notesNamesRow.holds Try.pinned (OpenSpec.ofChange notesNamesSpec)

/-- ITS FALSE NEIGHBOUR: 'it returns false'. Refute it at one input. -/
def notesNamesWrong : ChangeSpec := { name := "notesNames", fn := fun _ => fun
  | [d] => { results := [.lit (.bool false)], args := [d] }
  | _ => none }
def NotesNamesWrongFalsely : Prop := notesNamesRow.holds Try.pinned (OpenSpec.ofChange notesNamesWrong)

/-- 'cordellelaw09.NotesRead': WHATEVER THE INPUT: true; the input reads as it did. -/
def notesReadSpec : ChangeSpec := { name := "notesRead", fn := fun _ => fun
  | [d] => { results := [.lit (.bool true)], args := [d] }
  | _ => none }
def notesReadRow : OpenClaim := { program := "ytagimjaojpdfiaa", sum := "e7803c63dbdb52a8e59b8ab5d1aa7fbab4b6fc1e1e94435ff632e60e047420c3", func := "cordelle/cordellelaw09.NotesRead", spec := "notesRead", inPlace := ["internal/abi.NoEscape", "internal/bytealg.MakeNoZero"], unfollowed := true, recurses := true, apart := false }
def NotesReadSaid : Prop := notesReadRow.holds Try.pinned (OpenSpec.ofChange notesReadSpec)

/-- ITS FALSE NEIGHBOUR: 'it returns false'. Refute it at one input. -/
def notesReadWrong : ChangeSpec := { name := "notesRead", fn := fun _ => fun
  | [d] => { results := [.lit (.bool false)], args := [d] }
  | _ => none }
def NotesReadWrongFalsely : Prop := notesReadRow.holds Try.pinned (OpenSpec.ofChange notesReadWrong)

/-- 'cordellelaw08.ReportApart': WHATEVER THE INPUT: true; the input reads as it did. -/
def reportApartSpec : ChangeSpec := { name := "reportApart", fn := fun _ => fun
  | [d1, d2] => { results := [.lit (.bool true)], args := [d1, d2] }
  | _ => none }
def reportApartRow : OpenClaim := { program := "ytagimjaojpdfiaa", sum := "e7803c63dbdb52a8e59b8ab5d1aa7fbab4b6fc1e1e94435ff632e60e047420c3", func := "cordelle/cordellelaw08.ReportApart", spec := "reportApart", apart := false }
def ReportApartSaid : Prop := reportApartRow.holds Try.pinned (OpenSpec.ofChange reportApartSpec)

/-- ITS FALSE NEIGHBOUR: 'it returns false'. Refute it at one input. -/
def reportApartWrong : ChangeSpec := { name := "reportApart", fn := fun _ => fun
  | [d1, d2] => { results := [.lit (.bool false)], args := [d1, d2] }
  | _ => none }
def ReportApartWrongFalsely : Prop := reportApartRow.holds Try.pinned (OpenSpec.ofChange reportApartWrong)

/-- 'cordelletop.CordelleReports': WHATEVER THE INPUT: true; the input reads as it did. -/
def cordelleReportsSpec : ChangeSpec := { name := "cordelleReports", fn := fun _ => fun
  | [d] => { results := [.lit (.bool true)], args := [d] }
  | _ => none }
def cordelleReportsRow : OpenClaim := { program := "ytagimjaojpdfiaa", sum := "e7803c63dbdb52a8e59b8ab5d1aa7fbab4b6fc1e1e94435ff632e60e047420c3", func := "cordelle/cordelletop.CordelleReports", spec := "cordelleReports", apart := false }
def CordelleReportsSaid : Prop := cordelleReportsRow.holds Try.pinned (OpenSpec.ofChange cordelleReportsSpec)

/-- ITS FALSE NEIGHBOUR: 'it returns false'. Refute it at one input. -/
def cordelleReportsWrong : ChangeSpec := { name := "cordelleReports", fn := fun _ => fun
  | [d] => { results := [.lit (.bool false)], args := [d] }
  | _ => none }
def CordelleReportsWrongFalsely : Prop := cordelleReportsRow.holds Try.pinned (OpenSpec.ofChange cordelleReportsWrong)

/-- 'cordellelaw16.TableMerges': WHATEVER THE INPUT: true; the input reads as it did. -/
def tableMergesSpec : ChangeSpec := { name := "tableMerges", fn := fun _ => fun
  | [d1, d2] => { results := [.lit (.bool true)], args := [d1, d2] }
  | _ => none }
def tableMergesRow : OpenClaim := { program := "ytagimjaojpdfiaa", sum := "e7803c63dbdb52a8e59b8ab5d1aa7fbab4b6fc1e1e94435ff632e60e047420c3", func := "cordelle/cordellelaw16.TableMerges", spec := "tableMerges", inPlace := ["slices.overlaps[cordelle/table.Entry]"], unfollowed := true, recurses := true, apart := false }
def TableMergesSaid : Prop := tableMergesRow.holds Try.pinned (OpenSpec.ofChange tableMergesSpec)

/-- ITS FALSE NEIGHBOUR: 'it returns false'. Refute it at one input. -/
def tableMergesWrong : ChangeSpec := { name := "tableMerges", fn := fun _ => fun
  | [d1, d2] => { results := [.lit (.bool false)], args := [d1, d2] }
  | _ => none }
def TableMergesWrongFalsely : Prop := tableMergesRow.holds Try.pinned (OpenSpec.ofChange tableMergesWrong)

/-- 'cordellelaw16.TableOrder': WHATEVER THE INPUT: true; the input reads as it did. -/
def tableOrderSpec : ChangeSpec := { name := "tableOrder", fn := fun _ => fun
  | [d] => { results := [.lit (.bool true)], args := [d] }
  | _ => none }
def tableOrderRow : OpenClaim := { program := "ytagimjaojpdfiaa", sum := "e7803c63dbdb52a8e59b8ab5d1aa7fbab4b6fc1e1e94435ff632e60e047420c3", func := "cordelle/cordellelaw16.TableOrder", spec := "tableOrder", inPlace := ["slices.overlaps[cordelle/table.Entry]"], unfollowed := true, recurses := true, apart := false }
def TableOrderSaid : Prop := tableOrderRow.holds Try.pinned (OpenSpec.ofChange tableOrderSpec)

/-- ITS FALSE NEIGHBOUR: 'it returns false'. Refute it at one input. -/
def tableOrderWrong : ChangeSpec := { name := "tableOrder", fn := fun _ => fun
  | [d] => { results := [.lit (.bool false)], args := [d] }
  | _ => none }
def TableOrderWrongFalsely : Prop := tableOrderRow.holds Try.pinned (OpenSpec.ofChange tableOrderWrong)

/- THE SECOND FORM. 'bulk': how many values and letters a reading holds, each counted each time it is reached (what is shared counts as often as it is met; a slice's spare places count too). A statement '..UptoSaid' is the law's where the arguments, and the package variables that the reading takes, are together of bulk at most 1048576: NARROWER than '..Said'. Prove '..Said' where nothing that the law and all that it calls make is longer than what came in: it says more and counts as full. Else prove '..UptoSaid'. A law counts once. -/
mutual
def uptoBulk {H : Type} : DataW H → Nat
  | .lit (.string bytes) => bytes.length + 1
  | .lit _ => 1
  | .nil => 1
  | .ptr d => uptoBulk d + 1
  | .slice elems spare => uptoBulkAll elems + uptoBulkAll spare + 1
  | .agg parts => uptoBulkAll parts + 1
  | .iface _ d => uptoBulk d + 1
  | .map entries => uptoBulkEntries entries + 1
  | .held _ => 1
def uptoBulkAll {H : Type} : List (DataW H) → Nat
  | [] => 0
  | d :: r => uptoBulk d + uptoBulkAll r
def uptoBulkEntries {H : Type} : List (Lit × DataW H) → Nat
  | [] => 0
  | x :: r => uptoBulkEntry x + uptoBulkEntries r
def uptoBulkEntry {H : Type} : Lit × DataW H → Nat
  | (.string bytes, d) => bytes.length + uptoBulk d + 1
  | (_, d) => uptoBulk d + 1
 end
def uptoSmall : (H : Type) → List (DataW H) → Bool := fun _ ds => decide (uptoBulkAll ds ≤ 1048576)
def OpenSpec.upto (s : _root_.Go.ChangeSpec) : _root_.Go.OpenSpec := { _root_.Go.OpenSpec.ofChange s with cond := some uptoSmall }

/-- 'cordellelaw10.NackBack', WHERE WHAT IT READS IS OF BULK AT MOST 1048576: true; the input reads as it did. -/
def nackBackUptoRow : OpenClaim := { program := "ytagimjaojpdfiaa", sum := "e7803c63dbdb52a8e59b8ab5d1aa7fbab4b6fc1e1e94435ff632e60e047420c3", func := "cordelle/cordellelaw10.NackBack", spec := "nackBack", unfollowed := true, recurses := true, apart := false, narrowed := true }
def NackBackUptoSaid : Prop := nackBackUptoRow.holds Try.pinned (OpenSpec.upto nackBackSpec)

/-- 'cordellelaw10.NackReads', WHERE WHAT IT READS IS OF BULK AT MOST 1048576: true; the input reads as it did. -/
def nackReadsUptoRow : OpenClaim := { program := "ytagimjaojpdfiaa", sum := "e7803c63dbdb52a8e59b8ab5d1aa7fbab4b6fc1e1e94435ff632e60e047420c3", func := "cordelle/cordellelaw10.NackReads", spec := "nackReads", unfollowed := true, recurses := true, apart := false, narrowed := true }
def NackReadsUptoSaid : Prop := nackReadsUptoRow.holds Try.pinned (OpenSpec.upto nackReadsSpec)

/-- 'cordellelaw09.NotesNames', WHERE WHAT IT READS IS OF BULK AT MOST 1048576: true; the input reads as it did. -/
def notesNamesUptoRow : OpenClaim := { program := "ytagimjaojpdfiaa", sum := "e7803c63dbdb52a8e59b8ab5d1aa7fbab4b6fc1e1e94435ff632e60e047420c3", func := "cordelle/cordellelaw09.NotesNames", spec := "notesNames", inPlace := ["internal/abi.NoEscape", "internal/bytealg.MakeNoZero"], unfollowed := true, recurses := true, apart := false, narrowed := true }
def NotesNamesUptoSaid : Prop := notesNamesUptoRow.holds Try.pinned (OpenSpec.upto notesNamesSpec)

/-- 'cordellelaw09.NotesRead', WHERE WHAT IT READS IS OF BULK AT MOST 1048576: true; the input reads as it did. -/
def notesReadUptoRow : OpenClaim := { program := "ytagimjaojpdfiaa", sum := "e7803c63dbdb52a8e59b8ab5d1aa7fbab4b6fc1e1e94435ff632e60e047420c3", func := "cordelle/cordellelaw09.NotesRead", spec := "notesRead", inPlace := ["internal/abi.NoEscape", "internal/bytealg.MakeNoZero"], unfollowed := true, recurses := true, apart := false, narrowed := true }
def NotesReadUptoSaid : Prop := notesReadUptoRow.holds Try.pinned (OpenSpec.upto notesReadSpec)

/-- 'cordellelaw08.ReportApart', WHERE WHAT IT READS IS OF BULK AT MOST 1048576: true; the input reads as it did. -/
def reportApartUptoRow : OpenClaim := { program := "ytagimjaojpdfiaa", sum := "e7803c63dbdb52a8e59b8ab5d1aa7fbab4b6fc1e1e94435ff632e60e047420c3", func := "cordelle/cordellelaw08.ReportApart", spec := "reportApart", apart := false, narrowed := true }
def ReportApartUptoSaid : Prop := reportApartUptoRow.holds Try.pinned (OpenSpec.upto reportApartSpec)

/-- 'cordelletop.CordelleReports', WHERE WHAT IT READS IS OF BULK AT MOST 1048576: true; the input reads as it did. -/
def cordelleReportsUptoRow : OpenClaim := { program := "ytagimjaojpdfiaa", sum := "e7803c63dbdb52a8e59b8ab5d1aa7fbab4b6fc1e1e94435ff632e60e047420c3", func := "cordelle/cordelletop.CordelleReports", spec := "cordelleReports", apart := false, narrowed := true }
def CordelleReportsUptoSaid : Prop := cordelleReportsUptoRow.holds Try.pinned (OpenSpec.upto cordelleReportsSpec)

/-- 'cordellelaw16.TableMerges', WHERE WHAT IT READS IS OF BULK AT MOST 1048576: true; the input reads as it did. -/
def tableMergesUptoRow : OpenClaim := { program := "ytagimjaojpdfiaa", sum := "e7803c63dbdb52a8e59b8ab5d1aa7fbab4b6fc1e1e94435ff632e60e047420c3", func := "cordelle/cordellelaw16.TableMerges", spec := "tableMerges", inPlace := ["slices.overlaps[cordelle/table.Entry]"], unfollowed := true, recurses := true, apart := false, narrowed := true }
def TableMergesUptoSaid : Prop := tableMergesUptoRow.holds Try.pinned (OpenSpec.upto tableMergesSpec)

/-- 'cordellelaw16.TableOrder', WHERE WHAT IT READS IS OF BULK AT MOST 1048576: true; the input reads as it did. -/
def tableOrderUptoRow : OpenClaim := { program := "ytagimjaojpdfiaa", sum := "e7803c63dbdb52a8e59b8ab5d1aa7fbab4b6fc1e1e94435ff632e60e047420c3", func := "cordelle/cordellelaw16.TableOrder", spec := "tableOrder", inPlace := ["slices.overlaps[cordelle/table.Entry]"], unfollowed := true, recurses := true, apart := false, narrowed := true }
def TableOrderUptoSaid : Prop := tableOrderUptoRow.holds Try.pinned (OpenSpec.upto tableOrderSpec)

end Rows
end Go.Proofs.Ytagimjaojpdfiaa
