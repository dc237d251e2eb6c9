/- rtp: the document's Pack. -/
import Derived.Test.YtilobmebfeenfaaApartW
import Derived.RegionTactic
import Derived.BigRegion
import Derived.Deep.RegionHeld3
namespace Go.Proofs.Ytilobmebfeenfaa
open Go.RowKit rtpApart
set_option linter.unusedVariables false
theorem sum_run (L M N : List UInt8) (h : L ++ M = N) (hl : N.length ≤ 1000000000) (W : World) : Sem.run Try.prog (Op.stringOp .add (ofL L) (ofL M)) W = Result.ok (.string (ofL N)) W := by
  rw [← h, ofL_append]
  refine run_string_add_sum _ _ _ ?_
  rw [ofL_size, ofL_size]
  have := congrArg List.length h
  rw [List.length_append] at this
  omega
theorem below_step {w W W' : World} (a : Below w.heap.size w W) (b : Below W.heap.size W W') : Below w.heap.size w W' := a.trans (b.mono a.size)
theorem be_byte (n : Nat) (h : n ≤ 255) : be (((n : Nat) : Int)) 1 = [UInt8.ofNat n] := by
  rw [be_succ, be_zero]
  congr 2
  simp
  omega
theorem hdrL_may (p : PK) (hp : hdrOk p) : (hdrL p (decide (0 < p.pad))).length ≤ 263000 := hdrL_len p _ hp
end Go.Proofs.Ytilobmebfeenfaa
