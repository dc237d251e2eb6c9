/- The document's Pack of pieces; Kinds; Same. -/
import Derived.Test.YtjoikidnnhjogaaMc
namespace Go.Proofs.Ytjoikidnnhjogaa
open Go.RowKit rtpApart
set_option linter.unusedVariables false
theorem pcsS_step (l : List PC) (k : Nat) (h : k < l.length) : pcsL (l.take (k + 1)) = pcsL (l.take k) ++ pcL (l[k]?.getD zeroPC) := pcsL_take l k h
theorem ofL_pcL (L1 : List UInt8) (c kd : Int) (body : ByteArray) (q : Nat) (hq : body.size / 4 = q) :
    ofL (L1 ++ pcL ⟨c, kd, body⟩) = ofL L1 ++ (ofL (be (128 + c) 1 ++ be kd 1 ++ be (q : Int) 2) ++ body) := by
  unfold pcL
  rw [hq, ofL_append, ofL_append, ofL_by]
def kindsL (l : List PC) : List Int := l.map PC.kind
theorem infoInt : (Try.prog.info? 3).map (fun i => (i.zero, i.size, i.bytes)) = some (some (.int .i64 0), 1, 8) := by kernel_rfl
theorem kinds_take (l : List PC) (k : Nat) (h : k < l.length) : kindsL (l.take (k + 1)) = kindsL (l.take k) ++ [(l[k]?.getD zeroPC).kind] := by
  unfold kindsL
  rw [List.take_succ_eq_append_getElem h, List.map_append]
  simp [h]
set_option maxHeartbeats 800000 in
theorem sameInts_any (zs : List Int) (a a2 : Option Addr) (n c c2 : Nat) (w : World) (hn : n = zs.length) (hr : Reads .i64 w a zs) (hr2 : Reads .i64 w a2 zs) (hl : zs.length ≤ 1000000000) :
    Calls Try.prog 48 #[.slice a n c, .slice a2 n c2] w fun e w' => e = .returned (.bool true) ∧ Below w.heap.size w w' := by
  subst hn
  have HR := Lib.hid (fun W (h : Below w.heap.size w W) => hr.later h)
  have HR2 := Lib.hid (fun W (h : Below w.heap.size w W) => hr2.later h)
  clear hr hr2
  go_enter Try.func48, Try.ntmps48
  go_wp2
  go_loopw [13] (fun i wr => ∃ k : Nat, k ≤ zs.length ∧ i = .int .i64 k ∧ Below w.heap.size w wr) (fun i _ => zs.length - (intOf i).toNat)
  case atStart => exact ⟨0, Nat.zero_le _, rfl, Below.refl _ _⟩
  case round =>
    obtain ⟨k, hk, rfl, hb1⟩ := hrel
    by_cases hlt : k < zs.length
    · obtain ⟨ab, off, rfl, c0⟩ := (HR.out _ hb1).at hlt
      obtain ⟨ab2, off2, rfl, d0⟩ := (HR2.out _ hb1).at hlt
      generalize zs[k]?.getD 0 = p at c0 d0
      have i1 : (k : Int) < (zs.length : Int) := by omega
      go_wp2_with fail
      go_quiet (fail)
      have hb2 := below_drewN hb1 nq
      go_wp2
      go_roundw
      case rel => exact ⟨k + 1, by omega, by go_num, hb2⟩
      case measure => simp [intOf]; omega
    · obtain rfl : k = zs.length := by omega
      go_wp2
      go_ret
      exact ⟨rfl, hb1⟩
end Go.Proofs.Ytjoikidnnhjogaa

