/- The statements' Same of a report and itself. -/
import Derived.Test.YtkchhiiomahbaaaMRpT
import Derived.Deep.QuietTactic
import Derived.BigQuiet
namespace Go.Proofs.Ytkchhiiomahbaaa
open Go.RowKit
set_option linter.unusedVariables false
theorem ReadsB.rat {w : World} {a : Option Addr} {l : List BK} (h : ReadsB BK.rvals w a l) {i : Nat} (hi : i < l.length) :
    ∃ b off, a = some ⟨b, off, none⟩ ∧ w.cell? ⟨b, off + i * 7, none⟩ = some (.int .i64 (l[i]?.getD zeroBK).src) ∧ w.cell? ⟨b, off + i * 7 + 1, none⟩ = some (.int .i64 (l[i]?.getD zeroBK).frac) ∧ w.cell? ⟨b, off + i * 7 + 2, none⟩ = some (.int .i64 (l[i]?.getD zeroBK).lost) ∧ w.cell? ⟨b, off + i * 7 + 3, none⟩ = some (.int .i64 (l[i]?.getD zeroBK).high) ∧ w.cell? ⟨b, off + i * 7 + 4, none⟩ = some (.int .i64 (l[i]?.getD zeroBK).jit) ∧ w.cell? ⟨b, off + i * 7 + 5, none⟩ = some (.int .i64 (l[i]?.getD zeroBK).last) ∧ w.cell? ⟨b, off + i * 7 + 6, none⟩ = some (.int .i64 (l[i]?.getD zeroBK).delay) := by
  rcases h with h | ⟨b, off, ha, hc⟩
  · simp [h] at hi
  · exact ⟨b, off, ha, hc i hi 0 _ rfl, hc i hi 1 _ rfl, hc i hi 2 _ rfl, hc i hi 3 _ rfl, hc i hi 4 _ rfl, hc i hi 5 _ rfl, hc i hi 6 _ rfl⟩
set_option maxRecDepth 100000 in
set_option maxHeartbeats 3200000 in
theorem sameRp_t (r : RP) (a a2 : Option Addr) (c c2 : Nat) (w : World) (hl : r.blocks.length ≤ 1000000) (hr : ReadsB BK.rvals w a r.blocks) (hr2 : ReadsB BK.rvals w a2 r.blocks) :
    Calls Try.prog 19 #[.agg #[.int .i64 r.src, .bool r.isS, .int .i64 r.clock, .int .i64 r.time, .int .i64 r.packets, .int .i64 r.bytes, .slice a r.blocks.length c], .agg #[.int .i64 r.src, .bool r.isS, .int .i64 r.clock, .int .i64 r.time, .int .i64 r.packets, .int .i64 r.bytes, .slice a2 r.blocks.length c2]] w fun e w' => e = .returned (.bool true) ∧ Below w.heap.size w w' := by
  obtain ⟨src, isS, clock, time, packets, bytes, l⟩ := r
  simp only at *
  have hX1 := at7_new 38 w (.int .i64 src) (.bool isS) (.int .i64 clock) (.int .i64 time) (.int .i64 packets) (.int .i64 bytes) (.slice a l.length c)
  have hX2 := hX1.alloc (.cells #[.int .i64 src, .bool isS, .int .i64 clock, .int .i64 time, .int .i64 packets, .int .i64 bytes, .slice a2 l.length c2] 38)
  have hY2 := at7_new 38 (w.alloc (.cells #[.int .i64 src, .bool isS, .int .i64 clock, .int .i64 time, .int .i64 packets, .int .i64 bytes, .slice a l.length c] 38)) (.int .i64 src) (.bool isS) (.int .i64 clock) (.int .i64 time) (.int .i64 packets) (.int .i64 bytes) (.slice a2 l.length c2)
  have hb2 : Below w.heap.size w ((w.alloc (.cells #[.int .i64 src, .bool isS, .int .i64 clock, .int .i64 time, .int .i64 packets, .int .i64 bytes, .slice a l.length c] 38)).alloc (.cells #[.int .i64 src, .bool isS, .int .i64 clock, .int .i64 time, .int .i64 packets, .int .i64 bytes, .slice a2 l.length c2] 38)) := by go_grown
  have hne : (w.alloc (.cells #[.int .i64 src, .bool isS, .int .i64 clock, .int .i64 time, .int .i64 packets, .int .i64 bytes, .slice a l.length c] 38)).heap.size = w.heap.size + 1 := by simp
  rw [hne] at hY2
  have HR := Lib.hid (fun W (h : Below w.heap.size w W) => hr.later h)
  have HR2 := Lib.hid (fun W (h : Below w.heap.size w W) => hr2.later h)
  clear hX1 hne hr hr2
  have e1 : (src != src) = false := by simp
  have e2 : (isS != isS) = false := by simp
  have e3 : (clock != clock) = false := by simp
  have e4 : (time != time) = false := by simp
  have e5 : (packets != packets) = false := by simp
  have e6 : (bytes != bytes) = false := by simp
  go_enter Try.func19, Try.ntmps19
  go_upto_region 1 with fail
  generalize (w.alloc (.cells #[.int .i64 src, .bool isS, .int .i64 clock, .int .i64 time, .int .i64 packets, .int .i64 bytes, .slice a l.length c] 38)).alloc (.cells #[.int .i64 src, .bool isS, .int .i64 clock, .int .i64 time, .int .i64 packets, .int .i64 bytes, .slice a2 l.length c2] 38) = w2 at hX2 hY2 hb2 ⊢
  generalize hg2 : w.heap.size + 1 = g2 at hY2 ⊢
  generalize hg : w.heap.size = g at hX2 hb2 HR HR2 ⊢
  have HG := Lib.hid hg
  clear hg2 hg
  obtain ⟨x0, x1, x2, x3, x4, x5, x6⟩ := hX2.cells
  obtain ⟨y0, y1, y2, y3, y4, y5, y6⟩ := hY2.cells
  go_wp2_with fail
  go_loopw [58] (fun i wr => ∃ k : Nat, k ≤ l.length ∧ i = .int .i64 k ∧ At7 38 wr g (.int .i64 src) (.bool isS) (.int .i64 clock) (.int .i64 time) (.int .i64 packets) (.int .i64 bytes) (.slice a l.length c) ∧ At7 38 wr g2 (.int .i64 src) (.bool isS) (.int .i64 clock) (.int .i64 time) (.int .i64 packets) (.int .i64 bytes) (.slice a2 l.length c2) ∧ Below g w wr) (fun i _ => l.length - (intOf i).toNat)
  case atStart => exact ⟨0, Nat.zero_le _, rfl, hX2, hY2, hb2⟩
  case round =>
    obtain ⟨k, hk, rfl, hX, hY, hb⟩ := hrel
    clear hX2 hY2 hb2 x0 x1 x2 x3 x4 x5 x6 y0 y1 y2 y3 y4 y5 y6
    by_cases hlt : k < l.length
    · obtain ⟨ab, off, rfl, c0, c1, c2', c3, c4, c5, c6⟩ := (HR.out _ hb).rat hlt
      obtain ⟨ab2, off2, rfl, d0, d1, d2, d3, d4, d5, d6⟩ := (HR2.out _ hb).rat hlt
      generalize l[k]?.getD zeroBK = p at c0 c1 c2' c3 c4 c5 c6 d0 d1 d2 d3 d4 d5 d6
      have i1 : (k : Int) < (l.length : Int) := by omega
      obtain ⟨_, _, _, _, _, _, x6⟩ := hX.cells
      obtain ⟨_, _, _, _, _, _, y6⟩ := hY.cells
      go_wp2_with fail
      go_quiet (fail)
      have hb2 := below_drewN hb nq
      have hX2 : At7 38 (wr.drewN nq) g (.int .i64 src) (.bool isS) (.int .i64 clock) (.int .i64 time) (.int .i64 packets) (.int .i64 bytes) (.slice (some ⟨ab, off, none⟩) l.length c) := by unfold At7; rw [heap_drewN]; exact hX
      have hY2 : At7 38 (wr.drewN nq) g2 (.int .i64 src) (.bool isS) (.int .i64 clock) (.int .i64 time) (.int .i64 packets) (.int .i64 bytes) (.slice (some ⟨ab2, off2, none⟩) l.length c2) := by unfold At7; rw [heap_drewN]; exact hY
      go_wp2
      go_roundw
      case rel => exact ⟨k + 1, by omega, by go_num, hX2, hY2, hb2⟩
      case measure => simp [intOf]; omega
    · obtain rfl : k = l.length := by omega
      obtain ⟨_, _, _, _, _, _, x6⟩ := hX.cells
      go_wp2
      go_ret
      exact ⟨rfl, by rw [HG.out]; exact hb⟩
end Go.Proofs.Ytkchhiiomahbaaa

