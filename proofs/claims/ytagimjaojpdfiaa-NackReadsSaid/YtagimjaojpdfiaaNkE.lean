/- nack: a pair's each. -/
import Derived.RangeFuncBox
import Derived.Shelf.Abstract
import Derived.Shelf.AbstractIn
import Derived.WalkKit
import Derived.OwnWalkIn
import Derived.TacticsInMore
import Derived.LoopNIn
import Derived.LoopIn
import Derived.Maps.AppendAt
import Derived.Maps.OwnIn
import Derived.Test.YtagimjaojpdfiaaNkM
import Derived.Test.YtagimjaojpdfiaaNkL
namespace Go.Proofs.Ytagimjaojpdfiaa
open Go.RowKit Go.Shelf
set_option linter.unusedVariables false
attribute [local go_sem] Oper.semAt_some
theorem nx_wrap (pid : Int) (k : Nat) : IntKind.u16.wrap (IntKind.u16.wrap (pid + 1) + (k : Int)) = nx pid k := by
  simp [IntKind.wrap, IntKind.bits, IntKind.signed, nx]
/-- Whatever pair is in memory stays there. -/
def KP (W W' : World) : Prop := ∀ (k : Nat) (cur : Array Value), W.heap[k]? = some (Obj.cells cur 131 (0, 0)) → W'.heap[k]? = some (Obj.cells cur 131 (0, 0))
theorem KP.refl (W : World) : KP W W := fun _ _ h => h
theorem KP.trans {A B C : World} (h : KP A B) (k : KP B C) : KP A C := fun i c e => k i c (h i c e)
theorem KP.putObj {B : Nat} (W : World) (l : Nat) (o o' : Obj) (_h : B ≤ l) (hl : W.heap[l]? = some o) (ho : o.isCells = false) : KP W (W.putObj l o') := fun k c e => by
  have hne : k ≠ l := fun h => by subst h; rw [hl] at e; cases e; cases ho
  exact (World.putObj_heap_other hne).trans e
set_option maxRecDepth 100000 in
set_option maxHeartbeats 2000000 in
theorem each_gives (F : Fence) (n : Nat) (h81 : F.fn 105) (hro : F.round = none) (hn : 1 ≤ n) (pid : Int) (b : Nat) (hp0 : 0 ≤ pid) (hp1 : pid < 65536) (hb1 : b < 65536) (w : World) :
    GivesB F n Try.prog 105 #[.agg #[.int .u16 pid, .int .u16 b]] #[] (fun x : Int => #[Value.int .u16 x]) KP (fun x => 0 ≤ x ∧ x < 65536) (fun xs => xs = nums pid b 16) 17 w := fun l J W hW hJa hY h0 => by
  have hX : (W.alloc (.cells #[.int .u16 pid, .int .u16 b] 131)).heap[W.heap.size]? = some (.cells #[.int .u16 pid, .int .u16 b] 131 (0, 0)) := heap_alloc_new W _
  have hJ1 := hJa [] (.cells #[.int .u16 pid, .int .u16 b] 131) W h0
  refine callsIn_of_wp Try.func105 rfl h81 ?_ hro
  simp only [Try.ntmps105, List.size_toArray, List.length_cons, List.length_nil, Nat.reduceAdd, Nat.reduceSub, Array.replicate_succ, Array.replicate_zero, List.push_toArray, List.append_toArray, List.nil_append, List.cons_append]
  have c0 : (W.alloc (.cells #[.int .u16 pid, .int .u16 b] 131)).cell? ⟨W.heap.size, 0, none⟩ = some (.int .u16 pid) := by have := cell_of_row _ _ 0 _ _ (0, 0) hX; exact this
  obtain ⟨fn, tmps, assign, body, hy, hR⟩ := hY [] pid _ hJ1 (by simp) ⟨hp0, hp1⟩
  gi_wp2
  refine hR.mono ?_
  rintro e W3 ⟨rfl, hJ3, hk3⟩
  have hX3 := hk3 _ _ hX
  gi_wp2
  gi_loopw [10] (fun i wr => ∃ k : Nat, k ≤ 16 ∧ i = .int .u16 k ∧ J (nums pid b k) wr ∧ wr.heap[W.heap.size]? = some (.cells #[.int .u16 pid, .int .u16 b] 131 (0, 0)))
    (fun i _ => 16 - (intOf i).toNat)
  case atStart => exact ⟨0, Nat.zero_le _, rfl, hJ3, hX3⟩
  case round =>
    obtain ⟨k, hk, rfl, hJs, hXk⟩ := hrel
    have c0 : wr.cell? ⟨W.heap.size, 0, none⟩ = some (.int .u16 pid) := by have := cell_of_row _ _ 0 _ _ (0, 0) hXk; simpa using this
    have c1 : wr.cell? ⟨W.heap.size, 1, none⟩ = some (.int .u16 b) := by have := cell_of_row _ _ 1 _ _ (0, 0) hXk; simpa using this
    by_cases hlt : k < 16
    · have hnx : IntKind.u16.wrap (IntKind.u16.wrap (pid + 1) + (k : Int)) = nx pid k := nx_wrap pid k
      have hlen := nums_len pid b k
      rcases Nat.mod_two_eq_zero_or_one (b / 2 ^ k) with hbit | hbit
      · have hand : bits .and .u16 ((b : Int) / 2 ^ k) 1 = 0 := by rw [and_bit b k hb1, hbit]; rfl
        have hJ' : J (nums pid b (k + 1)) wr := by rw [nums_miss pid b k hbit]; exact hJs
        clear hbit
        gi_wp2
        refine ⟨fun _ h => (by cases h), ?_⟩
        gi_wp2
        go_roundw
        case rel => exact ⟨k + 1, by omega, by go_num, hJ', hXk⟩
        case measure => simp [intOf]; omega
      · have hand : bits .and .u16 ((b : Int) / 2 ^ k) 1 = 1 := by rw [and_bit b k hb1, hbit]; rfl
        obtain ⟨fn, tmps, assign, body, hy, hR⟩ := hY _ (nx pid k) wr hJs (by omega) (nx_bd pid k)
        have HJ := Lib.hid (nums_hit pid b k hbit)
        clear hbit
        gi_wp2
        refine hR.mono ?_
        rintro e W4 ⟨rfl, hJ4, hk4⟩
        have hX4 := hk4 _ _ hXk
        gi_wp2
        go_roundw
        case rel => exact ⟨k + 1, by omega, by go_num, by rw [HJ.out]; exact hJ4, hX4⟩
        case measure => simp [intOf]; omega
    · obtain rfl : k = 16 := by omega
      gi_wp2
      go_end0
      exact ⟨⟨_, rfl⟩, _, rfl, hJs⟩
end Go.Proofs.Ytagimjaojpdfiaa
