/- nack: a pair's Numbers. -/
import Derived.Test.YtagimjaojpdfiaaNkE
namespace Go.Proofs.Ytagimjaojpdfiaa
open Go.RowKit Go.Shelf
set_option linter.unusedVariables false
attribute [local go_sem] Oper.semAt_some
theorem kp_app {W w1 : World} {B n₀ k : Nat} {v v' : Value} {xs : List Value} {tmp : Obj} (hv : Boxed W B 132 v) (hrow : W.ownsRow n₀ 129 1 v k xs) (hgrow : (W.alloc tmp).grownBy w1 v.ownBlock) : KP W (w1.setCell ⟨B, 0, none⟩ v') := fun i c e => by
  have hlt : i < W.heap.size := (Array.getElem?_eq_some_iff.1 e).1
  have hB : i ≠ B := fun h => by
    subst h
    have := (show W.heap[i]? = _ from hv).symm.trans e
    simp at this
  have hne : some i ≠ v.ownBlock := fun h => by
    rcases hrow.2 with ⟨rfl, _⟩ | ⟨g, cap, cur, rfl, _, hgb, _⟩
    · simp [Value.ownBlock] at h
    · obtain rfl : i = g := by simpa [Value.ownBlock] using h
      have := hgb.symm.trans e
      simp at this
  rw [Below.heap_setCell _ _ _ _ hB, hgrow.block i (by simp; omega) hne, Below.heap_alloc _ _ _ hlt]
  exact e
theorem info16k : (Try.prog.info? 129).map (fun i => (i.zero, i.size, i.bytes)) = some (some (.int .u16 0), 1, 2) := by kernel_rfl
set_option maxRecDepth 100000 in
set_option maxHeartbeats 2000000 in
theorem numbers_in (F : Fence) (n : Nat) (h35 : F.fn 53) (h81 : F.fn 105) (hro : F.round = none) (hn : 3 ≤ n) (pid : Int) (b : Nat) (hp0 : 0 ≤ pid) (hp1 : pid < 65536) (hb1 : b < 65536) (w : World) :
    CallsIn F n Try.prog 53 #[.agg #[.int .u16 pid, .int .u16 b]] w fun e W' => ∃ v, e = .returned v ∧ W'.ownsRow w.heap.size 129 1 v (nums pid b 16).length ((nums pid b 16).map (Value.int .u16)) ∧ Below w.heap.size w W' := by
  have h1 : 1 ≤ n := by omega
  obtain ⟨i0, hi, hz0, hz1, hz2⟩ := info_parts info16k
  refine callsIn_of_wp_marks Try.func53 rfl h35 ?_ hro
  simp only [Try.ntmps53, List.size_toArray, List.length_cons, List.length_nil, Nat.reduceAdd, Nat.reduceSub, Array.replicate_succ, Array.replicate_zero, List.push_toArray, List.append_toArray, List.nil_append, List.cons_append]
  gi_wp2
  have bO : Boxed ((w.alloc (.cells #[.int .u16 pid, .int .u16 b] 131)).alloc (.cells #[.slice none 0 0] 132)) (w.heap.size + 1) 132 (.slice none 0 0) := by
    have := Boxed.new (w.alloc (.cells #[.int .u16 pid, .int .u16 b] 131)) 132 (.slice none 0 0)
    rwa [World.size_alloc] at this
  have hB0 : Below w.heap.size w ((w.alloc (.cells #[.int .u16 pid, .int .u16 b] 131)).alloc (.cells #[.slice none 0 0] 132)) := ((Below.refl _ w).alloc (Nat.le_refl _) _).alloc (by simp) _
  refine range_bound hro h1 (gf := 105) (ft := #[.agg #[.int .u16 pid, .int .u16 b]]) (lb := #[]) rfl h81 (enters_of Try.func105 (by kernel_rfl) rfl)
    (each_gives F (n - 1) h81 hro (by omega) pid b hp0 hp1 hb1 _) KP.trans KP.putObj (fun _ => rfl)
    (fun pre W => (∃ v, Boxed W (w.heap.size + 1) 132 v ∧ W.ownsRow w.heap.size 129 1 v (pre : List Int).length (pre.map (Value.int .u16)) ∧ True) ∧ Below w.heap.size w W)
    (OwnFrom.and (Own.from (holdsRow_own w.heap.size (w.heap.size + 1) 132 129 1 (fun pre => (pre : List Int).length) (fun pre => pre.map (Value.int .u16)) (fun _ _ => True)) _) (ownFrom_below (Nat.le_refl _) (by simp; omega)))
    (fun pre o X ⟨⟨v, hv, hr, _⟩, hB⟩ => ⟨⟨v, hv.alloc o, hr.alloc o, trivial⟩, hB.alloc hB.size o⟩)
    ⟨⟨_, bO, World.ownsRow_nil _ _ _ _, trivial⟩, hB0⟩
    (fun x => { tmps := #[.agg #[.int .u16 pid, .int .u16 b], .pointer (some ⟨w.heap.size, 0, none⟩), .slice none 0 0, .pointer (some ⟨w.heap.size + 1, 0, none⟩), .int .u16 x, .agg #[.int .u16 pid, .int .u16 b], .func (.func 105) #[.agg #[.int .u16 pid, .int .u16 b]] #[], .int .u16 x, undef, undef, undef, undef, undef], defers := [] }) ?assign ?body ?done
  case assign =>
    intro l x W K hK
    gi_wp2
    exact hK
  case body =>
    rintro l pre x W ⟨⟨v, hv, hrow, _⟩, hB⟩ hlt _
    have hc := hv.cell
    gi_wp2_with (gi_at_builtin; refine wpListIn_append_own _ rfl _ _ 132 rfl w.heap.size 129 i0 (.int .u16 0) 1 2 Try.underlying132 hi hz0 hz1 hz2 rfl (by decide) _ _ _ rfl (hrow.alloc _) ⟨W.heap.size, 0, none⟩ 1 1 [.int .u16 x] rfl rfl (cell_one_new _ _ _) (by simp [Value.oneCell']) (by show pre.length + 1 ≤ maxLen; simp [maxLen]; omega) (by omega) (by have := hB.size; simp; omega) ?_; intro v' w1 hown' hgrow _; obtain ⟨g', cap', rfl⟩ := ownsRow_succ hown'; obtain ⟨hv1, hv2, hr2, hk2, hb2⟩ := hv.appended (by decide) hrow hB.size (by omega) hown' hgrow; have hc1 := hv1.cell; have hf1 := hv1.frozen)
    exact ⟨hk2.from _, kp_app hv hrow hgrow, ⟨_, hv2, by simpa using hr2, trivial⟩, hB.trans hb2⟩
  case done =>
    rintro D ys W hD rfl ⟨⟨v, hv, hrow, _⟩, hB⟩ hK
    have hc := hv.cell
    gi_wp2
    refine ⟨by simp, .inl ⟨_, _, rfl, run_takeDeferred hK, ?_⟩⟩
    exact ⟨_, results_tmp rfl _ _ _, v, rfl, ownsRow_putObj hrow _ hK rfl, hB.trans (belowK_b (w := w) (Nat.le_refl _) W D _ _ (by simp at hD; omega) hK rfl rfl)⟩
theorem numbers_any (pid : Int) (b : Nat) (hp0 : 0 ≤ pid) (hp1 : pid < 65536) (hb1 : b < 65536) (w : World) :
    Calls Try.prog 53 #[.agg #[.int .u16 pid, .int .u16 b]] w fun e W' => ∃ v, e = .returned v ∧ W'.ownsRow w.heap.size 129 1 v (nums pid b 16).length ((nums pid b 16).map (Value.int .u16)) ∧ Below w.heap.size w W' :=
  (callsIn_wide (n := 6)).1 (numbers_in Fence.wide 6 trivial trivial rfl (by omega) pid b hp0 hp1 hb1 w)
end Go.Proofs.Ytagimjaojpdfiaa
