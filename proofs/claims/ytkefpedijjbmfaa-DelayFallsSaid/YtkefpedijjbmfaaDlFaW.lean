/- DelayFalls: the walk. -/
import Derived.Test.YtkefpedijjbmfaaDlG
import Derived.Test.YtkefpedijjbmfaaOrdN
namespace Go.Proofs.Ytkefpedijjbmfaa
open Go.RowKit
set_option linter.unusedVariables false
theorem dlMade (n : Nat) : (madeCells #[Value.int .i64 0] n).toList = List.replicate n (Value.int .i64 0) := by
  unfold madeCells
  apply List.ext_getElem?
  intro i
  by_cases h : i < n
  · simp [h, Nat.mod_one]
  · rw [List.getElem?_eq_none (by simp; omega), List.getElem?_eq_none (by simp; omega)]
theorem reads_zeros (W : World) (n d : Nat) (Z : Array Value) (T : TypeId) (b : Nat) (hb : W.heap[b]? = some (.cells Z T (0, 0))) (hZ : Z.toList = List.replicate (n + d) (.int .i64 0)) : Reads .i64 W (some ⟨b, d, none⟩) (List.replicate n 0) := by
  refine Or.inr ⟨b, d, rfl, fun i hi => ?_⟩
  have hi' : i < n := by simpa using hi
  have h := cell_of_row W b (d + i) _ _ (0, 0) hb
  rw [← Array.getElem?_toList, hZ, List.getElem?_replicate, if_pos (by omega)] at h
  simpa [hi'] using h
theorem dlS2 {T U : TypeId} {w W : World} {B g h : Nat} {c0 c1 c2 d0 d1 d2 : Value} (hX : At3 T W g c0 c1 c2) (hY : At3 U W h d0 d1 d2) (hb : Below B w W) :
    W.cell? ⟨g, 0, none⟩ = some c0 ∧ W.cell? ⟨g, 1, none⟩ = some c1 ∧ W.cell? ⟨g, 2, none⟩ = some c2 ∧ W.cell? ⟨h, 0, none⟩ = some d0 ∧ W.cell? ⟨h, 1, none⟩ = some d1 ∧ W.cell? ⟨h, 2, none⟩ = some d2 ∧ Below B w W := by
  obtain ⟨a0, a1, a2⟩ := hX.cells
  obtain ⟨b0, b1, b2⟩ := hY.cells
  exact ⟨a0, a1, a2, b0, b1, b2, hb⟩
namespace delayFalls
set_option maxRecDepth 100000 in
set_option maxHeartbeats 1600000 in
theorem walk (a0 a1 a2 : Int) (w0 : (Lit.int .i64 a0).wf = true) (w1 : (Lit.int .i64 a1).wf = true) (w2 : (Lit.int .i64 a2).wf = true) (w : World) :
    Calls Try.prog 4 #[.int .i64 a0, .int .i64 a1, .int .i64 a2] w fun e w' => e = .returned (.bool true) ∧ Below w.heap.size w w' := by
  clear w0 w1 w2
  have HA := Lib.hid (fun W => dlAwake_any W)
  have hm1 : bits .and .i64 a0 255 = a0 % 256 := i64_mask a0 8 (by omega)
  have hm2 : bits .and .i64 a1 255 = a1 % 256 := i64_mask a1 8 (by omega)
  have s0 : 0 ≤ a0 % 256 := by omega
  have s1 : a0 % 256 ≤ 255 := by omega
  have n0 : 0 ≤ a1 % 256 := by omega
  have n1 : a1 % 256 ≤ 255 := by omega
  generalize a0 % 256 = l at hm1 s0 s1
  generalize a1 % 256 = m at hm2 n0 n1
  have hN := fun W => dlNew_any l (l + m) W
  have hJ := fun W => dlJit_any (DL.fit ⟨l, l + m, 0⟩) a2 W
  rw [DL.fresh l m a2 s0 s1 n0 n1] at hJ
  have e1 : DL.fit ⟨l, l + m, 0⟩ = ⟨l, l + m, l⟩ := by
    simp only [DL.fit, am, DL.mk.injEq]
    refine ⟨?_, ?_, ?_⟩ <;> omega
  rw [e1] at hN hJ
  clear e1
  obtain ⟨N, hNow⟩ : ∃ N, min (l + m) (l + 4 * max 0 (min a2 1048576)) = N := ⟨_, rfl⟩
  rw [hNow] at hJ
  have hj0 : 0 ≤ max 0 (min a2 1048576) := by omega
  have hj1 : max 0 (min a2 1048576) ≤ 1048576 := by omega
  obtain ⟨k, hk, hk1⟩ : ∃ k : Nat, N = l + k ∧ k ≤ 255 := ⟨(N - l).toNat, by omega, by omega⟩
  generalize hje : max 0 (min a2 1048576) = j at hNow hj0 hj1
  have hwj : IntKind.i64.wrap (4 * j) = 4 * j := IntWalk.i64_in _ ⟨by omega, by omega⟩
  have hwl : IntKind.i64.wrap (l + 4 * j) = l + 4 * j := IntWalk.i64_in _ ⟨by omega, by omega⟩
  have hwm : IntKind.i64.wrap (l + m) = l + m := IntWalk.i64_in _ ⟨by omega, by omega⟩
  have hwk : IntKind.i64.wrap (N - l) = k := by rw [show N - l = (k : Int) by omega]; exact IntWalk.i64_in _ ⟨by omega, by omega⟩
  have hw1 : IntKind.i64.wrap (l + 1) = l + 1 := IntWalk.i64_in _ ⟨by omega, by omega⟩
  have hok : (DL.mk l (l + m) N).Ok := by constructor <;> simp only <;> omega
  have hok2 : (DL.mk l (l + m) l).Ok := by constructor <;> simp only <;> omega
  simp only [DL.val] at hN hJ
  have HN := Lib.hid hN
  have HJ := Lib.hid hJ
  have HR : Hid (∀ (n : Nat) (a1 : Option Addr) (cap : Nat) (W : World), n ≤ 255 → Reads .i64 W a1 (List.replicate n 0) → Calls Try.prog 14 #[.agg #[.int .i64 l, .int .i64 (l + m), .int .i64 N], .slice a1 n cap] W fun e w' => e = .returned (.agg #[.int .i64 l, .int .i64 (l + m), .int .i64 (max l (N - n))]) ∧ Below W.heap.size W w') := Lib.hid (fun n a1 cap W hn hr => by
    have h := dlRun_any ⟨l, l + m, N⟩ (List.replicate n 0) a1 n cap (by simp) W hr (by simp; omega)
    rw [DL.run_zeros _ hok] at h
    exact h)
  have HZ : Hid (∀ W, Calls Try.prog 10 #[.agg #[.int .i64 l, .int .i64 (l + m), .int .i64 l], .int .i64 0] W fun e w' => e = .returned (.agg #[.int .i64 l, .int .i64 (l + m), .int .i64 l]) ∧ Below W.heap.size W w') := Lib.hid (fun W => by
    have h := dlJit_any ⟨l, l + m, l⟩ 0 W
    rw [DL.jit0 _ hok2] at h
    simp only [DL.val] at h
    rw [show max l (l - 1) = l by omega] at h
    exact h)
  clear hN hJ hok hok2
  have hfd : ∀ (W : World) (z : Int), (Instr.field 27 (.agg #[.int .i64 l, .int .i64 (l + m), .int .i64 z]) 2).run Try.prog W = .ok (.int .i64 z) W := fun _ _ => by kernel_rfl
  have hmax : max l (N - k) = l := by omega
  have HR1 : Hid (∀ (a1 : Option Addr) (cap : Nat) (W : World), Reads .i64 W a1 (List.replicate k 0) → Calls Try.prog 14 #[.agg #[.int .i64 l, .int .i64 (l + m), .int .i64 N], .slice a1 k cap] W fun e w' => e = .returned (.agg #[.int .i64 l, .int .i64 (l + m), .int .i64 l]) ∧ Below W.heap.size W w') := Lib.hid (fun a1 cap W hr => by
    have h := HR.out k a1 cap W hk1 hr
    rw [hmax] at h
    exact h)
  have hmk : ∀ W : World, (Instr.makeSlice 24 (.int .i64 (k : Int)) (.int .i64 (k : Int))).run Try.prog W = .ok (.slice (some ⟨W.heap.size, 0, none⟩) k k) (W.alloc (.cells (madeCells #[.int .i64 0] k) 3)) := fun W => by
    have hi' : (Try.prog.info? 3).map (fun i => (i.zero, i.size, i.bytes)) = some (some (.int .i64 0), 1, 8) := by kernel_rfl
    obtain ⟨i0, hi, hz0, hz1, hz2⟩ := info_parts hi'
    have h := run_make (P := Try.prog) W 24 3 i0 (.int .i64 0) rfl hi hz0 .i64 .i64 k k (by omega) (by omega) (by rw [hz2]; omega) (by omega)
    rw [hz1] at h
    simpa [Value.cells] using h
  have HMZ := Lib.hid (dlMade k)
  generalize madeCells #[Value.int .i64 0] k = Z at hmk HMZ
  have HK := Lib.hid hk
  clear hmax hk
  go_enter Try.func4, Try.ntmps4
  go_wp2_with fail
  refine (HA.out _).mono ?_
  rintro e w3 ⟨rfl, hk3⟩
  clear HA
  go_upto_region 4 with fail
  go_wp2_with fail
  refine (HN.out _).mono ?_
  rintro e w4 ⟨rfl, hk4⟩
  go_wp2_with fail
  refine (HJ.out _).mono ?_
  rintro e w5 ⟨rfl, hk5⟩
  have hsz5 : w.heap.size ≤ w5.heap.size := by have := hk3.size; have := hk4.size; have := hk5.size; omega
  have hb5 : Below w.heap.size w w5 := (hk3.trans (hk4.mono hk3.size)).trans (hk5.mono (by have := hk3.size; have := hk4.size; omega))
  have hX6 := at3_new 27 w5 _ (.int .i64 l) (.int .i64 (l + m)) (.int .i64 N) rfl
  have hb6 := hb5.alloc hsz5 (.cells #[.int .i64 l, .int .i64 (l + m), .int .i64 N] 27)
  go_upto_region 5 with fail
  generalize w5.alloc (.cells #[.int .i64 l, .int .i64 (l + m), .int .i64 N] 27) = w6 at hX6 hb6 ⊢
  generalize w5.heap.size = g at hX6 hsz5 ⊢
  clear hb5 hk3 hk4 hk5 HN HJ
  obtain ⟨_, _, _⟩ := hX6.cells
  have hlt6 := hX6.lt
  go_upto_region 8 with fail
  clear hNow
  go_upto_region 9 with fail
  have hX7 := hX6.alloc (.cells Z 3)
  have hb7 := hb6.alloc (by omega) (.cells Z 3)
  have hr7 : (w6.alloc (.cells Z 3)).heap[w6.heap.size]? = some (.cells Z 3 (0, 0)) := heap_alloc_new w6 _
  generalize w6.alloc (.cells Z 3) = w7 at hX7 hb7 hr7 ⊢
  generalize w6.heap.size = gz at hr7 hlt6 ⊢
  clear hX6 hb6 hmk
  obtain ⟨_, _, _⟩ := hX7.cells
  have hR7 := reads_zeros w7 k 0 Z _ gz hr7 HMZ.out
  go_wp2_with fail
  refine (HR1.out _ _ _ hR7).mono ?_
  rintro e w8 ⟨rfl, hk8⟩
  have hX8 := hX7.later hk8
  have hr8 : w8.heap[gz]? = some (.cells Z 3 (0, 0)) := by rw [hk8.block gz (lt_of_block hr7)]; exact hr7
  have hb8 := hb7.trans (hk8.mono (by have := hX7.lt; omega))
  have hl8 := hX8.lt
  have hX9 := hX8.alloc (.cells #[.int .i64 l, .int .i64 (l + m), .int .i64 l] 27)
  have hE9 := at3_new 27 w8 _ (.int .i64 l) (.int .i64 (l + m)) (.int .i64 l) rfl
  have hb9 := hb8.alloc (by omega) (.cells #[.int .i64 l, .int .i64 (l + m), .int .i64 l] 27)
  have hr9 := ga_old w8 (.cells #[.int .i64 l, .int .i64 (l + m), .int .i64 l] 27) _ gz hr8
  go_upto_region 10 with fail
  generalize w8.alloc (.cells #[.int .i64 l, .int .i64 (l + m), .int .i64 l] 27) = w9 at hX9 hE9 hb9 hr9 ⊢
  generalize w8.heap.size = ge at hE9 hl8 ⊢
  clear hX7 hb7 hr7 hR7 hk8 hX8 hr8 hb8 HR1
  have HR9 := Lib.hid (fun (W : World) (h : Below w9.heap.size w9 W) => show W.heap[gz]? = some (.cells Z 3 (0, 0)) from by rw [h.block gz (lt_of_block hr9)]; exact hr9)
  clear hr9
  obtain ⟨_, _, _⟩ := hX9.cells
  obtain ⟨_, _, _⟩ := hE9.cells
  have hlt9 := hX9.lt
  have hle9 := hE9.lt
  have HX := Lib.hid (fun (W : World) (h : Below w9.heap.size w9 W) => dlS2 (hE9.later h) (hX9.later h) (hb9.trans (h.mono (by omega))))
  have hc9 := HX.out w9.drew (Below.refl _ _).drew
  obtain ⟨_, _, _, _, _, _, _⟩ := hc9
  by_cases hk0 : k = 0
  · subst hk0
    clear HR
    have hS9 : (fun W : World => W.cell? ⟨ge, 0, none⟩ = some (.int .i64 l) ∧ W.cell? ⟨ge, 1, none⟩ = some (.int .i64 (l + m)) ∧ W.cell? ⟨ge, 2, none⟩ = some (.int .i64 l) ∧ Below w9.heap.size w9 W) w9.drew := ⟨(hE9.drew).cells.1, (hE9.drew).cells.2.1, (hE9.drew).cells.2.2, (Below.refl _ _).drew⟩
    refine wp_region_noPanic ?_
    refine ordM_begin (fun W : World => W.cell? ⟨ge, 0, none⟩ = some (.int .i64 l) ∧ W.cell? ⟨ge, 1, none⟩ = some (.int .i64 (l + m)) ∧ W.cell? ⟨ge, 2, none⟩ = some (.int .i64 l) ∧ Below w9.heap.size w9 W) (fun i => false) (by kernel_rfl) hS9 ?_
    refine ordM_take 0 ?vq1 rfl (by kernel_rfl) (by kernel_rfl) (by kernel_rfl) (by kernel_rfl) (fun _ _ _ h => h) (by rfl) ?hq1 (by assumption) ?rq1
    case hq1 => (intro W hSw; (try dsimp only at hSw); go_simp <;> with_reducible rfl)
    (try simp only [Act.put, List.setIfInBounds_toArray, List.set_cons_zero, List.set_cons_succ])
    refine ordM_take 1 ?vq2 rfl (by kernel_rfl) (by kernel_rfl) (by kernel_rfl) (by kernel_rfl) (fun _ _ _ h => h) (by rfl) ?hq2 (by assumption) ?rq2
    case hq2 => (intro W hSw; (try dsimp only at hSw); go_simp <;> with_reducible rfl)
    (try simp only [Act.put, List.setIfInBounds_toArray, List.set_cons_zero, List.set_cons_succ])
    refine ordM_take 2 ?vq3 rfl (by kernel_rfl) (by kernel_rfl) (by kernel_rfl) (by kernel_rfl) (fun _ _ _ h => h) (by rfl) ?hq3 (by assumption) ?rq3
    case hq3 => (intro W hSw; (try dsimp only at hSw); go_simp <;> with_reducible rfl)
    (try simp only [Act.put, List.setIfInBounds_toArray, List.set_cons_zero, List.set_cons_succ])
    refine ordM_take 3 ?vq4 rfl (by kernel_rfl) (by kernel_rfl) (by kernel_rfl) (by kernel_rfl) (fun _ _ _ h => h) (by rfl) ?hq4 (by assumption) ?rq4
    case hq4 => (intro W hSw; (try dsimp only at hSw); go_simp <;> with_reducible rfl)
    (try simp only [Act.put, List.setIfInBounds_toArray, List.set_cons_zero, List.set_cons_succ])
    refine ordM_take 4 ?vq5 rfl (by kernel_rfl) (by kernel_rfl) (by kernel_rfl) (by kernel_rfl) (fun _ _ _ h => h) (by rfl) ?hq5 (by assumption) ?rq5
    case hq5 => (intro W hSw; (try dsimp only at hSw); go_simp <;> with_reducible rfl)
    (try simp only [Act.put, List.setIfInBounds_toArray, List.set_cons_zero, List.set_cons_succ])
    refine ordM_take 5 ?vq6 rfl (by kernel_rfl) (by kernel_rfl) (by kernel_rfl) (by kernel_rfl) (fun _ _ _ h => h) (by rfl) ?hq6 (by assumption) ?rq6
    case hq6 => (intro W hSw; (try dsimp only at hSw); go_simp <;> with_reducible rfl)
    (try simp only [Act.put, List.setIfInBounds_toArray, List.set_cons_zero, List.set_cons_succ])
    refine ordM_take 8 ?vq7 rfl (by kernel_rfl) (by kernel_rfl) (by kernel_rfl) (by kernel_rfl) (fun _ _ _ h => h) (by rfl) ?hq7 (by assumption) ?rq7
    case hq7 => (intro W hSw; (try dsimp only at hSw); go_simp <;> with_reducible rfl)
    (try simp only [Act.put, List.setIfInBounds_toArray, List.set_cons_zero, List.set_cons_succ])
    refine ordM_ready [6] (by kernel_rfl) (by simp) ?_
    refine AllReadyM.cons rfl (fun K hK => ?_) AllReadyM.nil
    go_simp
    go_at_call 10
    refine (HZ.out _).mono ?_
    rintro e w10 ⟨rfl, hk10⟩
    have hq10 : Below w9.heap.size w9 w10 := (Below.refl _ _).drew.trans hk10
    have hS10 : (fun W : World => W.cell? ⟨ge, 0, none⟩ = some (.int .i64 l) ∧ W.cell? ⟨ge, 1, none⟩ = some (.int .i64 (l + m)) ∧ W.cell? ⟨ge, 2, none⟩ = some (.int .i64 l) ∧ Below w9.heap.size w9 W) w10 := ⟨(hE9.later hq10).cells.1, (hE9.later hq10).cells.2.1, (hE9.later hq10).cells.2.2, hq10⟩
    (try go_wp2_with fail)
    refine hK.out _ _ (fun _ => hS10) ?_
    clear hK K
    (try simp only [Act.put, List.setIfInBounds_toArray, List.set_cons_zero, List.set_cons_succ])
    refine ordM_take 7 ?vq8 rfl (by kernel_rfl) (by kernel_rfl) (by kernel_rfl) (by kernel_rfl) (fun _ _ _ h => h) (by rfl) ?hq8 (by assumption) ?rq8
    case hq8 => (intro W hSw; (try dsimp only at hSw); go_simp <;> with_reducible rfl)
    (try simp only [Act.put, List.setIfInBounds_toArray, List.set_cons_zero, List.set_cons_succ])
    refine ordM_take 9 ?vq9 rfl (by kernel_rfl) (by kernel_rfl) (by kernel_rfl) (by kernel_rfl) (fun _ _ _ h => h) (by rfl) ?hq9 (by assumption) ?rq9
    case hq9 => (intro W hSw; (try dsimp only at hSw); go_simp <;> with_reducible rfl)
    (try simp only [Act.put, List.setIfInBounds_toArray, List.set_cons_zero, List.set_cons_succ])
    refine ordM_take 10 ?vq10 rfl (by kernel_rfl) (by kernel_rfl) (by kernel_rfl) (by kernel_rfl) (fun _ _ _ h => h) (by rfl) ?hq10 (by assumption) ?rq10
    case hq10 => (intro W hSw; (try dsimp only at hSw); go_simp <;> with_reducible rfl)
    (try simp only [Act.put, List.setIfInBounds_toArray, List.set_cons_zero, List.set_cons_succ])
    refine ordM_take 11 ?vq11 rfl (by kernel_rfl) (by kernel_rfl) (by kernel_rfl) (by kernel_rfl) (fun _ _ _ h => h) (by rfl) ?hq11 (by assumption) ?rq11
    case hq11 => (intro W hSw; (try dsimp only at hSw); go_simp <;> with_reducible rfl)
    (try simp only [Act.put, List.setIfInBounds_toArray, List.set_cons_zero, List.set_cons_succ])
    refine ordM_take 12 ?vq12 rfl (by kernel_rfl) (by kernel_rfl) (by kernel_rfl) (by kernel_rfl) (fun _ _ _ h => h) (by rfl) ?hq12 (by assumption) ?rq12
    case hq12 => (intro W hSw; (try dsimp only at hSw); go_simp <;> with_reducible rfl)
    (try simp only [Act.put, List.setIfInBounds_toArray, List.set_cons_zero, List.set_cons_succ])
    refine ordM_take 13 ?vq13 rfl (by kernel_rfl) (by kernel_rfl) (by kernel_rfl) (by kernel_rfl) (fun _ _ _ h => h) (by rfl) ?hq13 (by assumption) ?rq13
    case hq13 => (intro W hSw; (try dsimp only at hSw); go_simp <;> with_reducible rfl)
    (try simp only [Act.put, List.setIfInBounds_toArray, List.set_cons_zero, List.set_cons_succ])
    refine ordM_take 14 ?vq14 rfl (by kernel_rfl) (by kernel_rfl) (by kernel_rfl) (by kernel_rfl) (fun _ _ _ h => h) (by rfl) ?hq14 (by assumption) ?rq14
    case hq14 => (intro W hSw; (try dsimp only at hSw); go_simp <;> with_reducible rfl)
    (try simp only [Act.put, List.setIfInBounds_toArray, List.set_cons_zero, List.set_cons_succ])
    refine ordM_skip 15 rfl (by kernel_rfl) (by kernel_rfl) (by kernel_rfl) (by kernel_rfl) (fun _ _ _ h => h) (by rfl) (by assumption) ?_
    (try simp only [Act.put, List.setIfInBounds_toArray, List.set_cons_zero, List.set_cons_succ])
    refine ordM_skip 16 rfl (by kernel_rfl) (by kernel_rfl) (by kernel_rfl) (by kernel_rfl) (fun _ _ _ h => h) (by rfl) (by assumption) ?_
    (try simp only [Act.put, List.setIfInBounds_toArray, List.set_cons_zero, List.set_cons_succ])
    refine ordM_skip 20 rfl (by kernel_rfl) (by kernel_rfl) (by kernel_rfl) (by kernel_rfl) (fun _ _ _ h => h) (by rfl) (by assumption) ?_
    (try simp only [Act.put, List.setIfInBounds_toArray, List.set_cons_zero, List.set_cons_succ])
    refine ordM_skip 17 rfl (by kernel_rfl) (by kernel_rfl) (by kernel_rfl) (by kernel_rfl) (fun _ _ _ h => h) (by rfl) (by assumption) ?_
    (try simp only [Act.put, List.setIfInBounds_toArray, List.set_cons_zero, List.set_cons_succ])
    refine ordM_skip 18 rfl (by kernel_rfl) (by kernel_rfl) (by kernel_rfl) (by kernel_rfl) (fun _ _ _ h => h) (by rfl) (by assumption) ?_
    (try simp only [Act.put, List.setIfInBounds_toArray, List.set_cons_zero, List.set_cons_succ])
    refine ordM_skip 19 rfl (by kernel_rfl) (by kernel_rfl) (by kernel_rfl) (by kernel_rfl) (fun _ _ _ h => h) (by rfl) (by assumption) ?_
    (try simp only [Act.put, List.setIfInBounds_toArray, List.set_cons_zero, List.set_cons_succ])
    refine ordM_skip 21 rfl (by kernel_rfl) (by kernel_rfl) (by kernel_rfl) (by kernel_rfl) (fun _ _ _ h => h) (by rfl) (by assumption) ?_
    (try simp only [Act.put, List.setIfInBounds_toArray, List.set_cons_zero, List.set_cons_succ])
    refine ordM_skip 22 rfl (by kernel_rfl) (by kernel_rfl) (by kernel_rfl) (by kernel_rfl) (fun _ _ _ h => h) (by rfl) (by assumption) ?_
    (try simp only [Act.put, List.setIfInBounds_toArray, List.set_cons_zero, List.set_cons_succ])
    refine ordM_take 23 ?vq15 rfl (by kernel_rfl) (by kernel_rfl) (by kernel_rfl) (by kernel_rfl) (fun _ _ _ h => h) (by rfl) ?hq15 (by assumption) ?rq15
    case hq15 => (intro W hSw; (try dsimp only at hSw); go_simp <;> with_reducible rfl)
    (try simp only [Act.put, List.setIfInBounds_toArray, List.set_cons_zero, List.set_cons_succ])
    refine ordM_take 24 ?vq16 rfl (by kernel_rfl) (by kernel_rfl) (by kernel_rfl) (by kernel_rfl) (fun _ _ _ h => h) (by rfl) ?hq16 (by assumption) ?rq16
    case hq16 => (intro W hSw; (try dsimp only at hSw); go_simp <;> with_reducible rfl)
    (try simp only [Act.put, List.setIfInBounds_toArray, List.set_cons_zero, List.set_cons_succ])
    refine ordM_take 25 ?vq17 rfl (by kernel_rfl) (by kernel_rfl) (by kernel_rfl) (by kernel_rfl) (fun _ _ _ h => h) (by rfl) ?hq17 (by assumption) ?rq17
    case hq17 => (intro W hSw; (try dsimp only at hSw); go_simp <;> with_reducible rfl)
    (try simp only [Act.put, List.setIfInBounds_toArray, List.set_cons_zero, List.set_cons_succ])
    refine ordM_done (by kernel_rfl) ?_ _
    refine NoPanic.normal ?_
    go_wp2_with fail
    go_ret
    exact ⟨by first | rfl | simp, hb9.trans (Below.mono hq10 (by omega))⟩
  by_cases hk1' : k = 1
  · subst hk1'
    have hd : decide (((1 : Nat) : Int) = 0) = false := by decide
    have HR2 : Hid (∀ (a1 : Option Addr) (cap : Nat) (W : World), Below w9.heap.size w9 W → Calls Try.prog 14 #[.agg #[.int .i64 l, .int .i64 (l + m), .int .i64 N], .slice a1 0 cap] W fun e w' => e = .returned (.agg #[.int .i64 l, .int .i64 (l + m), .int .i64 (l + 1)]) ∧ Below W.heap.size W w') := Lib.hid (fun a1 cap W hW => by
      have h := HR.out 0 a1 cap W (by omega) (.inl rfl)
      rw [show max l (N - ((0 : Nat) : Int)) = l + 1 by have := HK.out; omega] at h
      exact h)
    clear HR
    go_region_held3 (fun X => X.cell? ⟨ge, 0, none⟩ = some (.int .i64 l) ∧ X.cell? ⟨ge, 1, none⟩ = some (.int .i64 (l + m)) ∧ X.cell? ⟨ge, 2, none⟩ = some (.int .i64 l) ∧ X.cell? ⟨g, 0, none⟩ = some (.int .i64 l) ∧ X.cell? ⟨g, 1, none⟩ = some (.int .i64 (l + m)) ∧ X.cell? ⟨g, 2, none⟩ = some (.int .i64 N) ∧ Below w9.heap.size w9 X) (first | (go_keep; done) | exact dlS2 (hE9.later (Below.refl _ _).drew) (hX9.later (Below.refl _ _).drew) (Below.refl _ _).drew | (go_split_ands; assumption) | exact dlS2 (hE9.later (Below.trans (by go_split_ands; assumption) (Below.mono (by assumption) (Below.size (by go_split_ands; assumption))))) (hX9.later (Below.trans (by go_split_ands; assumption) (Below.mono (by assumption) (Below.size (by go_split_ands; assumption))))) (Below.trans (by go_split_ands; assumption) (Below.mono (by assumption) (Below.size (by go_split_ands; assumption))))) (first | (go_at_call 10; refine (HZ.out _).mono ?_; rintro e w10 ⟨rfl, hk10⟩) | (go_at_call 14; refine (HR2.out _ _ _ (by go_split_ands; assumption)).mono ?_; rintro e w11 ⟨rfl, hk11⟩))
    all_goals
      go_wp2_with fail
      go_ret
      exact ⟨by first | rfl | simp, hb9.trans (Below.mono (by go_split_ands; assumption) (by omega))⟩
  obtain ⟨K, rfl⟩ : ∃ K, k = K + 2 := ⟨k - 2, by omega⟩
  clear hk0 hk1'
  have hb0 : (1 : Int) ≤ (K : Int) + 2 := by omega
  have hb1 : (1 : Int) ≤ ((K + 2 : Nat) : Int) := by omega
  have hci : ¬ (K + 2 = 1) := by omega
  have hd2 : ¬ ((K : Int) + 2 = 0) := by omega
  have HR2 : Hid (∀ (cap : Nat) (W : World), Below w9.heap.size w9 W → Calls Try.prog 14 #[.agg #[.int .i64 l, .int .i64 (l + m), .int .i64 N], .slice (some ⟨gz, 1, none⟩) (K + 1) cap] W fun e w' => e = .returned (.agg #[.int .i64 l, .int .i64 (l + m), .int .i64 (l + 1)]) ∧ Below W.heap.size W w') := Lib.hid (fun cap W hW => by
    have h := HR.out (K + 1) (some ⟨gz, 1, none⟩) cap W (by omega) (reads_zeros W (K + 1) 1 Z _ gz (HR9.out W hW) HMZ.out)
    rw [show max l (N - ((K + 1 : Nat) : Int)) = l + 1 by have := HK.out; omega] at h
    exact h)
  clear HR
  go_region_held3 (fun X => X.cell? ⟨ge, 0, none⟩ = some (.int .i64 l) ∧ X.cell? ⟨ge, 1, none⟩ = some (.int .i64 (l + m)) ∧ X.cell? ⟨ge, 2, none⟩ = some (.int .i64 l) ∧ X.cell? ⟨g, 0, none⟩ = some (.int .i64 l) ∧ X.cell? ⟨g, 1, none⟩ = some (.int .i64 (l + m)) ∧ X.cell? ⟨g, 2, none⟩ = some (.int .i64 N) ∧ Below w9.heap.size w9 X) (first | (go_keep; done) | exact dlS2 (hE9.later (Below.refl _ _).drew) (hX9.later (Below.refl _ _).drew) (Below.refl _ _).drew | (go_split_ands; assumption) | exact dlS2 (hE9.later (Below.trans (by go_split_ands; assumption) (Below.mono (by assumption) (Below.size (by go_split_ands; assumption))))) (hX9.later (Below.trans (by go_split_ands; assumption) (Below.mono (by assumption) (Below.size (by go_split_ands; assumption))))) (Below.trans (by go_split_ands; assumption) (Below.mono (by assumption) (Below.size (by go_split_ands; assumption))))) (first | (go_at_call 10; refine (HZ.out _).mono ?_; rintro e w10 ⟨rfl, hk10⟩) | (go_at_call 14; refine (HR2.out _ _ (by go_split_ands; assumption)).mono ?_; rintro e w11 ⟨rfl, hk11⟩))
  all_goals
    go_wp2_with fail
    go_ret
    exact ⟨by first | rfl | simp, hb9.trans (Below.mono (by go_split_ands; assumption) (by omega))⟩
end delayFalls
end Go.Proofs.Ytkefpedijjbmfaa
