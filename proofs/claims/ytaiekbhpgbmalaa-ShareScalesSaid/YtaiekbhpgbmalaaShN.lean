/- share: SortFunc of weights that rise. -/
import Derived.Test.YtaiekbhpgbmalaaShL
namespace Go.Proofs.Ytaiekbhpgbmalaa
open Go.RowKit
set_option linter.unusedVariables false
set_option linter.unusedSimpArgs false
def WhUp (ws : List (Int × Int)) : Prop := ws.Pairwise (fun a b => a.1 < b.1)
theorem whUp_at {ws : List (Int × Int)} (h : WhUp ws) {i j : Nat} {p k q u : Int} (hij : i < j) (hi : ws[i]? = some (p, k)) (hj : ws[j]? = some (q, u)) : p < q := by
  obtain ⟨h1, e1⟩ := List.getElem?_eq_some_iff.1 hi
  obtain ⟨h2, e2⟩ := List.getElem?_eq_some_iff.1 hj
  have := List.pairwise_iff_getElem.1 h i j h1 h2 hij
  rw [e1, e2] at this
  exact this
theorem cmpI_gt {a b : Int} (h : b < a) : cmpI a b = 1 := by unfold cmpI; rw [if_neg (by omega), if_pos h]
set_option maxRecDepth 100000 in
set_option maxHeartbeats 3200000 in
theorem whInsSort_any (ws : List (Int × Int)) (a : Option Addr) (n c : Nat) (w : World) (hn : n = ws.length) (hr : WhRd w a ws) (hl : n ≤ 12) (hup : WhUp ws) (hnc : n ≤ c) :
    Calls Try.prog 30 #[.slice a n c, .int .i64 0, .int .i64 n, .func (.func 20) #[] #[]] w fun e w' => e = .returned (.tuple #[]) ∧ Below w.heap.size w w' := by
  subst hn
  have HR : Hid (∀ W : World, Below w.heap.size w W → WhRd W a ws) := Lib.hid (fun W hW => hr.later hW)
  have HUp := Lib.hid hup
  clear hr hup
  go_enter Try.func30, Try.ntmps30
  go_wp2_with fail
  go_loopw [8] (fun i wr => ∃ k : Nat, 1 ≤ k ∧ k ≤ ws.length + 1 ∧ i = .int .i64 k ∧ Below w.heap.size w wr) (fun i _ => ws.length + 1 - (intOf i).toNat)
  case atStart => exact ⟨1, Nat.le_refl _, by omega, rfl, Below.refl _ _⟩
  case round =>
    obtain ⟨k, hk1, hk, rfl, hbw⟩ := hrel
    by_cases hlt : k < ws.length
    · obtain ⟨⟨p, u⟩, hx⟩ : ∃ x, ws[k]? = some x := ⟨_, List.getElem?_eq_getElem hlt⟩
      obtain ⟨⟨q, t⟩, hy⟩ : ∃ x, ws[k - 1]? = some x := ⟨_, List.getElem?_eq_getElem (by omega)⟩
      have hgt := whUp_at HUp.out (show k - 1 < k by omega) hy hx
      rcases HR.out _ hbw with h0 | ⟨g, rfl, hin⟩
      · rw [h0] at hlt; exact absurd hlt (by simp)
      obtain ⟨c0, c1⟩ := hin k p u hx
      obtain ⟨c2, c3⟩ := hin (k - 1) q t hy
      have HC := Lib.hid (fun W => byPath_any p u q t W)
      rw [cmpI_gt hgt] at HC
      have hw : IntKind.i64.wrap ((k : Int) - 1) = (k : Int) - 1 := IntWalk.i64_in _ ⟨by omega, by omega⟩
      have ht : ((k : Int) - 1).toNat = k - 1 := by omega
      have HSS : Hid (∀ W : World, Below wr.heap.size wr W → W.cell? ⟨g, k * 2, none⟩ = some (.int .i64 p) ∧ W.cell? ⟨g, k * 2 + 1, none⟩ = some (.int .i64 u) ∧ W.cell? ⟨g, (k - 1) * 2, none⟩ = some (.int .i64 q) ∧ W.cell? ⟨g, (k - 1) * 2 + 1, none⟩ = some (.int .i64 t)) := Lib.hid (fun W hW => ⟨cell_later hW c0, cell_later hW c1, cell_later hW c2, cell_later hW c3⟩)
      have hpos : decide (0 < k) = true := by simp; omega
      clear hin hx hy hgt
      go_wp2_with fail
      go_loopw [9] (fun j wr2 => j = .int .i64 k ∧ Below wr.heap.size wr wr2) (fun _ _ => 0)
      case atStart => exact ⟨rfl, Below.refl _ _⟩
      case round =>
        obtain ⟨rfl, hb2⟩ := hrel
        have HS2 : Hid (∀ W : World, Below wr.heap.size wr W → W.cell? ⟨g, k * 2, none⟩ = some (.int .i64 p) ∧ W.cell? ⟨g, k * 2 + 1, none⟩ = some (.int .i64 u) ∧ W.cell? ⟨g, (k - 1) * 2, none⟩ = some (.int .i64 q) ∧ W.cell? ⟨g, (k - 1) * 2 + 1, none⟩ = some (.int .i64 t)) := Lib.hid (fun W hW => HSS.out _ (hb2.trans (hW.mono hb2.size)))
        have hb3 := hbw.trans (hb2.mono hbw.size)
        obtain ⟨_, _, _, _⟩ := HSS.out _ hb2
        clear hb2 HSS hbw c0 c1 c2 c3
        have i1 : (0 : Int) ≤ (k : Int) := by omega
        have i2 : (k : Int) < (ws.length : Int) := by omega
        have i3 : (0 : Int) ≤ (k : Int) - 1 := by omega
        have i4 : (k : Int) - 1 < (ws.length : Int) := by omega
        have i5 : (1 : Int) ≤ (k : Int) := by omega
        have i6 : (k : Int) ≤ (ws.length : Int) := by omega
        have i7 : 0 < k := by omega
        have i8 : k ≤ ws.length := by omega
        go_upto_region 4 with fail
        go_region_held3 (fun W => W.cell? ⟨g, k * 2, none⟩ = some (.int .i64 p) ∧ W.cell? ⟨g, k * 2 + 1, none⟩ = some (.int .i64 u) ∧ W.cell? ⟨g, (k - 1) * 2, none⟩ = some (.int .i64 q) ∧ W.cell? ⟨g, (k - 1) * 2 + 1, none⟩ = some (.int .i64 t)) (first | (go_keep; done) | exact HS2.out _ (Below.drew (Below.refl _ _)) | exact HS2.out _ hk6) (first | (go_at_call 20; refine (HC.out _).mono ?_; rintro e w5 ⟨rfl, hk5⟩; have hk6 : Below wr.heap.size wr w5 := Below.trans (Below.drew (Below.refl _ _)) hk5))
        all_goals
          go_wp2_with fail
          go_roundw
          case rel => exact ⟨k + 1, by omega, by omega, by go_num, hb3.trans (hk6.mono hb3.size)⟩
          case measure => simp [intOf]; omega
    · go_wp2_with fail
      go_end0
      exact ⟨rfl, hbw⟩
theorem whPdq_any (ws : List (Int × Int)) (a : Option Addr) (n c : Nat) (m : Int) (w : World) (hn : n = ws.length) (hr : WhRd w a ws) (hl : n ≤ 12) (hup : WhUp ws) (hnc : n ≤ c) :
    Calls Try.prog 27 #[.slice a n c, .int .i64 0, .int .i64 n, .int .i64 m, .func (.func 20) #[] #[]] w fun e w' => e = .returned (.tuple #[]) ∧ Below w.heap.size w w' := by
  have HI := Lib.hid (whInsSort_any ws a n c w hn hr hl hup hnc)
  clear hn hr hup
  go_enter Try.func27, Try.ntmps27
  go_wp2_with fail
  go_loopw [1, 2] (fun x y wr => x = .int .i64 0 ∧ y = .int .i64 n ∧ wr = w) (fun _ _ _ => 0)
  case atStart => exact ⟨rfl, rfl, rfl⟩
  case round =>
    obtain ⟨rfl, rfl, rfl⟩ := hrel
    go_wp2_with fail
    refine HI.out.mono ?_
    rintro e w2 ⟨rfl, hk⟩
    go_wp2_with fail
    first
    | (refine bodyPost_ret (results_none rfl _ _ _) rfl ?_; exact ⟨rfl, hk⟩)
    | (trace_state; fail "here")
set_option maxRecDepth 100000 in
set_option maxHeartbeats 3200000 in
theorem bitsLen_any (n : Nat) (hn : n ≤ 12) (w : World) : Calls Try.prog 28 #[.int .u64 n] w fun e w' => (∃ m : Int, e = .returned (.int .i64 m)) ∧ w' = w := by
  rcases (show n = 0 ∨ n = 1 ∨ n = 2 ∨ n = 3 ∨ n = 4 ∨ n = 5 ∨ n = 6 ∨ n = 7 ∨ n = 8 ∨ n = 9 ∨ n = 10 ∨ n = 11 ∨ n = 12 by omega) with rfl | rfl | rfl | rfl | rfl | rfl | rfl | rfl | rfl | rfl | rfl | rfl | rfl
  all_goals
    clear hn
    go_enter Try.func28, Try.ntmps28
    go_wp2
    go_ret
    exact ⟨⟨_, rfl⟩, rfl⟩
theorem whSort_any (ws : List (Int × Int)) (a : Option Addr) (n c : Nat) (w : World) (hn : n = ws.length) (hr : WhRd w a ws) (hl : n ≤ 12) (hup : WhUp ws) (hnc : n ≤ c) :
    Calls Try.prog 19 #[.slice a n c, .func (.func 20) #[] #[]] w fun e w' => e = .returned (.tuple #[]) ∧ Below w.heap.size w w' := by
  have HP := Lib.hid (fun m => whPdq_any ws a n c m w hn hr hl hup hnc)
  clear hn hr hup
  go_enter Try.func19, Try.ntmps19
  go_wp2_with fail
  refine (bitsLen_any n hl w).mono ?_
  rintro e w2 ⟨⟨m, rfl⟩, rfl⟩
  go_wp2_with fail
  refine (HP.out m).mono ?_
  rintro e w3 ⟨rfl, hk⟩
  go_wp2_with fail
  first
  | (go_end0; exact ⟨rfl, hk⟩)
  | (refine bodyPost_ret (results_none rfl _ _ _) rfl ?_; exact ⟨rfl, hk⟩)
end Go.Proofs.Ytaiekbhpgbmalaa
