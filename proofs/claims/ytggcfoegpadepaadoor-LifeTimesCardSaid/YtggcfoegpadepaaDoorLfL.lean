/- life: awake. -/
import Derived.Test.YtggcfoegpadepaaDoorLfF
namespace Go.Proofs.YtggcfoegpadepaaDoor
open Go.RowKit
set_option linter.unusedVariables false
theorem lfNew0 (w : World) : Calls Tryd.prog 17 #[.int .i64 0] w fun e w' => e = .returned (.agg #[.int .i64 0, .int .i64 0, .int .i64 0]) ∧ Below w.heap.size w w' := lfNew_any 0 w
theorem rep_aw1 (w : World) (h : Tb w) : Calls Tryd.prog 8 #[.agg #[.int .i64 0, .int .i64 0, .int .i64 0], .agg #[.int .i64 10, .int .i64 5, .int .i64 50, .int .i64 3], .int .i64 5, .int .i64 3] w fun e w' => e = .returned (.tuple #[.agg #[.int .i64 1, .int .i64 3, .int .i64 0], .bool true]) ∧ Below w.heap.size w w' :=
  rep_t ⟨0, 0, 0⟩ ⟨10, 5, 50, 3⟩ 5 3 0 0 0 ⟨10, 5, 50, 3⟩ 3 1 0 true rfl rfl rfl (Lib.hid (by simp [LL.rep, bLow])) (Lib.hid (by simp)) w h
theorem rep_aw2 (w : World) (h : Tb w) : Calls Tryd.prog 8 #[.agg #[.int .i64 1, .int .i64 3, .int .i64 0], .agg #[.int .i64 10, .int .i64 5, .int .i64 50, .int .i64 3], .int .i64 51, .int .i64 4] w fun e w' => e = .returned (.tuple #[.agg #[.int .i64 2, .int .i64 4, .int .i64 1], .bool true]) ∧ Below w.heap.size w w' :=
  rep_t ⟨1, 3, 0⟩ ⟨10, 5, 50, 3⟩ 51 4 1 3 0 ⟨10, 5, 50, 3⟩ 4 2 1 true rfl rfl rfl (Lib.hid (by simp [LL.rep, bHigh])) (Lib.hid (by simp)) w h
set_option maxHeartbeats 1600000 in
theorem lfAwake_any (w : World) (htb : Tb w) : Calls Tryd.prog 7 #[] w fun e w' => e = .returned (.bool true) ∧ Below w.heap.size w w' := by
  have HTB := Lib.hid (fun (W : World) (hb : Below w.heap.size w W) => htb.later hb)
  clear htb
  have hX : At4 33 (w.alloc (.cells #[.int .i64 10, .int .i64 5, .int .i64 50, .int .i64 3] 33)) w.heap.size (.int .i64 10) (.int .i64 5) (.int .i64 50) (.int .i64 3) := at4_new 33 w _ (.int .i64 10) (.int .i64 5) (.int .i64 50) (.int .i64 3) rfl
  have hb : Below w.heap.size w (w.alloc (.cells #[.int .i64 10, .int .i64 5, .int .i64 50, .int .i64 3] 33)) := (Below.refl _ _).alloc (Nat.le_refl _) _
  go_enter Tryd.func7, Tryd.ntmps7
  go_upto_region 2 with fail
  generalize (w.alloc (.cells #[.int .i64 10, .int .i64 5, .int .i64 50, .int .i64 3] 33)) = wb at hX hb ⊢
  generalize hg : w.heap.size = g at hX hb HTB ⊢
  have HG := Lib.hid hg
  clear hg
  have hsz := hX.lt
  have hz : wb.drew.heap.size = wb.heap.size := rfl
  go_cut [2, 3] (fun z b wx => ∃ gn, z = .pointer (some ⟨gn, 0, none⟩) ∧ b = .bool true ∧ g < gn ∧ At3 28 wx gn (.int .i64 1) (.int .i64 3) (.int .i64 0) ∧ At4 33 wx g (.int .i64 10) (.int .i64 5) (.int .i64 50) (.int .i64 3) ∧ Below g w wx)
  case first =>
    have hXa := (hX.alloc (.cells #[.int .i64 0, .int .i64 0, .int .i64 0] 28)).drew
    obtain ⟨_, _, _, _⟩ := hXa.cells
    obtain ⟨_, _, _, _⟩ := hX.drew.cells
    go_region_law (first
      | (go_simp; go_at_call 17; refine (lfNew0 (wb.alloc (.cells #[.int .i64 0, .int .i64 0, .int .i64 0] 28)).drew).mono ?_; rintro e w3 ⟨rfl, hb3⟩; have hX3 := hXa.later hb3; have hA3 := (at3_new 28 wb _ (.int .i64 0) (.int .i64 0) (.int .i64 0) rfl).drew.later hb3; have hq3 : Below g w w3 := (hb.alloc (Nat.le_of_lt hsz) _).drew.trans (hb3.mono (by show g ≤ (wb.alloc _).heap.size; simp; omega)); obtain ⟨_, _, _, _⟩ := hX3.cells)
      | (go_simp; go_at_call 17; refine (lfNew0 wb.drew).mono ?_; rintro e w4 ⟨rfl, hb4⟩; have hX4 := hX.drew.later hb4; have hq4 : Below g w w4 := hb.drew.trans (hb4.mono (by show g ≤ wb.heap.size; omega)); have hX4a := hX4.alloc (.cells #[.int .i64 0, .int .i64 0, .int .i64 0] 28); obtain ⟨_, _, _, _⟩ := hX4.cells; obtain ⟨_, _, _, _⟩ := hX4a.cells)
      | (go_simp; go_at_call 8; refine (rep_aw1 w3 (HTB.out _ hq3)).mono ?_; rintro e w5 ⟨rfl, hb5⟩; have hX5 := hX3.later hb5; have hA5 := hA3.later hb5; have hq5 : Below g w w5 := hq3.trans (hb5.mono (Nat.le_of_lt hX3.lt)); obtain ⟨_, _, _⟩ := hA5.frees; obtain ⟨_, _, _⟩ := hA5.cells; obtain ⟨_, _, _, _⟩ := hX5.cells)
      | (go_simp; go_at_call 8; refine (rep_aw1 (w4.alloc (.cells #[.int .i64 0, .int .i64 0, .int .i64 0] 28)) (HTB.out _ (hq4.alloc (Nat.le_of_lt hX4.lt) _))).mono ?_; rintro e w6 ⟨rfl, hb6⟩; have hX6 := hX4a.later hb6; have hA6 := (at3_new 28 w4 _ (.int .i64 0) (.int .i64 0) (.int .i64 0) rfl).later hb6; have hq6 : Below g w w6 := (hq4.alloc (Nat.le_of_lt hX4.lt) _).trans (hb6.mono (Nat.le_of_lt hX4a.lt)); obtain ⟨_, _, _⟩ := hA6.frees; obtain ⟨_, _, _⟩ := hA6.cells; obtain ⟨_, _, _, _⟩ := hX6.cells)
      | (go_simp; go_at_call 8; refine (rep_aw1 w4 (HTB.out _ hq4)).mono ?_; rintro e w7 ⟨rfl, hb7⟩; have hX7 := hX4.later hb7; have hq7 : Below g w w7 := hq4.trans (hb7.mono (Nat.le_of_lt hX4.lt)); obtain ⟨_, _, _, _⟩ := hX7.cells))
    all_goals
      go_wp2_with fail
      go_meet
      first
      | exact ⟨_, rfl, rfl, hsz, at3_store hA5 (.int .i64 1) (.int .i64 3) (.int .i64 0), hX5.only (Nat.ne_of_lt hsz) (store3_only w5 wb.heap.size (.int .i64 1) (.int .i64 3) (.int .i64 0)), hq5.trans ((store3_only w5 wb.heap.size (.int .i64 1) (.int .i64 3) (.int .i64 0)).below (Nat.le_of_lt hsz))⟩
      | exact ⟨_, rfl, rfl, hX4.lt, at3_store hA6 (.int .i64 1) (.int .i64 3) (.int .i64 0), hX6.only (Nat.ne_of_lt hX4.lt) (store3_only w6 w4.heap.size (.int .i64 1) (.int .i64 3) (.int .i64 0)), hq6.trans ((store3_only w6 w4.heap.size (.int .i64 1) (.int .i64 3) (.int .i64 0)).below (Nat.le_of_lt hX4.lt))⟩
      | exact ⟨_, rfl, rfl, hX7.lt, at3_new 28 w7 _ (.int .i64 1) (.int .i64 3) (.int .i64 0) rfl, hX7.alloc _, hq7.alloc (Nat.le_of_lt hX7.lt) _⟩
  case rest =>
  obtain ⟨gn, rfl, rfl, hgn, hA, hX2, hb2⟩ := hcut
  clear hX hb hz hsz
  rename World => w8
  obtain ⟨_, _, _⟩ := hA.cells
  obtain ⟨_, _, _, _⟩ := hX2.cells
  go_wp2_with fail
  refine (rep_aw2 w8 (HTB.out _ hb2)).mono ?_
  rintro e w9 ⟨rfl, hb9⟩
  have hA9 := (hA.later hb9).alloc (.cells #[.int .i64 2, .int .i64 4, .int .i64 1] 28)
  have hN9 := at3_new 28 w9 _ (.int .i64 2) (.int .i64 4) (.int .i64 1) rfl
  have hq9 := (hb2.trans (hb9.mono (by have := hX2.lt; omega))).alloc (by have := (hX2.later hb9).lt; omega) (.cells #[.int .i64 2, .int .i64 4, .int .i64 1] 28)
  go_upto_region 4 with fail
  generalize w9.alloc (.cells #[.int .i64 2, .int .i64 4, .int .i64 1] 28) = w10 at hA9 hN9 hq9 ⊢
  generalize w9.heap.size = gm at hN9 ⊢
  obtain ⟨_, _, _⟩ := hA9.cells
  obtain ⟨_, _, _⟩ := hN9.cells
  go_wp2_with fail
  go_ret
  exact ⟨rfl, by rw [HG.out]; exact hq9⟩
end Go.Proofs.YtggcfoegpadepaaDoor
