/- queue: is it the document's? -/
import Derived.Test.YtgmggilnhkdceaaQuK
namespace Go.Proofs.Ytgmggilnhkdceaa
open Go.RowKit
set_option linter.unusedVariables false
set_option linter.unusedSimpArgs false
set_option maxRecDepth 100000 in
set_option maxHeartbeats 6400000 in
theorem quIs_any {w : World} {base gq : Nat} {m b : Int} {v vx : Value} {l : List ByteArray} (h : QIn w base gq m b v l) (hx : OwnE w 0 9 1 vx l.length (quV l)) :
    Calls Try.prog 37 #[.pointer (some ⟨gq, 0, none⟩), .agg #[.int .i64 (quC m), .int .i64 (quC b), vx]] w fun e w' => e = .returned (.bool true) ∧ Below w.heap.size w w' := by
  obtain ⟨xa, xc, rfl, _⟩ := hx.src
  have hll : l.length ≤ 1073741824 := by have := h.len; have := quC_bd m; omega
  have hlt : quTot l ≤ 1073741824 := by have := h.tot; have := quC_bd b; omega
  have hlz : 0 ≤ quTot l := quTot_nn l
  obtain ⟨cm, hcm⟩ : ∃ z, z = quC m := ⟨_, rfl⟩
  obtain ⟨cb, hcb⟩ : ∃ z, z = quC b := ⟨_, rfl⟩
  have hm1 := quC_bd m
  have hm2 := quC_bd b
  rw [← hcm] at hm1 ⊢
  rw [← hcb] at hm2 ⊢
  have hl1 : (l.length : Int) ≤ cm := by have := h.len; rw [← hcm] at this; exact this
  have hl2 : quTot l ≤ cb := by have := h.tot; rw [← hcb] at this; exact this
  have HCM := Lib.hid hcm
  have HCB := Lib.hid hcb
  clear hcm hcb
  have hX0 : At3 74 (w.alloc (.cells #[.int .i64 cm, .int .i64 cb, .slice xa l.length xc] 74)) w.heap.size (.int .i64 cm) (.int .i64 cb) (.slice xa l.length xc) := at3_new 74 _ _ (.int .i64 cm) (.int .i64 cb) (.slice xa l.length xc) rfl
  have hb : Below w.heap.size w (w.alloc (.cells #[.int .i64 cm, .int .i64 cb, .slice xa l.length xc] 74)) := (Below.refl _ _).alloc (Nat.le_refl _) _
  go_enter Try.func37, Try.ntmps37
  go_upto_region 1 with fail
  generalize (w.alloc (.cells #[.int .i64 cm, .int .i64 cb, .slice xa l.length xc] 74)) = w2 at hX0 hb ⊢
  generalize hg0 : w.heap.size = g0 at hX0 hb ⊢
  have HG := Lib.hid hg0
  clear hg0
  obtain ⟨_, _, _⟩ := hX0.frees
  obtain ⟨_, _, _⟩ := hX0.cells
  have hbw : Below w.heap.size w w2 := by rw [HG.out]; exact hb
  have hQ2 := h.later hbw
  have hx2 := hx.later hbw
  clear h hx hbw
  have HAll := Lib.hid (quAll_any hQ2)
  go_wp2_with fail
  refine HAll.out.mono ?_
  rintro e w3 ⟨vl, rfl, hO3, hk3⟩
  obtain ⟨al, cl, rfl⟩ := hO3.form
  have hQ3 := hQ2.later hk3
  have HRoom := Lib.hid (quRoom_q hQ3)
  rw [← HCM.out, ← HCB.out] at HRoom
  go_wp2_with fail
  refine HRoom.out.mono ?_
  rintro e w4 ⟨rfl, hk4⟩
  have hk4' := hk3.trans (hk4.mono hk3.size)
  have hQ4 := hQ2.later hk4'
  have hx4 := hx2.later hk4'
  have hO4 := hO3.later hk4
  have hX4 := hX0.later hk4'
  have hb4 := hb.trans (hk4'.mono (Nat.le_of_lt hX0.lt))
  clear hX0 hb hQ2 hx2 hO3 hk3 hQ3 hk4 hk4' HAll HRoom
  have HLn := Lib.hid (quLen_q hQ4.drew)
  have HBy := Lib.hid (quBytes_q hQ4.drew)
  have HRb := Lib.hid (refQBytes_q hx4.drew (by omega) (by omega))
  have hw1 : IntKind.i64.wrap (cm - (l.length : Int)) = cm - l.length := IntWalk.i64_in _ ⟨by omega, by omega⟩
  have hw2 : IntKind.i64.wrap (cb - quTot l) = cb - quTot l := IntWalk.i64_in _ ⟨by omega, by omega⟩
  clear hm1 hm2 hlt hlz
  obtain ⟨_, _, _⟩ := hX4.cells
  go_upto_region 3 with fail
  go_cut [59] (fun y wz => y = .bool false ∧ Below w4.heap.size w4 wz)
  case first =>
    go_region_held3 (fun W => W.cell? ⟨g0, 0, none⟩ = some (.int .i64 cm) ∧ W.cell? ⟨g0, 1, none⟩ = some (.int .i64 cb) ∧ W.cell? ⟨g0, 2, none⟩ = some (.slice xa l.length xc)) (first | (go_keep; done) | exact hX4.drew.cells) (first | (go_at_call 38; refine HLn.out.mono ?_; rintro e w' ⟨rfl, rfl⟩) | (go_at_call 39; refine HBy.out.mono ?_; rintro e w' ⟨rfl, rfl⟩) | (go_at_call 68; refine HRb.out.mono ?_; rintro e w' ⟨rfl, rfl⟩))
    all_goals
      go_wp2_with fail
      go_meet
      exact ⟨rfl, (Below.refl _ _).drew⟩
  case rest =>
  obtain ⟨rfl, hk5⟩ := hcut
  rename World => w5
  have hQ5 := hQ4.later hk5
  have hx5 := hx4.later hk5
  have hO5 := hO4.later hk5
  have hX5 := hX4.later hk5
  have hb5 := hb4.trans (hk5.mono (Nat.le_of_lt hX4.lt))
  clear hQ4 hx4 hO4 hX4 hb4 hk5 HLn HBy HRb hw1 hw2
  obtain ⟨_, _, _⟩ := hX5.cells
  go_wp2_with fail
  go_loop [63] (fun i => ∃ k : Nat, k ≤ l.length ∧ i = .int .i64 k) (fun i => l.length - (intOf i).toNat)
  case atStart => exact ⟨0, Nat.zero_le _, rfl⟩
  case round =>
    obtain ⟨k, hk, rfl⟩ := hrel
    by_cases hlt : k < l.length
    · obtain ⟨t, ht⟩ : ∃ t, l[k]? = some t := ⟨_, List.getElem?_eq_getElem hlt⟩
      obtain ⟨gx, ox, cx, e1, _, _, hcx⟩ := hx5.texts (by omega)
      simp only [Value.slice.injEq, true_and] at e1
      obtain ⟨rfl, rfl⟩ := e1
      obtain ⟨go, oo, co, e2, _, _, hco⟩ := hO5.texts (by omega)
      simp only [Value.slice.injEq, true_and] at e2
      obtain ⟨rfl, rfl⟩ := e2
      have hc1 := hcx k t ht
      have hc2 := hco k t ht
      clear hcx hco ht hx5 hO5 hQ5
      go_wp2_with fail
      go_round
      case rel => exact ⟨k + 1, by omega, by go_num⟩
      case measure => simp [intOf]; omega
    · obtain rfl : k = l.length := by omega
      cases l with
      | nil =>
        have HF := Lib.hid (quFront0_q hQ5)
        clear hQ5 hx5 hO5
        go_wp2_with fail
        refine HF.out.mono ?_
        rintro e w6 ⟨rfl, hq6⟩
        subst hq6
        go_wp2_with fail
        go_ret
        exact ⟨by simp, by rw [HG.out]; exact hb5⟩
      | cons t r =>
        have HF := Lib.hid (quFront1_q hQ5)
        obtain ⟨go, oo, co, e2, _, _, hco⟩ := hO5.texts (by simp)
        simp only [Value.slice.injEq, true_and] at e2
        obtain ⟨rfl, rfl⟩ := e2
        have hc2 := hco 0 t rfl
        rw [Nat.add_zero] at hc2
        have hpos : 0 < (t :: r).length := by simp
        generalize (t :: r).length = n at *
        clear hQ5 hx5 hO5 hco
        go_wp2_with fail
        refine HF.out.mono ?_
        rintro e w6 ⟨rfl, hq6⟩
        subst hq6
        go_wp2_with fail
        go_ret
        exact ⟨by simp, by rw [HG.out]; exact hb5⟩
end Go.Proofs.Ytgmggilnhkdceaa
