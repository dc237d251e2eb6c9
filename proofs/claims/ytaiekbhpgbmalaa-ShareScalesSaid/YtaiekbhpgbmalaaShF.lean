/- share: Total. -/
import Derived.Test.YtaiekbhpgbmalaaShE
namespace Go.Proofs.Ytaiekbhpgbmalaa
open Go.RowKit
set_option linter.unusedVariables false
/-- A slice of loads. -/
def ShRd (W : World) (a : Option Addr) (ls : List SL) : Prop := ls = [] ∨ ∃ g, a = some ⟨g, 0, none⟩ ∧ ShIn W g ls
theorem ShRd.later {W W' : World} {a : Option Addr} {ls : List SL} (h : ShRd W a ls) (hb : Below W.heap.size W W') : ShRd W' a ls := by
  rcases h with h | ⟨g, e, h⟩
  · exact .inl h
  · exact .inr ⟨g, e, h.later hb⟩
theorem ShRd.at {W : World} {a : Option Addr} {ls : List SL} (h : ShRd W a ls) (k : Nat) (x : SL) (hx : ls[k]? = some x) : ∃ g, a = some ⟨g, 0, none⟩ ∧ W.cell? ⟨g, k * 3, none⟩ = some (.int .i64 x.p) ∧ W.cell? ⟨g, k * 3 + 1, none⟩ = some (.int .i64 x.w) ∧ W.cell? ⟨g, k * 3 + 2, none⟩ = some (.int .i64 x.c) := by
  rcases h with rfl | ⟨g, e, h⟩
  · exact absurd hx (by simp)
  · exact ⟨g, e, h k x hx⟩
theorem sumCS_take (ls : List SL) (k : Nat) (x : SL) (hx : ls[k]? = some x) : sumCS (ls.take (k + 1)) = sumCS (ls.take k) + x.c := by
  rw [List.take_add_one, hx]
  simp [sumCS]
theorem sumCS_bd (ls : List SL) (h : ∀ x ∈ ls, 0 ≤ x.c ∧ x.c ≤ 70368744177664) : 0 ≤ sumCS ls ∧ sumCS ls ≤ 70368744177664 * (ls.length : Int) := by
  induction ls with
  | nil => simp [sumCS]
  | cons x l ih =>
    have e := ih (fun y hy => h y (List.mem_cons_of_mem _ hy))
    have e1 := h x (List.mem_cons_self ..)
    rw [sumCS_cons, List.length_cons]
    omega
set_option maxHeartbeats 3200000 in
theorem shTotal_any (ls : List SL) (gs n c : Nat) (a : Option Addr) (w : World) (hs : w.cell? ⟨gs, 0, none⟩ = some (.slice a n c)) (hn : n = ls.length) (hl : n ≤ 1000) (hr : ShRd w a ls) (ho : ∀ x ∈ ls, 0 ≤ x.c ∧ x.c ≤ 70368744177664) :
    Calls Try.prog 9 #[.pointer (some ⟨gs, 0, none⟩)] w fun e w' => e = .returned (.int .i64 (sumCS ls)) ∧ Below w.heap.size w w' := by
  subst hn
  have HR : Hid (∀ W : World, Below w.heap.size w W → ShRd W a ls) := Lib.hid (fun W hW => hr.later hW)
  have HO := Lib.hid ho
  clear hr ho
  go_enter Try.func9, Try.ntmps9
  go_wp2_with fail
  go_loopw [3, 11] (fun t i wr => ∃ k : Nat, k ≤ ls.length ∧ i = .int .i64 k ∧ t = .int .i64 (sumCS (ls.take k)) ∧ Below w.heap.size w wr) (fun _ i _ => ls.length - (intOf i).toNat)
  case atStart => exact ⟨0, Nat.zero_le _, rfl, rfl, Below.refl _ _⟩
  case round =>
    obtain ⟨k, hk, rfl, rfl, hbw⟩ := hrel
    by_cases hc : k < ls.length
    · obtain ⟨x, hx⟩ : ∃ x, ls[k]? = some x := ⟨_, List.getElem?_eq_getElem hc⟩
      obtain ⟨g, rfl, _, _, _⟩ := (HR.out _ hbw).at k x hx
      have hxo := HO.out x (List.mem_of_getElem? hx)
      have hsm := sumCS_take ls k x hx
      have hbd := sumCS_bd (ls.take k) (fun y hy => HO.out y (List.mem_of_mem_take hy))
      have hlen : (ls.take k).length ≤ 1000 := by rw [List.length_take]; omega
      have hX := at3_new 42 wr wr.heap.size (.int .i64 x.p) (.int .i64 x.w) (.int .i64 x.c) rfl
      have hbX : Below w.heap.size w (wr.alloc (.cells #[.int .i64 x.p, .int .i64 x.w, .int .i64 x.c] 42)) := hbw.alloc hbw.size _
      have HSM := Lib.hid hsm
      clear hsm hx
      generalize sumCS (ls.take k) = S at hbd HSM ⊢
      have hw : IntKind.i64.wrap (S + x.c) = S + x.c := by rw [IntKind.wrap_i64]; omega
      obtain ⟨_, _, _⟩ := hX.cells
      go_wp2_with fail
      go_roundw
      case rel => exact ⟨k + 1, by omega, by go_num, by rw [HSM.out], hbX⟩
      case measure => simp [intOf]; omega
    · obtain rfl : k = ls.length := by omega
      rw [List.take_length]
      go_wp2_with fail
      go_ret
      exact ⟨rfl, hbw⟩
end Go.Proofs.Ytaiekbhpgbmalaa
