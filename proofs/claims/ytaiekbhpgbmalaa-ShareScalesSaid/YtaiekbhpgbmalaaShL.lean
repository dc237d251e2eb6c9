/- share: weights in memory; IndexFunc, ContainsFunc where none is of that path; SortFunc of what is sorted. -/
import Derived.Test.YtaiekbhpgbmalaaShK
namespace Go.Proofs.Ytaiekbhpgbmalaa
open Go.RowKit
set_option linter.unusedVariables false
set_option linter.unusedSimpArgs false
/-- Weights in memory: a path and a weight each. -/
def WhIn (W : World) (g : Nat) (ws : List (Int × Int)) : Prop := ∀ i p k, ws[i]? = some (p, k) → W.cell? ⟨g, i * 2, none⟩ = some (.int .i64 p) ∧ W.cell? ⟨g, i * 2 + 1, none⟩ = some (.int .i64 k)
theorem WhIn.later {W W' : World} {g : Nat} {ws : List (Int × Int)} (h : WhIn W g ws) (hb : Below W.heap.size W W') : WhIn W' g ws := fun i p k hx => ⟨cell_later hb (h i p k hx).1, cell_later hb (h i p k hx).2⟩
def WhRd (W : World) (a : Option Addr) (ws : List (Int × Int)) : Prop := ws = [] ∨ ∃ g, a = some ⟨g, 0, none⟩ ∧ WhIn W g ws
theorem WhRd.later {W W' : World} {a : Option Addr} {ws : List (Int × Int)} (h : WhRd W a ws) (hb : Below W.heap.size W W') : WhRd W' a ws := by
  rcases h with h | ⟨g, e, h⟩
  · exact .inl h
  · exact .inr ⟨g, e, h.later hb⟩
def whV (ws : List (Int × Int)) : List Value := ws.flatMap fun x => [.int .i64 x.1, .int .i64 x.2]
theorem whV_snoc (l : List (Int × Int)) (p k : Int) : whV (l ++ [(p, k)]) = whV l ++ [.int .i64 p, .int .i64 k] := by simp [whV]
theorem whV_at (l : List (Int × Int)) : ∀ (i : Nat) (p k : Int), l[i]? = some (p, k) → (whV l)[i * 2]? = some (.int .i64 p) ∧ (whV l)[i * 2 + 1]? = some (.int .i64 k) := by
  induction l with
  | nil => intro i p k h; exact absurd h (by simp)
  | cons y l ih =>
    intro i p k h
    have e : whV (y :: l) = [Value.int .i64 y.1, .int .i64 y.2] ++ whV l := rfl
    cases i with
    | zero =>
      simp at h
      subst h
      rw [e]
      exact ⟨rfl, rfl⟩
    | succ i =>
      have h1 := ih i p k (by simpa using h)
      rw [e, show (i + 1) * 2 = 2 + i * 2 by omega, Nat.add_assoc]
      refine ⟨?_, ?_⟩
      · rw [List.getElem?_append_right (by simp)]
        simpa using h1.1
      · rw [List.getElem?_append_right (by simp)]
        simpa using h1.2
theorem own_whRd {W : World} {B n : Nat} {e : TypeId} {v : Value} {l : List (Int × Int)} (h : W.ownsRow B e 2 v n (whV l)) (hn : n = l.length) : ∃ a c, v = .slice a n c ∧ WhRd W a l := by
  subst hn
  rcases h.2 with ⟨rfl, h0⟩ | ⟨g, cap, cur, rfl, q⟩
  · exact ⟨none, 0, by rw [h0], .inl (List.eq_nil_of_length_eq_zero h0)⟩
  · by_cases h0 : l.length = 0
    · exact ⟨_, _, rfl, .inl (List.eq_nil_of_length_eq_zero h0)⟩
    · obtain ⟨g', c', e', _, _, hc⟩ := own_cellsS h (by omega)
      cases e'
      exact ⟨_, _, rfl, .inr ⟨g, rfl, fun i p k hx => ⟨hc _ _ (whV_at l i p k hx).1, hc _ _ (whV_at l i p k hx).2⟩⟩⟩
set_option maxHeartbeats 1600000 in
theorem whIndexNo_any (ws : List (Int × Int)) (p k : Int) (a : Option Addr) (n c : Nat) (w : World) (hn : n = ws.length) (hr : WhRd w a ws) (hl : n ≤ 1000) (hno : ∀ x ∈ ws, p ≠ x.1) :
    Calls Try.prog 26 #[.slice a n c, .func (.func 18) #[.agg #[.int .i64 p, .int .i64 k]] #[]] w fun e w' => e = .returned (.int .i64 (-1)) ∧ Below w.heap.size w w' := by
  subst hn
  have HR : Hid (∀ W : World, Below w.heap.size w W → WhRd W a ws) := Lib.hid (fun W hW => hr.later hW)
  have HNo := Lib.hid hno
  clear hr hno
  go_enter Try.func26, Try.ntmps26
  go_wp2_with fail
  go_loopw [8] (fun i wr => ∃ k : Nat, k ≤ ws.length ∧ i = .int .i64 k ∧ Below w.heap.size w wr) (fun i _ => ws.length - (intOf i).toNat)
  case atStart => exact ⟨0, Nat.zero_le _, rfl, Below.refl _ _⟩
  case round =>
    obtain ⟨j, hj, rfl, hbw⟩ := hrel
    by_cases hlt : j < ws.length
    · obtain ⟨⟨q, u⟩, hx⟩ : ∃ x, ws[j]? = some x := ⟨_, List.getElem?_eq_getElem hlt⟩
      rcases HR.out _ hbw with h0 | ⟨g, rfl, hin⟩
      · rw [h0] at hlt; exact absurd hlt (by simp)
      obtain ⟨_, _⟩ := hin j q u hx
      have hne : (p == q) = false := by simpa using HNo.out (q, u) (List.mem_of_getElem? hx)
      have HS := Lib.hid (sharesPath_any p k q u wr)
      rw [hne] at HS
      clear hin hx hne
      go_wp2_with fail
      refine HS.out.mono ?_
      rintro e w5 ⟨rfl, hk5⟩
      have hb5 := hbw.trans (hk5.mono hbw.size)
      clear hbw hk5 HS
      go_wp2_with fail
      go_roundw
      case rel => exact ⟨j + 1, by omega, by go_num, hb5⟩
      case measure => simp [intOf]; omega
    · obtain rfl : j = ws.length := by omega
      go_wp2_with fail
      go_ret
      exact ⟨rfl, hbw⟩
theorem whContainsNo_any (ws : List (Int × Int)) (p k : Int) (a : Option Addr) (n c : Nat) (w : World) (hn : n = ws.length) (hr : WhRd w a ws) (hl : n ≤ 1000) (hno : ∀ x ∈ ws, p ≠ x.1) :
    Calls Try.prog 17 #[.slice a n c, .func (.func 18) #[.agg #[.int .i64 p, .int .i64 k]] #[]] w fun e w' => e = .returned (.bool false) ∧ Below w.heap.size w w' := by
  have HI := Lib.hid (whIndexNo_any ws p k a n c w hn hr hl hno)
  clear hn hr hno
  go_enter Try.func17, Try.ntmps17
  go_wp2_with fail
  refine HI.out.mono ?_
  rintro e w2 ⟨rfl, hk⟩
  go_wp2_with fail
  go_ret
  exact ⟨by simp, hk⟩
end Go.Proofs.Ytaiekbhpgbmalaa
