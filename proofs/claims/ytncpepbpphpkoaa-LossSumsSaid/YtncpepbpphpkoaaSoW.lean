/- The law's awake of source. -/
import Derived.Test.YtncpepbpphpkoaaSoR
namespace Go.Proofs.Ytncpepbpphpkoaa
open Go.RowKit
set_option linter.unusedVariables false
theorem so_ok0 (f : Int) (h0 : 0 ≤ f) (h1 : f < 65536) : (SR.new f).Ok 0 := SR.new_ok f h0 h1
theorem run789 : (SR.new 7).run [7, 8, 9] = (⟨9, 0, 8, 65537, 0, 2⟩, 2) := by simp [SR.run, SR.upd, SR.new, tick]
theorem ok789 : (⟨9, 0, 8, 65537, 0, 2⟩ : SR).Ok 3 := by constructor <;> decide
set_option maxHeartbeats 800000 in
theorem soAwake_any (w : World) : Calls Try.prog 9 #[] w fun e w' => e = .returned (.bool true) ∧ Below w.heap.size w w' := by
  go_enter Try.func9, Try.ntmps9
  go_wp2_with fail
  refine (soNew_any 7 (by decide) (by decide) _).mono ?_
  rintro e w3 ⟨rfl, hb3⟩
  go_wp2_with fail
  have hr : Reads .u16 (w3.alloc (.cells #[.int .u16 7, .int .u16 8, .int .u16 9] 22)) (some ⟨w3.heap.size, 0, none⟩) [7, 8, 9] := by
    refine Or.inr ⟨_, _, rfl, fun i hi => ?_⟩
    match i, hi with
    | 0, _ => simp
    | 1, _ => simp
    | 2, _ => simp
  refine (soRun_any (SR.new 7) 0 (so_ok0 7 (by decide) (by decide)) [7, 8, 9] _ 3 _ hr (by decide) (by decide)).mono ?_
  rw [run789]
  rintro e w5 ⟨rfl, hb5⟩
  simp only [SR.val]
  have hb6 : Below w.heap.size w w5 := (hb3.alloc hb3.size _).trans (hb5.mono (by simp; have := hb3.size; omega))
  have hX := at6_new 26 w5 _ (.int .u16 9) (.int .i64 0) (.int .i64 8) (.int .i64 65537) (.int .i64 0) (.int .i64 2) rfl
  have hb7 := hb6.alloc hb6.size (.cells #[.int .u16 9, .int .i64 0, .int .i64 8, .int .i64 65537, .int .i64 0, .int .i64 2] 26)
  have hle := hb6.size
  go_upto_region 2 with fail
  generalize w5.alloc (.cells #[.int .u16 9, .int .i64 0, .int .i64 8, .int .i64 65537, .int .i64 0, .int .i64 2] 26) = w7 at hX hb7 ⊢
  generalize w5.heap.size = g at hX hle ⊢
  obtain ⟨_, _, _, _, _, _⟩ := hX.cells
  have hlt := hX.lt
  have HH : ∀ W : World, Calls Try.prog 15 #[.agg #[.int .u16 9, .int .i64 0, .int .i64 8, .int .i64 65537, .int .i64 0, .int .i64 2]] W fun e w' => e = .returned (.int .i64 9) ∧ Below W.heap.size W w' := fun W => soHigh_any ⟨9, 0, 8, 65537, 0, 2⟩ 3 ok789 (by decide) W
  have HE : ∀ W : World, Calls Try.prog 17 #[.agg #[.int .u16 9, .int .i64 0, .int .i64 8, .int .i64 65537, .int .i64 0, .int .i64 2]] W fun e w' => e = .returned (.int .i64 2) ∧ Below W.heap.size W w' := fun W => soExp_any ⟨9, 0, 8, 65537, 0, 2⟩ 3 ok789 (by decide) W
  go_wp2_with fail
  refine (HH _).mono ?_
  rintro e w8 ⟨rfl, hb8⟩
  have hX8 := hX.later hb8
  have hb8' := hb7.trans (hb8.mono (by omega))
  obtain ⟨_, _, _, _, _, _⟩ := hX8.cells
  have hlt8 := hX8.lt
  go_wp2_with fail
  refine (HE _).mono ?_
  rintro e w9 ⟨rfl, hb9⟩
  have hX9 := hX8.later hb9
  have hb9' := hb8'.trans (hb9.mono (by omega))
  obtain ⟨_, _, _, _, _, _⟩ := hX9.cells
  go_wp2
  go_ret
  exact ⟨rfl, hb9'⟩
theorem soRun_n (s : SR) (k0 : Nat) (hs : s.Ok k0) (es : List Int) (n : Nat) (hn : n = es.length) (a : Option Addr) (cap : Nat) (w : World) (hr : Reads .u16 w a es) (hwf : ∀ n ∈ es, 0 ≤ n ∧ n < 65536) (hlen : k0 + es.length ≤ 1000000000) :
    Calls Try.prog 21 #[s.val, .slice a n cap] w fun e w' => e = .returned (.tuple #[(s.run es).1.val, .int .i64 (s.run es).2]) ∧ Below w.heap.size w w' := by
  subst hn; exact soRun_any s k0 hs es a cap w hr hwf hlen
theorem u16s_bd {es : List Int} (h : ∀ n ∈ es, (Lit.int .u16 n).wf = true) : ∀ n ∈ es, 0 ≤ n ∧ n < 65536 := fun n hn => by
  obtain ⟨h1, h2⟩ := u16_bd (h n hn)
  exact ⟨h1, by omega⟩
end Go.Proofs.Ytncpepbpphpkoaa
