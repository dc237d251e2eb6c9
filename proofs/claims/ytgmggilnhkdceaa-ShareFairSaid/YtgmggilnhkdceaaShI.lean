/- share: Paths. -/
import Derived.Test.YtgmggilnhkdceaaShH
namespace Go.Proofs.Ytgmggilnhkdceaa
open Go.RowKit
set_option linter.unusedVariables false
theorem psS_take (ls : List SL) (k : Nat) (x : SL) (hx : ls[k]? = some x) : (ls.take (k + 1)).map (·.p) = (ls.take k).map (·.p) ++ [x.p] := by
  rw [List.take_add_one, hx]
  simp
theorem info64s : (Try.prog.info? 3).map (fun i => (i.zero, i.size, i.bytes)) = some (some (.int .i64 0), 1, 8) := by kernel_rfl
set_option maxHeartbeats 3200000 in
theorem shPaths_any (ls : List SL) (gs n c : Nat) (a : Option Addr) (w : World) (hs : w.cell? ⟨gs, 0, none⟩ = some (.slice a n c)) (hn : n = ls.length) (hl : n ≤ 1000) (hr : ShRd w a ls) :
    Calls Try.prog 50 #[.pointer (some ⟨gs, 0, none⟩)] w fun e w' => ∃ v, e = .returned v ∧ w'.ownsRow w.heap.size 3 1 v ls.length ((ls.map (·.p)).map (Value.int .i64)) ∧ Below w.heap.size w w' := by
  subst hn
  have HR : Hid (∀ W : World, Below w.heap.size w W → ShRd W a ls) := Lib.hid (fun W hW => hr.later hW)
  clear hr
  obtain ⟨i0, hi, hz0, hz1, hz2⟩ := info_parts info64s
  go_enter Try.func50, Try.ntmps50
  go_wp2_with fail
  go_loopw [3, 11] (fun v i wr => ∃ k : Nat, k ≤ ls.length ∧ i = .int .i64 k ∧ wr.ownsRow w.heap.size 3 1 v k (((ls.take k).map (·.p)).map (Value.int .i64)) ∧ Below w.heap.size w wr) (fun _ i _ => ls.length - (intOf i).toNat)
  case atStart => exact ⟨0, Nat.zero_le _, rfl, World.ownsRow_nil _ _ _ _, Below.refl _ _⟩
  case round =>
    obtain ⟨k, hk, rfl, hown, hbw⟩ := hrel
    by_cases hc : k < ls.length
    · obtain ⟨x, hx⟩ : ∃ x, ls[k]? = some x := ⟨_, List.getElem?_eq_getElem hc⟩
      obtain ⟨g, rfl, _, _, _⟩ := (HR.out _ hbw).at k x hx
      have hK := psS_take ls k x hx
      obtain ⟨ps, hps⟩ : ∃ ps, ps = (ls.take k).map (·.p) := ⟨_, rfl⟩
      rw [← hps] at hK hown
      have HK := Lib.hid hK
      clear hx hK hps
      have hX := at3_new 104 wr wr.heap.size (.int .i64 x.p) (.int .i64 x.w) (.int .i64 x.c) rfl
      have hbX : Below w.heap.size w (wr.alloc (.cells #[.int .i64 x.p, .int .i64 x.w, .int .i64 x.c] 104)) := hbw.alloc hbw.size _
      have hownX := hown.alloc (.cells #[.int .i64 x.p, .int .i64 x.w, .int .i64 x.c] 104)
      go_upto_region 5 with fail
      generalize wr.alloc (.cells #[.int .i64 x.p, .int .i64 x.w, .int .i64 x.c] 104) = w2 at hownX hbX hX ⊢
      generalize wr.heap.size = g2 at hX ⊢
      clear hown hbw
      obtain ⟨_, _, _⟩ := hX.cells
      go_wp2_with (at_builtin; refine append_one (W := w) rfl (.tmp 15) (.tmp 19) 30 rfl w.heap.size 3 i0 (.int .i64 0) 8 Try.underlying30 hi hz0 hz1 hz2 rfl _ k (ps.map (Value.int .i64)) rfl hownX (.int .i64 x.p) rfl rfl ?d1 ?d2 w.heap.size (Nat.le_refl _) hbX.size hbX ?_)
      case d1 => unfold maxLen; omega
      case d2 => omega
      intro v' w3 hown3 hb3
      have hown4 : w3.ownsRow w.heap.size 3 1 v' (k + 1) (((ls.take (k + 1)).map (·.p)).map (Value.int .i64)) := by
        rw [HK.out, List.map_append]
        exact hown3
      clear hown3 hownX hbX
      go_wp2
      go_roundw
      case rel => exact ⟨k + 1, by omega, by go_num, hown4, hb3⟩
      case measure => simp [intOf]; omega
    · obtain rfl : k = ls.length := by omega
      rw [List.take_length] at hown
      go_wp2
      go_ret
      exact ⟨_, rfl, hown, hbw⟩
end Go.Proofs.Ytgmggilnhkdceaa
