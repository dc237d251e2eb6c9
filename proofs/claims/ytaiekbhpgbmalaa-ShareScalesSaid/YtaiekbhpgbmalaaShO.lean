/- share: weights as they count, where they rise by their paths. -/
import Derived.Test.YtaiekbhpgbmalaaShN
namespace Go.Proofs.Ytaiekbhpgbmalaa
open Go.RowKit
set_option linter.unusedVariables false
set_option linter.unusedSimpArgs false
/-- A weight as it counts. -/
def clipK (k : Int) : Int := min (max k 1) 65535
def clipW (ws : List (Int × Int)) : List (Int × Int) := ws.map fun x => (x.1, clipK x.2)
theorem clipW_len (ws : List (Int × Int)) : (clipW ws).length = ws.length := by simp [clipW]
theorem clipW_up {ws : List (Int × Int)} (h : WhUp ws) : WhUp (clipW ws) := by
  unfold WhUp clipW at *
  rw [List.pairwise_map]
  exact h
theorem clipW_take (ws : List (Int × Int)) (k : Nat) (p u : Int) (h : ws[k]? = some (p, u)) : clipW (ws.take (k + 1)) = clipW (ws.take k) ++ [(p, clipK u)] := by
  unfold clipW
  rw [List.take_add_one, h]
  simp
theorem clipW_no {ws : List (Int × Int)} (h : WhUp ws) (k : Nat) (p u : Int) (hx : ws[k]? = some (p, u)) : ∀ x ∈ clipW (ws.take k), p ≠ x.1 := by
  intro x hx2 e
  unfold clipW at hx2
  obtain ⟨⟨q, t⟩, hy, rfl⟩ := List.mem_map.1 hx2
  obtain ⟨j, hj⟩ := List.mem_iff_getElem?.1 hy
  have hjk : j < k := by
    have := (List.getElem?_eq_some_iff.1 hj).1
    rw [List.length_take] at this
    omega
  rw [List.getElem?_take, if_pos hjk] at hj
  have := whUp_at h hjk hj hx
  simp only at e
  omega
theorem info_weight : (Try.prog.info? 28).map (fun i => (i.zero, i.size, i.bytes)) = some (some (.agg #[.int .i64 0, .int .i64 0]), 2, 16) := by kernel_rfl
set_option maxRecDepth 100000 in
set_option maxHeartbeats 3200000 in
theorem shCounted_any (ws : List (Int × Int)) (a : Option Addr) (n c : Nat) (w : World) (hn : n = ws.length) (hr : WhRd w a ws) (hl : n ≤ 12) (hup : WhUp ws) :
    Calls Try.prog 10 #[.slice a n c] w fun e w' => ∃ v, e = .returned v ∧ w'.ownsRow w.heap.size 28 2 v ws.length (whV (clipW ws)) ∧ Below w.heap.size w w' := by
  subst hn
  obtain ⟨i0, hi, hz0, hz1, hz2⟩ := info_parts info_weight
  have HR : Hid (∀ W : World, Below w.heap.size w W → WhRd W a ws) := Lib.hid (fun W hW => hr.later hW)
  have HUp := Lib.hid hup
  have HTk := Lib.hid (clipW_take ws)
  have HNo := Lib.hid (clipW_no hup)
  have hmf : ∀ (fn : Fn) (first cap : Array Value) (w : World), (Instr.makeFunc fn first cap).run Try.prog w = .ok (.func fn first cap) w := fun _ _ _ _ => rfl
  clear hr hup
  go_enter Try.func10, Try.ntmps10
  go_wp2_with fail
  go_loopw [3, 8] (fun v i wr => ∃ k : Nat, k ≤ ws.length ∧ i = .int .i64 k ∧ wr.ownsRow w.heap.size 28 2 v k (whV (clipW (ws.take k))) ∧ Below w.heap.size w wr) (fun _ i _ => ws.length - (intOf i).toNat)
  case atStart => exact ⟨0, Nat.zero_le _, rfl, World.ownsRow_nil _ _ _ _, Below.refl _ _⟩
  case round =>
    obtain ⟨k, hk, rfl, hown, hbw⟩ := hrel
    by_cases hlt : k < ws.length
    · obtain ⟨⟨p, u⟩, hx⟩ : ∃ x, ws[k]? = some x := ⟨_, List.getElem?_eq_getElem hlt⟩
      rcases HR.out _ hbw with h0 | ⟨g, rfl, hin⟩
      · rw [h0] at hlt; exact absurd hlt (by simp)
      obtain ⟨_, _⟩ := hin k p u hx
      have HV := Lib.hid (HTk.out k p u hx)
      have HN := Lib.hid (HNo.out k p u hx)
      have hlk : (clipW (ws.take k)).length = k := by rw [clipW_len, List.length_take]; omega
      have HLK := Lib.hid hlk
      have hX := atW_new 28 wr wr.heap.size (.int .i64 p) (.int .i64 u) rfl
      have hal : Below wr.heap.size wr (wr.alloc (.cells #[.int .i64 p, .int .i64 u] 28)) := (Below.refl _ _).alloc (Nat.le_refl _) _
      have hbX := hbw.trans (hal.mono hbw.size)
      have hownX := hown.alloc (.cells #[.int .i64 p, .int .i64 u] 28)
      clear hin hx hlk
      go_upto_region 5 with fail
      generalize wr.alloc (.cells #[.int .i64 p, .int .i64 u] 28) = w2 at hownX hbX hX hal ⊢
      generalize wr.heap.size = g2 at hX ⊢
      clear hown hbw hal
      obtain ⟨_, _⟩ := hX.cells
      generalize clipW (ws.take k) = cw at hownX HV HN HLK
      obtain ⟨av, cv, rfl, hrv⟩ := own_whRd hownX HLK.out.symm
      have HC := Lib.hid (whContainsNo_any cw p u av k cv w2 HLK.out.symm hrv (by omega) HN.out)
      clear hrv
      go_wp2_with fail
      refine HC.out.mono ?_
      rintro e w3 ⟨rfl, hk3⟩
      have hb3 := hbX.trans (hk3.mono hbX.size)
      have hown3 := own_laterS hownX hk3
      have hX3 : AtW 28 w3 g2 (.int .i64 p) (.int .i64 u) := by
        unfold AtW at hX ⊢
        rw [hk3.block g2 (lt_of_block hX)]
        exact hX
      obtain ⟨_, _⟩ := hX3.cells
      clear hownX hbX hX HC hk3
      go_wp2_with (at_builtin; refine append_recS rfl (.tmp 20) (.tmp 28) 26 rfl w.heap.size 28 i0 (.agg #[.int .i64 0, .int .i64 0]) 2 16 Try.underlying26 hi hz0 hz1 hz2 rfl (by decide) _ k (whV cw) rfl hown3 #[.int .i64 p, .int .i64 (clipK u)] rfl rfl ?d1 ?d2 ?d3 w.heap.size (Nat.le_refl _) hb3.size hb3 ?_)
      case d1 => simp [Value.oneCell']
      case d2 => unfold maxLen; omega
      case d3 => omega
      intro v' w4 hown4 hb4 _
      have hown5 : w4.ownsRow w.heap.size 28 2 v' (k + 1) (whV (clipW (ws.take (k + 1)))) := by
        rw [HV.out, whV_snoc]
        exact hown4
      clear hown3 hown4 hb3 hX3
      go_wp2
      go_roundw
      case rel => exact ⟨k + 1, by omega, by go_num, hown5, hb4⟩
      case measure => simp [intOf]; omega
    · obtain rfl : k = ws.length := by omega
      rw [List.take_length] at hown
      obtain ⟨av, cv, rfl, hrv⟩ := own_whRd hown (clipW_len ws).symm
      have HS : Hid (ws.length ≤ cv → Calls Try.prog 19 #[.slice av ws.length cv, .func (.func 20) #[] #[]] wr fun e w' => e = .returned (.tuple #[]) ∧ Below wr.heap.size wr w') := Lib.hid (fun hc => whSort_any (clipW ws) av ws.length cv wr (clipW_len ws).symm hrv hl (clipW_up HUp.out) hc)
      have hcap : ws.length ≤ cv := by
        rcases hown.2 with ⟨e, h0⟩ | ⟨_, _, _, e, _, _, q, _⟩
        · simp only [Value.slice.injEq] at e; omega
        · cases e; exact q
      clear hrv HUp
      go_wp2_with fail
      refine (HS.out hcap).mono ?_
      rintro e w5 ⟨rfl, hk5⟩
      have hown5 := own_laterS hown hk5
      have hb5 := hbw.trans (hk5.mono hbw.size)
      clear hown hbw hk5 HS
      go_wp2
      go_ret
      exact ⟨_, rfl, hown5, hb5⟩
end Go.Proofs.Ytaiekbhpgbmalaa
