/- share: Set of weights that rise, at a share that has none. -/
import Derived.Test.YtaiekbhpgbmalaaShP
namespace Go.Proofs.Ytaiekbhpgbmalaa
open Go.RowKit
set_option linter.unusedVariables false
set_option linter.unusedSimpArgs false
theorem ldW_len (ws : List (Int × Int)) : (ldW ws).length = ws.length := by simp [ldW, clipW_len]
theorem ldW_at (ws : List (Int × Int)) (k : Nat) (p u : Int) (h : (clipW ws)[k]? = some (p, u)) : (ldW ws).take (k + 1) = (ldW ws).take k ++ [⟨p, u, 0⟩] := by
  have e : (ldW ws)[k]? = some ⟨p, u, 0⟩ := by unfold ldW; rw [List.getElem?_map, h]; rfl
  rw [List.take_add_one, e]
  rfl
/-- All but one block is as it was. -/
def KB (B gs : Nat) (w W : World) : Prop := ∀ k, k < B → k ≠ gs → W.heap[k]? = w.heap[k]?
set_option maxRecDepth 100000 in
set_option maxHeartbeats 3200000 in
theorem shSet_any (ws : List (Int × Int)) (a : Option Addr) (n c gs : Nat) (w : World) (hn : n = ws.length) (hr : WhRd w a ws) (hl : n ≤ 12) (hup : WhUp ws) (hS : At1 38 w gs (.slice none 0 0)) :
    Calls Try.prog 6 #[.pointer (some ⟨gs, 0, none⟩), .slice a n c] w fun e w' => e = .returned (.bool (decide (0 < n))) ∧ (∃ v, At1 38 w' gs v ∧ w'.ownsRow w.heap.size 42 3 v ws.length (shV (ldW ws))) ∧ Below gs w w' ∧ KB w.heap.size gs w w' := by
  subst hn
  have HC := Lib.hid (shCounted_any ws a ws.length c w rfl hr hl hup)
  have HLd := Lib.hid (ldW_at ws)
  have HLn := Lib.hid (ldW_len ws)
  have hgs := hS.lt
  have HCl := Lib.hid (clipW_len ws)
  have hcell0 := hS.cell
  clear hr hup
  go_enter Try.func6, Try.ntmps6
  go_wp2_with fail
  refine HC.out.mono ?_
  rintro e w1 ⟨vw, rfl, hW, hk1⟩
  have hS1 := hS.later hk1
  have hb1 : Below gs w w1 := hk1.mono (Nat.le_of_lt hgs)
  have hsz1 := hk1.size
  have hq1 : KB w.heap.size gs w w1 := fun k hk _ => hk1.block k hk
  obtain ⟨aw, cw, rfl, hrw⟩ := own_whRd hW HCl.out.symm
  clear HC hS hk1 hcell0
  have hc1 := hS1.cell
  have hf1 := hS1.free
  by_cases h0 : ws.length = 0
  · have HDf : Hid (decide (0 < ws.length) = false) := Lib.hid (decide_eq_false (by omega))
    have HE := Lib.hid (fun f W => shEqNil_any aw cw f W)
    have hnil : shV (ldW ws) = [] := by
      have : ldW ws = [] := List.eq_nil_of_length_eq_zero (by rw [HLn.out, h0])
      rw [this]; rfl
    have HNil := Lib.hid hnil
    have H0 := Lib.hid h0
    rw [h0]
    clear hW hrw hnil
    go_wp2_with fail
    refine (HE.out _ _).mono ?_
    rintro e w2 ⟨rfl, rfl⟩
    go_wp2_with fail
    go_ret
    exact ⟨by rw [HDf.out]; rfl, ⟨_, hS1, by rw [HNil.out, H0.out]; exact World.ownsRow_nil _ _ _ _⟩, hb1, hq1⟩
  · have HDt : Hid (decide (0 < ws.length) = true) := Lib.hid (decide_eq_true (by omega))
    have HE := Lib.hid (fun f W => shEqNo_any aw ws.length cw f W (by omega))
    have HB : Hid (w.heap.size ≤ w1.heap.size) := Lib.hid hsz1
    generalize hBB : w.heap.size = B at hW HB hgs hsz1 hq1 ⊢
    have HBB := Lib.hid hBB
    clear hrw hBB
    go_wp2_with fail
    refine (HE.out _ _).mono ?_
    rintro e w2 ⟨rfl, rfl⟩
    go_upto_region 5 with fail
    have hoA := (Only.refl gs w2).setCell 0 (.slice none 0 0)
    have hS2 := hS1.set (.slice none 0 0)
    have hW2 := row_onlyL hW hoA hS1 (by decide)
    have hb2 := hb1.trans (hoA.below (Nat.le_refl _))
    have hq2 : KB B gs w (w2.setCell ⟨gs, 0, none⟩ (.slice none 0 0)) := fun k hk hne => (hoA.block k hne).trans (hq1 k hk hne)
    have hsz2 : B ≤ (w2.setCell ⟨gs, 0, none⟩ (.slice none 0 0)).heap.size := by rw [hoA.size]; exact hsz1
    generalize w2.setCell ⟨gs, 0, none⟩ (.slice none 0 0) = w3 at hS2 hW2 hb2 hsz2 hq2 ⊢
    clear hS1 hW hb1 hoA hc1 hf1 hsz1 HB HE hq1
    go_wp2_with fail
    go_loopw [21] (fun i wr => ∃ (k : Nat) (v : Value), k ≤ ws.length ∧ i = .int .i64 k ∧ At1 38 wr gs v ∧ wr.ownsRow B 42 3 v k (shV ((ldW ws).take k)) ∧ wr.ownsRow B 28 2 (.slice aw ws.length cw) ws.length (whV (clipW ws)) ∧ Below gs w wr ∧ B ≤ wr.heap.size ∧ KB B gs w wr) (fun i _ => ws.length - (intOf i).toNat)
    case atStart => exact ⟨0, _, Nat.zero_le _, rfl, hS2, World.ownsRow_nil _ _ _ _, hW2, hb2, hsz2, hq2⟩
    case round =>
      obtain ⟨k, v, hk, rfl, hS, hR, hW, hb, hsz, hqk⟩ := hrel
      clear hS2 hW2 hb2 hsz2 hq2
      by_cases hlt : k < ws.length
      · obtain ⟨⟨p, u⟩, hx⟩ : ∃ x, (clipW ws)[k]? = some x := ⟨_, List.getElem?_eq_getElem (by rw [HCl.out]; exact hlt)⟩
        have HT := Lib.hid (HLd.out k p u hx)
        obtain ⟨aw', cw', e, hrw⟩ := own_whRd hW HCl.out.symm
        cases e
        rcases hrw with h00 | ⟨g, rfl, hin⟩
        · have := HCl.out; rw [h00] at this; simp at this; omega
        obtain ⟨_, _⟩ := hin k p u hx
        clear hin hx
        have hl0 : ((ldW ws).take k).length = k := by rw [List.length_take, HLn.out]; omega
        have HL0 := Lib.hid hl0
        have hal : Below wr.heap.size wr (wr.alloc (.cells #[.int .i64 p, .int .i64 u] 28)) := (Below.refl _ _).alloc (Nat.le_refl _) _
        have hSx := hS.later hal
        have hRx := own_laterS hR hal
        have hWx := own_laterS hW hal
        have hbx := hb.trans (hal.mono (Nat.le_of_lt hS.lt))
        have hszx : B ≤ (wr.alloc (.cells #[.int .i64 p, .int .i64 u] 28)).heap.size := Nat.le_trans hsz hal.size
        have hqx : KB B gs w (wr.alloc (.cells #[.int .i64 p, .int .i64 u] 28)) := fun k hk hne => (hal.block k (by omega)).trans (hqk k hk hne)
        have hXx := atW_new 28 wr wr.heap.size (.int .i64 p) (.int .i64 u) rfl
        go_upto_region 8 with fail
        generalize wr.alloc (.cells #[.int .i64 p, .int .i64 u] 28) = w5 at hSx hRx hWx hbx hszx hqx hXx ⊢
        generalize wr.heap.size = g5 at hXx ⊢
        clear hS hR hW hb hsz hqk hal hl0
        obtain ⟨av, cv, rfl⟩ : ∃ av cv, v = .slice av k cv := by
          rcases hRx.2 with ⟨rfl, e⟩ | ⟨_, _, _, rfl, _⟩
          · rw [e]; exact ⟨_, _, rfl⟩
          · exact ⟨_, _, rfl⟩
        generalize hL : (ldW ws).take k = L at hRx HT HL0
        clear hL
        have hRL : w5.ownsRow B 42 3 (.slice av k cv) L.length (shV L) := by rw [HL0.out]; exact hRx
        obtain ⟨_, _⟩ := hXx.cells
        have hcS := hSx.cell
        have hfS := hSx.free
        have hqS : ∀ o : Obj, (w5.alloc o).drew.cell? ⟨gs, 0, none⟩ = some (.slice av k cv) := fun o => (hSx.alloc o).drew.cell
        go_region_law (first | (refine step_sh rfl (.tmp 29) (.tmp 32) rfl B gs _ L ⟨p, u, 0⟩ (show At1 38 w5.drew gs _ from hSx) (show w5.drew.ownsRow B 42 3 _ _ _ from hRL) hszx (by rw [HL0.out]; omega) (by rfl) (by rfl) ?_; intro ad cq w11 H11 hc11 hf11))
        all_goals
          obtain ⟨hR11, hS11, hb11, hk11, hsz11⟩ := H11.out
          have hoZ := (Only.refl gs w11).setCell 0 (.slice ad (L.length + 1) cq)
          have hS12 := hS11.set (.slice ad (L.length + 1) cq)
          have hR12 := row_onlyL hR11 hoZ hS11 (by decide)
          have hW12 := row_onlyL (row_keepT (W' := w11) (show w5.drew.ownsRow B 28 2 _ _ _ from hWx) (fun k cs hk => hk11 k cs _ hk (by decide))) hoZ hS11 (by decide)
          have hb12 := (hb11 gs w (Nat.le_of_lt hgs) hbx.drew).trans (hoZ.below (Nat.le_refl _))
          have hbB := hb11 B w5 (Nat.le_refl _) (Below.drew (Below.refl _ _))
          have hq12 : KB B gs w (w11.setCell ⟨gs, 0, none⟩ (.slice ad (L.length + 1) cq)) := fun k hk hne => (hoZ.block k hne).trans ((hbB.block k hk).trans (hqx k hk hne))
          have hsz12 : B ≤ (w11.setCell ⟨gs, 0, none⟩ (.slice ad (L.length + 1) cq)).heap.size := by rw [hoZ.size]; exact Nat.le_trans hszx hsz11
          rw [← HT.out, HL0.out] at hR12
          rw [HL0.out] at hS12 hW12 hb12 hsz12 hq12 ⊢
          generalize w11.setCell ⟨gs, 0, none⟩ (.slice ad (k + 1) cq) = w12 at hS12 hR12 hW12 hb12 hsz12 hq12 ⊢
          clear hbB hqx H11 hR11 hS11 hb11 hk11 hsz11 hoZ hc11 hf11 hqS hcS hfS hRL hRx hSx hWx hbx hszx hXx
          go_wp2_with fail
          go_roundw
          case rel => exact ⟨k + 1, .slice ad (k + 1) cq, by omega, by go_num, hS12, hR12, hW12, hb12, hsz12, hq12⟩
          case measure => simp [intOf]; omega
      · obtain rfl : k = ws.length := by omega
        have hfull : (ldW ws).take ws.length = ldW ws := List.take_of_length_le (Nat.le_of_eq HLn.out)
        have HFull := Lib.hid hfull
        clear hfull
        go_wp2_with fail
        go_ret
        exact ⟨by rw [HDt.out]; rfl, ⟨v, hS, by rw [← HFull.out, HBB.out]; exact hR⟩, hb, by rw [HBB.out]; exact hqk⟩
end Go.Proofs.Ytaiekbhpgbmalaa
