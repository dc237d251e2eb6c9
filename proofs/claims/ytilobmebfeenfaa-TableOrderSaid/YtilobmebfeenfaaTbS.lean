/- table: where an ID is; Set of a new one. -/
import Derived.Test.YtilobmebfeenfaaTbM
import Derived.Deep.RegionHeld3
import Derived.Deep.RegionLaw
import Derived.BigQuiet
import Derived.Deep.QuietTactic
namespace Go.Proofs.Ytilobmebfeenfaa
open Go.RowKit
set_option linter.unusedVariables false
set_option linter.unusedSimpArgs false
set_option maxHeartbeats 3200000 in
/-- sort.Search with place's function: k is where it says true first. -/
theorem tbSearch_any (bf bh n k : Nat) (p : Nat → Bool) (w : World) (hn : n ≤ 1073741824) (hk : k ≤ n) (h0 : ∀ i, i < k → p i = false) (h1 : ∀ i, k ≤ i → i < n → p i = true)
    (hf : ∀ (i : Nat) (W : World), i < n → Below w.heap.size w W → Calls Try.prog 68 #[.int .i64 i, .pointer (some ⟨bf, 0, none⟩), .pointer (some ⟨bh, 0, none⟩)] W fun e w' => e = .returned (.bool (p i)) ∧ Below W.heap.size W w') :
    Calls Try.prog 67 #[.int .i64 n, .func (.func 68) #[] #[.pointer (some ⟨bf, 0, none⟩), .pointer (some ⟨bh, 0, none⟩)]] w fun e w' => e = .returned (.int .i64 k) ∧ Below w.heap.size w w' := by
  have HF := Lib.hid hf
  have H0 := Lib.hid h0
  have H1 := Lib.hid h1
  clear hf h0 h1
  go_enter Try.func67, Try.ntmps67
  go_wp2_with fail
  go_loopw [5, 6] (fun s5 s6 wr => ∃ lo hi : Nat, s5 = .int .i64 lo ∧ s6 = .int .i64 hi ∧ lo ≤ k ∧ k ≤ hi ∧ hi ≤ n ∧ Below w.heap.size w wr) (fun s5 s6 _ => (intOf s6).toNat - (intOf s5).toNat)
  case atStart => exact ⟨0, n, rfl, rfl, Nat.zero_le _, hk, Nat.le_refl _, Below.refl _ _⟩
  case round =>
    obtain ⟨lo, hi, rfl, rfl, hlk, hkh, hhn, hb⟩ := hrel
    by_cases hlt : lo < hi
    · have hc := HF.out ((lo + hi) / 2) wr (by omega) hb
      rw [show (((lo + hi) / 2 : Nat) : Int) = ((lo : Int) + (hi : Int)) / 2 by omega] at hc
      rcases Nat.lt_or_ge ((lo + hi) / 2) k with h | h
      · rw [H0.out _ h] at hc
        go_wp2_with fail
        refine hc.mono ?_
        rintro e w3 ⟨rfl, hk3⟩
        have hb3 := hb.trans (hk3.mono hb.size)
        go_wp2_with fail
        go_roundw
        case rel => exact ⟨(lo + hi) / 2 + 1, hi, by rw [show ((lo : Int) + (hi : Int)) / 2 + 1 = (((lo + hi) / 2 + 1 : Nat) : Int) by omega], rfl, by omega, hkh, hhn, hb3⟩
        case measure => simp [intOf]; omega
      · rw [H1.out _ h (by omega)] at hc
        go_wp2_with fail
        refine hc.mono ?_
        rintro e w3 ⟨rfl, hk3⟩
        have hb3 := hb.trans (hk3.mono hb.size)
        go_wp2_with fail
        go_roundw
        case rel => exact ⟨lo, (lo + hi) / 2, rfl, by rw [show ((lo : Int) + (hi : Int)) / 2 = (((lo + hi) / 2 : Nat) : Int) by omega], by omega, h, by omega, hb3⟩
        case measure => simp [intOf]; omega
    · obtain rfl : lo = k := by omega
      obtain rfl : hi = lo := by omega
      go_wp2_with fail
      go_ret
      exact ⟨rfl, hb⟩

set_option maxRecDepth 100000 in
set_option maxHeartbeats 3200000 in
theorem tbAt_any {w : World} {base gt : Nat} {m ver : Int} {v : Value} {l : List TB} (h : TbIn w base gt m ver v l) (s : Int) (b0 b1 i : Nat) (r : TB) (hi : l[i]? = some r) (h0 : w.cell? ⟨b0, 0, none⟩ = some (.pointer (some ⟨gt, 0, none⟩))) (h1 : w.cell? ⟨b1, 0, none⟩ = some (.int .i64 s)) :
    Calls Try.prog 68 #[.int .i64 i, .pointer (some ⟨b0, 0, none⟩), .pointer (some ⟨b1, 0, none⟩)] w fun e w' => e = .returned (.bool (decide (s ≤ r.id))) ∧ Below w.heap.size w w' := by
  have hil := (List.getElem?_eq_some_iff.1 hi).1
  have hil2 : (i : Int) < l.length := by omega
  obtain ⟨a, cap, rfl, _, hcap, hrd⟩ := h.rd
  obtain ⟨g, off, rfl, c0, c1, c2⟩ := hrd i r hi
  obtain ⟨_, _, _⟩ := h.at3.cells3
  have hln := h.ln
  go_enter Try.func68, Try.ntmps68
  go_upto_region 1 with fail
  go_quiet (fail)
  go_wp2_with fail
  go_ret
  exact ⟨rfl, below_drewN (Below.refl _ _) _⟩
set_option maxRecDepth 100000 in
set_option maxHeartbeats 6400000 in
theorem tbPlace_any {w : World} {base gt : Nat} {m ver : Int} {v : Value} {l : List TB} (h : TbIn w base gt m ver v l) (s : Int) (hne : ∀ x ∈ l, x.id ≠ s) :
    Calls Try.prog 50 #[.pointer (some ⟨gt, 0, none⟩), .int .i64 s] w fun e w' => e = .returned (.tuple #[.int .i64 (tbPos s l), .bool false]) ∧ Below w.heap.size w w' := by
  have hX0 := (atB_new 45 w w.heap.size #[.pointer (some ⟨gt, 0, none⟩)] rfl).later (W' := ((w.alloc (.cells #[.pointer (some ⟨gt, 0, none⟩)] 45)).alloc (.cells #[.int .i64 s] 3))) ((Below.refl _ _).alloc (Nat.le_refl _) _)
  have hX1 := atB_new 3 (w.alloc (.cells #[.pointer (some ⟨gt, 0, none⟩)] 45)) (w.heap.size + 1) #[.int .i64 s] (by simp)
  have hb : Below w.heap.size w ((w.alloc (.cells #[.pointer (some ⟨gt, 0, none⟩)] 45)).alloc (.cells #[.int .i64 s] 3)) := ((Below.refl _ _).alloc (Nat.le_refl _) _).alloc (by simp) _
  go_enter Try.func50, Try.ntmps50
  go_upto_region 1 with fail
  generalize ((w.alloc (.cells #[.pointer (some ⟨gt, 0, none⟩)] 45)).alloc (.cells #[.int .i64 s] 3)) = w2 at *
  have hT := h.later hb
  generalize hg1 : w.heap.size + 1 = g1 at *
  generalize hg0 : w.heap.size = g0 at *
  have HG := Lib.hid hg0
  have hsz : g0 ≤ w2.heap.size := Nat.le_of_lt hX0.lt
  clear hg0 hg1 h
  have z0 : w2.cell? ⟨g0, 0, none⟩ = some (.pointer (some ⟨gt, 0, none⟩)) := by simpa using hX0.cell 0
  have z1 : w2.cell? ⟨g1, 0, none⟩ = some (.int .i64 s) := by simpa using hX1.cell 0
  have hln := hT.ln
  have hpl := tbPos_le s l
  have HSR := Lib.hid (tbSearch_any g0 g1 l.length (tbPos s l) (fun i => match l[i]? with | some r => decide (s ≤ r.id) | none => true) w2 (by omega) hpl
    (fun i hi => by
      obtain ⟨r, hr⟩ : ∃ r, l[i]? = some r := ⟨_, List.getElem?_eq_getElem (by omega)⟩
      rw [hr]
      exact decide_eq_false (by have := tbPos_lt s l i r hr hi; omega))
    (fun i hi hi2 => by
      obtain ⟨r, hr⟩ : ∃ r, l[i]? = some r := ⟨_, List.getElem?_eq_getElem hi2⟩
      rw [hr]
      exact decide_eq_true (tbPos_ge hT.up s i r hr hi))
    (fun i W hi hbW => by
      obtain ⟨r, hr⟩ : ∃ r, l[i]? = some r := ⟨_, List.getElem?_eq_getElem hi⟩
      rw [hr]
      exact tbAt_any (hT.later hbW) s g0 g1 i r hr (by have := (hX0.later hbW).cell 0; simpa using this) (by have := (hX1.later hbW).cell 0; simpa using this)))
  have HUP := Lib.hid (fun r (hr : l[tbPos s l]? = some r) => tbPos_ge hT.up s _ r hr (Nat.le_refl _))
  obtain ⟨a, cap, rfl, hlc, hcap, hrd⟩ := hT.rd
  obtain ⟨_, _, _⟩ := hT.at3.cells3
  go_wp2_with fail
  refine HSR.out.mono ?_
  rintro e w3 ⟨rfl, hb3⟩
  have hT3 := hT.later hb3
  have hX03 := hX0.later hb3
  have hX13 := hX1.later hb3
  have y0 : w3.cell? ⟨g0, 0, none⟩ = some (.pointer (some ⟨gt, 0, none⟩)) := by simpa using hX03.cell 0
  have y1 : w3.cell? ⟨g1, 0, none⟩ = some (.int .i64 s) := by simpa using hX13.cell 0
  have hb3' := hb.trans (hb3.mono hsz)
  clear HSR z0 z1
  obtain ⟨_, _, u2⟩ := hT3.at3.cells3
  obtain ⟨a', cap', ev, _, _, hrd3⟩ := hT3.rd
  cases ev
  by_cases hlt : tbPos s l < l.length
  · obtain ⟨r, hr⟩ : ∃ r, l[tbPos s l]? = some r := ⟨_, List.getElem?_eq_getElem hlt⟩
    obtain ⟨g, off, rfl, c0, c1, c2⟩ := hrd3 _ r hr
    have hrne : (r.id == s) = false := by
      have := hne r (List.mem_of_getElem? hr)
      simpa using this
    have hd : decide ((tbPos s l : Int) < (l.length : Int)) = true := decide_eq_true (by omega)
    have hil2 : (tbPos s l : Int) < (l.length : Int) := by omega
    clear hr HUP hrd hrd3
    generalize hq : tbPos s l = q at *
    have HQ := Lib.hid hq
    clear hq
    go_upto_region 2 with fail
    go_quiet (fail)
    go_wp2_with fail
    go_ret2
    exact ⟨by rw [HQ.out]; rfl, by rw [HG.out]; exact below_drewN hb3' _⟩
  · have hd : decide ((tbPos s l : Int) < (l.length : Int)) = false := decide_eq_false (by omega)
    clear HUP hrd hrd3
    generalize hq : tbPos s l = q at *
    have HQ := Lib.hid hq
    clear hq
    go_upto_region 2 with fail
    go_quiet (fail)
    go_wp2_with fail
    go_ret2
    exact ⟨by rw [HQ.out]; rfl, by rw [HG.out]; exact below_drewN hb3' _⟩
end Go.Proofs.Ytilobmebfeenfaa
