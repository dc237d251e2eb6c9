/- history: first, place, drop. -/
import Derived.Test.YtaekefedmobfoaaHiB
namespace Go.Proofs.Ytaekefedmobfoaa
open Go.RowKit
set_option linter.unusedVariables false
set_option linter.unusedSimpArgs false
theorem hiFind_pos {l : List HR} (hu : HiUp l) (s : Int) (r : HR) (h : hiFind s l = some r) : l[hiPos s l]? = some r ∧ r.s = s := by
  have hm := List.mem_of_find?_eq_some h
  have hx := List.find?_some h
  simp at hx
  obtain ⟨j, hj⟩ := List.getElem?_of_mem hm
  subst hx
  refine ⟨?_, rfl⟩
  obtain ⟨hjl, _⟩ := List.getElem?_eq_some_iff.1 hj
  have hle : hiPos r.s l ≤ j := by
    rcases Nat.lt_or_ge j (hiPos r.s l) with h1 | h1
    · have := hiPos_lt r.s l j r hj h1; omega
    · exact h1
  have hpl : hiPos r.s l < l.length := by omega
  have hp : l[hiPos r.s l]? = some (l[hiPos r.s l]) := List.getElem?_eq_getElem hpl
  rcases Nat.lt_or_eq_of_le hle with h1 | h1
  · have h2 := hiPos_ge hu r.s _ _ hp (Nat.le_refl _)
    have h3 := (List.pairwise_iff_getElem.1 hu) _ _ hpl hjl h1
    have h4 : l[j] = r := by rw [List.getElem?_eq_getElem hjl] at hj; exact Option.some.inj hj
    rw [h4] at h3
    omega
  · rw [h1]; exact hj
theorem hiFind_ne {l : List HR} (s : Int) (h : hiFind s l = none) (i : Nat) (r : HR) (hi : l[i]? = some r) : r.s ≠ s := by
  have := List.find?_eq_none.1 h r (List.mem_of_getElem? hi)
  simpa using this

set_option maxRecDepth 100000 in
set_option maxHeartbeats 3200000 in
theorem hiFirstPl_any (s : Int) (l : List HR) (gh bs cap : Nat) (a : Option Addr) (w : World) (hu : HiUp l) (hl : l.length ≤ 65535)
    (hh : w.cell? ⟨gh, 2, none⟩ = some (.slice a l.length cap)) (hr : RdR w a l) (h3 : w.cell? ⟨bs, 0, none⟩ = some (.int .i64 s)) :
    Calls Try.prog 95 #[.pointer (some ⟨gh, 0, none⟩), .func (.func 97) #[] #[.pointer (some ⟨bs, 0, none⟩)]] w fun e w' => e = .returned (.int .i64 (hiPos s l)) ∧ Below w.heap.size w w' := by
  obtain ⟨W0, hW0⟩ : ∃ W0, W0 = (w.alloc (.cells #[.pointer (some ⟨gh, 0, none⟩)] 45)).alloc (.cells #[.func (.func 97) #[] #[.pointer (some ⟨bs, 0, none⟩)]] 163) := ⟨_, rfl⟩
  have hb0 : Below w.heap.size w W0 := by rw [hW0]; exact ((Below.refl _ _).alloc (Nat.le_refl _) _).alloc (by simp) _
  have c1 : W0.cell? ⟨w.heap.size, 0, none⟩ = some (.pointer (some ⟨gh, 0, none⟩)) := by
    rw [hW0]
    refine cell_keep ?_ ((Below.refl _ _).alloc (Nat.le_refl _) _)
    rw [cell_of_row _ w.heap.size 0 _ _ (0, 0) (heap_alloc_new w _)]
    rfl
  have c2 : W0.cell? ⟨w.heap.size + 1, 0, none⟩ = some (.func (.func 97) #[] #[.pointer (some ⟨bs, 0, none⟩)]) := by
    rw [hW0]
    have e : w.heap.size + 1 = (w.alloc (.cells #[.pointer (some ⟨gh, 0, none⟩)] 45)).heap.size := by simp
    rw [e, cell_of_row _ _ 0 _ _ (0, 0) (heap_alloc_new _ _)]
    rfl
  have hS := Lib.hid (hiSearch_any (w.heap.size + 1) w.heap.size l.length (hiPos s l) (fun i => match l[i]? with | some r => decide (s ≤ r.s) | none => true) W0 (by omega) (hiPos_le s l)
    (fun i hi => by
      obtain ⟨r, hr⟩ : ∃ r, l[i]? = some r := ⟨_, List.getElem?_eq_getElem (by have := hiPos_le s l; omega)⟩
      have := hiPos_lt s l i r hr hi
      simp only [hr, decide_eq_false_iff_not]
      omega)
    (fun i hi hn => by
      obtain ⟨r, hr⟩ : ∃ r, l[i]? = some r := ⟨_, List.getElem?_eq_getElem hn⟩
      have := hiPos_ge hu s i r hr hi
      simp only [hr, decide_eq_true_eq]
      omega)
    (fun i W hi hb => by
      obtain ⟨r, hri⟩ : ∃ r, l[i]? = some r := ⟨_, List.getElem?_eq_getElem hi⟩
      have hb2 := hb0.trans (hb.mono hb0.size)
      have := hiFirst1Pl_any r s l i gh (w.heap.size + 1) w.heap.size bs cap a W hri hl (cell_keep hh hb2) (hr.later hb2) (cell_keep c2 hb) (cell_keep c1 hb) (cell_keep h3 hb2)
      simp only [hri]
      exact this))
  have hh0 := cell_keep hh hb0
  generalize hgb : w.heap.size = gb at *
  clear hr h3 hh hu
  generalize hiPos s l = k at *
  go_enter Try.func95, Try.ntmps95
  go_upto_region 1 with fail
  rw [← hW0]
  clear hW0
  go_wp2_with fail
  refine hS.out.mono ?_
  rintro e w3 ⟨rfl, hk3⟩
  go_wp2_with fail
  go_ret
  exact ⟨rfl, hb0.trans (hk3.mono (by have := hb0.size; omega))⟩

set_option maxRecDepth 100000 in
set_option maxHeartbeats 3200000 in
theorem hiFirstFg_any (s : Int) (l : List HR) (gh bs cap : Nat) (a : Option Addr) (w : World) (hu : HiUp l) (hl : l.length ≤ 65535)
    (hh : w.cell? ⟨gh, 2, none⟩ = some (.slice a l.length cap)) (hr : RdR w a l) (h3 : w.cell? ⟨bs, 0, none⟩ = some (.int .i64 s)) :
    Calls Try.prog 95 #[.pointer (some ⟨gh, 0, none⟩), .func (.func 96) #[] #[.pointer (some ⟨bs, 0, none⟩)]] w fun e w' => e = .returned (.int .i64 (hiPas s l)) ∧ Below w.heap.size w w' := by
  obtain ⟨W0, hW0⟩ : ∃ W0, W0 = (w.alloc (.cells #[.pointer (some ⟨gh, 0, none⟩)] 45)).alloc (.cells #[.func (.func 96) #[] #[.pointer (some ⟨bs, 0, none⟩)]] 163) := ⟨_, rfl⟩
  have hb0 : Below w.heap.size w W0 := by rw [hW0]; exact ((Below.refl _ _).alloc (Nat.le_refl _) _).alloc (by simp) _
  have c1 : W0.cell? ⟨w.heap.size, 0, none⟩ = some (.pointer (some ⟨gh, 0, none⟩)) := by
    rw [hW0]
    refine cell_keep ?_ ((Below.refl _ _).alloc (Nat.le_refl _) _)
    rw [cell_of_row _ w.heap.size 0 _ _ (0, 0) (heap_alloc_new w _)]
    rfl
  have c2 : W0.cell? ⟨w.heap.size + 1, 0, none⟩ = some (.func (.func 96) #[] #[.pointer (some ⟨bs, 0, none⟩)]) := by
    rw [hW0]
    have e : w.heap.size + 1 = (w.alloc (.cells #[.pointer (some ⟨gh, 0, none⟩)] 45)).heap.size := by simp
    rw [e, cell_of_row _ _ 0 _ _ (0, 0) (heap_alloc_new _ _)]
    rfl
  have hS := Lib.hid (hiSearch_any (w.heap.size + 1) w.heap.size l.length (hiPas s l) (fun i => match l[i]? with | some r => decide (s < r.s) | none => true) W0 (by omega) (hiPas_le s l)
    (fun i hi => by
      obtain ⟨r, hr⟩ : ∃ r, l[i]? = some r := ⟨_, List.getElem?_eq_getElem (by have := hiPas_le s l; omega)⟩
      have := hiPas_lt s l i r hr hi
      simp only [hr, decide_eq_false_iff_not]
      omega)
    (fun i hi hn => by
      obtain ⟨r, hr⟩ : ∃ r, l[i]? = some r := ⟨_, List.getElem?_eq_getElem hn⟩
      have := hiPas_ge hu s i r hr hi
      simp only [hr, decide_eq_true_eq]
      omega)
    (fun i W hi hb => by
      obtain ⟨r, hri⟩ : ∃ r, l[i]? = some r := ⟨_, List.getElem?_eq_getElem hi⟩
      have hb2 := hb0.trans (hb.mono hb0.size)
      have := hiFirst1Fg_any r s l i gh (w.heap.size + 1) w.heap.size bs cap a W hri hl (cell_keep hh hb2) (hr.later hb2) (cell_keep c2 hb) (cell_keep c1 hb) (cell_keep h3 hb2)
      simp only [hri]
      exact this))
  have hh0 := cell_keep hh hb0
  generalize hgb : w.heap.size = gb at *
  clear hr h3 hh hu
  generalize hiPas s l = k at *
  go_enter Try.func95, Try.ntmps95
  go_upto_region 1 with fail
  rw [← hW0]
  clear hW0
  go_wp2_with fail
  refine hS.out.mono ?_
  rintro e w3 ⟨rfl, hk3⟩
  go_wp2_with fail
  go_ret
  exact ⟨rfl, hb0.trans (hk3.mono (by have := hb0.size; omega))⟩

set_option maxRecDepth 100000 in
set_option maxHeartbeats 3200000 in
theorem hiPlaceYes {w : World} {base gh : Nat} {m t : Int} {v : Value} {l : List HR} {ag : Int} (h : HIn w base gh m t v l ag) (s : Int) (r : HR) (hf : hiFind s l = some r) :
    Calls Try.prog 71 #[.pointer (some ⟨gh, 0, none⟩), .int .i64 s] w fun e w' => e = .returned (.tuple #[.int .i64 (hiPos s l), .bool true]) ∧ Below w.heap.size w w' := by
  have hal : Below w.heap.size w (w.alloc (.cells #[.int .i64 s] 3)) := (Below.refl _ _).alloc (Nat.le_refl _) _
  have hc : (w.alloc (.cells #[.int .i64 s] 3)).cell? ⟨w.heap.size, 0, none⟩ = some (.int .i64 s) := by
    rw [cell_of_row _ w.heap.size 0 _ _ (0, 0) (heap_alloc_new w _)]
    rfl
  have hI := h.later hal
  obtain ⟨a, cap, rfl, hnc, hcm, _, hrd⟩ := hI.own.rdr
  unfold maxLen at hcm
  have HC := Lib.hid (hiFirstPl_any s l gh w.heap.size cap a _ hI.up hI.small hI.at4.cells.2.2.1 hrd hc)
  have hup := hI.up
  have hsm := hI.small
  obtain ⟨hpr, rfl⟩ := hiFind_pos hup s r hf
  have hlt := (List.getElem?_eq_some_iff.1 hpr).1
  have hrd2 := Lib.hid (fun W (hb : Below (w.alloc (.cells #[.int .i64 r.s] 3)).heap.size (w.alloc (.cells #[.int .i64 r.s] 3)) W) => (hrd.later hb) _ r hpr)
  have hI4 := hI.at4
  clear hrd hup hf hpr h hI
  go_enter Try.func71, Try.ntmps71
  go_upto_region 1 with fail
  generalize (w.alloc (.cells #[.int .i64 r.s] 3)) = w2 at *
  generalize hgb : w.heap.size = gb at *
  generalize hkk : hiPos r.s l = k at *
  generalize l.length = n at *
  have HG := Lib.hid hgb
  have HK := Lib.hid hkk
  clear hgb hkk
  go_wp2_with fail
  refine HC.out.mono ?_
  rintro e w3 ⟨rfl, hk3⟩
  have h43 := hI4.later hk3
  have hc3 := cell_keep hc hk3
  have hb3 := hal.trans (hk3.mono (by rw [← HG.out]; exact hal.size))
  obtain ⟨_, _, _, _⟩ := h43.cells
  obtain ⟨g, off, rfl, _, _, _, _⟩ := hrd2.out w3 hk3
  clear hrd2 HC
  go_wp2_with fail
  go_quiet (fail)
  go_wp2_with fail
  go_ret2
  exact ⟨by rw [HK.out]; rfl, by rw [HG.out]; exact below_drewN hb3 _⟩
set_option maxRecDepth 100000 in
set_option maxHeartbeats 3200000 in
theorem hiPlaceNo {w : World} {base gh : Nat} {m t : Int} {v : Value} {l : List HR} {ag : Int} (h : HIn w base gh m t v l ag) (s : Int) (r : HR) (hf : hiFind s l = none) (hp : l[hiPos s l]? = some r) :
    Calls Try.prog 71 #[.pointer (some ⟨gh, 0, none⟩), .int .i64 s] w fun e w' => e = .returned (.tuple #[.int .i64 (hiPos s l), .bool false]) ∧ Below w.heap.size w w' := by
  have hal : Below w.heap.size w (w.alloc (.cells #[.int .i64 s] 3)) := (Below.refl _ _).alloc (Nat.le_refl _) _
  have hc : (w.alloc (.cells #[.int .i64 s] 3)).cell? ⟨w.heap.size, 0, none⟩ = some (.int .i64 s) := by
    rw [cell_of_row _ w.heap.size 0 _ _ (0, 0) (heap_alloc_new w _)]
    rfl
  have hI := h.later hal
  obtain ⟨a, cap, rfl, hnc, hcm, _, hrd⟩ := hI.own.rdr
  unfold maxLen at hcm
  have HC := Lib.hid (hiFirstPl_any s l gh w.heap.size cap a _ hI.up hI.small hI.at4.cells.2.2.1 hrd hc)
  have hup := hI.up
  have hsm := hI.small
  have hne := hiFind_ne s hf _ r hp
  have hlt := (List.getElem?_eq_some_iff.1 hp).1
  have hrd2 := Lib.hid (fun W (hb : Below (w.alloc (.cells #[.int .i64 s] 3)).heap.size (w.alloc (.cells #[.int .i64 s] 3)) W) => (hrd.later hb) _ r hp)
  have hI4 := hI.at4
  clear hrd hup hf hp h hI
  go_enter Try.func71, Try.ntmps71
  go_upto_region 1 with fail
  generalize (w.alloc (.cells #[.int .i64 s] 3)) = w2 at *
  generalize hgb : w.heap.size = gb at *
  generalize hkk : hiPos s l = k at *
  generalize l.length = n at *
  have HG := Lib.hid hgb
  have HK := Lib.hid hkk
  clear hgb hkk
  go_wp2_with fail
  refine HC.out.mono ?_
  rintro e w3 ⟨rfl, hk3⟩
  have h43 := hI4.later hk3
  have hc3 := cell_keep hc hk3
  have hb3 := hal.trans (hk3.mono (by rw [← HG.out]; exact hal.size))
  obtain ⟨_, _, _, _⟩ := h43.cells
  obtain ⟨g, off, rfl, _, _, _, _⟩ := hrd2.out w3 hk3
  clear hrd2 HC
  have hd : (r.s == s) = false := by simpa using hne
  go_wp2_with fail
  go_quiet (fail)
  go_wp2_with fail
  go_ret2
  exact ⟨by rw [HK.out]; rfl, by rw [HG.out]; exact below_drewN hb3 _⟩
set_option maxRecDepth 100000 in
set_option maxHeartbeats 3200000 in
theorem hiPlaceEnd {w : World} {base gh : Nat} {m t : Int} {v : Value} {l : List HR} {ag : Int} (h : HIn w base gh m t v l ag) (s : Int) (hp : hiPos s l = l.length) :
    Calls Try.prog 71 #[.pointer (some ⟨gh, 0, none⟩), .int .i64 s] w fun e w' => e = .returned (.tuple #[.int .i64 (hiPos s l), .bool false]) ∧ Below w.heap.size w w' := by
  have hal : Below w.heap.size w (w.alloc (.cells #[.int .i64 s] 3)) := (Below.refl _ _).alloc (Nat.le_refl _) _
  have hc : (w.alloc (.cells #[.int .i64 s] 3)).cell? ⟨w.heap.size, 0, none⟩ = some (.int .i64 s) := by
    rw [cell_of_row _ w.heap.size 0 _ _ (0, 0) (heap_alloc_new w _)]
    rfl
  have hI := h.later hal
  obtain ⟨a, cap, rfl, hnc, hcm, _, hrd⟩ := hI.own.rdr
  unfold maxLen at hcm
  have HC := Lib.hid (hiFirstPl_any s l gh w.heap.size cap a _ hI.up hI.small hI.at4.cells.2.2.1 hrd hc)
  have hup := hI.up
  have hsm := hI.small
  have hlt : decide ((hiPos s l : Int) < (l.length : Int)) = false := by simp; omega
  have hlt2 : decide (hiPos s l < l.length) = false := by simp; omega
  have hI4 := hI.at4
  clear hrd hup hp h hI
  go_enter Try.func71, Try.ntmps71
  go_upto_region 1 with fail
  generalize (w.alloc (.cells #[.int .i64 s] 3)) = w2 at *
  generalize hgb : w.heap.size = gb at *
  generalize hkk : hiPos s l = k at *
  generalize l.length = n at *
  have HG := Lib.hid hgb
  have HK := Lib.hid hkk
  clear hgb hkk
  go_wp2_with fail
  refine HC.out.mono ?_
  rintro e w3 ⟨rfl, hk3⟩
  have h43 := hI4.later hk3
  have hc3 := cell_keep hc hk3
  have hb3 := hal.trans (hk3.mono (by rw [← HG.out]; exact hal.size))
  obtain ⟨_, _, _, _⟩ := h43.cells
  go_wp2_with fail
  go_quiet (fail)
  go_wp2_with fail
  go_ret2
  exact ⟨by rw [HK.out]; rfl, by rw [HG.out]; exact below_drewN hb3 _⟩
end Go.Proofs.Ytaekefedmobfoaa
