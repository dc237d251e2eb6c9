/- gaps: sort.Search with a function of gaps'; where a number is. -/
import Derived.Test.YtdbmhgfdcdcgfaaGpC
namespace Go.Proofs.Ytdbmhgfdcdcgfaa
open Go.RowKit
set_option linter.unusedVariables false
set_option linter.unusedSimpArgs false
def GW.val (A : Int) (g : GW) : Value := .agg #[.int .i64 g.n, .int .i64 g.at_, .int .i64 (wtR A g.k), .int .i64 g.k]
/-- Where the first of at least a number is; the first of a greater one. -/
def gpPos (s : Int) (l : List GW) : Nat := l.findIdx (fun r => decide (s ≤ r.n))
def gpPas (s : Int) (l : List GW) : Nat := l.findIdx (fun r => decide (s < r.n))
theorem gFindIdx_lt {α : Type} (q : α → Bool) (l : List α) (i : Nat) (x : α) (h : l[i]? = some x) (hi : i < l.findIdx q) : q x = false := by
  obtain ⟨hl, rfl⟩ := List.getElem?_eq_some_iff.1 h
  have := List.not_of_lt_findIdx hi
  simpa using this
theorem gFindIdx_ge {α : Type} (q : α → Bool) (l : List α) (hm : l.Pairwise (fun a b => q a = true → q b = true)) (i : Nat) (x : α) (h : l[i]? = some x) (hi : l.findIdx q ≤ i) : q x = true := by
  obtain ⟨hl, rfl⟩ := List.getElem?_eq_some_iff.1 h
  have hw : l.findIdx q < l.length := by omega
  have h0 : q (l[l.findIdx q]) = true := List.findIdx_getElem (w := hw)
  rcases Nat.lt_or_eq_of_le hi with h1 | h1
  · exact (List.pairwise_iff_getElem.1 hm) _ _ hw hl h1 h0
  · rw [show l[i] = l[l.findIdx q] by congr 1; exact h1.symm]
    exact h0
theorem gpPos_le (s : Int) (l : List GW) : gpPos s l ≤ l.length := List.findIdx_le_length
theorem gpPas_le (s : Int) (l : List GW) : gpPas s l ≤ l.length := List.findIdx_le_length
theorem gpUp_pos {l : List GW} (h : GpUp l) (s : Int) : l.Pairwise (fun a b => decide (s ≤ a.n) = true → decide (s ≤ b.n) = true) :=
  List.Pairwise.imp (R := fun (a b : GW) => a.n < b.n) (fun hab h0 => by simp at h0 ⊢; omega) h
theorem gpUp_pas {l : List GW} (h : GpUp l) (s : Int) : l.Pairwise (fun a b => decide (s < a.n) = true → decide (s < b.n) = true) :=
  List.Pairwise.imp (R := fun (a b : GW) => a.n < b.n) (fun hab h0 => by simp at h0 ⊢; omega) h
theorem gpPos_lt (s : Int) (l : List GW) (i : Nat) (r : GW) (h : l[i]? = some r) (hi : i < gpPos s l) : r.n < s := by
  have := gFindIdx_lt _ l i r h hi
  simp at this
  omega
theorem gpPos_ge {l : List GW} (hu : GpUp l) (s : Int) (i : Nat) (r : GW) (h : l[i]? = some r) (hi : gpPos s l ≤ i) : s ≤ r.n := by
  have := gFindIdx_ge _ l (gpUp_pos hu s) i r h hi
  simpa using this
theorem gpPas_lt (s : Int) (l : List GW) (i : Nat) (r : GW) (h : l[i]? = some r) (hi : i < gpPas s l) : r.n ≤ s := by
  have := gFindIdx_lt _ l i r h hi
  simp at this
  omega
theorem gpPas_ge {l : List GW} (hu : GpUp l) (s : Int) (i : Nat) (r : GW) (h : l[i]? = some r) (hi : gpPas s l ≤ i) : s < r.n := by
  have := gFindIdx_ge _ l (gpUp_pas hu s) i r h hi
  simpa using this
set_option maxHeartbeats 3200000 in
/-- sort.Search with a function of history's: k is where it says true first. -/
theorem gpSearch_any (bf bh n k : Nat) (p : Nat → Bool) (w : World) (hn : n ≤ 1073741824) (hk : k ≤ n) (h0 : ∀ i, i < k → p i = false) (h1 : ∀ i, k ≤ i → i < n → p i = true)
    (hf : ∀ (i : Nat) (W : World), i < n → Below w.heap.size w W → Calls Try.prog 38 #[.int .i64 i, .pointer (some ⟨bf, 0, none⟩), .pointer (some ⟨bh, 0, none⟩)] W fun e w' => e = .returned (.bool (p i)) ∧ Below W.heap.size W w') :
    Calls Try.prog 37 #[.int .i64 n, .func (.func 38) #[] #[.pointer (some ⟨bf, 0, none⟩), .pointer (some ⟨bh, 0, none⟩)]] w fun e w' => e = .returned (.int .i64 k) ∧ Below w.heap.size w w' := by
  have HF := Lib.hid hf
  have H0 := Lib.hid h0
  have H1 := Lib.hid h1
  clear hf h0 h1
  go_enter Try.func37, Try.ntmps37
  go_wp2_with fail
  go_loopw [5, 6] (fun s5 s6 wr => ∃ lo hi : Nat, s5 = .int .i64 lo ∧ s6 = .int .i64 hi ∧ lo ≤ k ∧ k ≤ hi ∧ hi ≤ n ∧ Below w.heap.size w wr) (fun s5 s6 _ => (intOf s6).toNat - (intOf s5).toNat)
  case atStart => exact ⟨0, n, rfl, rfl, Nat.zero_le _, hk, Nat.le_refl _, Below.refl _ _⟩
  case round =>
    obtain ⟨lo, hi, rfl, rfl, hlk, hkh, hhn, hb⟩ := hrel
    by_cases hlt : lo < hi
    · have hc := HF.out ((lo + hi) / 2) wr (by omega) hb
      rw [show (((lo + hi) / 2 : Nat) : Int) = ((lo : Int) + (hi : Int)) / 2 by omega] at hc
      rcases Nat.lt_or_ge ((lo + hi) / 2) k with h | h
      · rw [H0.out _ h] at hc
        go_wp2_with fail
        refine hc.mono ?_
        rintro e w3 ⟨rfl, hk3⟩
        have hb3 := hb.trans (hk3.mono hb.size)
        go_wp2_with fail
        go_roundw
        case rel => exact ⟨(lo + hi) / 2 + 1, hi, by rw [show ((lo : Int) + (hi : Int)) / 2 + 1 = (((lo + hi) / 2 + 1 : Nat) : Int) by omega], rfl, by omega, hkh, hhn, hb3⟩
        case measure => simp [intOf]; omega
      · rw [H1.out _ h (by omega)] at hc
        go_wp2_with fail
        refine hc.mono ?_
        rintro e w3 ⟨rfl, hk3⟩
        have hb3 := hb.trans (hk3.mono hb.size)
        go_wp2_with fail
        go_roundw
        case rel => exact ⟨lo, (lo + hi) / 2, rfl, by rw [show ((lo : Int) + (hi : Int)) / 2 = (((lo + hi) / 2 : Nat) : Int) by omega], by omega, h, by omega, hb3⟩
        case measure => simp [intOf]; omega
    · obtain rfl : lo = k := by omega
      obtain rfl : hi = lo := by omega
      go_wp2_with fail
      go_ret
      exact ⟨rfl, hb⟩

theorem gpFarPl_any (A : Int) (r : GW) (s : Int) (bs : Nat) (w : World) (h : w.cell? ⟨bs, 0, none⟩ = some (.int .i64 s)) : Calls Try.prog 36 #[(r.val A), .pointer (some ⟨bs, 0, none⟩)] w fun e w' => e = .returned (.bool (decide (s ≤ r.n))) ∧ Below w.heap.size w w' := by
  obtain ⟨rs, rt, kk⟩ := r
  simp only [GW.val]
  generalize wtR A kk = rp
  have hX := at4_new 69 w _ (.int .i64 rs) (.int .i64 rt) (.int .i64 rp) (.int .i64 kk) rfl
  have hb : Below w.heap.size w (w.alloc (.cells #[.int .i64 rs, .int .i64 rt, .int .i64 rp, .int .i64 kk] 69)) := (Below.refl _ _).alloc (Nat.le_refl _) _
  have h2 := cell_keep h hb
  go_enter Try.func36, Try.ntmps36
  go_upto_region 1 with fail
  generalize (w.alloc (.cells #[.int .i64 rs, .int .i64 rt, .int .i64 rp, .int .i64 kk] 69)) = w2 at hX hb h2 ⊢
  generalize hg : w.heap.size = g at hX hb ⊢
  have HG := Lib.hid hg
  clear hg
  obtain ⟨_, _, _, _⟩ := hX.cells
  go_wp2_with fail
  go_ret
  exact ⟨by simp, by rw [HG.out]; exact hb⟩
set_option maxRecDepth 100000 in
set_option maxHeartbeats 3200000 in
theorem gpFirst1Pl_any (A : Int) (r : GW) (s : Int) (l : List GW) (i gh bf bh bs cap : Nat) (a : Option Addr) (w : World) (hi : l[i]? = some r) (hl : l.length ≤ 65535)
    (hh : w.cell? ⟨gh, 6, none⟩ = some (.slice a l.length cap)) (hr : RdG w A a l) (h1 : w.cell? ⟨bf, 0, none⟩ = some (.func (.func 36) #[] #[.pointer (some ⟨bs, 0, none⟩)])) (h2 : w.cell? ⟨bh, 0, none⟩ = some (.pointer (some ⟨gh, 0, none⟩))) (h3 : w.cell? ⟨bs, 0, none⟩ = some (.int .i64 s)) :
    Calls Try.prog 38 #[.int .i64 i, .pointer (some ⟨bf, 0, none⟩), .pointer (some ⟨bh, 0, none⟩)] w fun e w' => e = .returned (.bool (decide (s ≤ r.n))) ∧ Below w.heap.size w w' := by
  have hil : i < l.length := (List.getElem?_eq_some_iff.1 hi).1
  obtain ⟨g, off, rfl, c0, c1, c2, c3⟩ := hr i r hi
  have HC := Lib.hid (fun W (h : W.cell? ⟨bs, 0, none⟩ = some (.int .i64 s)) => gpFarPl_any A r s bs W h)
  simp only [GW.val] at HC
  generalize hd : decide (s ≤ r.n) = d at HC ⊢
  clear hd hi hr
  generalize l.length = n at *
  have HSS : Hid (∀ W : World, Below w.heap.size w W → W.cell? ⟨bf, 0, none⟩ = some (.func (.func 36) #[] #[.pointer (some ⟨bs, 0, none⟩)]) ∧ W.cell? ⟨bh, 0, none⟩ = some (.pointer (some ⟨gh, 0, none⟩)) ∧ W.cell? ⟨bs, 0, none⟩ = some (.int .i64 s) ∧ W.cell? ⟨gh, 6, none⟩ = some (.slice (some ⟨g, off, none⟩) n cap) ∧ W.cell? ⟨g, off + i * 4, none⟩ = some (.int .i64 r.n) ∧ W.cell? ⟨g, off + i * 4 + 1, none⟩ = some (.int .i64 r.at_) ∧ W.cell? ⟨g, off + i * 4 + 2, none⟩ = some (.int .i64 (wtR A r.k)) ∧ W.cell? ⟨g, off + i * 4 + 3, none⟩ = some (.int .i64 r.k)) := Lib.hid (fun W hW => ⟨cell_keep h1 hW, cell_keep h2 hW, cell_keep h3 hW, cell_keep hh hW, cell_keep c0 hW, cell_keep c1 hW, cell_keep c2 hW, cell_keep c3 hW⟩)
  go_enter Try.func38, Try.ntmps38
  go_wp2_with fail
  go_region_held3 (fun W => W.cell? ⟨bf, 0, none⟩ = some (.func (.func 36) #[] #[.pointer (some ⟨bs, 0, none⟩)]) ∧ W.cell? ⟨bh, 0, none⟩ = some (.pointer (some ⟨gh, 0, none⟩)) ∧ W.cell? ⟨bs, 0, none⟩ = some (.int .i64 s) ∧ W.cell? ⟨gh, 6, none⟩ = some (.slice (some ⟨g, off, none⟩) n cap) ∧ W.cell? ⟨g, off + i * 4, none⟩ = some (.int .i64 r.n) ∧ W.cell? ⟨g, off + i * 4 + 1, none⟩ = some (.int .i64 r.at_) ∧ W.cell? ⟨g, off + i * 4 + 2, none⟩ = some (.int .i64 (wtR A r.k)) ∧ W.cell? ⟨g, off + i * 4 + 3, none⟩ = some (.int .i64 r.k)) (first | (go_keep; done) | exact HSS.out _ (Below.drew (Below.refl _ _)) | exact HSS.out _ hk6) (first | (refine (HC.out _ (by assumption)).mono ?_; rintro e w5 ⟨rfl, hk5⟩; have hk6 : Below w.heap.size w w5 := Below.trans (Below.drew (Below.refl _ _)) hk5) | (go_at_call 36; refine (HC.out _ (by assumption)).mono ?_; rintro e w5 ⟨rfl, hk5⟩; have hk6 : Below w.heap.size w w5 := Below.trans (Below.drew (Below.refl _ _)) hk5))
  all_goals
    go_wp2_with fail
    go_ret
    exact ⟨rfl, hk6⟩

theorem gpFarFg_any (A : Int) (r : GW) (s : Int) (bs : Nat) (w : World) (h : w.cell? ⟨bs, 0, none⟩ = some (.int .i64 s)) : Calls Try.prog 33 #[(r.val A), .pointer (some ⟨bs, 0, none⟩)] w fun e w' => e = .returned (.bool (decide (s < r.n))) ∧ Below w.heap.size w w' := by
  obtain ⟨rs, rt, kk⟩ := r
  simp only [GW.val]
  generalize wtR A kk = rp
  have hX := at4_new 69 w _ (.int .i64 rs) (.int .i64 rt) (.int .i64 rp) (.int .i64 kk) rfl
  have hb : Below w.heap.size w (w.alloc (.cells #[.int .i64 rs, .int .i64 rt, .int .i64 rp, .int .i64 kk] 69)) := (Below.refl _ _).alloc (Nat.le_refl _) _
  have h2 := cell_keep h hb
  go_enter Try.func33, Try.ntmps33
  go_upto_region 1 with fail
  generalize (w.alloc (.cells #[.int .i64 rs, .int .i64 rt, .int .i64 rp, .int .i64 kk] 69)) = w2 at hX hb h2 ⊢
  generalize hg : w.heap.size = g at hX hb ⊢
  have HG := Lib.hid hg
  clear hg
  obtain ⟨_, _, _, _⟩ := hX.cells
  go_wp2_with fail
  go_ret
  exact ⟨by simp, by rw [HG.out]; exact hb⟩
set_option maxRecDepth 100000 in
set_option maxHeartbeats 3200000 in
theorem gpFirst1Fg_any (A : Int) (r : GW) (s : Int) (l : List GW) (i gh bf bh bs cap : Nat) (a : Option Addr) (w : World) (hi : l[i]? = some r) (hl : l.length ≤ 65535)
    (hh : w.cell? ⟨gh, 6, none⟩ = some (.slice a l.length cap)) (hr : RdG w A a l) (h1 : w.cell? ⟨bf, 0, none⟩ = some (.func (.func 33) #[] #[.pointer (some ⟨bs, 0, none⟩)])) (h2 : w.cell? ⟨bh, 0, none⟩ = some (.pointer (some ⟨gh, 0, none⟩))) (h3 : w.cell? ⟨bs, 0, none⟩ = some (.int .i64 s)) :
    Calls Try.prog 38 #[.int .i64 i, .pointer (some ⟨bf, 0, none⟩), .pointer (some ⟨bh, 0, none⟩)] w fun e w' => e = .returned (.bool (decide (s < r.n))) ∧ Below w.heap.size w w' := by
  have hil : i < l.length := (List.getElem?_eq_some_iff.1 hi).1
  obtain ⟨g, off, rfl, c0, c1, c2, c3⟩ := hr i r hi
  have HC := Lib.hid (fun W (h : W.cell? ⟨bs, 0, none⟩ = some (.int .i64 s)) => gpFarFg_any A r s bs W h)
  simp only [GW.val] at HC
  generalize hd : decide (s < r.n) = d at HC ⊢
  clear hd hi hr
  generalize l.length = n at *
  have HSS : Hid (∀ W : World, Below w.heap.size w W → W.cell? ⟨bf, 0, none⟩ = some (.func (.func 33) #[] #[.pointer (some ⟨bs, 0, none⟩)]) ∧ W.cell? ⟨bh, 0, none⟩ = some (.pointer (some ⟨gh, 0, none⟩)) ∧ W.cell? ⟨bs, 0, none⟩ = some (.int .i64 s) ∧ W.cell? ⟨gh, 6, none⟩ = some (.slice (some ⟨g, off, none⟩) n cap) ∧ W.cell? ⟨g, off + i * 4, none⟩ = some (.int .i64 r.n) ∧ W.cell? ⟨g, off + i * 4 + 1, none⟩ = some (.int .i64 r.at_) ∧ W.cell? ⟨g, off + i * 4 + 2, none⟩ = some (.int .i64 (wtR A r.k)) ∧ W.cell? ⟨g, off + i * 4 + 3, none⟩ = some (.int .i64 r.k)) := Lib.hid (fun W hW => ⟨cell_keep h1 hW, cell_keep h2 hW, cell_keep h3 hW, cell_keep hh hW, cell_keep c0 hW, cell_keep c1 hW, cell_keep c2 hW, cell_keep c3 hW⟩)
  go_enter Try.func38, Try.ntmps38
  go_wp2_with fail
  go_region_held3 (fun W => W.cell? ⟨bf, 0, none⟩ = some (.func (.func 33) #[] #[.pointer (some ⟨bs, 0, none⟩)]) ∧ W.cell? ⟨bh, 0, none⟩ = some (.pointer (some ⟨gh, 0, none⟩)) ∧ W.cell? ⟨bs, 0, none⟩ = some (.int .i64 s) ∧ W.cell? ⟨gh, 6, none⟩ = some (.slice (some ⟨g, off, none⟩) n cap) ∧ W.cell? ⟨g, off + i * 4, none⟩ = some (.int .i64 r.n) ∧ W.cell? ⟨g, off + i * 4 + 1, none⟩ = some (.int .i64 r.at_) ∧ W.cell? ⟨g, off + i * 4 + 2, none⟩ = some (.int .i64 (wtR A r.k)) ∧ W.cell? ⟨g, off + i * 4 + 3, none⟩ = some (.int .i64 r.k)) (first | (go_keep; done) | exact HSS.out _ (Below.drew (Below.refl _ _)) | exact HSS.out _ hk6) (first | (refine (HC.out _ (by assumption)).mono ?_; rintro e w5 ⟨rfl, hk5⟩; have hk6 : Below w.heap.size w w5 := Below.trans (Below.drew (Below.refl _ _)) hk5) | (go_at_call 33; refine (HC.out _ (by assumption)).mono ?_; rintro e w5 ⟨rfl, hk5⟩; have hk6 : Below w.heap.size w w5 := Below.trans (Below.drew (Below.refl _ _)) hk5))
  all_goals
    go_wp2_with fail
    go_ret
    exact ⟨rfl, hk6⟩

set_option maxRecDepth 100000 in
set_option maxHeartbeats 3200000 in
theorem gpFirstPl_any (A : Int) (s : Int) (l : List GW) (gh bs cap : Nat) (a : Option Addr) (w : World) (hu : GpUp l) (hl : l.length ≤ 65535)
    (hh : w.cell? ⟨gh, 6, none⟩ = some (.slice a l.length cap)) (hr : RdG w A a l) (h3 : w.cell? ⟨bs, 0, none⟩ = some (.int .i64 s)) :
    Calls Try.prog 32 #[.pointer (some ⟨gh, 0, none⟩), .func (.func 36) #[] #[.pointer (some ⟨bs, 0, none⟩)]] w fun e w' => e = .returned (.int .i64 (gpPos s l)) ∧ Below w.heap.size w w' := by
  obtain ⟨W0, hW0⟩ : ∃ W0, W0 = (w.alloc (.cells #[.pointer (some ⟨gh, 0, none⟩)] 26)).alloc (.cells #[.func (.func 36) #[] #[.pointer (some ⟨bs, 0, none⟩)]] 73) := ⟨_, rfl⟩
  have hb0 : Below w.heap.size w W0 := by rw [hW0]; exact ((Below.refl _ _).alloc (Nat.le_refl _) _).alloc (by simp) _
  have c1 : W0.cell? ⟨w.heap.size, 0, none⟩ = some (.pointer (some ⟨gh, 0, none⟩)) := by
    rw [hW0]
    refine cell_keep ?_ ((Below.refl _ _).alloc (Nat.le_refl _) _)
    rw [cell_of_row _ w.heap.size 0 _ _ (0, 0) (heap_alloc_new w _)]
    rfl
  have c2 : W0.cell? ⟨w.heap.size + 1, 0, none⟩ = some (.func (.func 36) #[] #[.pointer (some ⟨bs, 0, none⟩)]) := by
    rw [hW0]
    have e : w.heap.size + 1 = (w.alloc (.cells #[.pointer (some ⟨gh, 0, none⟩)] 26)).heap.size := by simp
    rw [e, cell_of_row _ _ 0 _ _ (0, 0) (heap_alloc_new _ _)]
    rfl
  have hS := Lib.hid (gpSearch_any (w.heap.size + 1) w.heap.size l.length (gpPos s l) (fun i => match l[i]? with | some r => decide (s ≤ r.n) | none => true) W0 (by omega) (gpPos_le s l)
    (fun i hi => by
      obtain ⟨r, hr⟩ : ∃ r, l[i]? = some r := ⟨_, List.getElem?_eq_getElem (by have := gpPos_le s l; omega)⟩
      have := gpPos_lt s l i r hr hi
      simp only [hr, decide_eq_false_iff_not]
      omega)
    (fun i hi hn => by
      obtain ⟨r, hr⟩ : ∃ r, l[i]? = some r := ⟨_, List.getElem?_eq_getElem hn⟩
      have := gpPos_ge hu s i r hr hi
      simp only [hr, decide_eq_true_eq]
      omega)
    (fun i W hi hb => by
      obtain ⟨r, hri⟩ : ∃ r, l[i]? = some r := ⟨_, List.getElem?_eq_getElem hi⟩
      have hb2 := hb0.trans (hb.mono hb0.size)
      have := gpFirst1Pl_any A r s l i gh (w.heap.size + 1) w.heap.size bs cap a W hri hl (cell_keep hh hb2) (hr.later hb2) (cell_keep c2 hb) (cell_keep c1 hb) (cell_keep h3 hb2)
      simp only [hri]
      exact this))
  have hh0 := cell_keep hh hb0
  generalize hgb : w.heap.size = gb at *
  clear hr h3 hh hu
  generalize gpPos s l = k at *
  go_enter Try.func32, Try.ntmps32
  go_upto_region 1 with fail
  rw [← hW0]
  clear hW0
  go_wp2_with fail
  refine hS.out.mono ?_
  rintro e w3 ⟨rfl, hk3⟩
  go_wp2_with fail
  go_ret
  exact ⟨rfl, hb0.trans (hk3.mono (by have := hb0.size; omega))⟩

set_option maxRecDepth 100000 in
set_option maxHeartbeats 3200000 in
theorem gpFirstFg_any (A : Int) (s : Int) (l : List GW) (gh bs cap : Nat) (a : Option Addr) (w : World) (hu : GpUp l) (hl : l.length ≤ 65535)
    (hh : w.cell? ⟨gh, 6, none⟩ = some (.slice a l.length cap)) (hr : RdG w A a l) (h3 : w.cell? ⟨bs, 0, none⟩ = some (.int .i64 s)) :
    Calls Try.prog 32 #[.pointer (some ⟨gh, 0, none⟩), .func (.func 33) #[] #[.pointer (some ⟨bs, 0, none⟩)]] w fun e w' => e = .returned (.int .i64 (gpPas s l)) ∧ Below w.heap.size w w' := by
  obtain ⟨W0, hW0⟩ : ∃ W0, W0 = (w.alloc (.cells #[.pointer (some ⟨gh, 0, none⟩)] 26)).alloc (.cells #[.func (.func 33) #[] #[.pointer (some ⟨bs, 0, none⟩)]] 73) := ⟨_, rfl⟩
  have hb0 : Below w.heap.size w W0 := by rw [hW0]; exact ((Below.refl _ _).alloc (Nat.le_refl _) _).alloc (by simp) _
  have c1 : W0.cell? ⟨w.heap.size, 0, none⟩ = some (.pointer (some ⟨gh, 0, none⟩)) := by
    rw [hW0]
    refine cell_keep ?_ ((Below.refl _ _).alloc (Nat.le_refl _) _)
    rw [cell_of_row _ w.heap.size 0 _ _ (0, 0) (heap_alloc_new w _)]
    rfl
  have c2 : W0.cell? ⟨w.heap.size + 1, 0, none⟩ = some (.func (.func 33) #[] #[.pointer (some ⟨bs, 0, none⟩)]) := by
    rw [hW0]
    have e : w.heap.size + 1 = (w.alloc (.cells #[.pointer (some ⟨gh, 0, none⟩)] 26)).heap.size := by simp
    rw [e, cell_of_row _ _ 0 _ _ (0, 0) (heap_alloc_new _ _)]
    rfl
  have hS := Lib.hid (gpSearch_any (w.heap.size + 1) w.heap.size l.length (gpPas s l) (fun i => match l[i]? with | some r => decide (s < r.n) | none => true) W0 (by omega) (gpPas_le s l)
    (fun i hi => by
      obtain ⟨r, hr⟩ : ∃ r, l[i]? = some r := ⟨_, List.getElem?_eq_getElem (by have := gpPas_le s l; omega)⟩
      have := gpPas_lt s l i r hr hi
      simp only [hr, decide_eq_false_iff_not]
      omega)
    (fun i hi hn => by
      obtain ⟨r, hr⟩ : ∃ r, l[i]? = some r := ⟨_, List.getElem?_eq_getElem hn⟩
      have := gpPas_ge hu s i r hr hi
      simp only [hr, decide_eq_true_eq]
      omega)
    (fun i W hi hb => by
      obtain ⟨r, hri⟩ : ∃ r, l[i]? = some r := ⟨_, List.getElem?_eq_getElem hi⟩
      have hb2 := hb0.trans (hb.mono hb0.size)
      have := gpFirst1Fg_any A r s l i gh (w.heap.size + 1) w.heap.size bs cap a W hri hl (cell_keep hh hb2) (hr.later hb2) (cell_keep c2 hb) (cell_keep c1 hb) (cell_keep h3 hb2)
      simp only [hri]
      exact this))
  have hh0 := cell_keep hh hb0
  generalize hgb : w.heap.size = gb at *
  clear hr h3 hh hu
  generalize gpPas s l = k at *
  go_enter Try.func32, Try.ntmps32
  go_upto_region 1 with fail
  rw [← hW0]
  clear hW0
  go_wp2_with fail
  refine hS.out.mono ?_
  rintro e w3 ⟨rfl, hk3⟩
  go_wp2_with fail
  go_ret
  exact ⟨rfl, hb0.trans (hk3.mono (by have := hb0.size; omega))⟩

end Go.Proofs.Ytdbmhgfdcdcgfaa
