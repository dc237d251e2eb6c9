/- share: slices.MinFunc over loads. -/
import Derived.Test.YtaiekbhpgbmalaaShD
namespace Go.Proofs.Ytaiekbhpgbmalaa
open Go.RowKit
set_option linter.unusedVariables false
/-- Loads in memory. -/
def ShIn (W : World) (g : Nat) (ls : List SL) : Prop := ∀ i x, ls[i]? = some x → W.cell? ⟨g, i * 3, none⟩ = some (.int .i64 x.p) ∧ W.cell? ⟨g, i * 3 + 1, none⟩ = some (.int .i64 x.w) ∧ W.cell? ⟨g, i * 3 + 2, none⟩ = some (.int .i64 x.c)
theorem ShIn.later {W W' : World} {g : Nat} {ls : List SL} (h : ShIn W g ls) (hb : Below W.heap.size W W') : ShIn W' g ls := fun i x hx => ⟨cell_later hb (h i x hx).1, cell_later hb (h i x hx).2.1, cell_later hb (h i x hx).2.2⟩
/-- Loads as they are: rising by their paths, and with weights and bytes that stay small. -/
structure ShOk (ls : List SL) : Prop where
  up : ls.Pairwise (fun a b => a.p < b.p)
  w0 : ∀ x ∈ ls, 1 ≤ x.w ∧ x.w ≤ 65535
  c0 : ∀ x ∈ ls, 0 ≤ x.c ∧ x.c ≤ 70368744177664
theorem ShOk.mul {ls : List SL} (h : ShOk ls) (x m : SL) (hx : x ∈ ls) (hm : m ∈ ls) : 0 ≤ x.c * m.w ∧ x.c * m.w < 9223372036854775808 := by
  obtain ⟨c0, c1⟩ := h.c0 x hx
  obtain ⟨w0, w1⟩ := h.w0 m hm
  have e0 := Int.mul_nonneg c0 (show 0 ≤ m.w by omega)
  have e1 := Int.mul_le_mul c1 w1 (by omega) (by omega)
  omega
theorem minS_at (b : SL) (ls : List SL) (k : Nat) (x : SL) (h : ls[k]? = some x) : minS b (ls.drop k) = minS (if x.c * b.w < b.c * x.w then x else b) (ls.drop (k + 1)) := by
  obtain ⟨hk, rfl⟩ := List.getElem?_eq_some_iff.1 h
  rw [List.drop_eq_getElem_cons hk]
  rfl
theorem upS_lt {ls : List SL} (h : ShOk ls) (k : Nat) (b x : SL) (hb : b ∈ ls.take k) (hx : ls[k]? = some x) : b.p < x.p := by
  obtain ⟨hk, rfl⟩ := List.getElem?_eq_some_iff.1 hx
  have hp := h.up
  rw [← List.take_append_drop k ls, List.pairwise_append] at hp
  exact hp.2.2 b hb _ (by rw [List.drop_eq_getElem_cons hk]; exact List.mem_cons_self ..)
theorem mem_take_up (ls : List SL) (k : Nat) (b : SL) (h : b ∈ ls.take k) : b ∈ ls.take (k + 1) := by
  rw [List.take_add_one]
  exact List.mem_append_left _ h
theorem mem_take_at (ls : List SL) (k : Nat) (x : SL) (h : ls[k]? = some x) : x ∈ ls.take (k + 1) := by
  rw [List.take_add_one, h]
  simp
set_option maxHeartbeats 3200000 in
theorem minFunc_any (x0 : SL) (l : List SL) (g n c : Nat) (w : World) (hn : n = (x0 :: l).length) (hl : n ≤ 1000) (hr : ShIn w g (x0 :: l)) (ho : ShOk (x0 :: l)) :
    Calls Try.prog 14 #[.slice (some ⟨g, 0, none⟩) n c, .func (.func 15) #[] #[]] w fun e w' => e = .returned (minS x0 l).val ∧ Below w.heap.size w w' := by
  have h00 := hr 0 x0 rfl
  simp only [Nat.zero_mul, Nat.zero_add] at h00
  obtain ⟨_, _, _⟩ := h00
  have hn1 : 1 ≤ n := by rw [hn]; simp
  have hZ : At3 42 ((w.alloc (.cells #[.int .i64 0, .int .i64 0, .int .i64 0] 42)).alloc (.cells #[.int .i64 x0.p, .int .i64 x0.w, .int .i64 x0.c] 42)) w.heap.size (.int .i64 0) (.int .i64 0) (.int .i64 0) := (at3_new 42 w _ _ _ _ rfl).alloc _
  have hB : At3 42 ((w.alloc (.cells #[.int .i64 0, .int .i64 0, .int .i64 0] 42)).alloc (.cells #[.int .i64 x0.p, .int .i64 x0.w, .int .i64 x0.c] 42)) (w.heap.size + 1) (.int .i64 x0.p) (.int .i64 x0.w) (.int .i64 x0.c) := at3_new 42 _ _ _ _ _ (by simp)
  have hb : Below w.heap.size w ((w.alloc (.cells #[.int .i64 0, .int .i64 0, .int .i64 0] 42)).alloc (.cells #[.int .i64 x0.p, .int .i64 x0.w, .int .i64 x0.c] 42)) := ((Below.refl _ _).alloc (Nat.le_refl _) _).alloc (by simp) _
  have hn2 : n = l.length + 1 := by rw [hn]; simp
  clear hn
  subst hn2
  have hA : Below w.heap.size w (w.alloc (.cells #[.int .i64 0, .int .i64 0, .int .i64 0] 42)) := (Below.refl _ _).alloc (Nat.le_refl _) _
  have h01 := (hr.later hA) 0 x0 rfl
  simp only [Nat.zero_mul, Nat.zero_add] at h01
  obtain ⟨_, _, _⟩ := h01
  clear hA
  go_enter Try.func14, Try.ntmps14
  go_upto_region 4 with fail
  generalize ((w.alloc (.cells #[.int .i64 0, .int .i64 0, .int .i64 0] 42)).alloc (.cells #[.int .i64 x0.p, .int .i64 x0.w, .int .i64 x0.c] 42)) = w2 at hZ hB hb ⊢
  have hre : ShIn w2 g (x0 :: l) := hr.later hb
  have HR : Hid (∀ W : World, Below w.heap.size w W → ShIn W g (x0 :: l)) := Lib.hid (fun W hW => hr.later hW)
  have HO := Lib.hid ho
  generalize hg2 : w.heap.size + 1 = g2 at hB ⊢
  generalize hg : w.heap.size = g1 at hZ hg2 hb HR ⊢
  have hne : g1 ≠ g2 := by omega
  have hlt12 : g1 < g2 := by omega
  have HG := Lib.hid hg
  clear hg hg2 hr ho hre
  obtain ⟨_, _, _⟩ := hB.cells
  obtain ⟨_, _, _⟩ := hB.frees
  go_wp2_with fail
  go_loopw [6] (fun i wr => ∃ (k : Nat) (b : SL), 1 ≤ k ∧ k ≤ l.length + 1 ∧ i = .int .i64 k ∧ b ∈ (x0 :: l).take k ∧ Hid (minS b ((x0 :: l).drop k) = minS x0 l) ∧ At3 42 wr g2 (.int .i64 b.p) (.int .i64 b.w) (.int .i64 b.c) ∧ At3 42 wr g1 (.int .i64 0) (.int .i64 0) (.int .i64 0) ∧ Below g1 w wr) (fun i _ => l.length + 1 - (intOf i).toNat)
  case atStart => exact ⟨1, x0, Nat.le_refl _, by omega, rfl, by simp, Lib.hid rfl, hB, hZ, hb⟩
  case round =>
    obtain ⟨k, b, hk1, hk, rfl, hbk, hmin, hBk, hZk, hbw⟩ := hrel
    clear hB hZ hb
    by_cases hc : k < l.length + 1
    · obtain ⟨x, hx⟩ : ∃ x, (x0 :: l)[k]? = some x := ⟨_, List.getElem?_eq_getElem (by simpa using hc)⟩
      obtain ⟨hx0, hx1, hx2⟩ := HR.out _ hbw k x hx
      obtain ⟨_, _, _⟩ := hBk.cells
      obtain ⟨_, _, _⟩ := hBk.frees
      have hbm : b ∈ x0 :: l := List.mem_of_mem_take hbk
      have hxm : x ∈ x0 :: l := List.mem_of_getElem? hx
      have HA := Lib.hid (against_any x b (HO.out.c0 x hxm).1 (HO.out.c0 b hbm).1 (HO.out.mul x b hxm hbm) (HO.out.mul b x hbm hxm))
      have HL := Lib.hid (agS_lt x b (upS_lt HO.out k b x hbk hx))
      have HM := Lib.hid (minS_at b (x0 :: l) k x hx)
      have HX := Lib.hid hx
      clear hx hbm hxm
      simp only [SL.val] at HA
      have HSS : Hid (∀ W : World, Below wr.heap.size wr W → W.cell? ⟨g, k * 3, none⟩ = some (.int .i64 x.p) ∧ W.cell? ⟨g, k * 3 + 1, none⟩ = some (.int .i64 x.w) ∧ W.cell? ⟨g, k * 3 + 2, none⟩ = some (.int .i64 x.c) ∧ W.cell? ⟨g2, 0, none⟩ = some (.int .i64 b.p) ∧ W.cell? ⟨g2, 1, none⟩ = some (.int .i64 b.w) ∧ W.cell? ⟨g2, 2, none⟩ = some (.int .i64 b.c)) := Lib.hid (fun W hW => ⟨cell_later hW hx0, cell_later hW hx1, cell_later hW hx2, (hBk.later hW).cells.1, (hBk.later hW).cells.2.1, (hBk.later hW).cells.2.2⟩)
      by_cases hlt : x.c * b.w < b.c * x.w
      · have hag : agS x b < 0 := HL.out.2 hlt
        have HM2 : Hid (minS x ((x0 :: l).drop (k + 1)) = minS x0 l) := Lib.hid (by have h := HM.out; rw [if_pos hlt] at h; rw [← h]; exact hmin.out)
        clear HL HM hlt hmin
        generalize agS x b = A at HA hag
        go_wp2_with fail
        go_region_held3 (fun W => W.cell? ⟨g, k * 3, none⟩ = some (.int .i64 x.p) ∧ W.cell? ⟨g, k * 3 + 1, none⟩ = some (.int .i64 x.w) ∧ W.cell? ⟨g, k * 3 + 2, none⟩ = some (.int .i64 x.c) ∧ W.cell? ⟨g2, 0, none⟩ = some (.int .i64 b.p) ∧ W.cell? ⟨g2, 1, none⟩ = some (.int .i64 b.w) ∧ W.cell? ⟨g2, 2, none⟩ = some (.int .i64 b.c)) (first | (go_keep; done) | exact HSS.out _ (Below.drew (Below.refl _ _)) | exact HSS.out _ hk6) (first | (go_at_call 15; refine (HA.out _).mono ?_; rintro e w5 ⟨rfl, hk5⟩; have hk6 : Below wr.heap.size wr w5 := Below.trans (Below.drew (Below.refl _ _)) hk5))
        all_goals
          have hsz : g1 ≤ wr.heap.size := Nat.le_of_lt hZk.lt
          have hb5 := hbw.trans (hk6.mono hsz)
          obtain ⟨_, _, _⟩ := HR.out _ hb5 k x HX.out
          have hB5 := hBk.later hk6
          have hZ5 := hZk.later hk6
          obtain ⟨_, _, _⟩ := hB5.cells
          obtain ⟨_, _, _⟩ := hB5.frees
          go_wp2_with fail
          go_roundw
          case rel => exact ⟨k + 1, x, by omega, by omega, by go_num, mem_take_at _ _ _ HX.out, HM2, at3_store hB5 _ _ _, hZ5.only hne (store3_only _ _ _ _ _), hb5.trans ((store3_only _ _ _ _ _).below (Nat.le_of_lt hlt12))⟩
          case measure => simp [intOf]; omega
      · have hag : ¬agS x b < 0 := fun h => hlt (HL.out.1 h)
        have HM2 : Hid (minS b ((x0 :: l).drop (k + 1)) = minS x0 l) := Lib.hid (by have h := HM.out; rw [if_neg hlt] at h; rw [← h]; exact hmin.out)
        clear HL HM hlt hmin
        generalize agS x b = A at HA hag
        go_wp2_with fail
        go_region_held3 (fun W => W.cell? ⟨g, k * 3, none⟩ = some (.int .i64 x.p) ∧ W.cell? ⟨g, k * 3 + 1, none⟩ = some (.int .i64 x.w) ∧ W.cell? ⟨g, k * 3 + 2, none⟩ = some (.int .i64 x.c) ∧ W.cell? ⟨g2, 0, none⟩ = some (.int .i64 b.p) ∧ W.cell? ⟨g2, 1, none⟩ = some (.int .i64 b.w) ∧ W.cell? ⟨g2, 2, none⟩ = some (.int .i64 b.c)) (first | (go_keep; done) | exact HSS.out _ (Below.drew (Below.refl _ _)) | exact HSS.out _ hk6) (first | (go_at_call 15; refine (HA.out _).mono ?_; rintro e w5 ⟨rfl, hk5⟩; have hk6 : Below wr.heap.size wr w5 := Below.trans (Below.drew (Below.refl _ _)) hk5))
        all_goals
          have hsz : g1 ≤ wr.heap.size := Nat.le_of_lt hZk.lt
          have hb5 := hbw.trans (hk6.mono hsz)
          obtain ⟨_, _, _⟩ := HR.out _ hb5 k x HX.out
          have hB5 := hBk.later hk6
          have hZ5 := hZk.later hk6
          obtain ⟨_, _, _⟩ := hB5.cells
          obtain ⟨_, _, _⟩ := hB5.frees
          go_wp2_with fail
          go_roundw
          case rel => exact ⟨k + 1, b, by omega, by omega, by go_num, mem_take_up _ _ _ hbk, HM2, hB5, hZ5, hb5⟩
          case measure => simp [intOf]; omega
    · obtain rfl : k = l.length + 1 := by omega
      obtain ⟨_, _, _⟩ := hBk.cells
      obtain ⟨_, _, _⟩ := hZk.frees
      obtain ⟨_, _, _⟩ := hZk.cells
      have hm := hmin.out
      rw [List.drop_eq_nil_of_le (by simp)] at hm
      have hZ9 := at3_store hZk (.int .i64 b.p) (.int .i64 b.w) (.int .i64 b.c)
      have hb9 := hbw.trans ((store3_only wr g1 (.int .i64 b.p) (.int .i64 b.w) (.int .i64 b.c)).below (Nat.le_refl _))
      obtain ⟨d0, d1, d2⟩ := hZ9.cells
      go_wp2_with fail
      refine bodyPost_ret (v := .agg #[.int .i64 b.p, .int .i64 b.w, .int .i64 b.c]) (by simp [results, Try.results14, go_sem, d0, d1, d2]) rfl ⟨by rw [← hm]; rfl, by rw [HG.out]; exact hb9⟩
end Go.Proofs.Ytaiekbhpgbmalaa
