/- queue: the document's Pop; slices.Clone, All, Clone. -/
import Derived.Test.YtgmggilnhkdceaaQuH
namespace Go.Proofs.Ytgmggilnhkdceaa
open Go.RowKit
set_option linter.unusedVariables false
set_option linter.unusedSimpArgs false
set_option maxHeartbeats 1600000 in
theorem refQPop0_any {w : World} {vl : Value} (M B : Int) (hL : OwnE w 0 9 1 vl 0 (quV [])) : Calls Try.prog 63 #[.agg #[.int .i64 M, .int .i64 B, vl]] w fun e w' => e = .returned (.tuple #[.agg #[.int .i64 M, .int .i64 B, vl], .string ByteArray.empty, .bool false]) ∧ Below w.heap.size w w' := by
  obtain ⟨xa, xc, rfl, _⟩ := hL.src
  have hX0 : At3 74 ((w.alloc (.cells #[.int .i64 M, .int .i64 B, .slice xa 0 xc] 74)).alloc (.cells #[.int .i64 0, .int .i64 0, .slice none 0 0] 74)) w.heap.size (.int .i64 M) (.int .i64 B) (.slice xa 0 xc) := (at3_new 74 _ _ (.int .i64 M) (.int .i64 B) (.slice xa 0 xc) rfl).alloc _
  have hX1 : At3 74 ((w.alloc (.cells #[.int .i64 M, .int .i64 B, .slice xa 0 xc] 74)).alloc (.cells #[.int .i64 0, .int .i64 0, .slice none 0 0] 74)) (w.heap.size + 1) (.int .i64 0) (.int .i64 0) (.slice none 0 0) := at3_new 74 _ _ (.int .i64 0) (.int .i64 0) (.slice none 0 0) (by simp)
  have hb : Below w.heap.size w ((w.alloc (.cells #[.int .i64 M, .int .i64 B, .slice xa 0 xc] 74)).alloc (.cells #[.int .i64 0, .int .i64 0, .slice none 0 0] 74)) := ((Below.refl _ _).alloc (Nat.le_refl _) _).alloc (by simp) _
  go_enter Try.func63, Try.ntmps63
  go_upto_region 1 with fail
  generalize ((w.alloc (.cells #[.int .i64 M, .int .i64 B, .slice xa 0 xc] 74)).alloc (.cells #[.int .i64 0, .int .i64 0, .slice none 0 0] 74)) = w2 at hX0 hX1 hb ⊢
  generalize hg1 : w.heap.size + 1 = g1 at hX1 ⊢
  generalize hg0 : w.heap.size = g0 at hX0 hb hg1 ⊢
  have hne01 : g0 ≠ g1 := by omega
  have hle1 : g0 ≤ g1 := by omega
  have hne10 : g1 ≠ g0 := by omega
  have HG := Lib.hid hg0
  clear hg0 hg1
  obtain ⟨_, _, _⟩ := hX0.frees
  obtain ⟨_, _, _⟩ := hX0.cells
  obtain ⟨_, _, _⟩ := hX1.frees
  obtain ⟨_, _, _⟩ := hX1.cells
  go_upto_region 2 with fail
  have hZ := at3_store hX1 (.int .i64 M) (.int .i64 B) (.slice xa 0 xc)
  have hbz := hb.trans ((store3_only w2 g1 (.int .i64 M) (.int .i64 B) (.slice xa 0 xc)).below hle1)
  obtain ⟨d0, d1, d2⟩ := hZ.cells
  go_wp2_with fail
  refine bodyPost_ret (v := .tuple #[.agg #[.int .i64 M, .int .i64 B, .slice xa 0 xc], .string ⟨#[]⟩, .bool false]) (by simp [results, Try.results63, go_sem, d0, d1, d2]) rfl ⟨rfl, by rw [HG.out]; exact hbz⟩
set_option maxRecDepth 100000 in
set_option maxHeartbeats 3200000 in
theorem refQPop1_z {w : World} (M B : Int) {s : ByteArray} {l : List ByteArray} {g off cap : Nat} (hL : OwnE w 0 9 1 (.slice (some ⟨g, off, none⟩) 1 1) 1 (quV (s :: ([] : List ByteArray)))) : Calls Try.prog 63 #[.agg #[.int .i64 M, .int .i64 B, .slice (some ⟨g, off, none⟩) 1 1]] w fun e w' => ∃ v', e = .returned (.tuple #[.agg #[.int .i64 M, .int .i64 B, v'], .string s, .bool true]) ∧ OwnE w' 0 9 1 v' (([] : List ByteArray)).length (quV ([] : List ByteArray)) ∧ Below w.heap.size w w' := by
  obtain ⟨i0, hi, hz0, hz1, hz2⟩ := info_parts info_qstr
  have hX0 : At3 74 ((w.alloc (.cells #[.int .i64 M, .int .i64 B, .slice (some ⟨g, off, none⟩) 1 1] 74)).alloc (.cells #[.int .i64 0, .int .i64 0, .slice none 0 0] 74)) w.heap.size (.int .i64 M) (.int .i64 B) (.slice (some ⟨g, off, none⟩) 1 1) := (at3_new 74 _ _ (.int .i64 M) (.int .i64 B) (.slice (some ⟨g, off, none⟩) 1 1) rfl).alloc _
  have hX1 : At3 74 ((w.alloc (.cells #[.int .i64 M, .int .i64 B, .slice (some ⟨g, off, none⟩) 1 1] 74)).alloc (.cells #[.int .i64 0, .int .i64 0, .slice none 0 0] 74)) (w.heap.size + 1) (.int .i64 0) (.int .i64 0) (.slice none 0 0) := at3_new 74 _ _ (.int .i64 0) (.int .i64 0) (.slice none 0 0) (by simp)
  have hb : Below w.heap.size w ((w.alloc (.cells #[.int .i64 M, .int .i64 B, .slice (some ⟨g, off, none⟩) 1 1] 74)).alloc (.cells #[.int .i64 0, .int .i64 0, .slice none 0 0] 74)) := ((Below.refl _ _).alloc (Nat.le_refl _) _).alloc (by simp) _
  go_enter Try.func63, Try.ntmps63
  go_upto_region 1 with fail
  generalize ((w.alloc (.cells #[.int .i64 M, .int .i64 B, .slice (some ⟨g, off, none⟩) 1 1] 74)).alloc (.cells #[.int .i64 0, .int .i64 0, .slice none 0 0] 74)) = w2 at hX0 hX1 hb ⊢
  generalize hg1 : w.heap.size + 1 = g1 at hX1 ⊢
  generalize hg0 : w.heap.size = g0 at hX0 hb hg1 ⊢
  have hne01 : g0 ≠ g1 := by omega
  have hle1 : g0 ≤ g1 := by omega
  have hne10 : g1 ≠ g0 := by omega
  have HG := Lib.hid hg0
  clear hg0 hg1
  obtain ⟨_, _, _⟩ := hX0.frees
  obtain ⟨_, _, _⟩ := hX0.cells
  obtain ⟨_, _, _⟩ := hX1.frees
  obtain ⟨_, _, _⟩ := hX1.cells
  have hL2 := hL.later (show Below w.heap.size w w2 by rw [HG.out]; exact hb)
  clear hL
  have hlt2 := hX0.lt
  obtain ⟨_, _, _, e3, _, _, _, hlt3, hcc⟩ := hL2.1.cells (by omega)
  cases e3
  have hc0 := (hcc 0 (.string s) rfl).1
  rw [Nat.add_zero] at hc0
  have hal : Below w2.heap.size w2 (w2.alloc (.cells #[] 9)) := (Below.refl _ _).alloc (Nat.le_refl _) _
  have hE : OwnE (w2.alloc (.cells #[] 9)) w2.heap.size 9 1 (.slice (some ⟨w2.heap.size, 0, none⟩) 0 0) 0 [] := ownE_of (World.ownsRow_lit w2 #[] 0 (Nat.le_refl _) (Nat.zero_le _) rfl)
  have HC3 : Hid (∀ ad, some (⟨g, off, none⟩ : Addr) = some ad → ∀ j u, (quV ([] : List ByteArray))[j]? = some u → (w2.alloc (.cells #[] 9)).cell? (ad.add j) = some u) := Lib.hid (fun ad had j u hu => by
    simp [quV] at hu)
  have H13 := Lib.hid (quV_one ([] : List ByteArray))
  have HL3 := Lib.hid (quV_len ([] : List ByteArray))
  have HN3 : Hid (some (⟨g, off, none⟩ : Addr) = none → (([] : List ByteArray)).length = 0 ∧ 0 = 0) := Lib.hid (fun h => by cases h)
  clear hcc
  go_wp2_with (at_builtin; refine append_any _ rfl (.tmp 15) (.tmp 18) 72 rfl 9 i0 (.string ByteArray.empty) 16 Try.underlying72 hi hz0 hz1 hz2 rfl w2.heap.size _ 0 [] rfl hE (some ⟨g, off, none⟩) 0 0 (quV ([] : List ByteArray)) rfl HL3.out HN3.out HC3.out H13.out ?m1 ?m2 (by simp) ?_)
  intro v3 w3 hO3 hg3 _
  have hk3 : Below w2.heap.size w2 w3 := hal.grown hg3 (by simp) (fun k hk => by cases hk; exact Nat.le_refl _)
  obtain ⟨a4, c4, rfl⟩ := hO3.form
  have hO4 : OwnE w3 0 9 1 (.slice a4 0 c4) 0 (quV ([] : List ByteArray)) := by
    have := hO3.base (Nat.zero_le _)
    simpa using this
  have hX0_3 := hX0.later hk3
  have hX1_3 := hX1.later hk3
  have hb3 := hb.trans (hk3.mono (Nat.le_of_lt hlt2))
  clear hX0 hX1 hb hk3 hg3 hO3 hL2 HC3 H13 HL3 HN3 hal hE
  obtain ⟨_, _, _⟩ := hX0_3.cells
  obtain ⟨_, _, _⟩ := hX0_3.frees
  obtain ⟨_, _, _⟩ := hX1_3.cells
  obtain ⟨_, _, _⟩ := hX1_3.frees
  go_upto_region 5 with fail
  have hX0_4 := (at3_set2 hX0_3 (.slice a4 0 c4))
  have ho4 := ((Only.refl g0 w3).setCell 2 (.slice a4 0 c4))
  have hX1_4 := hX1_3.only hne10 ho4
  have hb4 := hb3.trans (ho4.below (Nat.le_refl _))
  have hO5 := hO4.onlyG (x := hX0_3) ho4 (by decide)
  generalize (w3.setCell ⟨g0, 2, none⟩ (.slice a4 0 c4)) = w4 at hX0_4 hX1_4 hb4 hO5 ⊢
  clear ho4
  obtain ⟨_, _, _⟩ := hX0_4.frees
  obtain ⟨_, _, _⟩ := hX0_4.cells
  obtain ⟨_, _, _⟩ := hX1_4.frees
  obtain ⟨_, _, _⟩ := hX1_4.cells
  have hZ := at3_store hX1_4 (.int .i64 M) (.int .i64 B) (.slice a4 0 c4)
  have hO8 := hO5.onlyG (x := hX1_4) (store3_only w4 g1 (.int .i64 M) (.int .i64 B) (.slice a4 0 c4)) (by decide)
  have hbz := hb4.trans ((store3_only w4 g1 (.int .i64 M) (.int .i64 B) (.slice a4 0 c4)).below hle1)
  obtain ⟨d0, d1, d2⟩ := hZ.cells
  go_wp2_with fail
  refine bodyPost_ret (v := .tuple #[.agg #[.int .i64 M, .int .i64 B, .slice a4 0 c4], .string s, .bool true]) (by simp [results, Try.results63, go_sem, d0, d1, d2]) rfl ⟨_, rfl, hO8, by rw [HG.out]; exact hbz⟩
set_option maxRecDepth 100000 in
set_option maxHeartbeats 3200000 in
theorem refQPop1_s {w : World} (M B : Int) {s : ByteArray} {l : List ByteArray} {g off cap : Nat} (hcz : ¬cap = 0) (hcl : l.length ≤ 1073741824) (hL : OwnE w 0 9 1 (.slice (some ⟨g, off, none⟩) (l.length + 1) (cap + 1)) (l.length + 1) (quV (s :: l))) : Calls Try.prog 63 #[.agg #[.int .i64 M, .int .i64 B, .slice (some ⟨g, off, none⟩) (l.length + 1) (cap + 1)]] w fun e w' => ∃ v', e = .returned (.tuple #[.agg #[.int .i64 M, .int .i64 B, v'], .string s, .bool true]) ∧ OwnE w' 0 9 1 v' (l).length (quV l) ∧ Below w.heap.size w w' := by
  obtain ⟨i0, hi, hz0, hz1, hz2⟩ := info_parts info_qstr
  have hX0 : At3 74 ((w.alloc (.cells #[.int .i64 M, .int .i64 B, .slice (some ⟨g, off, none⟩) (l.length + 1) (cap + 1)] 74)).alloc (.cells #[.int .i64 0, .int .i64 0, .slice none 0 0] 74)) w.heap.size (.int .i64 M) (.int .i64 B) (.slice (some ⟨g, off, none⟩) (l.length + 1) (cap + 1)) := (at3_new 74 _ _ (.int .i64 M) (.int .i64 B) (.slice (some ⟨g, off, none⟩) (l.length + 1) (cap + 1)) rfl).alloc _
  have hX1 : At3 74 ((w.alloc (.cells #[.int .i64 M, .int .i64 B, .slice (some ⟨g, off, none⟩) (l.length + 1) (cap + 1)] 74)).alloc (.cells #[.int .i64 0, .int .i64 0, .slice none 0 0] 74)) (w.heap.size + 1) (.int .i64 0) (.int .i64 0) (.slice none 0 0) := at3_new 74 _ _ (.int .i64 0) (.int .i64 0) (.slice none 0 0) (by simp)
  have hb : Below w.heap.size w ((w.alloc (.cells #[.int .i64 M, .int .i64 B, .slice (some ⟨g, off, none⟩) (l.length + 1) (cap + 1)] 74)).alloc (.cells #[.int .i64 0, .int .i64 0, .slice none 0 0] 74)) := ((Below.refl _ _).alloc (Nat.le_refl _) _).alloc (by simp) _
  go_enter Try.func63, Try.ntmps63
  go_upto_region 1 with fail
  generalize ((w.alloc (.cells #[.int .i64 M, .int .i64 B, .slice (some ⟨g, off, none⟩) (l.length + 1) (cap + 1)] 74)).alloc (.cells #[.int .i64 0, .int .i64 0, .slice none 0 0] 74)) = w2 at hX0 hX1 hb ⊢
  generalize hg1 : w.heap.size + 1 = g1 at hX1 ⊢
  generalize hg0 : w.heap.size = g0 at hX0 hb hg1 ⊢
  have hne01 : g0 ≠ g1 := by omega
  have hle1 : g0 ≤ g1 := by omega
  have hne10 : g1 ≠ g0 := by omega
  have HG := Lib.hid hg0
  clear hg0 hg1
  obtain ⟨_, _, _⟩ := hX0.frees
  obtain ⟨_, _, _⟩ := hX0.cells
  obtain ⟨_, _, _⟩ := hX1.frees
  obtain ⟨_, _, _⟩ := hX1.cells
  have hL2 := hL.later (show Below w.heap.size w w2 by rw [HG.out]; exact hb)
  clear hL
  have hlt2 := hX0.lt
  obtain ⟨_, _, _, e3, _, _, _, hlt3, hcc⟩ := hL2.1.cells (by omega)
  cases e3
  have hc0 := (hcc 0 (.string s) rfl).1
  rw [Nat.add_zero] at hc0
  have hal : Below w2.heap.size w2 (w2.alloc (.cells #[] 9)) := (Below.refl _ _).alloc (Nat.le_refl _) _
  have hE : OwnE (w2.alloc (.cells #[] 9)) w2.heap.size 9 1 (.slice (some ⟨w2.heap.size, 0, none⟩) 0 0) 0 [] := ownE_of (World.ownsRow_lit w2 #[] 0 (Nat.le_refl _) (Nat.zero_le _) rfl)
  have HC3 : Hid (∀ ad, some (⟨g, off + 1, none⟩ : Addr) = some ad → ∀ j u, (quV l)[j]? = some u → (w2.alloc (.cells #[] 9)).cell? (ad.add j) = some u) := Lib.hid (fun ad had j u hu => by
    cases had
    rw [Addr.add_lit]
    have := (hcc (j + 1) u (by simpa [quV] using hu)).1
    refine cell_later hal ?_
    rw [show off + 1 + j = off + (j + 1) by omega]
    exact this)
  have H13 := Lib.hid (quV_one l)
  have HL3 := Lib.hid (quV_len l)
  have HN3 : Hid (some (⟨g, off + 1, none⟩ : Addr) = none → (l).length = 0 ∧ cap = 0) := Lib.hid (fun h => by cases h)
  clear hcc
  go_wp2_with (at_builtin; refine append_any _ rfl (.tmp 15) (.tmp 18) 72 rfl 9 i0 (.string ByteArray.empty) 16 Try.underlying72 hi hz0 hz1 hz2 rfl w2.heap.size _ 0 [] rfl hE (some ⟨g, off + 1, none⟩) l.length cap (quV l) rfl HL3.out HN3.out HC3.out H13.out ?m1 ?m2 (by simp) ?_)
  case m1 => unfold maxLen; omega
  case m2 => omega
  intro v3 w3 hO3 hg3 _
  have hk3 : Below w2.heap.size w2 w3 := hal.grown hg3 (by simp) (fun k hk => by cases hk; exact Nat.le_refl _)
  obtain ⟨a4, c4, rfl⟩ := hO3.form
  have hO4 : OwnE w3 0 9 1 (.slice a4 l.length c4) l.length (quV l) := by
    have := hO3.base (Nat.zero_le _)
    simpa using this
  have hX0_3 := hX0.later hk3
  have hX1_3 := hX1.later hk3
  have hb3 := hb.trans (hk3.mono (Nat.le_of_lt hlt2))
  clear hX0 hX1 hb hk3 hg3 hO3 hL2 HC3 H13 HL3 HN3 hal hE
  obtain ⟨_, _, _⟩ := hX0_3.cells
  obtain ⟨_, _, _⟩ := hX0_3.frees
  obtain ⟨_, _, _⟩ := hX1_3.cells
  obtain ⟨_, _, _⟩ := hX1_3.frees
  go_upto_region 5 with fail
  have hX0_4 := (at3_set2 hX0_3 (.slice a4 l.length c4))
  have ho4 := ((Only.refl g0 w3).setCell 2 (.slice a4 l.length c4))
  have hX1_4 := hX1_3.only hne10 ho4
  have hb4 := hb3.trans (ho4.below (Nat.le_refl _))
  have hO5 := hO4.onlyG (x := hX0_3) ho4 (by decide)
  generalize (w3.setCell ⟨g0, 2, none⟩ (.slice a4 l.length c4)) = w4 at hX0_4 hX1_4 hb4 hO5 ⊢
  clear ho4
  obtain ⟨_, _, _⟩ := hX0_4.frees
  obtain ⟨_, _, _⟩ := hX0_4.cells
  obtain ⟨_, _, _⟩ := hX1_4.frees
  obtain ⟨_, _, _⟩ := hX1_4.cells
  have hZ := at3_store hX1_4 (.int .i64 M) (.int .i64 B) (.slice a4 l.length c4)
  have hO8 := hO5.onlyG (x := hX1_4) (store3_only w4 g1 (.int .i64 M) (.int .i64 B) (.slice a4 l.length c4)) (by decide)
  have hbz := hb4.trans ((store3_only w4 g1 (.int .i64 M) (.int .i64 B) (.slice a4 l.length c4)).below hle1)
  obtain ⟨d0, d1, d2⟩ := hZ.cells
  go_wp2_with fail
  refine bodyPost_ret (v := .tuple #[.agg #[.int .i64 M, .int .i64 B, .slice a4 l.length c4], .string s, .bool true]) (by simp [results, Try.results63, go_sem, d0, d1, d2]) rfl ⟨_, rfl, hO8, by rw [HG.out]; exact hbz⟩
theorem refQPop1_any {w : World} {vl : Value} (M B : Int) {s : ByteArray} {l : List ByteArray} (hl : l.length ≤ 1073741824) (hL : OwnE w 0 9 1 vl (l.length + 1) (quV (s :: l))) : Calls Try.prog 63 #[.agg #[.int .i64 M, .int .i64 B, vl]] w fun e w' => ∃ v', e = .returned (.tuple #[.agg #[.int .i64 M, .int .i64 B, v'], .string s, .bool true]) ∧ OwnE w' 0 9 1 v' l.length (quV l) ∧ Below w.heap.size w w' := by
  obtain ⟨g, off, cap, rfl, h1, _⟩ := hL.1.cells (by omega)
  obtain ⟨c, rfl⟩ : ∃ c, cap = c + 1 := ⟨cap - 1, by omega⟩
  by_cases hc : c = 0
  · subst hc
    obtain rfl : l = [] := List.eq_nil_of_length_eq_zero (by omega)
    exact refQPop1_z (l := []) (cap := 0) M B hL
  · exact refQPop1_s M B hc hl hL
set_option maxRecDepth 100000 in
set_option maxHeartbeats 1600000 in
theorem quSClone_any {w : World} {b : Nat} {v : Value} {n : Nat} {l : List ByteArray} (h : OwnE w b 71 1 v n (quV l)) (hn : n ≤ 1073741824) : Calls Try.prog 81 #[v] w fun e w' => ∃ v', e = .returned v' ∧ OwnE w' w.heap.size 71 1 v' n (quV l) ∧ Below w.heap.size w w' := by
  obtain ⟨i0, hi, hz0, hz1, hz2⟩ := info_parts info_qtext
  have hl : (quV l).length = n := by have := h.1.1; rw [Nat.mul_one] at this; exact this
  rcases h.1.2 with ⟨rfl, rfl⟩ | ⟨g, off, cap, rfl, _⟩
  · obtain rfl : l = [] := List.eq_nil_of_length_eq_zero (by rw [quV_len] at hl; exact hl)
    clear h
    have heq := fun W => Lib.run_eql_slice_nil (P := Try.prog) W 85 71 none 0 0 0 0 Try.underlying85
    go_enter Try.func81, Try.ntmps81
    go_wp2_with fail
    go_ret
    exact ⟨_, rfl, ownE_nil _ _ _ _, Below.refl _ _⟩
  · have hal : Below w.heap.size w (w.alloc (.cells #[] 71)) := (Below.refl _ _).alloc (Nat.le_refl _) _
    have hE : OwnE (w.alloc (.cells #[] 71)) w.heap.size 71 1 (.slice (some ⟨w.heap.size, 0, none⟩) 0 0) 0 [] := ownE_of (World.ownsRow_lit w #[] 0 (Nat.le_refl _) (Nat.zero_le _) rfl)
    obtain ⟨xa, xc, e, hnn, hcc, _⟩ := (h.later hal).src
    cases e
    have HC3 := Lib.hid hcc
    have HN3 := Lib.hid hnn
    have H13 := Lib.hid (quV_one l)
    have HL3 := Lib.hid hl
    clear h hcc hnn hl
    have heq := fun W => Lib.run_eql_slice_nil (P := Try.prog) W 85 71 (some ⟨g, off, none⟩) n cap 0 0 Try.underlying85
    go_enter Try.func81, Try.ntmps81
    go_wp2_with (at_builtin; refine append_any _ rfl (.tmp 5) (.tmp 6) 85 rfl 71 i0 (.string ByteArray.empty) 16 Try.underlying85 hi hz0 hz1 hz2 rfl w.heap.size _ 0 [] rfl hE (some ⟨g, off, none⟩) n cap (quV l) rfl HL3.out HN3.out HC3.out H13.out ?m1 ?m2 (by simp) ?_)
    case m1 => unfold maxLen; omega
    case m2 => omega
    intro v3 w3 hO3 hg3 _
    have hk3 : Below w.heap.size w w3 := hal.grown hg3 (by simp) (fun k hk => by cases hk; exact Nat.le_refl _)
    go_wp2_with fail
    go_ret
    exact ⟨_, rfl, by simpa using hO3, hk3⟩
theorem quAll_any {w : World} {base gq : Nat} {m b : Int} {v : Value} {l : List ByteArray} (h : QIn w base gq m b v l) : Calls Try.prog 66 #[.pointer (some ⟨gq, 0, none⟩)] w fun e w' => ∃ v', e = .returned v' ∧ OwnE w' w.heap.size 71 1 v' l.length (quV l) ∧ Below w.heap.size w w' := by
  have HC := Lib.hid (quSClone_any h.own (by have := h.len; have := quC_bd m; omega))
  obtain ⟨_, _, _, _⟩ := h.at4.cells
  clear h
  go_enter Try.func66, Try.ntmps66
  go_wp2_with fail
  refine HC.out.mono ?_
  rintro e w2 ⟨v', rfl, hO, hb⟩
  have HO := Lib.hid hO
  clear hO
  go_wp2_with fail
  go_ret
  exact ⟨_, rfl, HO.out, hb⟩
end Go.Proofs.Ytgmggilnhkdceaa
