/- queue: Pop. -/
import Derived.Test.YtgmggilnhkdceaaQuB
import Derived.Lib.SliceRun
namespace Go.Proofs.Ytgmggilnhkdceaa
open Go.RowKit
set_option linter.unusedVariables false
set_option linter.unusedSimpArgs false
theorem quPop0_any {w : World} {base gq : Nat} {m b : Int} {v : Value} (h : QIn w base gq m b v []) : Calls Try.prog 43 #[.pointer (some ⟨gq, 0, none⟩)] w fun e w' => e = .returned (.tuple #[.string ByteArray.empty, .bool false]) ∧ w' = w := by
  have HF := Lib.hid (quFront0_q h)
  clear h
  go_enter Try.func43, Try.ntmps43
  go_wp2_with fail
  refine HF.out.mono ?_
  rintro e w2 ⟨rfl, rfl⟩
  go_wp2_with fail
  go_ret2
  exact ⟨rfl, rfl⟩
theorem quClear (b o c : Nat) (w : World) (hc : (w.cell? ⟨b, o, none⟩).isSome = true) (hf : w.frozen? ⟨b, o, none⟩ = false) (ty : TypeId) : (Builtin.clear_ #[85] ty #[.slice (some ⟨b, o, none⟩) 1 c]).run Try.prog w = .ok (.tuple #[]) (w.setCell ⟨b, o, none⟩ (.string ByteArray.empty)) := by
  refine Lib.run_clear_slice (P := Try.prog) w 85 71 ty (.string ByteArray.empty) Try.underlying85 (fun w => by kernel_rfl) rfl rfl b o 1 c (by decide) ?_ ?_
  · intro j hj
    obtain rfl : j = 0 := by omega
    exact hc
  · intro j hj
    obtain rfl : j = 0 := by omega
    exact hf
/-- What is left behind the first element, which is cleared. -/
theorem tail_cell {W : World} {base : Nat} {g off cap n : Nat} {x : Value} {xs : List Value} (u : Value) (h : OwnAt W base 1 (.slice (some ⟨g, off, none⟩) (n + 1) cap) (n + 1) (x :: xs)) :
    base ≤ g ∧ g < W.heap.size ∧ n + 1 ≤ cap ∧ cap ≤ maxLen ∧ xs.length = n ∧ (∀ j, j < cap → ((W.setCell ⟨g, off, none⟩ u).cell? ⟨g, off + j, none⟩).isSome = true ∧ (W.setCell ⟨g, off, none⟩ u).frozen? ⟨g, off + j, none⟩ = false) ∧ (∀ j y, xs[j]? = some y → (W.setCell ⟨g, off, none⟩ u).cell? ⟨g, off + 1 + j, none⟩ = some y) := by
  have hl := h.1
  rcases h.2 with ⟨e, _⟩ | ⟨g', off', cap', e, q1, q2, q3, q4, q5, q6⟩
  · cases e
  · simp only [Value.slice.injEq, Option.some.injEq, Addr.mk.injEq, true_and, and_true] at e
    obtain ⟨⟨rfl, rfl⟩, rfl⟩ := e
    refine ⟨q1, q2, q3, q4, by simpa using hl, fun j hj => ?_, fun j y hy => ?_⟩
    · have := q5 j (by omega)
      refine ⟨?_, ?_⟩
      · exact World.isSome_setCells g [u] off W _ this.1
      · have e := World.frozen?_setCells g [u] off W ⟨g, off + j, none⟩
        exact e.trans this.2
    · have := q6 (j + 1) y (by simpa using hy)
      have e := World.cell?_setCells_out g [u] off W ⟨g, off + 1 + j, none⟩ (fun _ _ => Or.inr (by show off + 1 ≤ off + 1 + j; omega))
      refine e.trans ?_
      rw [show off + 1 + j = off + (j + 1) by omega]
      exact this
theorem tail_own0 {W : World} {base : Nat} {g off : Nat} {x : Value} (u : Value) (h : OwnE W base 71 1 (.slice (some ⟨g, off, none⟩) 1 1) 1 [x]) : OwnE (W.setCell ⟨g, off, none⟩ u) base 71 1 (.slice (some ⟨g, off, none⟩) 0 0) 0 [] := by
  obtain ⟨q1, q2, q3, q4, q5, q6, q7⟩ := tail_cell u (n := 0) h.1
  have ho := (Only.refl g W).setCell off u
  refine ⟨⟨rfl, .inr ⟨g, off, 0, rfl, q1, by rw [ho.size]; exact q2, Nat.le_refl _, Nat.zero_le _, fun j hj => by omega, fun j y hy => by simp at hy⟩⟩, fun k hk => ?_⟩
  cases hk
  obtain ⟨cs, hcs⟩ := h.2 g rfl
  exact ⟨_, block_setCell hcs⟩
theorem tail_own1 {W : World} {base : Nat} {g off cap n : Nat} {x : Value} {xs : List Value} (u : Value) (h : OwnE W base 71 1 (.slice (some ⟨g, off, none⟩) (n + 1) (cap + 1)) (n + 1) (x :: xs)) : OwnE (W.setCell ⟨g, off, none⟩ u) base 71 1 (.slice (some ⟨g, off + 1, none⟩) n cap) n xs := by
  obtain ⟨q1, q2, q3, q4, q5, q6, q7⟩ := tail_cell u h.1
  have ho := (Only.refl g W).setCell off u
  refine ⟨⟨by omega, .inr ⟨g, off + 1, cap, rfl, q1, by rw [ho.size]; exact q2, by omega, by omega, fun j hj => ?_, fun j y hy => q7 j y hy⟩⟩, fun k hk => ?_⟩
  · rw [show off + 1 + j = off + (j + 1) by omega]
    exact q6 (j + 1) (by omega)
  · cases hk
    obtain ⟨cs, hcs⟩ := h.2 g rfl
    exact ⟨_, block_setCell hcs⟩
theorem KeptQ.drew {a b : World} (h : KeptQ a b) : KeptQ a b.drew := ⟨h.size, h.block⟩
theorem at4s_set2 {T : TypeId} {W : World} {g : Nat} {c0 c1 c2 c3 : Value} (h : At4 T W g c0 c1 c2 c3) (u : Value) : At4 T (W.setCell ⟨g, 2, none⟩ u) g c0 c1 u c3 := block_setCell h
theorem at4s_set3 {T : TypeId} {W : World} {g : Nat} {c0 c1 c2 c3 : Value} (h : At4 T W g c0 c1 c2 c3) (u : Value) : At4 T (W.setCell ⟨g, 3, none⟩ u) g c0 c1 c2 u := block_setCell h
set_option maxRecDepth 100000 in
set_option maxHeartbeats 1600000 in
theorem quPop1_z {w : World} {base gq : Nat} {m b : Int} {s : ByteArray} {l : List ByteArray} {g off cap : Nat} (h : QIn w base gq m b (.slice (some ⟨g, off, none⟩) 1 1) (s :: [])) : Calls Try.prog 43 #[.pointer (some ⟨gq, 0, none⟩)] w fun e w' => e = .returned (.tuple #[.string s, .bool true]) ∧ (∃ v', QIn w' base gq m b v' []) ∧ Below base w w' ∧ KeptQ w w' := by
  have HF := Lib.hid (quFront1_q h)
  have HSz := Lib.hid (fun W => quSize_any s W)
  obtain ⟨g', off', cap', e, h1, h2, h3⟩ := h.head
  simp only [Value.slice.injEq, Option.some.injEq, Addr.mk.injEq, true_and, and_true, List.length_nil, Nat.zero_add] at e
  obtain ⟨⟨rfl, rfl⟩, rfl⟩ := e
  have hcl := fun ty => quClear g off 1 w (by rw [h2]; rfl) h3 ty
  obtain ⟨_, _, _, _⟩ := h.at4.cells
  obtain ⟨_, _, _, _⟩ := h.at4.frees
  have hgg : gq ≠ g := fun e => h.apart (by rw [e]; rfl)
  have hbg : base ≤ g := (h.own.1.lt g rfl).1
  have hbq := h.bs
  have HO := Lib.hid (tail_own0 (.string ByteArray.empty) h.own)
  have HT0 := Lib.hid h.own.2
  have HX := h.at4
  have HL := Lib.hid h.len
  have HTt := Lib.hid h.tot
  have hsz : quTot (s :: []) = s.size + quTot [] := quTot_cons _ _
  have hnn := quTot_nn []
  have hbd := h.tot
  have hbc := quC_bd b
  have HS := Lib.hid hsz
  rw [hsz] at HX hbd
  have hw : IntKind.i64.wrap (s.size + quTot [] - s.size) = quTot [] := by rw [show (s.size : Int) + quTot [] - s.size = quTot [] by omega]; exact IntWalk.i64_in _ ⟨by omega, by omega⟩
  have HP : Hid (∀ (W : World) (v' : Value), At4 119 W gq (.int .i64 m) (.int .i64 b) v' (.int .i64 (quTot [])) → OwnE W base 71 1 v' ([]).length (quV []) → QIn W base gq m b v' []) := Lib.hid (fun W v' x y => ⟨hbq, x, y, by have := HL.out; simp only [List.length_cons] at this; omega, by have := HTt.out; rw [hsz] at this; omega⟩)
  obtain ⟨_, _, _, _⟩ := HX.cells
  clear h h2 hsz hnn hbd hbc HL HTt HS
  generalize quTot [] = tt at HX hw HP
  go_enter Try.func43, Try.ntmps43
  go_wp2_with fail
  refine HF.out.mono ?_
  rintro e w2 ⟨rfl, rfl⟩
  clear HF
  go_upto_region 4 with fail
  have ho3 := (Only.refl g w2).setCell off (.string ByteArray.empty)
  have hX3 := HX.only hgg ho3
  have hO3 := HO.out
  have hb3 : Below base w2 (w2.setCell ⟨g, off, none⟩ (.string ByteArray.empty)) := ho3.below hbg
  have hk3 : KeptQ w2 (w2.setCell ⟨g, off, none⟩ (.string ByteArray.empty)) := keptQ_row (row := some g) HT0.out (only_grown ho3)
  generalize w2.setCell ⟨g, off, none⟩ (.string ByteArray.empty) = w3 at hX3 hO3 hb3 hk3 ⊢
  clear ho3 HO hcl HX h3 HT0
  obtain ⟨_, _, _, _⟩ := hX3.cells
  obtain ⟨_, _, _, _⟩ := hX3.frees
  go_upto_region 5 with fail
  have ho4 := (Only.refl gq w3).setCell 2 (.slice (some ⟨g, off, none⟩) 0 0)
  have hX4 := at4s_set2 hX3 (.slice (some ⟨g, off, none⟩) 0 0)
  have hO4 : OwnE (w3.setCell ⟨gq, 2, none⟩ (.slice (some ⟨g, off, none⟩) 0 0)) base 71 1 (.slice (some ⟨g, off, none⟩) 0 0) 0 (quV []) := hO3.keep (by rw [ho4.size]; exact Nat.le_refl _) (fun k cs hk _ => ho4.block k (fun e => hgg (by cases hk; exact e.symm)))
  have hb4 := hb3.trans (ho4.below hbq)
  have hk4 := hk3.trans (keptQ_only hX3 ho4)
  generalize w3.setCell ⟨gq, 2, none⟩ (.slice (some ⟨g, off, none⟩) 0 0) = w4 at hX4 hO4 hb4 hk4 ⊢
  clear ho4 hX3 hO3 hb3 hk3
  obtain ⟨_, _, _, _⟩ := hX4.cells
  obtain ⟨_, _, _, _⟩ := hX4.frees
  go_region_with (first | (go_at_call 70; refine (HSz.out _).mono ?_; rintro e w' ⟨rfl, hq⟩; subst hq))
  all_goals
    have ho5 := (Only.refl gq w4).setCell 3 (.int .i64 tt)
    have hX5 := at4s_set3 hX4 (.int .i64 tt)
    have hO5 : OwnE (w4.setCell ⟨gq, 3, none⟩ (.int .i64 tt)) base 71 1 (.slice (some ⟨g, off, none⟩) 0 0) 0 (quV []) := hO4.keep (by rw [ho5.size]; exact Nat.le_refl _) (fun k cs hk _ => ho5.block k (fun e => hgg (by cases hk; exact e.symm)))
    go_wp2_with fail
    go_ret2
    exact ⟨rfl, ⟨_, HP.out _ _ hX5 hO5⟩, (hb4.trans (ho5.below hbq)).drew, (hk4.trans (keptQ_only hX4 ho5)).drew⟩
set_option maxRecDepth 100000 in
set_option maxHeartbeats 1600000 in
theorem quPop1_s {w : World} {base gq : Nat} {m b : Int} {s : ByteArray} {l : List ByteArray} {g off cap : Nat} (hcz : ¬cap = 0) (h : QIn w base gq m b (.slice (some ⟨g, off, none⟩) (l.length + 1) (cap + 1)) (s :: l)) : Calls Try.prog 43 #[.pointer (some ⟨gq, 0, none⟩)] w fun e w' => e = .returned (.tuple #[.string s, .bool true]) ∧ (∃ v', QIn w' base gq m b v' l) ∧ Below base w w' ∧ KeptQ w w' := by
  have HF := Lib.hid (quFront1_q h)
  have HSz := Lib.hid (fun W => quSize_any s W)
  obtain ⟨g', off', cap', e, h1, h2, h3⟩ := h.head
  simp only [Value.slice.injEq, Option.some.injEq, Addr.mk.injEq, true_and, and_true, List.length_nil, Nat.zero_add] at e
  obtain ⟨⟨rfl, rfl⟩, rfl⟩ := e
  have hcl := fun ty => quClear g off (cap + 1) w (by rw [h2]; rfl) h3 ty
  obtain ⟨_, _, _, _⟩ := h.at4.cells
  obtain ⟨_, _, _, _⟩ := h.at4.frees
  have hgg : gq ≠ g := fun e => h.apart (by rw [e]; rfl)
  have hbg : base ≤ g := (h.own.1.lt g rfl).1
  have hbq := h.bs
  have HO := Lib.hid (tail_own1 (.string ByteArray.empty) h.own)
  have HT0 := Lib.hid h.own.2
  have HX := h.at4
  have HL := Lib.hid h.len
  have HTt := Lib.hid h.tot
  have hsz : quTot (s :: l) = s.size + quTot l := quTot_cons _ _
  have hnn := quTot_nn l
  have hbd := h.tot
  have hbc := quC_bd b
  have HS := Lib.hid hsz
  rw [hsz] at HX hbd
  have hw : IntKind.i64.wrap (s.size + quTot l - s.size) = quTot l := by rw [show (s.size : Int) + quTot l - s.size = quTot l by omega]; exact IntWalk.i64_in _ ⟨by omega, by omega⟩
  have HP : Hid (∀ (W : World) (v' : Value), At4 119 W gq (.int .i64 m) (.int .i64 b) v' (.int .i64 (quTot l)) → OwnE W base 71 1 v' (l).length (quV l) → QIn W base gq m b v' l) := Lib.hid (fun W v' x y => ⟨hbq, x, y, by have := HL.out; simp only [List.length_cons] at this; omega, by have := HTt.out; rw [hsz] at this; omega⟩)
  obtain ⟨_, _, _, _⟩ := HX.cells
  clear h h2 hsz hnn hbd hbc HL HTt HS
  generalize quTot l = tt at HX hw HP
  go_enter Try.func43, Try.ntmps43
  go_wp2_with fail
  refine HF.out.mono ?_
  rintro e w2 ⟨rfl, rfl⟩
  clear HF
  go_upto_region 4 with fail
  have ho3 := (Only.refl g w2).setCell off (.string ByteArray.empty)
  have hX3 := HX.only hgg ho3
  have hO3 := HO.out
  have hb3 : Below base w2 (w2.setCell ⟨g, off, none⟩ (.string ByteArray.empty)) := ho3.below hbg
  have hk3 : KeptQ w2 (w2.setCell ⟨g, off, none⟩ (.string ByteArray.empty)) := keptQ_row (row := some g) HT0.out (only_grown ho3)
  generalize w2.setCell ⟨g, off, none⟩ (.string ByteArray.empty) = w3 at hX3 hO3 hb3 hk3 ⊢
  clear ho3 HO hcl HX h3 HT0
  obtain ⟨_, _, _, _⟩ := hX3.cells
  obtain ⟨_, _, _, _⟩ := hX3.frees
  go_upto_region 5 with fail
  have ho4 := (Only.refl gq w3).setCell 2 (.slice (some ⟨g, off + 1, none⟩) l.length cap)
  have hX4 := at4s_set2 hX3 (.slice (some ⟨g, off + 1, none⟩) l.length cap)
  have hO4 : OwnE (w3.setCell ⟨gq, 2, none⟩ (.slice (some ⟨g, off + 1, none⟩) l.length cap)) base 71 1 (.slice (some ⟨g, off + 1, none⟩) l.length cap) l.length (quV l) := hO3.keep (by rw [ho4.size]; exact Nat.le_refl _) (fun k cs hk _ => ho4.block k (fun e => hgg (by cases hk; exact e.symm)))
  have hb4 := hb3.trans (ho4.below hbq)
  have hk4 := hk3.trans (keptQ_only hX3 ho4)
  generalize w3.setCell ⟨gq, 2, none⟩ (.slice (some ⟨g, off + 1, none⟩) l.length cap) = w4 at hX4 hO4 hb4 hk4 ⊢
  clear ho4 hX3 hO3 hb3 hk3
  obtain ⟨_, _, _, _⟩ := hX4.cells
  obtain ⟨_, _, _, _⟩ := hX4.frees
  go_region_with (first | (go_at_call 70; refine (HSz.out _).mono ?_; rintro e w' ⟨rfl, hq⟩; subst hq))
  all_goals
    have ho5 := (Only.refl gq w4).setCell 3 (.int .i64 tt)
    have hX5 := at4s_set3 hX4 (.int .i64 tt)
    have hO5 : OwnE (w4.setCell ⟨gq, 3, none⟩ (.int .i64 tt)) base 71 1 (.slice (some ⟨g, off + 1, none⟩) l.length cap) l.length (quV l) := hO4.keep (by rw [ho5.size]; exact Nat.le_refl _) (fun k cs hk _ => ho5.block k (fun e => hgg (by cases hk; exact e.symm)))
    go_wp2_with fail
    go_ret2
    exact ⟨rfl, ⟨_, HP.out _ _ hX5 hO5⟩, (hb4.trans (ho5.below hbq)).drew, (hk4.trans (keptQ_only hX4 ho5)).drew⟩
theorem quPop1_any {w : World} {base gq : Nat} {m b : Int} {v : Value} {s : ByteArray} {l : List ByteArray} (h : QIn w base gq m b v (s :: l)) : Calls Try.prog 43 #[.pointer (some ⟨gq, 0, none⟩)] w fun e w' => e = .returned (.tuple #[.string s, .bool true]) ∧ (∃ v', QIn w' base gq m b v' l) ∧ Below base w w' ∧ KeptQ w w' := by
  obtain ⟨g, off, cap, rfl, h1, _, _⟩ := h.head
  obtain ⟨c, rfl⟩ : ∃ c, cap = c + 1 := ⟨cap - 1, by omega⟩
  by_cases hc : c = 0
  · subst hc
    obtain rfl : l = [] := List.eq_nil_of_length_eq_zero (by omega)
    exact quPop1_z (l := []) (cap := 0) h
  · exact quPop1_s hc h
end Go.Proofs.Ytgmggilnhkdceaa
