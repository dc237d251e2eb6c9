/- slices.Insert of one element. -/
import Derived.Test.YtilobmebfeenfaaCpG
import Derived.Deep.RegionLaw
namespace Go.Proofs.Ytilobmebfeenfaa
open Go.RowKit Go.Lib Go.Shelf
set_option linter.unusedVariables false
set_option linter.unusedSimpArgs false
theorem tbInsInfo : (Try.prog.info? 70).map (fun i => (i.zero, i.size, i.bytes)) = some (some (Value.agg #[.int .i64 0, .bool false, .int .i64 0]), 3, 24) := by kernel_rfl
theorem tbInsSize : (Try.prog.info? 70).map (·.size) = some 3 := by kernel_rfl
theorem tbInsSz (w : World) : (Go.sizeOf 70).run Try.prog w = .ok 3 w := by kernel_rfl
/-- What is known of a slice of the call's own that isn't nil. -/
theorem tbInsParts {w : World} {base b off n cap : Nat} {xs : List Value} {e : TypeId} (h : OwnE w base e 3 (.slice (some ⟨b, off, none⟩) n cap) n xs) :
    xs.length = n * 3 ∧ base ≤ b ∧ b < w.heap.size ∧ n ≤ cap ∧ cap ≤ maxLen ∧ (∀ j, j < cap * 3 → (w.cell? ⟨b, off + j, none⟩).isSome = true ∧ w.frozen? ⟨b, off + j, none⟩ = false) ∧ (∀ j u, xs[j]? = some u → w.cell? ⟨b, off + j, none⟩ = some u) ∧ ∃ cs, w.heap[b]? = some (.cells cs e (0, 0)) := by
  have hl := h.1.1
  rcases h.1.2 with ⟨e, _⟩ | ⟨g, o, c, e, q1, q2, q3, q4, q5, q6⟩
  · cases e
  · cases e
    exact ⟨hl, q1, q2, q3, q4, q5, q6, h.2 b rfl⟩
set_option maxRecDepth 100000 in
set_option maxHeartbeats 4000000 in
/-- There is room, ahead of an element: in place. -/
theorem tbInsShift {w : World} {base b off n cap : Nat} {xs : List Value}
    (h : OwnE w base 70 3 (.slice (some ⟨b, off, none⟩) n cap) n xs) (i vb : Nat) (X : List Value) (hX : X.length = 3) (hi : i < n) (hroom : n + 1 ≤ cap) (hv : w.heap[vb]? = some (.cells X.toArray 70 (0, 0))) (hvb : vb ≠ b) (h1c : ∀ v ∈ xs, v.oneCell' = true) (h1v : ∀ v ∈ X, v.oneCell' = true) :
    Calls Try.prog 52 #[.slice (some ⟨b, off, none⟩) n cap, .int .i64 i, .slice (some ⟨vb, 0, none⟩) 1 1] w fun e w' => e = .returned (.slice (some ⟨b, off, none⟩) (n + 1) cap) ∧ w' = (w.drew.setCells b (off + (i + 1) * 3) (xs.drop (i * 3))).setCells b (off + i * 3) X := by
  obtain ⟨hxl, hbb, hbw, hn2, hc2, hsp, hcs, cs0, hty⟩ := tbInsParts h
  have hc63 : cap ≤ 9223372036854775807 := by unfold maxLen at hc2; omega
  have hvs : ∀ j v, X[j]? = some v → w.cell? ⟨vb, 0 + j, none⟩ = some v := fun j v hj => by
    rw [Nat.zero_add, cell_of_row w vb j _ _ (0, 0) hv, List.getElem?_toArray]
    exact hj
  have hsa : w.shape? vb = some (70, 3) := by simp [World.shape?, hv, hX]
  have hcs0 : cs0.size ≠ 0 := fun h0 => by
    have h1 := (hsp 0 (by omega)).1
    rw [Nat.add_zero, cell_of_row w b off _ _ (0, 0) hty, Array.getElem?_eq_none (by omega)] at h1
    cases h1
  have hsb : w.shape? b = some (70, cs0.size) := by simp [World.shape?, hty]
  have hfa : ∀ j, w.frozen? ⟨vb, j, none⟩ = false := fun j => by simp [World.frozen?, hv]
  have hov : ∀ lb cb, (callFunc 69 #[.slice (some ⟨vb, 0, none⟩) 1 1, .slice (some ⟨b, off + (i + 1) * 3, none⟩) lb cb]).run Try.prog w = .ok (.value (.bool false)) w := fun lb cb => by
    rw [run_callFunc_extern (P := Try.prog) Try.func69 (by kernel_rfl) (by kernel_rfl) (by kernel_rfl) (e := Extern.SlicesOverlaps.overlaps #[68, 68] #[4]) (by kernel_rfl),
      Lib.run_overlaps_apart w 68 4 70 (by kernel_rfl) 3 tbInsSz ⟨vb, 0, none⟩ ⟨b, off + (i + 1) * 3, none⟩ 1 1 lb cb hvb 70 70 3 cs0.size hsa hsb hcs0 (hfa 0) (hfa 3)]
    rfl
  have hdl : (xs.drop (i * 3)).length = (n - i) * 3 := by rw [List.length_drop, hxl]; omega
  have hcp1 : ∀ ty dc sc, (Builtin.copy_ #[68, 68] ty #[.slice (some ⟨b, off + (i + 1) * 3, none⟩) (n + 1 - (i + 1)) dc, .slice (some ⟨b, off + i * 3, none⟩) (n + 1 - i) sc]).run Try.prog w.drew = .ok (goInt (Nat.min (n + 1 - i) (n + 1 - (i + 1)))) (w.drew.setCells b (off + (i + 1) * 3) (xs.drop (i * 3))) := fun ty dc sc =>
    run_copyG w.drew _ _ ty 70 3 b (off + (i + 1) * 3) (n + 1 - (i + 1)) dc ⟨b, off + i * 3, none⟩ (n + 1 - i) sc (xs.drop (i * 3)) (by kernel_rfl) tbInsSize (by rw [hdl]; simp only [Nat.min_def]; split <;> omega)
      (fun j v hj => by rw [Addr.add_lit, Nat.add_assoc]; exact hcs (i * 3 + j) v (by rwa [List.getElem?_drop] at hj))
      (fun j hj => by rw [Nat.add_assoc]; exact (hsp _ (by omega)).1) (fun j hj => by rw [Nat.add_assoc]; exact (hsp _ (by omega)).2) (fun v hv => h1c v (List.mem_of_mem_drop hv))
  obtain ⟨W1, hW1⟩ : ∃ W1, W1 = w.drew.setCells b (off + (i + 1) * 3) (xs.drop (i * 3)) := ⟨_, rfl⟩
  have hsp1 : ∀ k, k < (n + 1) * 3 → (W1.cell? ⟨b, off + k, none⟩).isSome = true := fun k hk => by
    rw [hW1]
    exact isSome_setCells b _ _ _ (fun j hj => by rw [Nat.add_assoc]; exact (hsp _ (by omega)).1) _ (hsp k (by omega)).1
  have hcp2 : ∀ (W : World), (∀ x, W.cell? x = W1.cell? x) → (∀ x, W.frozen? x = W1.frozen? x) → ∀ ty dc, (Builtin.copy_ #[68, 68] ty #[.slice (some ⟨b, off + i * 3, none⟩) (n + 1 - i) dc, .slice (some ⟨vb, 0, none⟩) 1 1]).run Try.prog W = .ok (goInt (Nat.min 1 (n + 1 - i))) (W.setCells b (off + i * 3) X) := fun W hWc hWf ty dc =>
    run_copyG W _ _ ty 70 3 b (off + i * 3) (n + 1 - i) dc ⟨vb, 0, none⟩ 1 1 X (by kernel_rfl) tbInsSize (by simp only [Nat.min_def, hX]; split <;> omega)
      (fun j v hj => by
        rw [Addr.add_lit, hWc, hW1, World.cell?_setCells_out b _ _ _ _ (fun h _ => absurd h hvb)]
        exact hvs j v hj)
      (fun j hj => by rw [hWc, Nat.add_assoc]; exact hsp1 _ (by omega)) (fun j hj => by rw [hWf, hW1, World.frozen?_setCells, Nat.add_assoc]; exact (hsp _ (by omega)).2) (h1v)
  rw [← hW1] at hcp1
  have mixed : Try.prog.follows .mixedOrders = true := by kernel_rfl
  have hw1 : IntKind.i64.wrap ((i : Int) + 1) = (i : Int) + 1 := by rw [IntKind.wrap_i64]; omega
  have hw2 : IntKind.i64.wrap ((n : Int) + 1) = (n : Int) + 1 := by rw [IntKind.wrap_i64]; omega
  have hz2 : ¬ ((i : Int) = (n : Int)) := by omega
  have hb1 : (0 : Int) ≤ (i : Int) + 1 := by omega
  have hin : i ≤ n := by omega
  have htn : ((i : Int) + 1).toNat = i + 1 := by omega
  have hb2 : ¬ (cap = i + 1) := by omega
  have hb3 : (i : Int) ≤ (n : Int) + 1 := by omega
  have hb4 : ¬ (cap = i) := by omega
  have HC1 := Lib.hid hcp1
  have HC2 := Lib.hid hcp2
  have HW1 := Lib.hid hW1
  clear hcp1 hcp2 hW1 hsp1 hdl hxl hsp hcs hsa hsb hcs0 hfa hvs h hv hty h1c
  have hc2 := HC2.out W1 (fun _ => rfl) (fun _ => rfl) 3 (cap - i)
  go_enter Try.func52, Try.ntmps52
  go_wp2_with (simp only [hov])
  go_region_law (refine step_copy_runI rfl _ _ 68 68 rfl (.slice (some ⟨b, off + (i + 1) * 3, none⟩) (n + 1 - (i + 1)) (cap - (i + 1))) (.slice (some ⟨b, off + i * 3, none⟩) (n + 1 - i) (cap - i)) (by simp [Act.eval, Act.put]) (by simp [Act.eval, Act.put]) (HC1.out 3 (cap - (i + 1)) (cap - i)) ?_)
  go_wp2
  go_ret
  first | exact ⟨rfl, rfl⟩ | exact ⟨rfl, by rw [HW1.out]⟩
set_option maxRecDepth 100000 in
set_option maxHeartbeats 4000000 in
/-- No room, ahead of an element: a new array. -/
theorem tbInsGrow {w : World} {base b off n cap : Nat} {xs : List Value}
    (h : OwnE w base 70 3 (.slice (some ⟨b, off, none⟩) n cap) n xs) (i vb : Nat) (X : List Value) (hX : X.length = 3) (hi : i < n) (hroom : cap < n + 1) (hn : n ≤ 1000000) (hv : w.heap[vb]? = some (.cells X.toArray 70 (0, 0))) (h1c : ∀ v ∈ xs, v.oneCell' = true) (h1v : ∀ v ∈ X, v.oneCell' = true) :
    Calls Try.prog 52 #[.slice (some ⟨b, off, none⟩) n cap, .int .i64 i, .slice (some ⟨vb, 0, none⟩) 1 1] w fun e w' => ∃ G, n + 1 ≤ G ∧ G ≤ maxLen ∧ e = .returned (.slice (some ⟨w.heap.size, 0, none⟩) (n + 1) G) ∧
      w' = (((w.alloc (.cells ((xs.take (i * 3)).toArray ++ Builtin.zeroCells (Value.agg #[.int .i64 0, .bool false, .int .i64 0]).cells (n + 1 - i) ++ Builtin.zeroCells (Value.agg #[.int .i64 0, .bool false, .int .i64 0]).cells (G - (n + 1))) 70)).drew.setCells w.heap.size (i * 3) X).drew).setCells w.heap.size ((i + 1) * 3) (xs.drop (i * 3)) := by
  obtain ⟨hxl, hbb, hbw, hn2, hc2, hsp, hcs, cs0, hty⟩ := tbInsParts h
  obtain ⟨i0, hi0, hz0, hzs, hzb⟩ := info_parts tbInsInfo
  have hvw : vb < w.heap.size := lt_of_block hv
  have hvs : ∀ j v, X[j]? = some v → w.cell? ⟨vb, 0 + j, none⟩ = some v := fun j v hj => by
    rw [Nat.zero_add, cell_of_row w vb j _ _ (0, 0) hv, List.getElem?_toArray]
    exact hj
  have hkk : (n : Int) + 1 - (i : Int) = ((n + 1 - i : Nat) : Int) := by omega
  have hik : i + (n + 1 - i) = n + 1 := by omega
  have hold : (Builtin.firstCells i0.size i (.slice (some ⟨b, off, none⟩) i cap)).run Try.prog w.drew = .ok (xs.take (i * 3)).toArray w.drew := by
    rw [hzs]
    exact run_firstCells_some w.drew 3 i ⟨b, off, none⟩ i cap (xs.take (i * 3)) (by rw [List.length_take]; omega) (fun j v hj => by
      rw [Addr.add_lit]
      rw [List.getElem?_take] at hj
      split at hj
      · exact hcs j v hj
      · cases hj)
  obtain ⟨G, hG⟩ : ∃ G, G = grownCap w (n + 1) cap 70 := ⟨_, rfl⟩
  have hrz : ∀ ty, (Builtin.append_ #[68, 3] ty #[.slice (some ⟨b, off, none⟩) i cap, .int .i64 ((n : Int) + 1 - (i : Int))]).run Try.prog w =
      .ok (.slice (some ⟨w.heap.size, 0, none⟩) (n + 1) G) (w.drew.alloc (.cells ((xs.take (i * 3)).toArray ++ Builtin.zeroCells (Value.agg #[.int .i64 0, .bool false, .int .i64 0]).cells (n + 1 - i) ++ Builtin.zeroCells (Value.agg #[.int .i64 0, .bool false, .int .i64 0]).cells (G - (n + 1))) 70)) := fun ty => by
    have h := Lib.run_append_grow_zeros (P := Try.prog) w 68 3 ty 70 i0 _ .i64 .i64 (by kernel_rfl) (by kernel_rfl) hi0 hz0 (some ⟨b, off, none⟩) i cap (xs.take (i * 3)) hold (n + 1 - i) (by omega) (by omega) (by omega) (by omega) (by rw [hzb]; omega) (by rw [hzb, hik]; exact growslice_fits hroom (by omega))
    rw [hik, ← hG] at h
    rw [hkk]
    exact h
  obtain ⟨ROW, hROW⟩ : ∃ ROW : Array Value, ROW = (xs.take (i * 3)).toArray ++ Builtin.zeroCells (Value.agg #[.int .i64 0, .bool false, .int .i64 0]).cells (n + 1 - i) ++ Builtin.zeroCells (Value.agg #[.int .i64 0, .bool false, .int .i64 0]).cells (G - (n + 1)) := ⟨_, rfl⟩
  have hGn : n + 1 ≤ G := by rw [hG]; exact grownCap_ge w _ _ _
  have hGm : G ≤ maxLen := by rw [hG]; exact grownCap_le_maxLen w (n + 1) cap 70 (by unfold maxLen; omega)
  have hG63 : G ≤ 9223372036854775807 := by unfold maxLen at hGm; omega
  have hFIN : ∀ e w', (e = Ending.returned (.slice (some ⟨w.heap.size, 0, none⟩) (n + 1) G) ∧ w' = (((w.alloc (.cells ROW 70)).drew.setCells w.heap.size (i * 3) X).drew).setCells w.heap.size ((i + 1) * 3) (xs.drop (i * 3))) → ∃ G, n + 1 ≤ G ∧ G ≤ maxLen ∧ e = Ending.returned (.slice (some ⟨w.heap.size, 0, none⟩) (n + 1) G) ∧
      w' = (((w.alloc (.cells ((xs.take (i * 3)).toArray ++ Builtin.zeroCells (Value.agg #[.int .i64 0, .bool false, .int .i64 0]).cells (n + 1 - i) ++ Builtin.zeroCells (Value.agg #[.int .i64 0, .bool false, .int .i64 0]).cells (G - (n + 1))) 70)).drew.setCells w.heap.size (i * 3) X).drew).setCells w.heap.size ((i + 1) * 3) (xs.drop (i * 3)) := fun e w' hh => ⟨G, hGn, hGm, hh.1, by rw [← hROW]; exact hh.2⟩
  refine Calls.mono ?_ hFIN
  rw [← hROW] at hrz
  have hRl : (n + 1) * 3 ≤ ROW.size := by
    rw [hROW]
    simp only [Array.size_append, size_zeroCells, List.size_toArray, List.length_take, hxl, Value.cells]
    simp
    omega
  clear hFIN hG
  obtain ⟨W1, hW1⟩ : ∃ W1, W1 = w.drew.alloc (.cells ROW 70) := ⟨_, rfl⟩
  rw [← hW1] at hrz
  have hN : ∀ j, j < (n + 1) * 3 → (W1.cell? ⟨w.heap.size, j, none⟩).isSome = true := fun j hj => by
    rw [hW1, World.cell?_alloc_at (w := w.drew) ROW _ w.heap.size j rfl, Array.getElem?_eq_getElem (by omega)]; rfl
  have hNf : ∀ j, W1.frozen? ⟨w.heap.size, j, none⟩ = false := fun j => by rw [hW1]; exact World.frozen?_alloc_at (w := w.drew) ROW _ w.heap.size j rfl
  have hOb : ∀ j v, w.cell? ⟨b, j, none⟩ = some v → W1.cell? ⟨b, j, none⟩ = some v := fun j v h => by rw [hW1, World.cell?_alloc_past (w := w.drew) _ b j hbw]; exact h
  have hOv : ∀ j v, w.cell? ⟨vb, j, none⟩ = some v → W1.cell? ⟨vb, j, none⟩ = some v := fun j v h => by rw [hW1, World.cell?_alloc_past (w := w.drew) _ vb j hvw]; exact h
  have hcpA : ∀ (W : World), (∀ x, W.cell? x = W1.cell? x) → (∀ x, W.frozen? x = W1.frozen? x) → ∀ ty dc, (Builtin.copy_ #[68, 68] ty #[.slice (some ⟨w.heap.size, i * 3, none⟩) (n + 1 - i) dc, .slice (some ⟨vb, 0, none⟩) 1 1]).run Try.prog W = .ok (goInt (Nat.min 1 (n + 1 - i))) (W.setCells w.heap.size (i * 3) X) := fun W hWc hWf ty dc =>
    run_copyG W _ _ ty 70 3 w.heap.size (i * 3) (n + 1 - i) dc ⟨vb, 0, none⟩ 1 1 X (by kernel_rfl) tbInsSize (by simp only [Nat.min_def, hX]; split <;> omega)
      (fun j v hj => by rw [Addr.add_lit, hWc]; exact hOv _ v (hvs j v hj))
      (fun j hj => by rw [hWc]; exact hN _ (by omega)) (fun j hj => by rw [hWf]; exact hNf _) (h1v)
  have hbN : b ≠ w.heap.size := by omega
  have hdl : (xs.drop (i * 3)).length = (n - i) * 3 := by rw [List.length_drop, hxl]; omega
  have hcpB : ∀ (W : World), (∀ y, W.cell? y = (W1.setCells w.heap.size (i * 3) X).cell? y) → (∀ y, W.frozen? y = (W1.setCells w.heap.size (i * 3) X).frozen? y) → ∀ ty dc sc, (Builtin.copy_ #[68, 68] ty #[.slice (some ⟨w.heap.size, (i + 1) * 3, none⟩) (n + 1 - (i + 1)) dc, .slice (some ⟨b, off + i * 3, none⟩) (n - i) sc]).run Try.prog W = .ok (goInt (Nat.min (n - i) (n + 1 - (i + 1)))) (W.setCells w.heap.size ((i + 1) * 3) (xs.drop (i * 3))) := fun W hWc hWf ty dc sc =>
    run_copyG W _ _ ty 70 3 w.heap.size ((i + 1) * 3) (n + 1 - (i + 1)) dc ⟨b, off + i * 3, none⟩ (n - i) sc (xs.drop (i * 3)) (by kernel_rfl) tbInsSize (by rw [hdl]; simp only [Nat.min_def]; split <;> omega)
      (fun j v hj => by
        rw [Addr.add_lit, hWc, World.cell?_setCells_out _ _ _ _ _ (fun h _ => absurd h hbN), Nat.add_assoc]
        exact hOb _ v (hcs (i * 3 + j) v (by rwa [List.getElem?_drop] at hj)))
      (fun j hj => by rw [hWc]; exact isSome_setCells _ _ _ _ (fun t ht => hN _ (by omega)) _ (hN _ (by omega)))
      (fun j hj => by rw [hWf, World.frozen?_setCells]; exact hNf _) (fun v hv => h1c v (List.mem_of_mem_drop hv))
  subst hW1
  have hE1 : ∀ y, ((w.alloc (.cells ROW 70)).drew).cell? y = (w.drew.alloc (.cells ROW 70)).cell? y := fun y => rfl
  have hE2 : ∀ y, ((w.alloc (.cells ROW 70)).drew).frozen? y = (w.drew.alloc (.cells ROW 70)).frozen? y := fun y => rfl
  have hF1 : ∀ y, (((w.alloc (.cells ROW 70)).drew.setCells w.heap.size (i * 3) X).drew).cell? y = ((w.drew.alloc (.cells ROW 70)).setCells w.heap.size (i * 3) X).cell? y := fun y => rfl
  have hF2 : ∀ y, (((w.alloc (.cells ROW 70)).drew.setCells w.heap.size (i * 3) X).drew).frozen? y = ((w.drew.alloc (.cells ROW 70)).setCells w.heap.size (i * 3) X).frozen? y := fun y => rfl
  have mixed : Try.prog.follows .mixedOrders = true := by kernel_rfl
  have hz2 : ¬ ((i : Int) = (n : Int)) := by omega
  have hz3 : (cap : Int) < (n : Int) + 1 := by omega
  have hw1 : IntKind.i64.wrap ((i : Int) + 1) = (i : Int) + 1 := by rw [IntKind.wrap_i64]; omega
  have hw2 : IntKind.i64.wrap ((n : Int) + 1) = (n : Int) + 1 := by rw [IntKind.wrap_i64]; omega
  have hw3 : IntKind.i64.wrap ((n : Int) + 1 - (i : Int)) = (n : Int) + 1 - (i : Int) := by rw [IntKind.wrap_i64]; omega
  have hb1 : (0 : Int) ≤ (i : Int) + 1 := by omega
  have hin : i ≤ n := by omega
  have htn : ((i : Int) + 1).toNat = i + 1 := by omega
  have hb3 : (i : Int) ≤ (n : Int) := by omega
  have hGi : ¬ (G = i) := by omega
  have hGim : ¬ (G = i + 1) := by omega
  have hci : ¬ (cap = i) := by omega
  have HRZ := Lib.hid hrz
  have HCA := Lib.hid hcpA
  have HCB := Lib.hid hcpB
  clear hkk hik hold hROW hRl hrz hcpA hcpB hN hNf hOb hOv hvs hdl hxl hsp hcs h hv hty h1c hbb
  have hca := HCA.out ((w.alloc (.cells ROW 70)).drew) hE1 hE2 3 (G - i)
  go_enter Try.func52, Try.ntmps52
  go_wp2_with (first
    | (at_builtin; refine Lib.wpList_append_run _ rfl _ _ _ _ rfl _ _ rfl rfl _ _ (HRZ.out _) ?_)
    | (at_builtin; refine wpList_copy_runI _ rfl _ _ 68 68 rfl _ _ rfl rfl (HCA.out _ hE1 hE2 _ _) ?_))
  go_region_law (refine step_copy_runI rfl _ _ 68 68 rfl (.slice (some ⟨w.heap.size, (i + 1) * 3, none⟩) (n + 1 - (i + 1)) (G - (i + 1))) (.slice (some ⟨b, off + i * 3, none⟩) (n - i) (cap - i)) (by simp [Act.eval, Act.put]) (by simp [Act.eval, Act.put]) (HCB.out _ hF1 hF2 3 (G - (i + 1)) (cap - i)) ?_)
  go_wp2
  go_ret
  exact ⟨rfl, rfl⟩
end Go.Proofs.Ytilobmebfeenfaa
