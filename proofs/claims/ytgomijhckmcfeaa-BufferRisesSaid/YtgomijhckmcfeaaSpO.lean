/- split: the document's New. -/
import Derived.Test.YtgomijhckmcfeaaSpN
import Derived.Test.YtgomijhckmcfeaaSpBkM
namespace Go.Proofs.Ytgomijhckmcfeaa
open Go.RowKit
set_option linter.unusedVariables false
set_option linter.unusedSimpArgs false
open splitBack
def txV (P : List (Option ByteArray)) : List Value := P.map (fun o => .string (o.getD ByteArray.empty))
theorem txV_no (N : Nat) : txV (spNo N) = List.replicate N (.string ByteArray.empty) := by simp [txV, spNo]
theorem spMadeBool2 (n : Nat) : (madeCells #[Value.bool false] n).toList = List.replicate n (Value.bool false) := by
  unfold madeCells
  apply List.ext_getElem?
  intro i
  by_cases h : i < n
  · simp [h, Nat.mod_one]
  · rw [List.getElem?_eq_none (by simp; omega), List.getElem?_eq_none (by simp; omega)]
theorem spMadeTexts (n : Nat) : (madeCells #[Value.string ByteArray.empty] n).toList = List.replicate n (Value.string ByteArray.empty) := by
  unfold madeCells
  apply List.ext_getElem?
  intro i
  by_cases h : i < n
  · simp [h, Nat.mod_one]
  · rw [List.getElem?_eq_none (by simp; omega), List.getElem?_eq_none (by simp; omega)]
theorem spInfoBool2 : (Try.prog.info? 4).map (fun i => (i.zero, i.size, i.bytes)) = some (some (.bool false), 1, 1) := by kernel_rfl
theorem spK_alt (n : Int) : max 1 (min n 255) = (spK n : Int) := by unfold spK; omega
theorem spNewEnd {T : TypeId} {w w2 : World} {g0 : Nat} {a b c d : Value} (a' b' c' d' : Value) (hX : AtS T w2 g0 #[a, b, c, d]) (hal : Below g0 w w2) : ∃ w5, (((w2.setCell ⟨g0, 0, none⟩ a').setCell ⟨g0, 1, none⟩ b').setCell ⟨g0, 2, none⟩ c').setCell ⟨g0, 3, none⟩ d' = w5 ∧ AtS T w5 g0 #[a', b', c', d'] ∧ Below g0 w w5 ∧ w5.heap.size = w2.heap.size := by
  have h0 : AtS T (w2.setCell ⟨g0, 0, none⟩ a') g0 #[a', b, c, d] := block_setCell hX
  have h1 : AtS T ((w2.setCell ⟨g0, 0, none⟩ a').setCell ⟨g0, 1, none⟩ b') g0 #[a', b', c, d] := block_setCell h0
  have h2 : AtS T (((w2.setCell ⟨g0, 0, none⟩ a').setCell ⟨g0, 1, none⟩ b').setCell ⟨g0, 2, none⟩ c') g0 #[a', b', c', d] := block_setCell h1
  have h3 : AtS T ((((w2.setCell ⟨g0, 0, none⟩ a').setCell ⟨g0, 1, none⟩ b').setCell ⟨g0, 2, none⟩ c').setCell ⟨g0, 3, none⟩ d') g0 #[a', b', c', d'] := block_setCell h2
  refine ⟨_, rfl, h3, (((hal.setCell (Nat.le_refl _) _).setCell (Nat.le_refl _) _).setCell (Nat.le_refl _) _).setCell (Nat.le_refl _) _, by simp⟩
/-- Two rows made one behind the other. -/
theorem spTwoRows (w5 : World) (cs cs' : Array Value) (e e' : TypeId) (K : Nat) (hm : K ≤ maxLen) (hc : cs.size = K) (hc' : cs'.size = K) :
    OwnE ((w5.alloc (.cells cs e)).alloc (.cells cs' e')).drew 0 e 1 (.slice (some ⟨w5.heap.size, 0, none⟩) K K) K cs.toList ∧ OwnE ((w5.alloc (.cells cs e)).alloc (.cells cs' e')).drew 0 e' 1 (.slice (some ⟨w5.heap.size + 1, 0, none⟩) K K) K cs'.toList := by
  have hal : Below (w5.alloc (.cells cs e)).heap.size (w5.alloc (.cells cs e)) ((w5.alloc (.cells cs e)).alloc (.cells cs' e')).drew := ((Below.refl _ _).alloc (Nat.le_refl _) _).drew
  refine ⟨(ownE_of (World.ownsRow_lit w5 cs K (Nat.zero_le _) hm (by omega))).later hal, ?_⟩
  have h2 : OwnE ((w5.alloc (.cells cs e)).alloc (.cells cs' e')) 0 e' 1 (.slice (some ⟨(w5.alloc (.cells cs e)).heap.size, 0, none⟩) K K) K cs'.toList := ownE_of (World.ownsRow_lit (w5.alloc (.cells cs e)) cs' K (Nat.zero_le _) hm (by omega))
  rw [World.size_alloc] at h2
  exact h2.later ((Below.refl _ _).drew)
set_option maxRecDepth 100000 in
set_option maxHeartbeats 1600000 in
theorem refSpNew_any (t cnt now : Int) (w : World) : Calls Try.prog 56 #[.int .i64 t, .int .i64 cnt, .int .i64 now] w fun e w' => ∃ hv pv, e = .returned (.agg #[.int .i64 t, .int .i64 now, hv, pv]) ∧ OwnE w' 0 4 1 hv (spK cnt) (hadV (spNo (spK cnt))) ∧ OwnE w' 0 9 1 pv (spK cnt) (txV (spNo (spK cnt))) ∧ Below w.heap.size w w' := by
  have hK := spK_bd cnt
  have hKa := spK_alt cnt
  generalize spK cnt = K at *
  have hX := atS_new 87 w w.heap.size #[.int .i64 0, .int .i64 0, .slice none 0 0, .slice none 0 0] rfl
  have hal : Below w.heap.size w (w.alloc (.cells #[.int .i64 0, .int .i64 0, .slice none 0 0, .slice none 0 0] 87)) := (Below.refl _ _).alloc (Nat.le_refl _) _
  go_enter Try.func56, Try.ntmps56
  go_upto_region 2 with fail
  generalize (w.alloc (.cells #[.int .i64 0, .int .i64 0, .slice none 0 0, .slice none 0 0] 87)) = w2 at *
  generalize hg0 : w.heap.size = g0 at *
  have HG := Lib.hid hg0
  clear hg0
  obtain ⟨ib, hib, hbz0, hbz1, hbz2⟩ := info_parts spInfoBool2
  obtain ⟨it, hit, htz0, htz1, htz2⟩ := info_parts infoSp
  obtain ⟨O1, hO1⟩ : ∃ O : Obj, O = Obj.cells (List.replicate K (Value.bool false)).toArray 4 := ⟨_, rfl⟩
  obtain ⟨O2, hO2⟩ : ∃ O : Obj, O = Obj.cells (List.replicate K (Value.string ByteArray.empty)).toArray 9 := ⟨_, rfl⟩
  have hm1 : ∀ W : World, (Instr.makeSlice 84 (.int .i64 K) (.int .i64 K)).run Try.prog W = .ok (.slice (some ⟨W.heap.size, 0, none⟩) K K) (W.alloc O1) := fun W => by
    have h := run_make (P := Try.prog) (w := W) 84 4 ib (.bool false) Try.underlying84 hib hbz0 .i64 .i64 K K (by omega) (by omega) (by rw [hbz2]; omega) (by omega)
    rw [hbz1, Nat.mul_one, Int.toNat_natCast] at h
    rw [h, hO1, ← spMadeBool2]
    rfl
  have hm2 : ∀ W : World, (Instr.makeSlice 85 (.int .i64 K) (.int .i64 K)).run Try.prog W = .ok (.slice (some ⟨W.heap.size, 0, none⟩) K K) (W.alloc O2) := fun W => by
    have h := run_make (P := Try.prog) (w := W) 85 9 it (.string ByteArray.empty) Try.underlying85 hit htz0 .i64 .i64 K K (by omega) (by omega) (by rw [htz2]; omega) (by omega)
    rw [htz1, Nat.mul_one, Int.toNat_natCast] at h
    rw [h, hO2, ← spMadeTexts]
    rfl
  have hg0 := hX.lt
  have hc0 : w2.cell? ⟨g0, 0, none⟩ = some (.int .i64 0) := hX.cell 0
  have hc1 : w2.cell? ⟨g0, 1, none⟩ = some (.int .i64 0) := hX.cell 1
  have hc2 : w2.cell? ⟨g0, 2, none⟩ = some (.slice none 0 0) := hX.cell 2
  have hc3 : w2.cell? ⟨g0, 3, none⟩ = some (.slice none 0 0) := hX.cell 3
  have hf0 := hX.free 0
  have hf1 := hX.free 1
  have hf2 := hX.free 2
  have hf3 := hX.free 3
  replace hO1 := Lib.hid hO1
  replace hO2 := Lib.hid hO2
  go_region
  · obtain ⟨w5, e5, hA5, hB5, hs5⟩ := spNewEnd (.int .i64 t) (.int .i64 now) (.slice (some ⟨w2.heap.size, 0, none⟩) K K) (.slice (some ⟨w2.heap.size + 1, 0, none⟩) K K) hX hal
    rw [e5]
    replace hO1 := hO1.out
    replace hO2 := hO2.out
    subst hO1 hO2
    have hT := spTwoRows w5 (List.replicate K (Value.bool false)).toArray (List.replicate K (Value.string ByteArray.empty)).toArray 4 9 K (Nat.le_trans hK.2 (by decide)) (by simp) (by simp)
    rw [hs5] at hT
    have hZ : AtS 87 ((w5.alloc (Obj.cells (List.replicate K (Value.bool false)).toArray 4)).alloc (Obj.cells (List.replicate K (Value.string ByteArray.empty)).toArray 9)).drew g0 #[.int .i64 t, .int .i64 now, .slice (some ⟨w2.heap.size, 0, none⟩) K K, .slice (some ⟨w2.heap.size + 1, 0, none⟩) K K] := hA5.later (((Below.refl _ _).alloc (Nat.le_refl _) _).alloc (by rw [World.size_alloc]; exact Nat.le_succ _) _).drew
    have hbz : Below g0 w ((w5.alloc (Obj.cells (List.replicate K (Value.bool false)).toArray 4)).alloc (Obj.cells (List.replicate K (Value.string ByteArray.empty)).toArray 9)).drew := ((hB5.alloc (by omega) _).alloc (by rw [World.size_alloc]; omega) _).drew
    generalize ((w5.alloc (Obj.cells (List.replicate K (Value.bool false)).toArray 4)).alloc (Obj.cells (List.replicate K (Value.string ByteArray.empty)).toArray 9)).drew = w6 at *
    have d0 := hZ.cell 0
    have d1 := hZ.cell 1
    have d2 := hZ.cell 2
    have d3 := hZ.cell 3
    clear hm1 hm2 hc0 hc1 hc2 hc3 hf0 hf1 hf2 hf3 e5
    go_wp2_with fail
    refine bodyPost_ret (v := .agg #[.int .i64 t, .int .i64 now, .slice (some ⟨w2.heap.size, 0, none⟩) K K, .slice (some ⟨w2.heap.size + 1, 0, none⟩) K K]) (by simp [results, Try.results56, go_sem, d0, d1, d2, d3]) rfl ⟨_, _, rfl, by rw [hadV_no]; simpa using hT.1, by rw [txV_no]; simpa using hT.2, by rw [HG.out]; exact hbz⟩
  · obtain ⟨w5, e5, hA5, hB5, hs5⟩ := spNewEnd (.int .i64 t) (.int .i64 now) (.slice (some ⟨w2.heap.size + 1, 0, none⟩) K K) (.slice (some ⟨w2.heap.size, 0, none⟩) K K) hX hal
    rw [e5]
    replace hO1 := hO1.out
    replace hO2 := hO2.out
    subst hO1 hO2
    have hT := spTwoRows w5 (List.replicate K (Value.string ByteArray.empty)).toArray (List.replicate K (Value.bool false)).toArray 9 4 K (Nat.le_trans hK.2 (by decide)) (by simp) (by simp)
    rw [hs5] at hT
    have hZ : AtS 87 ((w5.alloc (Obj.cells (List.replicate K (Value.string ByteArray.empty)).toArray 9)).alloc (Obj.cells (List.replicate K (Value.bool false)).toArray 4)).drew g0 #[.int .i64 t, .int .i64 now, .slice (some ⟨w2.heap.size + 1, 0, none⟩) K K, .slice (some ⟨w2.heap.size, 0, none⟩) K K] := hA5.later (((Below.refl _ _).alloc (Nat.le_refl _) _).alloc (by rw [World.size_alloc]; exact Nat.le_succ _) _).drew
    have hbz : Below g0 w ((w5.alloc (Obj.cells (List.replicate K (Value.string ByteArray.empty)).toArray 9)).alloc (Obj.cells (List.replicate K (Value.bool false)).toArray 4)).drew := ((hB5.alloc (by omega) _).alloc (by rw [World.size_alloc]; omega) _).drew
    generalize ((w5.alloc (Obj.cells (List.replicate K (Value.string ByteArray.empty)).toArray 9)).alloc (Obj.cells (List.replicate K (Value.bool false)).toArray 4)).drew = w6 at *
    have d0 := hZ.cell 0
    have d1 := hZ.cell 1
    have d2 := hZ.cell 2
    have d3 := hZ.cell 3
    clear hm1 hm2 hc0 hc1 hc2 hc3 hf0 hf1 hf2 hf3 e5
    go_wp2_with fail
    refine bodyPost_ret (v := .agg #[.int .i64 t, .int .i64 now, .slice (some ⟨w2.heap.size + 1, 0, none⟩) K K, .slice (some ⟨w2.heap.size, 0, none⟩) K K]) (by simp [results, Try.results56, go_sem, d0, d1, d2, d3]) rfl ⟨_, _, rfl, by rw [hadV_no]; simpa using hT.2, by rw [txV_no]; simpa using hT.1, by rw [HG.out]; exact hbz⟩
end Go.Proofs.Ytgomijhckmcfeaa
