/- split: the document's Lacks. -/
import Derived.Test.YtgomijhckmcfeaaSpO
namespace Go.Proofs.Ytgomijhckmcfeaa
open Go.RowKit
set_option linter.unusedVariables false
set_option linter.unusedSimpArgs false
open splitBack
theorem txV_len (P : List (Option ByteArray)) : (txV P).length = P.length := by simp [txV]
theorem txV_at (P : List (Option ByteArray)) (i : Nat) (o : Option ByteArray) (h : P[i]? = some o) : (txV P)[i]? = some (.string (o.getD ByteArray.empty)) := by
  unfold txV
  rw [List.getElem?_map, h]
  rfl
theorem had_cells {W : World} {b N hc : Nat} {ha : Option Addr} {P : List (Option ByteArray)} (hP : P.length = N) (h1 : 1 ≤ N) (h : OwnE W b 4 1 (.slice ha N hc) N (hadV P)) : ∃ g off, ha = some ⟨g, off, none⟩ ∧ b ≤ g ∧ g < W.heap.size ∧ (∃ cs, W.heap[g]? = some (.cells cs 4 (0, 0))) ∧ ∀ (i : Nat) (o : Option ByteArray), P[i]? = some o → W.cell? ⟨g, off + i, none⟩ = some (.bool o.isSome) ∧ W.frozen? ⟨g, off + i, none⟩ = false := by
  obtain ⟨g, off, cap, e, _, _, hb, hl, hc⟩ := h.1.cells (by omega)
  simp only [Value.slice.injEq, true_and] at e
  obtain ⟨rfl, rfl⟩ := e
  refine ⟨g, off, rfl, hb, hl, h.2 g rfl, fun i o ho => hc i _ (hadV_at P i o ho)⟩
theorem tx_cells {W : World} {b N hc : Nat} {ha : Option Addr} {P : List (Option ByteArray)} (hP : P.length = N) (h1 : 1 ≤ N) (h : OwnE W b 9 1 (.slice ha N hc) N (txV P)) : ∃ g off, ha = some ⟨g, off, none⟩ ∧ b ≤ g ∧ g < W.heap.size ∧ (∃ cs, W.heap[g]? = some (.cells cs 9 (0, 0))) ∧ ∀ (i : Nat) (o : Option ByteArray), P[i]? = some o → W.cell? ⟨g, off + i, none⟩ = some (.string (o.getD ByteArray.empty)) ∧ W.frozen? ⟨g, off + i, none⟩ = false := by
  obtain ⟨g, off, cap, e, _, _, hb, hl, hc⟩ := h.1.cells (by omega)
  simp only [Value.slice.injEq, true_and] at e
  obtain ⟨rfl, rfl⟩ := e
  refine ⟨g, off, rfl, hb, hl, h.2 g rfl, fun i o ho => hc i _ (txV_at P i o ho)⟩
set_option maxRecDepth 100000 in
set_option maxHeartbeats 1600000 in
theorem refSpLacks_any {w : World} {b N hc pc : Nat} {ha pa : Option Addr} (t now : Int) {P : List (Option ByteArray)} (hP : P.length = N) (h1 : 1 ≤ N) (h2 : N ≤ 255) (h : OwnE w b 4 1 (.slice ha N hc) N (hadV P)) :
    Calls Try.prog 53 #[.agg #[.int .i64 t, .int .i64 now, .slice ha N hc, .slice pa N pc]] w fun e w' => ∃ v, e = .returned v ∧ OwnE w' w.heap.size 3 1 v (spLk P N).length ((spLk P N).map (Value.int .i64)) ∧ Below w.heap.size w w' := by
  obtain ⟨i0, hi, hz0, hz1, hz2⟩ := info_parts info64g
  have HS := Lib.hid (fun k o (ho : P[k]? = some o) => spLk_succ P k o ho)
  have HL := Lib.hid (spLk_len P)
  have HP := Lib.hid (fun k (hk : k < N) => (⟨P[k], List.getElem?_eq_getElem (by omega)⟩ : ∃ o, P[k]? = some o))
  obtain ⟨g, off, rfl, hbg, hgl, _, hcl⟩ := had_cells hP h1 h
  have HC := Lib.hid (fun (W : World) (hW : Below w.heap.size w W) (i : Nat) (o : Option ByteArray) (ho : P[i]? = some o) => ((hW.cell hgl).trans (hcl i o ho).1 : W.cell? ⟨g, off + i, none⟩ = some (.bool o.isSome)))
  have hX := atS_new 87 w w.heap.size #[.int .i64 t, .int .i64 now, .slice (some ⟨g, off, none⟩) N hc, .slice pa N pc] rfl
  have hal : Below w.heap.size w (w.alloc (.cells #[.int .i64 t, .int .i64 now, .slice (some ⟨g, off, none⟩) N hc, .slice pa N pc] 87)) := (Below.refl _ _).alloc (Nat.le_refl _) _
  clear h hcl hP
  go_enter Try.func53, Try.ntmps53
  go_upto_region 1 with fail
  generalize (w.alloc (.cells #[.int .i64 t, .int .i64 now, .slice (some ⟨g, off, none⟩) N hc, .slice pa N pc] 87)) = w2 at *
  obtain ⟨B, hBe⟩ : ∃ B, w.heap.size = B := ⟨_, rfl⟩
  have HBE := Lib.hid hBe
  rw [hBe] at HC hal hgl hX ⊢
  clear hBe
  have d2 := hX.cell 2
  have hs2 := hal.size
  rw [HBE.out] at hs2
  have hn2 : OwnE (w2.alloc (.cells #[] 3)) B 3 1 (.slice (some ⟨w2.heap.size, 0, none⟩) 0 0) 0 [] := ownE_of (World.ownsRow_lit w2 #[] 0 hs2 (Nat.zero_le _) rfl)
  have hal2 := hal.alloc hs2 (.cells #[] 3)
  have hX2 := hX.later ((Below.refl _ _).alloc (Nat.le_refl _) (.cells #[] 3))
  have e2 := hX2.cell 2
  clear hX
  go_upto_region 2 with fail
  generalize (w2.alloc (.cells #[] 3)) = w3 at *
  generalize w2.heap.size = n2 at *
  clear hX2 d2 hal
  go_wp2_with fail
  go_loopw [3, 10] (fun s3 i wr => ∃ k : Nat, k ≤ N ∧ i = .int .i64 k ∧ OwnE wr B 3 1 s3 (spLk P k).length ((spLk P k).map (Value.int .i64)) ∧ Below B w wr) (fun _ i _ => N - (intOf i).toNat)
  case atStart => exact ⟨0, Nat.zero_le _, rfl, hn2, hal2⟩
  case round =>
    obtain ⟨k, hk, rfl, hO, hb⟩ := hrel
    clear hn2 hal2 e2
    have hBr : B ≤ wr.heap.size := by have := hb.size; have := HBE.out; omega
    by_cases hlt : k < N
    · obtain ⟨o, ho⟩ := HP.out k hlt
      have hck := HC.out wr hb k o ho
      have HSk := Lib.hid (HS.out k o ho)
      have hnk := HL.out k
      clear ho
      cases o with
      | none =>
        simp only [Option.isSome] at hck
        have HV : Hid ((spLk P (k + 1)).map (Value.int .i64) = (spLk P k).map (Value.int .i64) ++ [.int .i64 k]) := Lib.hid (by rw [HSk.out, List.map_append]; rfl)
        have HLn : Hid ((spLk P (k + 1)).length = (spLk P k).length + 1) := Lib.hid (by rw [HSk.out, List.length_append]; rfl)
        generalize (spLk P k).map (Value.int .i64) = xs at *
        generalize (spLk P k).length = nk at *
        go_wp2_with (at_builtin; refine append_recG (W := w) rfl (.tmp 17) (.tmp 19) 77 rfl 3 i0 (.int .i64 0) 1 8 Try.underlying77 hi hz0 hz1 hz2 rfl (by decide) B _ nk xs rfl hO #[.int .i64 (k : Int)] rfl rfl ?d0 ?d1 ?d2 hBr B (Nat.le_refl _) hb ?_)
        case d0 => rfl
        case d1 => unfold maxLen; omega
        case d2 => omega
        intro v4 w4 hO4 hb4 _ _
        have hO5 : OwnE w4 B 3 1 v4 (spLk P (k + 1)).length ((spLk P (k + 1)).map (Value.int .i64)) := by rw [HV.out, HLn.out]; exact hO4
        clear hO4 hO hb
        go_wp2_with fail
        go_roundw
        case rel => exact ⟨k + 1, by omega, by go_num, hO5, hb4⟩
        case measure => simp [intOf]; omega
      | some s =>
        simp only [Option.isSome] at hck
        have HV : Hid (spLk P (k + 1) = spLk P k) := Lib.hid (by rw [HSk.out]; simp)
        go_wp2_with fail
        go_roundw
        case rel => exact ⟨k + 1, by omega, by go_num, by rw [HV.out]; exact hO, hb⟩
        case measure => simp [intOf]; omega
    · obtain rfl : k = N := by omega
      go_wp2_with fail
      go_ret
      exact ⟨_, rfl, by rw [HBE.out]; exact hO, by rw [HBE.out]; exact hb⟩
end Go.Proofs.Ytgomijhckmcfeaa
