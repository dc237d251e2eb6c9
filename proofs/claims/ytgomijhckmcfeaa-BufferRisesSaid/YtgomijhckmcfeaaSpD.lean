/- split: keep. -/
import Derived.Test.YtgomijhckmcfeaaSpC
import Derived.Deep.RegionHeld3
import Derived.Deep.QuietTactic
import Derived.BigQuiet
import Derived.Deep.DeepCutAuto
import Derived.Deep.CutBlock
import Derived.RegionTactic
import Derived.BigRegion
import Derived.Deep.RegionWith
namespace Go.Proofs.Ytgomijhckmcfeaa
open Go.RowKit
set_option linter.unusedVariables false
set_option linter.unusedSimpArgs false
theorem MapP.tight {W : World} {b n c : Nat} {f : Int → Option ByteArray} (h : MapP W b n f c) : MapP W b c f c := by
  obtain ⟨D, ⟨es, cl, h1, F, hs, hD⟩, h2, h3, h4, h5⟩ := h
  refine ⟨D, ⟨es, cl, h1, F, ?_, hD⟩, h2, h3, h4, h5⟩
  have : Maps.size D = es.size := by rw [hD]; simp [Maps.size, length_sorted]
  omega
theorem keepF_only {gf : Nat} {mp : Option Nat} {w w' : World} (h : Only gf w w') : KeepF gf mp w w' := ⟨by rw [h.size]; exact Nat.le_refl _, fun k _ hk _ => h.block k hk⟩
theorem keepF_map {gf b : Nat} {w w' : World} (h : w.grownBy w' (some b)) : KeepF gf (some b) w w' := ⟨h.size, fun k hk _ h2 => h.block k hk (fun e => h2 e.symm)⟩
theorem sp_small (x : Int) (h0 : -4611686018427387904 ≤ x) (h1 : x ≤ 4611686018427387904) : (Lit.int .i64 x).wf = true := by
  simp [Lit.wf, IntKind.min, IntKind.max, IntKind.signed, IntKind.bits]; omega
/-- Behind 'm[k] = part', the Frame's bytes are not counted yet. -/
theorem fin_kept {W : World} {base gf b : Nat} {t cnt first : Int} {P : List (Option ByteArray)} (i : Nat) (d : ByteArray) (hb : base ≤ gf ∧ base ≤ b) (hl : P.length = spK cnt) (hi : P[i]? = some none)
    (h5 : AtS 95 W gf #[.int .u32 t, .int .i64 cnt, .int .i64 first, .map (some b), .int .i64 (spB P)])
    (hm : MapP W b (spH P + 1) (fun y => if y = i then some d else spF P y) (spH P + 1)) (hne : b ≠ gf) :
    FIn (W.setCell ⟨gf, 4, none⟩ (.int .i64 ((spB P : Int) + d.size))) base gf t cnt first (some b) (P.set i (some d)) := by
  have hil : i < P.length := (List.getElem?_eq_some_iff.1 hi).1
  refine ⟨hb.1, ?_, by rw [List.length_set]; exact hl, .inr ⟨b, rfl, hb.2, ?_, Nat.le_refl _⟩⟩
  · have := atS_set4 h5 (.int .i64 ((spB P : Int) + d.size))
    rw [spB_set P i d hi]
    push_cast
    exact this
  · rw [spH_set P i d hi]
    have h6 : (W.setCell ⟨gf, 4, none⟩ (.int .i64 ((spB P : Int) + d.size))).heap[b]? = W.heap[b]? := ((Only.refl gf W).setCell 4 _).block b hne
    have h7 := hm.same h6
    have hle := spH_le (P.set i (some d))
    rw [spH_set P i d hi, List.length_set, hl] at hle
    have := spK_bd cnt
    exact (h7.mono (by omega)).ext (fun x _ => spF_set P i d hil x)
theorem spEqlSome (b : Nat) (w : World) : (binOp .eql 93 (.map (some b)) (.map none)).run Try.prog w = .ok (.bool false) w := by kernel_rfl
theorem spEqlNil (w : World) : (binOp .eql 93 (.map none) (.map none)).run Try.prog w = .ok (.bool true) w := by kernel_rfl
set_option maxRecDepth 100000 in
set_option maxHeartbeats 1600000 in
theorem spKeep_any {w : World} {base gf : Nat} {t cnt first : Int} {mp : Option Nat} {P : List (Option ByteArray)} (h : FIn w base gf t cnt first mp P) (i : Nat) (d : ByteArray) (hi : P[i]? = some none) (hd : spB P + d.size ≤ 4611686018427387904) :
    Calls Try.prog 52 #[.pointer (some ⟨gf, 0, none⟩), .int .i64 i, .string d] w fun e w' => e = .returned (.tuple #[]) ∧ (∃ mp', FIn w' base gf t cnt first mp' (P.set i (some d)) ∧ (mp' = mp ∨ (mp = none ∧ mp' = some w.heap.size))) ∧ Below base w w' ∧ KeepF gf mp w w' := by
  have hbs := h.bs
  have hgl := h.at5.lt
  have hl := h.len
  have hK := spK_bd cnt
  have hil : i < P.length := (List.getElem?_eq_some_iff.1 hi).1
  have hH := spH_le P
  have hF : spF P i = none := by
    unfold spF
    rw [if_pos (by omega), show ((i : Int)).toNat = i by omega, hi]
    rfl
  have HI := Lib.hid hi
  have hwf := sp_small (i : Int) (by omega) (by omega)
  obtain ⟨_, _, _, _, _⟩ := h.at5.cells5
  obtain ⟨_, _, _, _, _⟩ := h.at5.frees5
  rcases h.mem with ⟨rfl, hP⟩ | ⟨b, rfl, hbb, hm, _⟩
  · have ho := (Only.refl gf w).setCell 3 (.map (some w.heap.size))
    have hos := ho.size
    have h51 := atS_set3 h.at5 (.map (some w.heap.size))
    have hal : Below (w.setCell ⟨gf, 3, none⟩ (.map (some w.heap.size))).heap.size (w.setCell ⟨gf, 3, none⟩ (.map (some w.heap.size))) ((w.setCell ⟨gf, 3, none⟩ (.map (some w.heap.size))).alloc (.map #[] 0)) := (Below.refl _ _).alloc (Nat.le_refl _) _
    have h52 := h51.later hal
    have hne : w.heap.size ≠ gf := by omega
    have hm0 : MapP ((w.setCell ⟨gf, 3, none⟩ (.map (some w.heap.size))).alloc (.map #[] 0)) w.heap.size 0 (fun _ => none) 0 := by
      have := mapP_new (w.setCell ⟨gf, 3, none⟩ (.map (some w.heap.size)))
      rw [hos] at this
      exact this
    have hHP : spH P = 0 := by rw [hP]; exact spH_no _
    have hFP : ∀ x, spF P x = none := fun x => by rw [hP]; exact spF_no _ x
    have hm : MapP ((w.setCell ⟨gf, 3, none⟩ (.map (some w.heap.size))).alloc (.map #[] 0)) w.heap.size (spH P) (spF P) (spH P) := by
      rw [hHP]
      exact hm0.ext (fun x _ => hFP x)
    have hb2 : Below base w ((w.setCell ⟨gf, 3, none⟩ (.map (some w.heap.size))).alloc (.map #[] 0)) := (ho.below hbs).trans (hal.mono (by omega))
    have hk2 : KeepF gf none w ((w.setCell ⟨gf, 3, none⟩ (.map (some w.heap.size))).alloc (.map #[] 0)) := (keepF_only ho).trans (keepF_below gf none hal)
    clear hP hHP hFP hm0
    have heq := spEqlNil w
    have hmm := @run_makeMap Try.prog
    go_enter Try.func52, Try.ntmps52
    go_upto_region 2 with fail
    clear hmm heq ho h51 hal hos
    generalize ((w.setCell ⟨gf, 3, none⟩ (.map (some w.heap.size))).alloc (.map #[] 0)) = w2 at *
    obtain ⟨B, hB⟩ : ∃ B, w.heap.size = B := ⟨_, rfl⟩
    have HB := Lib.hid hB
    have hbB : base ≤ B := by omega
    have HKM := Lib.hid (fun (W' : World) (hg : w2.grownBy W' (some B)) => (⟨Nat.le_trans hk2.size hg.size, fun k hk h1 h2 => by rw [hg.block k (Nat.lt_of_lt_of_le hk hk2.size) (fun e => by cases e; omega), hk2.block k hk h1 h2]⟩ : KeepF gf none w W'))
    rw [hB] at hm hne h52 ⊢
    clear hB hgl
    obtain ⟨_, _, _, _, _⟩ := h52.cells5
    go_wp2_with (at_mapUpdate; refine wpList_putP _ rfl _ _ _ rfl B (spH P) (spH P) (spF P) rfl hm ?m0 i d rfl hwf rfl ?m1 hF ?_)
    case m0 => unfold maxLen; omega
    case m1 => unfold maxLen; omega
    intro w3 hm3 hg3
    have h53 := h52.grown hg3 (fun e => hne (Option.some.inj e).symm)
    have HZ := Lib.hid (fin_kept i d ⟨hbs, hbB⟩ hl HI.out h53 hm3 hne)
    have hb3 : Below base w w3 := hb2.grown hg3 (Nat.le_trans hbB (by have := hm.lt; omega)) (fun q hq => by cases hq; exact hbB)
    have hk3 := HKM.out w3 hg3
    obtain ⟨_, _, _, _, _⟩ := h53.cells5
    obtain ⟨_, _, _, _, _⟩ := h53.frees5
    have HO := Lib.hid ((Only.refl gf w3).setCell 4 (.int .i64 ((spB P : Int) + d.size)))
    clear hm3 hg3 hi hF hm h h52
    go_wp2_with fail
    go_end0
    exact ⟨rfl, ⟨some B, HZ.out, .inr ⟨trivial, by rw [HB.out]⟩⟩, hb3.trans (HO.out.below hbs), hk3.trans (keepF_only HO.out)⟩
  · have hne : b ≠ gf := fun e => h.apart (by rw [e])
    have h5 := h.at5
    have hgl := h.at5.lt
    have HT := Lib.hid hm.tight
    have heq := spEqlSome b
    go_enter Try.func52, Try.ntmps52
    go_wp2_with (at_mapUpdate; refine wpList_putP _ rfl _ _ _ rfl b (spH P) (spH P) (spF P) rfl HT.out ?m0 i d rfl hwf rfl ?m1 hF ?_)
    case m0 => unfold maxLen; omega
    case m1 => unfold maxLen; omega
    intro w2 hm2 hg2
    have h52 := h5.grown hg2 (fun e => hne (Option.some.inj e).symm)
    have HZ := Lib.hid (fin_kept i d ⟨hbs, hbb⟩ hl HI.out h52 hm2 hne)
    have hb2 : Below base w w2 := (Below.refl base w).grown hg2 (by omega) (fun q hq => by cases hq; exact hbb)
    have hk2 : KeepF gf (some b) w w2 := keepF_map hg2
    obtain ⟨_, _, _, _, _⟩ := h52.cells5
    obtain ⟨_, _, _, _, _⟩ := h52.frees5
    have ho := (Only.refl gf w2).setCell 4 (.int .i64 ((spB P : Int) + d.size))
    have HO := Lib.hid ho
    clear hm2 hg2 hi hF hm h
    go_wp2_with fail
    go_end0
    exact ⟨rfl, ⟨some b, HZ.out, .inl rfl⟩, hb2.trans (HO.out.below hbs), hk2.trans (keepF_only HO.out)⟩
end Go.Proofs.Ytgomijhckmcfeaa
