/- split: Clone. -/
import Derived.Test.YtgomijhckmcfeaaSpX
import Derived.Test.YtgomijhckmcfeaaSpH
import Derived.Shelf.SlMaps.Clone
namespace Go.Proofs.Ytgomijhckmcfeaa
open Go.RowKit
set_option linter.unusedVariables false
set_option linter.unusedSimpArgs false
set_option maxRecDepth 100000 in
set_option maxHeartbeats 2000000 in
theorem spMapClone_run (b : Nat) (es : Array MapEntry) (clock : Nat) (w : World) (hb : w.heap[b]? = some (.map es clock)) :
    Calls Try.prog 57 #[.map (some b)] w fun e w' => e = .returned (.map (some w.heap.size)) ∧ w' = w.alloc (.map es clock) := by
  have hq := fun w => spEqlSome b w
  go_enter Try.func57, Try.ntmps57
  go_wp2
  rw [run_callFunc_extern Try.func64 (by kernel_rfl) (by kernel_rfl) (by kernel_rfl) (e := Extern.MapsClone.clone) (by kernel_rfl), run_maps_clone_sl w 93 hb]
  simp only [Result.andThen]
  rw [Oper.upon_value]
  go_wp2
  rw [run_typeAssert_map_sl _ 93 _ _ _ _ Try.underlying93]
  simp only [Result.andThen]
  rw [Oper.upon_value]
  go_wp2
  go_ret
  exact ⟨rfl, rfl⟩
theorem spMapClone_nil (w : World) : Calls Try.prog 57 #[.map none] w fun e w' => e = .returned (.map none) ∧ w' = w := by
  have hq := fun w => spEqlNil w
  go_enter Try.func57, Try.ntmps57
  go_wp2
  go_ret
  exact ⟨rfl, rfl⟩
theorem spMapClone_any (b n c : Nat) (f : Int → Option ByteArray) (w : World) (h : MapP w b n f c) :
    Calls Try.prog 57 #[.map (some b)] w fun e w' => e = .returned (.map (some w.heap.size)) ∧ MapP w' w.heap.size n f c ∧ Below w.heap.size w w' := by
  obtain ⟨D, ⟨es, cl, h1, F, hs, hD⟩, h2⟩ := h
  refine (spMapClone_run b es cl w h1).mono ?_
  rintro e w' ⟨rfl, rfl⟩
  exact ⟨rfl, ⟨D, ⟨es, cl, (MapKept.heap_alloc w _).1, F, hs, hD⟩, h2⟩, (Below.refl _ _).alloc (Nat.le_refl _) _⟩
set_option maxRecDepth 100000 in
set_option maxHeartbeats 1600000 in
theorem spClone_any {w : World} {base gf : Nat} {t cnt first : Int} {mp : Option Nat} {P : List (Option ByteArray)} (h : FIn w base gf t cnt first mp P) :
    Calls Try.prog 40 #[.pointer (some ⟨gf, 0, none⟩)] w fun e w' => ∃ gc mc, e = .returned (.pointer (some ⟨gc, 0, none⟩)) ∧ FIn w' w.heap.size gc t cnt first mc P ∧ Below w.heap.size w w' := by
  have hX := atS_new 95 w w.heap.size #[.int .u32 t, .int .i64 cnt, .int .i64 first, .map mp, .int .i64 (spB P)] rfl
  have hal : Below w.heap.size w (w.alloc (.cells #[.int .u32 t, .int .i64 cnt, .int .i64 first, .map mp, .int .i64 (spB P)] 95)) := (Below.refl _ _).alloc (Nat.le_refl _) _
  have hF2 := h.later hal
  have hs2 := hal.size
  have hl := h.len
  have hlt : w.heap.size < (w.alloc (.cells #[.int .u32 t, .int .i64 cnt, .int .i64 first, .map mp, .int .i64 (spB P)] 95)).heap.size := hX.lt
  obtain ⟨_, _, _, _, _⟩ := h.at5.cells5
  go_enter Try.func40, Try.ntmps40
  go_upto_region 2 with fail
  generalize (w.alloc (.cells #[.int .u32 t, .int .i64 cnt, .int .i64 first, .map mp, .int .i64 (spB P)] 95)) = w2 at *
  obtain ⟨gc, hgc⟩ : ∃ gc, w.heap.size = gc := ⟨_, rfl⟩
  have HGC := Lib.hid hgc
  rw [hgc] at hX hal hs2 hlt ⊢
  clear h hgc
  obtain ⟨_, _, _, _, _⟩ := hF2.at5.cells5
  have hmem := hF2.mem
  clear hF2
  rcases hmem with ⟨rfl, hP⟩ | ⟨b, rfl, _, hm, _⟩
  · go_wp2_with fail
    refine (spMapClone_nil w2).mono ?_
    rintro e w3 ⟨rfl, hq⟩
    subst hq
    have hZ := atS_set3 hX (.map none)
    have ho := (Only.refl gc w3).setCell 3 (.map none)
    obtain ⟨_, _, _, _, _⟩ := hX.frees5
    obtain ⟨_, _, _, _, _⟩ := hX.cells5
    have HF : Hid (FIn (w3.setCell ⟨gc, 3, none⟩ (.map none)) gc gc t cnt first none P) := Lib.hid ⟨Nat.le_refl _, hZ, hl, .inl ⟨rfl, hP⟩⟩
    have HB := Lib.hid (hal.trans (ho.below (Nat.le_refl _)))
    clear hP hl
    go_wp2_with fail
    go_ret
    exact ⟨gc, none, rfl, by rw [HGC.out]; exact HF.out, by rw [HGC.out]; exact HB.out⟩
  · go_wp2_with fail
    refine (spMapClone_any b _ _ _ w2 hm).mono ?_
    rintro e w3 ⟨rfl, hm3, hb3⟩
    have hX3 := hX.later hb3
    have hal3 := hal.trans (hb3.mono hs2)
    have hZ := atS_set3 hX3 (.map (some w2.heap.size))
    have ho := (Only.refl gc w3).setCell 3 (.map (some w2.heap.size))
    obtain ⟨_, _, _, _, _⟩ := hX3.frees5
    obtain ⟨_, _, _, _, _⟩ := hX3.cells5
    have HF : Hid (FIn (w3.setCell ⟨gc, 3, none⟩ (.map (some w2.heap.size))) gc gc t cnt first (some w2.heap.size) P) := Lib.hid ⟨Nat.le_refl _, hZ, hl, .inr ⟨_, rfl, hs2, hm3.same (ho.block _ (by omega)), Nat.le_refl _⟩⟩
    have HB := Lib.hid (hal3.trans (ho.below (Nat.le_refl _)))
    clear hl hm
    go_wp2_with fail
    go_ret
    exact ⟨gc, some w2.heap.size, rfl, by rw [HGC.out]; exact HF.out, by rw [HGC.out]; exact HB.out⟩
end Go.Proofs.Ytgomijhckmcfeaa
