/- gaps: Due. -/
import Derived.Test.YtdbmhgfdcdcgfaaGpJ
namespace Go.Proofs.Ytdbmhgfdcdcgfaa
open Go.RowKit
set_option linter.unusedVariables false
set_option linter.unusedSimpArgs false
/-- 'append' of one record where there is room, behind the making of what is appended. -/
theorem append_roomG {P : Program} {w : World} {ops : Array Oper} {rest : List Oper} {o : Oper} {a : Act} {Q : Exit → Act → World → Prop}
    (hg : o.guard = none) (s x : Operand) (t : TypeId) (hop : o.op = Op.call { callee := Callee.builtin Builtin.append, args := #[s, x], argTypes := #[t, t] })
    (e : TypeId) (i : TypeInfo) (size : Nat) (h1 : P.underlying t = some (.slice e)) (h2 : P.info? e = some i) (h4 : i.size = size)
    (b off n cap : Nat) (hs : a.eval s = .slice (some ⟨b, off, none⟩) n cap)
    (cs : Array Value) (hcs : cs.size = size) (hx : a.eval x = .slice (some ⟨w.heap.size, 0, none⟩) 1 1) (h1c : ∀ u ∈ cs.toList, u.oneCell' = true)
    (hroom : n + 1 ≤ cap) (hsp : ∀ j, j < size → ((w.alloc (.cells cs e)).cell? ⟨b, off + n * size + j, none⟩).isSome = true ∧ (w.alloc (.cells cs e)).frozen? ⟨b, off + n * size + j, none⟩ = false)
    (hK : wpList P ops Q rest (a.put o.dst (.slice (some ⟨b, off, none⟩) (n + 1) cap)) ((w.alloc (.cells cs e)).setCells b (off + n * size) cs.toList)) :
    wpList P ops Q (o :: rest) a (w.alloc (.cells cs e)) := by
  subst h4
  refine Lib.wpList_append_run _ hg s x t t hop _ _ hs hx _ _ (run_append_room_cells (P := P) (w.alloc (.cells cs e)) t o.type e i h1 h2 b off n cap ⟨w.heap.size, 0, none⟩ 1 1 cs.toList (by simp [hcs]) ?_ h1c hroom (fun j hj => (hsp j (by simpa [hcs] using hj)).1) (fun j hj => (hsp j (by simpa [hcs] using hj)).2)) hK
  intro j u hj
  rw [addr_addG, cell_of_row _ w.heap.size j cs e (0, 0) (heap_alloc_new w _), ← Array.getElem?_toList]
  exact hj
/-- What a row holds when one more was put behind the first k: those, and what lay behind. -/
theorem row_put (X cs : List Value) (k i n : Nat) (A D : List Value) (hl : X.length = n * 4) (hk : k ≤ i) (hi : i < n) (hc : cs.length = 4) (h1 : X.take (k * 4) = A) (h2 : X.drop ((i + 1) * 4) = D) :
    (X.take (k * 4) ++ cs ++ X.drop (k * 4 + cs.length)).take ((k + 1) * 4) = A ++ cs ∧ (X.take (k * 4) ++ cs ++ X.drop (k * 4 + cs.length)).drop ((i + 1) * 4) = D := by
  have hA : A.length = k * 4 := by rw [← h1, List.length_take, hl]; omega
  rw [h1]
  constructor
  · exact List.take_left' (by rw [List.length_append, hA, hc]; omega)
  · rw [List.drop_append, List.drop_eq_nil_of_le (by rw [List.length_append, hA, hc]; omega), List.nil_append, List.drop_drop, List.length_append, hA, hc, ← h2]
    congr 1
    omega
theorem gpDue_nil {w : World} {base gg : Nat} {c : GC} {cm : Bool} {gr : Int} {gv : Int} (h : GIn w base gg c cm gr (.slice none 0 0) [] gv) (now : Int) (hgv : 0 ≤ gv ∧ gv ≤ 1152921504606846976) :
    Calls Try.prog 15 #[.pointer (some ⟨gg, 0, none⟩), .int .i64 now] w fun e w' => e = .returned (.slice none 0 0) ∧ GIn w' base gg c cm gr (.slice none 0 0) [] gv ∧ Below base w w' ∧ KeptG w w' := by
  have HT := Lib.hid (gpTick_q now w)
  have HI := Lib.hid h
  have hX := h.at8
  obtain ⟨_, _, _, _, _, _, _, _⟩ := h.at8.cells
  obtain ⟨_, _, _, _, _, _, _, _⟩ := h.at8.frees
  clear h
  go_enter Try.func15, Try.ntmps15
  go_wp2_with fail
  refine HT.out.mono ?_
  rintro e w5 ⟨rfl, rfl⟩
  go_wp2_with fail
  go_loopw [5, 6, 21] (fun d f i wr => d = .slice none 0 0 ∧ f = .slice none 0 0 ∧ i = .int .i64 0 ∧ wr = w5) (fun d f i _ => 0)
  case atStart => exact ⟨rfl, rfl, rfl, rfl⟩
  case round =>
    obtain ⟨rfl, rfl, rfl, rfl⟩ := hrel
    have hw0 : IntKind.i64.wrap 0 = 0 := by decide
    have hwg : IntKind.i64.wrap gv = gv := by rw [IntKind.wrap_i64]; omega
    have hg0 : gv + 0 = gv := by omega
    have ho7 := (Only.refl gg wr).setCell 7 (.int .i64 gv)
    have hX7 := at8_set7 hX (.int .i64 gv)
    have ho8 := ho7.setCell 6 (.slice none 0 0)
    have hX8 := at8_set6 hX7 (.slice none 0 0)
    have hI8 : GIn ((wr.setCell ⟨gg, 7, none⟩ (.int .i64 gv)).setCell ⟨gg, 6, none⟩ (.slice none 0 0)) base gg c cm gr (.slice none 0 0) [] gv := ⟨HI.out.bs, hX8, ownE_nil _ _ _ _, HI.out.ok, HI.out.len, HI.out.up, HI.out.gb, HI.out.nb, HI.out.ab⟩
    have HF := Lib.hid (show GIn ((wr.setCell ⟨gg, 7, none⟩ (.int .i64 gv)).setCell ⟨gg, 6, none⟩ (.slice none 0 0)) base gg c cm gr (.slice none 0 0) [] gv ∧ Below base wr ((wr.setCell ⟨gg, 7, none⟩ (.int .i64 gv)).setCell ⟨gg, 6, none⟩ (.slice none 0 0)) ∧ KeptG wr ((wr.setCell ⟨gg, 7, none⟩ (.int .i64 gv)).setCell ⟨gg, 6, none⟩ (.slice none 0 0)) from ⟨hI8, ho8.below HI.out.bs, keptG_only hX ho8⟩)
    clear ho7 hX7 ho8 hX8 hI8
    go_upto_region 13 with fail
    go_region_law (fail)
    all_goals
      go_wp2_with fail
      go_ret
      exact ⟨rfl, HF.out.1.drew, HF.out.2.1.drew, HF.out.2.2.drew⟩

end Go.Proofs.Ytdbmhgfdcdcgfaa
