/- The statements' Told. -/
import Derived.Test.YtilobmebfeenfaaRtpQ
import Derived.Test.YtilobmebfeenfaaRtpP
namespace Go.Proofs.Ytilobmebfeenfaa
open Go.RowKit
set_option linter.unusedVariables false
/-- The document's packet in memory. -/
def RkIn (W : World) (g : Nat) (c0 c1 c2 c3 c4 c5 c6 c7 c8 c9 c10 : Value) : Prop := W.heap[g]? = some (.cells #[c0, c1, c2, c3, c4, c5, c6, c7, c8, c9, c10] 36 (0, 0))
section
variable {W w' : World} {g b : Nat} {c0 c1 c2 c3 c4 c5 c6 c7 c8 c9 c10 : Value}
theorem RkIn.cell (h : RkIn W g c0 c1 c2 c3 c4 c5 c6 c7 c8 c9 c10) (i : Nat) : W.cell? ⟨g, i, none⟩ = (#[c0, c1, c2, c3, c4, c5, c6, c7, c8, c9, c10] : Array Value)[i]? := cell_of_row W g i _ _ (0, 0) h
theorem RkIn.cells (h : RkIn W g c0 c1 c2 c3 c4 c5 c6 c7 c8 c9 c10) :
    W.cell? ⟨g, 0, none⟩ = some c0 ∧ W.cell? ⟨g, 1, none⟩ = some c1 ∧ W.cell? ⟨g, 2, none⟩ = some c2 ∧ W.cell? ⟨g, 3, none⟩ = some c3 ∧ W.cell? ⟨g, 4, none⟩ = some c4 ∧ W.cell? ⟨g, 5, none⟩ = some c5 ∧ W.cell? ⟨g, 6, none⟩ = some c6 ∧ W.cell? ⟨g, 7, none⟩ = some c7 ∧ W.cell? ⟨g, 8, none⟩ = some c8 ∧ W.cell? ⟨g, 9, none⟩ = some c9 ∧ W.cell? ⟨g, 10, none⟩ = some c10 := by
  have f := h.cell
  exact ⟨by simpa using f 0, by simpa using f 1, by simpa using f 2, by simpa using f 3, by simpa using f 4, by simpa using f 5, by simpa using f 6, by simpa using f 7, by simpa using f 8, by simpa using f 9, by simpa using f 10⟩
theorem RkIn.free (h : RkIn W g c0 c1 c2 c3 c4 c5 c6 c7 c8 c9 c10) (i : Nat) : W.frozen? ⟨g, i, none⟩ = false := by unfold RkIn at h; simp [World.frozen?, h]
theorem RkIn.frees (h : RkIn W g c0 c1 c2 c3 c4 c5 c6 c7 c8 c9 c10) : W.frozen? ⟨g, 0, none⟩ = false ∧ W.frozen? ⟨g, 1, none⟩ = false ∧ W.frozen? ⟨g, 2, none⟩ = false ∧ W.frozen? ⟨g, 3, none⟩ = false ∧ W.frozen? ⟨g, 4, none⟩ = false ∧ W.frozen? ⟨g, 5, none⟩ = false ∧ W.frozen? ⟨g, 6, none⟩ = false ∧ W.frozen? ⟨g, 7, none⟩ = false ∧ W.frozen? ⟨g, 8, none⟩ = false ∧ W.frozen? ⟨g, 9, none⟩ = false ∧ W.frozen? ⟨g, 10, none⟩ = false :=
  ⟨h.free 0, h.free 1, h.free 2, h.free 3, h.free 4, h.free 5, h.free 6, h.free 7, h.free 8, h.free 9, h.free 10⟩
theorem RkIn.only (h : RkIn W g c0 c1 c2 c3 c4 c5 c6 c7 c8 c9 c10) (hg : g ≠ b) (ho : Only b W w') : RkIn w' g c0 c1 c2 c3 c4 c5 c6 c7 c8 c9 c10 := by unfold RkIn; rw [ho.block g hg]; exact h
theorem RkIn.later (h : RkIn W g c0 c1 c2 c3 c4 c5 c6 c7 c8 c9 c10) (hb : Below W.heap.size W w') : RkIn w' g c0 c1 c2 c3 c4 c5 c6 c7 c8 c9 c10 := by unfold RkIn; rw [hb.block g (lt_of_block h)]; exact h
theorem RkIn.lt (h : RkIn W g c0 c1 c2 c3 c4 c5 c6 c7 c8 c9 c10) : g < W.heap.size := lt_of_block h
theorem RkIn.set (h : RkIn W g c0 c1 c2 c3 c4 c5 c6 c7 c8 c9 c10) (i : Nat) (u : Value) : (W.setCell ⟨g, i, none⟩ u).heap[g]? = some (.cells ((#[c0, c1, c2, c3, c4, c5, c6, c7, c8, c9, c10] : Array Value).setIfInBounds i u) 36 (0, 0)) := block_setCell h
end
theorem rk_set {W : World} {g b i : Nat} {u c0 c1 c2 c3 c4 c5 c6 c7 c8 c9 c10 : Value} (h : RkIn W g c0 c1 c2 c3 c4 c5 c6 c7 c8 c9 c10) (hne : g ≠ b) : RkIn (W.setCell ⟨b, i, none⟩ u) g c0 c1 c2 c3 c4 c5 c6 c7 c8 c9 c10 := by
  unfold RkIn; rw [Below.heap_setCell _ _ _ _ hne]; exact h
theorem rk_ne {c0 c1 c2 c3 c4 c5 c6 c7 c8 c9 c10 : Value} (q : Nat × Nat) : ∀ cur p, Obj.cells #[c0, c1, c2, c3, c4, c5, c6, c7, c8, c9, c10] 36 q ≠ .cells cur 3 p := by intro cur p e; cases e
theorem rk_new (W : World) (n : Nat) (c0 c1 c2 c3 c4 c5 c6 c7 c8 c9 c10 : Value) (hn : n = W.heap.size) : RkIn (W.alloc (.cells #[c0, c1, c2, c3, c4, c5, c6, c7, c8, c9, c10] 36)) n c0 c1 c2 c3 c4 c5 c6 c7 c8 c9 c10 := by subst hn; exact heap_alloc_new W _
theorem info64r : (Try.prog.info? 3).map (fun i => (i.zero, i.size, i.bytes)) = some (some (.int .i64 0), 1, 8) := by kernel_rfl
/-- What Told answers. -/
def ToldR (p : PK) (w : World) (e : Ending) (w' : World) : Prop := Below w.heap.size w w' ∧ ∃ a' c', e = .returned (.agg (p.rcells a' c')) ∧ w'.ownsRow w.heap.size 3 1 (.slice a' p.others.length c') p.others.length (p.others.map (Value.int .i64))
set_option maxRecDepth 100000 in
set_option maxHeartbeats 3200000 in
theorem told_any (p : PK) (a : Option Addr) (c : Nat) (w : World) (hk : p.ok) (hl : p.others.length ≤ 1000000) (hr : Reads .u32 w a p.others) :
    Calls Try.prog 11 #[.agg (p.cells a c)] w (ToldR p w) := by
  obtain ⟨i0, hi, hz0, hz1, hz2⟩ := info_parts info64r
  obtain ⟨⟨s1, s2⟩, ⟨t1, t2⟩, ⟨q1, q2⟩, hos⟩ := hk
  have Hfin : Hid (∀ (e : Ending) (w' : World) a' c', Below w.heap.size w w' → e = .returned (.agg (p.rcells a' c')) → w'.ownsRow w.heap.size 3 1 (.slice a' p.others.length c') p.others.length (p.others.map (Value.int .i64)) → ToldR p w e w') := fun e w' a' c' h1 h2 h3 => ⟨h1, a', c', h2, h3⟩
  generalize hT : ToldR p w = TT at Hfin ⊢
  clear hT
  obtain ⟨mrk, kind, seq, time, source, others, hx, prof, ext, data, pad⟩ := p
  simp only [PK.cells, PK.rcells] at *
  have Hos := Lib.hid hos
  clear hos
  have hRr := RkIn.later (rk_new (w.alloc (.cells #[.bool mrk, .int .i64 kind, .int .u16 seq, .int .u32 time, .int .u32 source, .slice a others.length c, .bool hx, .int .i64 prof, .string ext, .string data, .int .i64 pad] 30)) (w.heap.size + 1) (.bool false) (.int .i64 0) (.int .i64 0) (.int .i64 0) (.int .i64 0) (.slice none 0 0) (.bool false) (.int .i64 0) (.string { data := #[] }) (.string { data := #[] }) (.int .i64 0) (by simp)) ((Below.refl _ _).alloc (Nat.le_refl _) (.cells #[.bool mrk, .int .i64 kind, .int .i64 seq, .int .i64 time, .int .i64 source, .slice none 0 0, .bool hx, .int .i64 prof, .string ext, .string data, .int .i64 pad] 36))
  have hX := rk_new ((w.alloc (.cells #[.bool mrk, .int .i64 kind, .int .u16 seq, .int .u32 time, .int .u32 source, .slice a others.length c, .bool hx, .int .i64 prof, .string ext, .string data, .int .i64 pad] 30)).alloc (.cells #[.bool false, .int .i64 0, .int .i64 0, .int .i64 0, .int .i64 0, .slice none 0 0, .bool false, .int .i64 0, .string { data := #[] }, .string { data := #[] }, .int .i64 0] 36)) (w.heap.size + 1 + 1) (.bool mrk) (.int .i64 kind) (.int .i64 seq) (.int .i64 time) (.int .i64 source) (.slice none 0 0) (.bool hx) (.int .i64 prof) (.string ext) (.string data) (.int .i64 pad) (by simp)
  have hP : PkAt (((w.alloc (.cells #[.bool mrk, .int .i64 kind, .int .u16 seq, .int .u32 time, .int .u32 source, .slice a others.length c, .bool hx, .int .i64 prof, .string ext, .string data, .int .i64 pad] 30)).alloc (.cells #[.bool false, .int .i64 0, .int .i64 0, .int .i64 0, .int .i64 0, .slice none 0 0, .bool false, .int .i64 0, .string { data := #[] }, .string { data := #[] }, .int .i64 0] 36)).alloc (.cells #[.bool mrk, .int .i64 kind, .int .i64 seq, .int .i64 time, .int .i64 source, .slice none 0 0, .bool hx, .int .i64 prof, .string ext, .string data, .int .i64 pad] 36)) w.heap.size #[.bool mrk, .int .i64 kind, .int .u16 seq, .int .u32 time, .int .u32 source, .slice a others.length c, .bool hx, .int .i64 prof, .string ext, .string data, .int .i64 pad] := ((show PkAt (w.alloc (.cells #[.bool mrk, .int .i64 kind, .int .u16 seq, .int .u32 time, .int .u32 source, .slice a others.length c, .bool hx, .int .i64 prof, .string ext, .string data, .int .i64 pad] 30)) w.heap.size #[.bool mrk, .int .i64 kind, .int .u16 seq, .int .u32 time, .int .u32 source, .slice a others.length c, .bool hx, .int .i64 prof, .string ext, .string data, .int .i64 pad] from heap_alloc_new w _).alloc _).alloc _
  have hb0 : Below w.heap.size w (((w.alloc (.cells #[.bool mrk, .int .i64 kind, .int .u16 seq, .int .u32 time, .int .u32 source, .slice a others.length c, .bool hx, .int .i64 prof, .string ext, .string data, .int .i64 pad] 30)).alloc (.cells #[.bool false, .int .i64 0, .int .i64 0, .int .i64 0, .int .i64 0, .slice none 0 0, .bool false, .int .i64 0, .string { data := #[] }, .string { data := #[] }, .int .i64 0] 36)).alloc (.cells #[.bool mrk, .int .i64 kind, .int .i64 seq, .int .i64 time, .int .i64 source, .slice none 0 0, .bool hx, .int .i64 prof, .string ext, .string data, .int .i64 pad] 36)) := by go_grown
  go_enter Try.func11, Try.ntmps11
  go_wp2_with fail
  generalize ((w.alloc (.cells #[.bool mrk, .int .i64 kind, .int .u16 seq, .int .u32 time, .int .u32 source, .slice a others.length c, .bool hx, .int .i64 prof, .string ext, .string data, .int .i64 pad] 30)).alloc (.cells #[.bool false, .int .i64 0, .int .i64 0, .int .i64 0, .int .i64 0, .slice none 0 0, .bool false, .int .i64 0, .string { data := #[] }, .string { data := #[] }, .int .i64 0] 36)).alloc (.cells #[.bool mrk, .int .i64 kind, .int .i64 seq, .int .i64 time, .int .i64 source, .slice none 0 0, .bool hx, .int .i64 prof, .string ext, .string data, .int .i64 pad] 36) = w2 at hRr hX hP hb0 ⊢
  have hBx : w.heap.size ≤ w.heap.size + 1 + 1 := by omega
  have hBr : w.heap.size ≤ w.heap.size + 1 := by omega
  have hxr : w.heap.size + 1 + 1 ≠ w.heap.size + 1 := by omega
  clear hP
  generalize w.heap.size + 1 + 1 = gx at hX hBx hxr ⊢
  generalize w.heap.size + 1 = gr at hRr hBr hxr ⊢
  go_loopw [42] (fun i wr => ∃ (k : Nat) (v : Value), k ≤ others.length ∧ i = .int .i64 k ∧ wr.ownsRow w.heap.size 3 1 v k ((others.take k).map (Value.int .i64)) ∧ RkIn wr gx (.bool mrk) (.int .i64 kind) (.int .i64 seq) (.int .i64 time) (.int .i64 source) v (.bool hx) (.int .i64 prof) (.string ext) (.string data) (.int .i64 pad) ∧ RkIn wr gr (.bool false) (.int .i64 0) (.int .i64 0) (.int .i64 0) (.int .i64 0) (.slice none 0 0) (.bool false) (.int .i64 0) (.string { data := #[] }) (.string { data := #[] }) (.int .i64 0) ∧ Below w.heap.size w wr) (fun i _ => others.length - (intOf i).toNat)
  case atStart => exact ⟨0, _, Nat.zero_le _, rfl, World.ownsRow_nil _ _ _ _, hX, hRr, hb0⟩
  case round =>
    obtain ⟨k, v, hk, rfl, hv, hX1, hR1, hb1⟩ := hrel
    clear hX hRr hb0
    by_cases hlt : k < others.length
    · obtain ⟨ab, off, rfl, hcell⟩ := (hr.later hb1).at hlt
      have hel := Hos.out (others[k]?.getD 0) (by rw [List.getElem?_eq_getElem hlt]; exact List.getElem_mem hlt)
      have hts : Hid (others.take (k + 1) = others.take k ++ [others[k]?.getD 0]) := by
        show _ = _
        rw [List.take_succ_eq_append_getElem hlt, List.getElem?_eq_getElem hlt]; rfl
      generalize others[k]?.getD 0 = x at hcell hel hts
      obtain ⟨x1, x2⟩ := hel
      obtain ⟨ad, cc, rfl⟩ := own_slice hv
      obtain ⟨c0, c1, c2, c3, c4, c5, c6, c7, c8, c9, c10⟩ := hX1.cells
      obtain ⟨f0, f1, f2, f3, f4, f5, f6, f7, f8, f9, f10⟩ := hX1.frees
      have hgl := hX1.lt
      clear hr
      go_wp2_with (at_builtin; refine wpList_append_own _ rfl (.tmp 47) (.tmp 50) 34 rfl w.heap.size 3 i0 (.int .i64 0) 1 8 Try.underlying34 hi hz0 hz1 hz2 rfl (by decide) _ k _ rfl (hv.alloc _) ⟨wr.heap.size, 0, none⟩ 1 1 [.int .i64 x] rfl rfl ?d1 ?d2 ?d3 ?d4 ?d5 ?_)
      case d1 => intro j u' hj; match j, hj with | 0, hj => simp at hj; subst hj; simp [Addr.add]
      case d2 => intro u' hu; simp at hu; subst hu; rfl
      case d3 => unfold maxLen; omega
      case d4 => omega
      case d5 => have := hb1.size; simp; omega
      intro v' w4 hown4 hgrow _
      obtain ⟨ad4, c4', rfl⟩ := own_slice hown4
      have hXa : RkIn (wr.alloc (.cells #[.int .i64 x] 3)) gx (.bool mrk) (.int .i64 kind) (.int .i64 seq) (.int .i64 time) (.int .i64 source) (.slice ad k cc) (.bool hx) (.int .i64 prof) (.string ext) (.string data) (.int .i64 pad) := hX1.later ((Below.refl _ _).alloc (Nat.le_refl _) _)
      have hRa : RkIn (wr.alloc (.cells #[.int .i64 x] 3)) gr (.bool false) (.int .i64 0) (.int .i64 0) (.int .i64 0) (.int .i64 0) (.slice none 0 0) (.bool false) (.int .i64 0) (.string { data := #[] }) (.string { data := #[] }) (.int .i64 0) := hR1.later ((Below.refl _ _).alloc (Nat.le_refl _) _)
      have hX4 : RkIn w4 gx (.bool mrk) (.int .i64 kind) (.int .i64 seq) (.int .i64 time) (.int .i64 source) (.slice ad k cc) (.bool hx) (.int .i64 prof) (.string ext) (.string data) (.int .i64 pad) := by unfold RkIn; rw [hgrow.block gx hXa.lt (row_ne (hv.alloc _) hXa (rk_ne _))]; exact hXa
      have hR4 : RkIn w4 gr (.bool false) (.int .i64 0) (.int .i64 0) (.int .i64 0) (.int .i64 0) (.slice none 0 0) (.bool false) (.int .i64 0) (.string { data := #[] }) (.string { data := #[] }) (.int .i64 0) := by unfold RkIn; rw [hgrow.block gr hRa.lt (row_ne (hv.alloc _) hRa (rk_ne _))]; exact hRa
      have hb4 : Below w.heap.size w w4 := (hb1.alloc hb1.size _).grown hgrow (by have := hb1.size; simp; omega) (fun k' hk' => (hv.lt k' hk').1)
      have hv4 : w4.ownsRow w.heap.size 3 1 (.slice ad4 (k + 1) c4') (k + 1) ((others.take (k + 1)).map (Value.int .i64)) := by rw [hts.out, List.map_append, List.map_take]; exact hown4
      clear hX1 hR1 hb1 hv hXa hRa hown4 hgrow c0 c1 c2 c3 c4 c5 c6 c7 c8 c9 c10 f0 f1 f2 f3 f4 f5 f6 f7 f8 f9 f10 hcell hgl
      obtain ⟨c0, c1, c2, c3, c4, c5, c6, c7, c8, c9, c10⟩ := hX4.cells
      obtain ⟨f0, f1, f2, f3, f4, f5, f6, f7, f8, f9, f10⟩ := hX4.frees
      have hX5 : RkIn (w4.setCell ⟨gx, 5, none⟩ (.slice ad4 (k + 1) c4')) gx (.bool mrk) (.int .i64 kind) (.int .i64 seq) (.int .i64 time) (.int .i64 source) (.slice ad4 (k + 1) c4') (.bool hx) (.int .i64 prof) (.string ext) (.string data) (.int .i64 pad) := block_setCell hX4
      have hR5 := rk_set (i := 5) (u := .slice ad4 (k + 1) c4') hR4 hxr.symm
      have hv5 : (w4.setCell ⟨gx, 5, none⟩ (.slice ad4 (k + 1) c4')).ownsRow w.heap.size 3 1 (.slice ad4 (k + 1) c4') (k + 1) ((others.take (k + 1)).map (Value.int .i64)) := ownsRow_setCell_other hv4 (fun e => row_ne hv4 hX4 (rk_ne _) e.symm) _
      have hb5 := hb4.setCell (p := ⟨gx, 5, none⟩) hBx (.slice ad4 (k + 1) c4')
      go_wp2
      go_roundw
      case rel => exact ⟨k + 1, _, by omega, by go_num, hv5, hX5, hR5, hb5⟩
      case measure => simp [intOf]; omega
    · obtain rfl : k = others.length := by omega
      rw [List.take_length] at hv
      obtain ⟨ad, cc, rfl⟩ := own_slice hv
      obtain ⟨c0, c1, c2, c3, c4, c5, c6, c7, c8, c9, c10⟩ := hX1.cells
      obtain ⟨d0, d1, d2, d3, d4, d5, d6, d7, d8, d9, d10⟩ := hR1.cells
      obtain ⟨f0, f1, f2, f3, f4, f5, f6, f7, f8, f9, f10⟩ := hR1.frees
      go_wp2
      refine bodyPost_ret (v := .agg #[.bool mrk, .int .i64 kind, .int .i64 seq, .int .i64 time, .int .i64 source, .slice ad others.length cc, .bool hx, .int .i64 prof, .string ext, .string data, .int .i64 pad]) (by simp [results, Try.results11, go_sem, d0, d1, d2, d3, d4, d5, d6, d7, d8, d9, d10]) rfl (Hfin.out _ _ ad cc ?_ rfl ?_)
      · go_grown
      · exact own_only hv hR1 (rk_ne _) ((((((((((((Only.refl _ _).setCell 0 _).setCell 1 _).setCell 2 _).setCell 3 _).setCell 4 _).setCell 5 _).setCell 6 _).setCell 7 _).setCell 8 _).setCell 9 _).setCell 10 _)
end Go.Proofs.Ytilobmebfeenfaa
