/- The statements' Cut of a packet. -/
import Derived.Test.YtiffocdohknopaaRtpT
import Derived.Test.YtiffocdohknopaaCut
import Derived.Deep.DeepCutAuto
import Derived.Deep.RegionWith
import Derived.Laws.AppendOwnNone
namespace Go.Proofs.Ytiffocdohknopaa
open Go.RowKit
set_option linter.unusedVariables false
theorem own_made (W : World) (B n : Nat) (hB : B ≤ W.heap.size) (hn : n = W.heap.size) : (W.alloc (.cells #[] 25)).ownsRow B 25 1 (.slice (some ⟨n, 0, none⟩) 0 0) 0 [] := by
  subst hn; exact World.ownsRow_made _ _ _ hB (by decide) rfl
theorem append_none_stop {P : Program} {w : World} {ops : Array Oper} {rest : List Oper} {o : Oper} {a : Act} {Q : Exit → Act → World → Prop} (hgd : o.guard = none) (s x : Operand) (t : TypeId)
    (ho : o.op = .call { callee := .builtin .append, args := #[s, x], argTypes := #[t, t] }) (base : Nat) (e : TypeId) (i : TypeInfo) (size : Nat) (ht : P.underlying t = some (.slice e)) (hi : P.info? e = some i)
    (ad : Option Addr) (xs : List Value) (hs : a.eval s = .slice ad 0 0) (hown : w.ownsRow base e size (.slice ad 0 0) 0 xs) (hx : a.eval x = .slice none 0 0)
    (h : ∀ W ad', Hid (W = w ∧ ad' = ad) → wpList P ops Q rest (a.put o.dst (.slice ad' 0 0)) W) : wpList P ops Q (o :: rest) a w :=
  wpList_append_own_none hgd s x t ho base e i size ht hi _ 0 xs hs hown hx (h w ad (Lib.hid ⟨rfl, rfl⟩))
/-- A packet with short parts. -/
def cutP (p : PK) : PK := { p with others := p.others.take 17, ext := cutB p.ext 60, data := cutB p.data 60 }
/-- What Cut answers. -/
def CutR (p : PK) (w : World) (e : Ending) (w' : World) : Prop := Below w.heap.size w w' ∧ ∃ a' c', e = .returned (.agg ((cutP p).cells a' c')) ∧ w'.ownsRow w.heap.size 25 1 (.slice a' (cutP p).others.length c') (cutP p).others.length ((cutP p).others.map (Value.int .u32))
set_option maxRecDepth 100000 in
set_option maxHeartbeats 3200000 in
theorem pcut_any (p : PK) (a : Option Addr) (c : Nat) (w : World) (hs : p.ext.size ≤ 9223372036854775807) (hd : p.data.size ≤ 9223372036854775807) (hlc : p.others.length ≤ c) (hc : c ≤ 9223372036854775807) (hr : Reads .u32 w a p.others) (hac : (a = none ∧ c = 0) ∨ ∃ b off, a = some ⟨b, off, none⟩) :
    Calls Try.prog 16 #[.agg (p.cells a c)] w (CutR p w) := by
  obtain ⟨i0, hi, hz0, hz1, hz2⟩ := info_parts info32
  have Hfin : Hid (∀ (e : Ending) (w' : World) a' c', Below w.heap.size w w' → e = .returned (.agg ((cutP p).cells a' c')) → w'.ownsRow w.heap.size 25 1 (.slice a' (cutP p).others.length c') (cutP p).others.length ((cutP p).others.map (Value.int .u32)) → CutR p w e w') := fun e w' a' c' h1 h2 h3 => ⟨h1, a', c', h2, h3⟩
  generalize hT : CutR p w = TT at Hfin ⊢
  clear hT
  obtain ⟨mrk, kind, seq, time, source, others, hx, prof, ext, data, pad⟩ := p
  simp only [PK.cells, cutP] at *
  have HCe : ∀ W : World, _ := fun W => cut_any ext 60 W hs (by omega)
  have HCd : ∀ W : World, _ := fun W => cut_any data 60 W hd (by omega)
  obtain ⟨m, hm⟩ : ∃ m : Nat, min (others.length : Int) 17 = (m : Int) := ⟨(min (others.length : Int) 17).toNat, by omega⟩
  have hml : (others.take 17).length = m := by rw [List.length_take]; omega
  have Hml := Lib.hid hml
  have hm1 : (m : Int) ≤ (others.length : Int) := by omega
  have hm2 : m ≤ 17 := by omega
  have hm3 : m ≤ c := by omega
  have hm4 : (m : Int) ≤ (c : Int) := by omega
  clear hml
  rw [Hml.out] at Hfin
  have hrt := hr.take 17
  clear hr
  generalize others.take 17 = xs at Hfin Hml hrt
  generalize cutB ext 60 = ext2 at HCe Hfin
  generalize cutB data 60 = data2 at HCd Hfin
  generalize others.length = ol at *
  have HCe' := Lib.hid HCe
  have HCd' := Lib.hid HCd
  clear HCe HCd
  have hP := PkIn.later (show PkIn (w.alloc (.cells #[.bool mrk, .int .i64 kind, .int .u16 seq, .int .u32 time, .int .u32 source, .slice a ol c, .bool hx, .int .i64 prof, .string ext, .string data, .int .i64 pad] 30)) w.heap.size (.bool mrk) (.int .i64 kind) (.int .u16 seq) (.int .u32 time) (.int .u32 source) (.slice a ol c) (.bool hx) (.int .i64 prof) (.string ext) (.string data) (.int .i64 pad) from heap_alloc_new w _) ((Below.refl _ _).alloc (Nat.le_refl _) (.cells #[.bool false, .int .i64 0, .int .u16 0, .int .u32 0, .int .u32 0, .slice none 0 0, .bool false, .int .i64 0, .string { data := #[] }, .string { data := #[] }, .int .i64 0] 30))
  have hR := inPk_new (w.alloc (.cells #[.bool mrk, .int .i64 kind, .int .u16 seq, .int .u32 time, .int .u32 source, .slice a ol c, .bool hx, .int .i64 prof, .string ext, .string data, .int .i64 pad] 30)) (w.heap.size + 1) (by simp)
  have hb0 : Below w.heap.size w ((w.alloc (.cells #[.bool mrk, .int .i64 kind, .int .u16 seq, .int .u32 time, .int .u32 source, .slice a ol c, .bool hx, .int .i64 prof, .string ext, .string data, .int .i64 pad] 30)).alloc (.cells #[.bool false, .int .i64 0, .int .u16 0, .int .u32 0, .int .u32 0, .slice none 0 0, .bool false, .int .i64 0, .string { data := #[] }, .string { data := #[] }, .int .i64 0] 30)) := by go_grown
  have hv0 := own_made ((w.alloc (.cells #[.bool mrk, .int .i64 kind, .int .u16 seq, .int .u32 time, .int .u32 source, .slice a ol c, .bool hx, .int .i64 prof, .string ext, .string data, .int .i64 pad] 30)).alloc (.cells #[.bool false, .int .i64 0, .int .u16 0, .int .u32 0, .int .u32 0, .slice none 0 0, .bool false, .int .i64 0, .string { data := #[] }, .string { data := #[] }, .int .i64 0] 30)) w.heap.size (w.heap.size + 1 + 1) hb0.size (by simp)
  have hb3 : Below w.heap.size w (((w.alloc (.cells #[.bool mrk, .int .i64 kind, .int .u16 seq, .int .u32 time, .int .u32 source, .slice a ol c, .bool hx, .int .i64 prof, .string ext, .string data, .int .i64 pad] 30)).alloc (.cells #[.bool false, .int .i64 0, .int .u16 0, .int .u32 0, .int .u32 0, .slice none 0 0, .bool false, .int .i64 0, .string { data := #[] }, .string { data := #[] }, .int .i64 0] 30)).alloc (.cells #[] 25)) := hb0.alloc hb0.size _
  have hP3 := hP.later ((Below.refl _ _).alloc (Nat.le_refl _) (.cells #[] 25))
  have hR3 := hR.later ((Below.refl _ _).alloc (Nat.le_refl _) (.cells #[] 25))
  have hrt1 := hrt.later hb3
  clear hP hR hrt hb0
  rcases hac with ⟨rfl, rfl⟩ | ⟨b, off, rfl⟩
  · obtain rfl : ol = 0 := by omega
    obtain rfl : m = 0 := by omega
    clear hm hm1 hm2 hm3 hm4
    have hm : min (0 : Int) 17 = 0 := by decide
    obtain rfl : xs = [] := List.length_eq_zero_iff.1 Hml.out
    go_enter Try.func16, Try.ntmps16
    go_wp2_with (at_builtin; refine append_none_stop rfl (.tmp 3) (.tmp 12) 26 rfl w.heap.size 25 i0 1 Try.underlying26 hi _ [] rfl hv0 rfl ?_)
    intro w4 ad4 Hw
    have hP4 : PkIn w4 w.heap.size (.bool mrk) (.int .i64 kind) (.int .u16 seq) (.int .u32 time) (.int .u32 source) (.slice none 0 0) (.bool hx) (.int .i64 prof) (.string ext) (.string data) (.int .i64 pad) := by rw [Hw.out.1]; exact hP3
    have hR4 : PkIn w4 (w.heap.size + 1) (.bool false) (.int .i64 0) (.int .u16 0) (.int .u32 0) (.int .u32 0) (.slice none 0 0) (.bool false) (.int .i64 0) (.string { data := #[] }) (.string { data := #[] }) (.int .i64 0) := by rw [Hw.out.1]; exact hR3
    have hb4 : Below w.heap.size w w4 := by rw [Hw.out.1]; exact hb3
    have hv4 : w4.ownsRow w.heap.size 25 1 (.slice ad4 0 0) 0 (([] : List Int).map (Value.int .u32)) := by rw [Hw.out.1, Hw.out.2]; exact hv0
    clear hrt1 hP3 hR3 hv0 hb3 Hw
    obtain ⟨c0, c1, c2, c3, c4, c5, c6, c7, c8, c9, c10⟩ := hP4.cells
    obtain ⟨f0, f1, f2, f3, f4, f5, f6, f7, f8, f9, f10⟩ := hP4.frees
    have hP5 : PkIn (w4.setCell ⟨w.heap.size, 5, none⟩ (.slice ad4 0 0)) w.heap.size (.bool mrk) (.int .i64 kind) (.int .u16 seq) (.int .u32 time) (.int .u32 source) (.slice ad4 0 0) (.bool hx) (.int .i64 prof) (.string ext) (.string data) (.int .i64 pad) := block_setCell hP4
    have hR5 := pk_set (i := 5) (u := .slice ad4 0 0) hR4 (show w.heap.size + 1 ≠ w.heap.size by omega)
    have hv5 : (w4.setCell ⟨w.heap.size, 5, none⟩ (.slice ad4 0 0)).ownsRow w.heap.size 25 1 (.slice ad4 0 0) 0 (([] : List Int).map (Value.int .u32)) := own_set hv4 hP4
    have hb5 := hb4.setCell (p := ⟨w.heap.size, 5, none⟩) (Nat.le_refl _) (.slice ad4 0 0)
    go_upto_region 2 with fail
    generalize w4.setCell ⟨w.heap.size, 5, none⟩ (.slice ad4 0 0) = w5 at hP5 hR5 hv5 hb5 ⊢
    clear hP4 hR4 hb4 hv4 c0 c1 c2 c3 c4 c5 c6 c7 c8 c9 c10 f0 f1 f2 f3 f4 f5 f6 f7 f8 f9 f10
    generalize hg0 : w.heap.size = g at hP5 hR5 ⊢
    obtain ⟨c0, c1, c2, c3, c4, c5, c6, c7, c8, c9, c10⟩ := hP5.cells
    obtain ⟨f0, f1, f2, f3, f4, f5, f6, f7, f8, f9, f10⟩ := hP5.frees
    have hlt5 := hP5.lt
    have Hg0 := Lib.hid hg0
    clear hg0
    go_region_law (first | (go_simp; go_at_call_of 9 (Value.string ext); refine (HCe'.out _).mono ?_; rintro e w' ⟨rfl, rfl⟩) | (go_simp; go_at_call_of 9 (Value.string data); refine (HCd'.out _).mono ?_; rintro e w' ⟨rfl, rfl⟩))
    all_goals
      have hP6 : PkIn (w5.setCell ⟨g, 8, none⟩ (.string ext2)) g (.bool mrk) (.int .i64 kind) (.int .u16 seq) (.int .u32 time) (.int .u32 source) (.slice ad4 0 0) (.bool hx) (.int .i64 prof) (.string ext2) (.string data) (.int .i64 pad) := block_setCell hP5
      have hP7 : PkIn ((w5.setCell ⟨g, 8, none⟩ (.string ext2)).setCell ⟨g, 9, none⟩ (.string data2)) g (.bool mrk) (.int .i64 kind) (.int .u16 seq) (.int .u32 time) (.int .u32 source) (.slice ad4 0 0) (.bool hx) (.int .i64 prof) (.string ext2) (.string data2) (.int .i64 pad) := block_setCell hP6
      have hR7 := pk_set (i := 9) (u := .string data2) (pk_set (i := 8) (u := .string ext2) hR5 (show g + 1 ≠ g by omega)) (show g + 1 ≠ g by omega)
      have hv7 := own_set (i := 9) (u := .string data2) (own_set (i := 8) (u := .string ext2) hv5 hP5) hP6
      have hb7 := (hb5.setCell (p := ⟨g, 8, none⟩) (Nat.le_of_eq Hg0.out) (.string ext2)).setCell (p := ⟨g, 9, none⟩) (Nat.le_of_eq Hg0.out) (.string data2)
      generalize (w5.setCell ⟨g, 8, none⟩ (.string ext2)).setCell ⟨g, 9, none⟩ (.string data2) = w7 at hP7 hR7 hv7 hb7 ⊢
      clear hP6 hP5 hR5 hv5 hb5 c0 c1 c2 c3 c4 c5 c6 c7 c8 c9 c10 f0 f1 f2 f3 f4 f5 f6 f7 f8 f9 f10 hlt5
      obtain ⟨c0, c1, c2, c3, c4, c5, c6, c7, c8, c9, c10⟩ := hP7.cells
      obtain ⟨d0, d1, d2, d3, d4, d5, d6, d7, d8, d9, d10⟩ := hR7.cells
      obtain ⟨f0, f1, f2, f3, f4, f5, f6, f7, f8, f9, f10⟩ := hR7.frees
      go_wp2
      refine bodyPost_ret (v := .agg #[.bool mrk, .int .i64 kind, .int .u16 seq, .int .u32 time, .int .u32 source, .slice ad4 0 0, .bool hx, .int .i64 prof, .string ext2, .string data2, .int .i64 pad]) (by simp [results, Try.results16, go_sem, d0, d1, d2, d3, d4, d5, d6, d7, d8, d9, d10]) rfl (Hfin.out _ _ ad4 0 ?_ rfl ?_)
      · obtain rfl := Hg0.out
        go_grown
      · refine World.ownsRow.drew ?_
        exact own_only hv7 hR7 (pk_ne _) ((((((((((((Only.refl _ _).setCell 0 _).setCell 1 _).setCell 2 _).setCell 3 _).setCell 4 _).setCell 5 _).setCell 6 _).setCell 7 _).setCell 8 _).setCell 9 _).setCell 10 _)
  · go_enter Try.func16, Try.ntmps16
    go_wp2_with (at_builtin; refine wpList_append_own _ rfl (.tmp 3) (.tmp 12) 26 rfl w.heap.size 25 i0 (.int .u32 0) 1 4 Try.underlying26 hi hz0 hz1 hz2 rfl (by decide) _ 0 [] rfl hv0 ⟨b, off, none⟩ m c (xs.map (Value.int .u32)) rfl ?d1 ?d2 ?d3 ?d4 ?d5 ?d6 ?_)
    case d1 => simp [Hml.out]
    case d2 =>
      intro j u' hj
      rcases hrt1 with h0 | ⟨b', off', hbo, hcx⟩
      · rw [h0] at hj; simp at hj
      · simp only [Option.some.injEq, Addr.mk.injEq, and_true] at hbo
        obtain ⟨rfl, rfl⟩ := hbo
        have hjl : j < xs.length := by have := (List.getElem?_eq_some_iff.1 hj).1; simpa using this
        rw [Go.WideShapes.add_plain, hcx j hjl]
        simp [hjl] at hj ⊢
        exact hj
    case d3 => intro u' hu'; simp at hu'; obtain ⟨x, _, rfl⟩ := hu'; rfl
    case d4 => unfold maxLen; omega
    case d5 => omega
    case d6 => exact hb3.size
    intro v' w4 hown4 hgrow _
    obtain ⟨ad4, c4', rfl⟩ := own_slice hown4
    have hP4 : PkIn w4 w.heap.size (.bool mrk) (.int .i64 kind) (.int .u16 seq) (.int .u32 time) (.int .u32 source) (.slice (some ⟨b, off, none⟩) ol c) (.bool hx) (.int .i64 prof) (.string ext) (.string data) (.int .i64 pad) := by unfold PkIn; rw [hgrow.block _ hP3.lt (row_ne hv0 hP3 (pk_ne _))]; exact hP3
    have hR4 : PkIn w4 (w.heap.size + 1) (.bool false) (.int .i64 0) (.int .u16 0) (.int .u32 0) (.int .u32 0) (.slice none 0 0) (.bool false) (.int .i64 0) (.string { data := #[] }) (.string { data := #[] }) (.int .i64 0) := by unfold PkIn; rw [hgrow.block _ hR3.lt (row_ne hv0 hR3 (pk_ne _))]; exact hR3
    have hb4 : Below w.heap.size w w4 := hb3.grown hgrow hb3.size (fun k' hk' => (hv0.lt k' hk').1)
    have hv4 : w4.ownsRow w.heap.size 25 1 (.slice ad4 m c4') m (xs.map (Value.int .u32)) := by
      first | exact hown4 | (have h := hown4; simp only [Nat.zero_add, List.nil_append] at h; exact h)
    try simp only [Nat.zero_add]
    clear hown4
    clear hP3 hR3 hv0 hb3 hgrow
    obtain ⟨c0, c1, c2, c3, c4, c5, c6, c7, c8, c9, c10⟩ := hP4.cells
    obtain ⟨f0, f1, f2, f3, f4, f5, f6, f7, f8, f9, f10⟩ := hP4.frees
    have hP5 : PkIn (w4.setCell ⟨w.heap.size, 5, none⟩ (.slice ad4 m c4')) w.heap.size (.bool mrk) (.int .i64 kind) (.int .u16 seq) (.int .u32 time) (.int .u32 source) (.slice ad4 m c4') (.bool hx) (.int .i64 prof) (.string ext) (.string data) (.int .i64 pad) := block_setCell hP4
    have hR5 := pk_set (i := 5) (u := .slice ad4 m c4') hR4 (show w.heap.size + 1 ≠ w.heap.size by omega)
    have hv5 : (w4.setCell ⟨w.heap.size, 5, none⟩ (.slice ad4 m c4')).ownsRow w.heap.size 25 1 (.slice ad4 m c4') m (xs.map (Value.int .u32)) := own_set hv4 hP4
    have hb5 := hb4.setCell (p := ⟨w.heap.size, 5, none⟩) (Nat.le_refl _) (.slice ad4 m c4')
    go_upto_region 2 with fail
    generalize w4.setCell ⟨w.heap.size, 5, none⟩ (.slice ad4 m c4') = w5 at hP5 hR5 hv5 hb5 ⊢
    clear hP4 hR4 hb4 hv4 c0 c1 c2 c3 c4 c5 c6 c7 c8 c9 c10 f0 f1 f2 f3 f4 f5 f6 f7 f8 f9 f10
    generalize hg0 : w.heap.size = g at hP5 hR5 ⊢
    obtain ⟨c0, c1, c2, c3, c4, c5, c6, c7, c8, c9, c10⟩ := hP5.cells
    obtain ⟨f0, f1, f2, f3, f4, f5, f6, f7, f8, f9, f10⟩ := hP5.frees
    have hlt5 := hP5.lt
    have Hg0 := Lib.hid hg0
    clear hg0
    go_region_law (first | (go_simp; go_at_call_of 9 (Value.string ext); refine (HCe'.out _).mono ?_; rintro e w' ⟨rfl, rfl⟩) | (go_simp; go_at_call_of 9 (Value.string data); refine (HCd'.out _).mono ?_; rintro e w' ⟨rfl, rfl⟩))
    all_goals
      have hP6 : PkIn (w5.setCell ⟨g, 8, none⟩ (.string ext2)) g (.bool mrk) (.int .i64 kind) (.int .u16 seq) (.int .u32 time) (.int .u32 source) (.slice ad4 m c4') (.bool hx) (.int .i64 prof) (.string ext2) (.string data) (.int .i64 pad) := block_setCell hP5
      have hP7 : PkIn ((w5.setCell ⟨g, 8, none⟩ (.string ext2)).setCell ⟨g, 9, none⟩ (.string data2)) g (.bool mrk) (.int .i64 kind) (.int .u16 seq) (.int .u32 time) (.int .u32 source) (.slice ad4 m c4') (.bool hx) (.int .i64 prof) (.string ext2) (.string data2) (.int .i64 pad) := block_setCell hP6
      have hR7 := pk_set (i := 9) (u := .string data2) (pk_set (i := 8) (u := .string ext2) hR5 (show g + 1 ≠ g by omega)) (show g + 1 ≠ g by omega)
      have hv7 := own_set (i := 9) (u := .string data2) (own_set (i := 8) (u := .string ext2) hv5 hP5) hP6
      have hb7 := (hb5.setCell (p := ⟨g, 8, none⟩) (Nat.le_of_eq Hg0.out) (.string ext2)).setCell (p := ⟨g, 9, none⟩) (Nat.le_of_eq Hg0.out) (.string data2)
      generalize (w5.setCell ⟨g, 8, none⟩ (.string ext2)).setCell ⟨g, 9, none⟩ (.string data2) = w7 at hP7 hR7 hv7 hb7 ⊢
      clear hP6 hP5 hR5 hv5 hb5 c0 c1 c2 c3 c4 c5 c6 c7 c8 c9 c10 f0 f1 f2 f3 f4 f5 f6 f7 f8 f9 f10 hlt5
      obtain ⟨c0, c1, c2, c3, c4, c5, c6, c7, c8, c9, c10⟩ := hP7.cells
      obtain ⟨d0, d1, d2, d3, d4, d5, d6, d7, d8, d9, d10⟩ := hR7.cells
      obtain ⟨f0, f1, f2, f3, f4, f5, f6, f7, f8, f9, f10⟩ := hR7.frees
      go_wp2
      refine bodyPost_ret (v := .agg #[.bool mrk, .int .i64 kind, .int .u16 seq, .int .u32 time, .int .u32 source, .slice ad4 m c4', .bool hx, .int .i64 prof, .string ext2, .string data2, .int .i64 pad]) (by simp [results, Try.results16, go_sem, d0, d1, d2, d3, d4, d5, d6, d7, d8, d9, d10]) rfl (Hfin.out _ _ ad4 c4' ?_ rfl ?_)
      · obtain rfl := Hg0.out
        go_grown
      · refine World.ownsRow.drew ?_
        exact own_only hv7 hR7 (pk_ne _) ((((((((((((Only.refl _ _).setCell 0 _).setCell 1 _).setCell 2 _).setCell 3 _).setCell 4 _).setCell 5 _).setCell 6 _).setCell 7 _).setCell 8 _).setCell 9 _).setCell 10 _)
end Go.Proofs.Ytiffocdohknopaa
