/- A packet that came in, opened. -/
import Derived.Test.YtilobmebfeenfaaRtpW
import Derived.Test.YtilobmebfeenfaaRow
import Derived.WalkKit
import Derived.ProofKit
import Derived.OpenShut
import Derived.ShutString
import Derived.ChangeOld
import Derived.Below
import Derived.SliceStrings
import Derived.Lib.SmallJoins
import Derived.Deep.Strs
namespace Go.Proofs.Ytilobmebfeenfaa
open Go.ChangeShapes Go.WideShapes Go.ChangeAt Go.RowKit Go.Joins
open Go.ChangeMaps (open_string shut_string)
set_option linter.unusedVariables false
theorem cellsPk : Try.prog.cellsOf 30 = 11 := by kernel_rfl
theorem cellsHd : Try.prog.cellsOf 28 = 9 := by kernel_rfl
theorem cellsStr : Try.prog.cellsOf 9 = 1 := by kernel_rfl
theorem cellsInt : Try.prog.cellsOf 3 = 1 := by kernel_rfl
theorem typesPk : Try.prog.cellTypes Try.prog.depth 30 = some [4, 3, 24, 25, 25, 26, 4, 3, 9, 9, 3] := by kernel_rfl
theorem u32_bd {a : Int} (h : (Lit.int .u32 a).wf = true) : 0 ≤ a ∧ a ≤ 4294967295 := by
  simp [Lit.wf, IntKind.min, IntKind.max, IntKind.bits, IntKind.signed] at h; omega
theorem some_of_lt {α : Type} {l : List α} {i : Nat} (h : i < l.length) : ∃ y, l[i]? = some y := ⟨_, List.getElem?_eq_getElem h⟩
set_option maxRecDepth 100000 in
set_option maxHeartbeats 3200000 in
theorem pk_open {H : Type} {enc : TypeId × Value → H} {w : World} {base : Nat} {held : Bool} {v : Value} {d : DataW H} {pl : List MemPlace}
    (hv : Value.okWide Try.prog w .any 0 30 v) (h : DataW.Trod enc Try.prog w base (fun _ => true) held 30 v d pl) :
    ∃ (q : PK) (a : Option Addr) (c : Nat), v = .agg (q.cells a c) ∧ q.ok ∧ q.ext.size ≤ maxLen ∧ q.data.size ≤ maxLen ∧ q.others.length ≤ c ∧ c ≤ 9223372036854775807 ∧ Reads .u32 w a q.others ∧ ((a = none ∧ c = 0) ∨ ∃ b off, a = some ⟨b, off, none⟩) := by
  simp only [Value.okWide, Try.underlying30] at hv
  obtain ⟨⟨l⟩, rfl, hsz, ts, hts, _, hrow⟩ := hv
  rw [cellsPk] at hsz
  rw [typesPk] at hts
  cases hts
  obtain ⟨fuel, hf⟩ := h
  obtain ⟨y0, y1, y2, n, _, _, h0, h1, h2⟩ := Go.Deep.trod_struct3 Try.underlying30 hf
  clear hf
  match l, hsz, hrow with
  | [c0, c1, c2, c3, c4, c5, c6, c7, c8, c9, c10], _, hrow =>
    obtain ⟨u5, hu5, hok5⟩ := hrow 5 c5 rfl
    cases hu5
    obtain ⟨xs, m, _, _, _, hl, hx⟩ := DataW.trod_struct Try.underlying28 h0
    have g := fun i (hi : i < xs.length) => some_of_lt hi
    simp only [List.size_toArray, List.length_cons, List.length_nil] at hl
    obtain ⟨z0, e0⟩ := g 0 (by omega)
    obtain ⟨z1, e1⟩ := g 1 (by omega)
    obtain ⟨z2, e2⟩ := g 2 (by omega)
    obtain ⟨z3, e3⟩ := g 3 (by omega)
    obtain ⟨z4, e4⟩ := g 4 (by omega)
    obtain ⟨z5, e5⟩ := g 5 (by omega)
    obtain ⟨z6, e6⟩ := g 6 (by omega)
    obtain ⟨z7, e7⟩ := g 7 (by omega)
    obtain ⟨z8, e8⟩ := g 8 (by omega)
    have k0 := (hx 0 _ rfl).trans e0
    have k1 := (hx 1 _ rfl).trans e1
    have k2 := (hx 2 _ rfl).trans e2
    have k3 := (hx 3 _ rfl).trans e3
    have k4 := (hx 4 _ rfl).trans e4
    have k5 := (hx 5 _ rfl).trans e5
    have k6 := (hx 6 _ rfl).trans e6
    have k7 := (hx 7 _ rfl).trans e7
    have k8 := (hx 8 _ rfl).trans e8
    simp only [Value.cells, cellsHd, cellsStr, cellsInt, List.drop_succ_cons, List.drop_zero, List.take_succ_cons, List.take_zero] at k0 k1 k2 k3 k4 k5 k6 k7 k8 h1 h2
    obtain ⟨b0, e, _⟩ := DataW.trod_bool Try.underlying4 k0
    cases e
    obtain ⟨n1, e, _, w1⟩ := DataW.trod_int Try.underlying3 k1
    cases e
    obtain ⟨n2, e, _, w2⟩ := DataW.trod_int Try.underlying24 k2
    cases e
    obtain ⟨n3, e, _, w3⟩ := DataW.trod_int Try.underlying25 k3
    cases e
    obtain ⟨n4, e, _, w4⟩ := DataW.trod_int Try.underlying25 k4
    cases e
    obtain ⟨b6, e, _⟩ := DataW.trod_bool Try.underlying4 k6
    cases e
    obtain ⟨n7, e, _, w7⟩ := DataW.trod_int Try.underlying3 k7
    cases e
    obtain ⟨s8, e, _, w8⟩ := DataW.trod_string Try.underlying9 k8
    cases e
    obtain ⟨s9, e, _, w9⟩ := DataW.trod_string Try.underlying9 h1
    cases e
    obtain ⟨n10, e, _, w10⟩ := DataW.trod_int Try.underlying3 h2
    cases e
    have i2 := u16_bd w2
    have i3 := u32_bd w3
    have i4 := u32_bd w4
    rcases open_ints Try.underlying26 Try.underlying25 (by kernel_rfl) k5 with ⟨hcs, _⟩ | ⟨x, ln, c, zs, hcs, hb, hl, hm, hz, _, hcell, hwz⟩
    · cases hcs
      exact ⟨⟨b0, n1, n2, n3, n4, [], b6, n7, s8, s9, n10⟩, none, 0, rfl, ⟨i2, i3, i4, by simp⟩, w8, w9, Nat.le_refl _, by omega, .inl rfl, .inl ⟨rfl, rfl⟩⟩
    · cases hcs
      have hr := IsRow.reads (k := .u32) (w := w) (a := some x) (len := ln) (cap := c) (zs := zs) (.inr ⟨x, rfl, hl, hm, by simpa using hz, hcell, hwz⟩)
      obtain ⟨es, he1, he2, he3, he4, he5⟩ := hr
      have hsp : x.spot = none := by
        simp only [Cell.okWide, Try.underlying26, Cell.ok] at hok5
        exact hok5.2.2.2.1
      subst he1
      obtain ⟨xb, xo, xs'⟩ := x
      cases hsp
      exact ⟨⟨b0, n1, n2, n3, n4, es, b6, n7, s8, s9, n10⟩, some ⟨xb, xo, none⟩, c, rfl, ⟨i2, i3, i4, fun y hy => u32_bd (he5 y hy)⟩, w8, w9, he2, he3, he4, .inr ⟨xb, xo, rfl⟩⟩
end Go.Proofs.Ytilobmebfeenfaa
