/- subflow.Advert: path, mayBe, write. -/
import Derived.Test.YtjoikidnnhjogaaMSfM
import Derived.Test.YtjoikidnnhjogaaMb
import Derived.Test.YtjoikidnnhjogaaMc
import Derived.Deep.RegionHeld3
namespace Go.Proofs.Ytjoikidnnhjogaa
open Go.RowKit
set_option linter.unusedVariables false
/-- A slice of adverts. -/
def ReadsA (w : World) (a : Option Addr) (l : List AD) : Prop :=
  l = [] ∨ ∃ b off, a = some ⟨b, off, none⟩ ∧ ∀ i, i < l.length → ∀ j v, ((l[i]?.getD zeroAD).vals)[j]? = some v → w.cell? ⟨b, off + (i * 3 + j), none⟩ = some v
theorem ReadsA.later {w w' : World} {a : Option Addr} {l : List AD} (h : ReadsA w a l) (hb : Below w.heap.size w w') : ReadsA w' a l := by
  rcases h with h | ⟨b, off, ha, hc⟩
  · exact Or.inl h
  · exact Or.inr ⟨b, off, ha, fun i hi j v hv => cell_later hb (hc i hi j v hv)⟩
theorem ReadsA.at {w : World} {a : Option Addr} {l : List AD} (h : ReadsA w a l) {i : Nat} (hi : i < l.length) :
    ∃ b off, a = some ⟨b, off, none⟩ ∧ w.cell? ⟨b, off + i * 3, none⟩ = some (.int .i64 (l[i]?.getD zeroAD).path) ∧ w.cell? ⟨b, off + i * 3 + 1, none⟩ = some (.bool (l[i]?.getD zeroAD).up) ∧ w.cell? ⟨b, off + i * 3 + 2, none⟩ = some (.int .i64 (l[i]?.getD zeroAD).rate) := by
  rcases h with h | ⟨b, off, ha, hc⟩
  · simp [h] at hi
  · exact ⟨b, off, ha, hc i hi 0 _ rfl, hc i hi 1 _ rfl, hc i hi 2 _ rfl⟩
theorem advPath_any (p : Int) (u : Bool) (r : Int) (w : World) : Calls Try.prog 151 #[.agg #[.int .i64 p, .bool u, .int .i64 r]] w fun e w' => e = .returned (.int .i64 p) ∧ Below w.heap.size w w' := by
  have hX1 := atC_new 115 w #[.int .i64 p, .bool u, .int .i64 r]
  have hb1 : Below w.heap.size w (w.alloc (.cells #[.int .i64 p, .bool u, .int .i64 r] 115)) := (Below.refl _ _).alloc (Nat.le_refl _) _
  obtain ⟨x0, x1, x2⟩ := hX1.cells3
  go_enter Try.func151, Try.ntmps151
  go_wp2
  go_ret
  exact ⟨rfl, hb1⟩
theorem advMay_any (p : Int) (u : Bool) (r : Int) (w : World) (b : Bool) (hb : b = true ↔ 0 ≤ r ∧ r ≤ 65535) : Calls Try.prog 150 #[.agg #[.int .i64 p, .bool u, .int .i64 r]] w fun e w' => e = .returned (.bool b) ∧ Below w.heap.size w w' := by
  have hX1 := atC_new 115 w #[.int .i64 p, .bool u, .int .i64 r]
  have hb1 : Below w.heap.size w (w.alloc (.cells #[.int .i64 p, .bool u, .int .i64 r] 115)) := (Below.refl _ _).alloc (Nat.le_refl _) _
  obtain ⟨x0, x1, x2⟩ := hX1.cells3
  by_cases h0 : 0 ≤ r
  · by_cases h1 : r ≤ 65535
    · obtain rfl : b = true := hb.2 ⟨h0, h1⟩
      clear hb
      go_enter Try.func150, Try.ntmps150
      go_wp2
      go_ret
      exact ⟨rfl, hb1⟩
    · obtain rfl : b = false := by cases b with | false => rfl | true => exact absurd (hb.1 rfl).2 h1
      clear hb
      go_enter Try.func150, Try.ntmps150
      go_wp2
      go_ret
      exact ⟨rfl, hb1⟩
  · obtain rfl : b = false := by cases b with | false => rfl | true => exact absurd (hb.1 rfl).1 h0
    clear hb
    go_enter Try.func150, Try.ntmps150
    go_wp2
    go_ret
    exact ⟨rfl, hb1⟩
theorem adv_S {W : World} {g : Nat} {c0 c1 c2 : Value} (h : AtC 115 W g #[c0, c1, c2]) : W.cell? ⟨g, 0, none⟩ = some c0 ∧ W.cell? ⟨g, 1, none⟩ = some c1 ∧ W.cell? ⟨g, 2, none⟩ = some c2 ∧ AtC 115 W g #[c0, c1, c2] := by
  obtain ⟨a0, a1, a2⟩ := h.cells3
  exact ⟨a0, a1, a2, h⟩
theorem adL_bes (L : List UInt8) (p : Int) (u : Bool) (r : Int) : L ++ bes [p, upN u] 1 ++ bes [r] 2 = L ++ adL ⟨p, u, r⟩ := by
  unfold adL
  simp [bes]
set_option maxRecDepth 100000 in
set_option maxHeartbeats 3200000 in
theorem advWrite_any (p : Int) (u : Bool) (r : Int) (B b : Nat) (v : Value) (L : List UInt8) (w : World) (hO : OutAt w B b v L) (hL : L.length ≤ 1000000) :
    Calls Try.prog 64 #[.agg #[.int .i64 p, .bool u, .int .i64 r], .pointer (some ⟨b, 0, none⟩)] w (WroteH B b (L ++ adL ⟨p, u, r⟩) w) := by
  have HL := Lib.hid (adL_bes L p u r)
  have hbB := hO.2.1
  have hlt := hO.lt
  have hX3 := atC_new 115 w #[.int .i64 p, .bool u, .int .i64 r]
  have hO3 := hO.alloc (.cells #[.int .i64 p, .bool u, .int .i64 r] 115)
  have hb3 : Below B w (w.alloc (.cells #[.int .i64 p, .bool u, .int .i64 r] 115)) := (Below.refl _ _).alloc (by omega) _
  have hq3 : Others b w (w.alloc (.cells #[.int .i64 p, .bool u, .int .i64 r] 115)) := (Others.refl _ _).alloc _
  have hgb : w.heap.size ≠ b := by omega
  go_enter Try.func64, Try.ntmps64
  go_upto_region 1 with fail
  generalize w.alloc (.cells #[.int .i64 p, .bool u, .int .i64 r] 115) = w3 at hX3 hO3 hb3 hq3 ⊢
  generalize w.heap.size = g at hX3 hgb ⊢
  clear hO hlt
  have hg3 := hX3.lt
  have q3 := hO3.lt
  have hq3 := Lib.hid hq3
  obtain ⟨c0, c1, c2⟩ := hX3.cells3
  go_upto_if 6 with fail
  go_cut [4] (fun z wx => wx = w3 ∧ z = .int .i64 (upN u))
  case first =>
    cases u
    · go_wp2_with fail
      go_meet
      exact ⟨rfl, rfl⟩
    · go_wp2_with fail
      go_meet
      exact ⟨rfl, rfl⟩
  case rest =>
  obtain ⟨rfl, rfl⟩ := hcut
  rename World => w3
  generalize upN u = un at HL ⊢
  go_upto_region 4 with fail
  go_region_held3 (fun W => W.cell? ⟨g, 0, none⟩ = some (.int .i64 p) ∧ W.cell? ⟨g, 1, none⟩ = some (.bool u) ∧ W.cell? ⟨g, 2, none⟩ = some (.int .i64 r) ∧ AtC 115 W g #[.int .i64 p, .bool u, .int .i64 r]) (first | (go_keep; done) | exact adv_S (AtC.drew (by go_split_ands; assumption)) | exact adv_S (AtC.alloc (by go_split_ands; assumption) _) | exact adv_S (AtC.oth (by go_split_ands; assumption) (by decide) (by assumption) hgb) | (go_split_ands; assumption)) (first | (go_at_call 66; refine (u8_g B b v L [p, un] #[.int .i64 p, .int .i64 un] 2 _ w3 _ hO3 ?x1 ?x2 ?x3 rfl rfl ?x4 ?x5).mono ?_; (case x1 => go_grown); (case x2 => (repeat (first | with_reducible refine heap_at_drew ?_ | with_reducible exact heap_at_new _ _ _ (by first | rfl | (simp; done)) | with_reducible refine heap_at_old _ _ _ _ ?_))); (case x3 => first | omega | (simp; done) | (simp; omega)); (case x4 => simp; omega); (case x5 => simp; done); rintro e w5 ⟨rfl, v5, hO5, h5, ho5⟩; have q5 := hO5.lt; have hb5 : Below B w w5 := Below.trans (by repeat (first | with_reducible exact hb3 | with_reducible refine Below.drew ?_ | with_reducible refine Below.alloc ?_ (by first | omega | (simp; omega)) _)) h5; have hq5 : Hid (Others b w w5) := Lib.hid (Others.trans (by repeat (first | with_reducible exact hq3.out | with_reducible refine Others.drew ?_ | with_reducible refine Others.alloc ?_ _)) ho5)) | (go_at_call 92; refine (u16_g B b v5 (L ++ bes [p, un] 1) [r] #[.int .i64 r] 1 _ w5 _ hO5 ?x1 ?x2 ?x3 rfl rfl ?x4 ?x5).mono ?_; (case x1 => go_grown); (case x2 => (repeat (first | with_reducible refine heap_at_drew ?_ | with_reducible exact heap_at_new _ _ _ (by first | rfl | (simp; done)) | with_reducible refine heap_at_old _ _ _ _ ?_ | (refine ho5 _ _ ?_ (by first | omega | (simp; omega)) (by intro cur p e; cases e))))); (case x3 => first | omega | (simp; done) | (simp; omega)); (case x4 => simp [bes_len]; omega); (case x5 => simp; done); rintro e w6 ⟨rfl, v6, hO6, h6, ho6⟩; have q6 := hO6.lt; have hb6 : Below B w w6 := Below.trans (by repeat (first | with_reducible exact hb5 | with_reducible refine Below.drew ?_ | with_reducible refine Below.alloc ?_ (by first | omega | (simp; omega)) _)) h6; have hq6 : Hid (Others b w w6) := Lib.hid (Others.trans (by repeat (first | with_reducible exact hq5.out | with_reducible refine Others.drew ?_ | with_reducible refine Others.alloc ?_ _)) ho6)))
  all_goals
    rw [HL.out] at hO6
    go_wp2
    go_end0
    exact ⟨rfl, v6, hO6, hb6, hq6.out⟩
end Go.Proofs.Ytjoikidnnhjogaa

